/- Alternatives: a step of the reader. -/
import Derived.Test.YthipgidddgdojaaDoorPS
import Derived.Deep.LoopGhost
namespace Go.Proofs.YthipgidddgdojaaDoor
open Go.RowKit
open Go.Proofs.YthipgidddgdojaaDoor.Cl (info_three)
variable {n₀ rb tb cap d : Nat} {s : List UInt8} {w w' : World} {σ σ1 : St} {fc fa : Int} {bv v : Value}

theorem RowR.form2 {a : World} {base : Nat} {L : List (Nd × Value × Value)} (h : RowR n₀ rb a w base v L) : ∃ A n c, v = .slice A n c ∧ n = L.length := by
  obtain ⟨A, c, hv⟩ := h.form
  exact ⟨A, _, c, hv, rfl⟩
theorem join_moreA {l : List Nd} (h : 2 ≤ l.length) : joinA l = .mk 3 0 0 0 0 [] l := by
  match l, h with
  | a :: b :: r, _ => rfl
/-- What a round of the loop over rows keeps. -/
def ARel (n₀ rb tb cap : Nat) (s : List UInt8) (d : Nat) (fc fa : Int) (w : World) (N : Nat) (r : R) (g : Nat) (v : Value) (wr : World) : Prop :=
  ∃ (m : Nat) (L : List (Nd × Value × Value)) (σ' : St) (bv : Value), σ'.t.length ≤ g ∧ 4 * σ'.t.length + 2 ≤ m ∧ m ≤ N ∧ L.length + σ'.t.length ≤ s.length ∧ run m 0 d (L.map (·.1)) σ' = r ∧
    RowR n₀ rb (w.alloc (.cells zeros 27)) wr (w.heap.size + 1) v L ∧ Rd n₀ rb tb cap s wr σ' d fc fa bv ∧ Fr n₀ rb w wr ∧ Blk wr w.heap.size 27 zeros

set_option maxRecDepth 100000 in
set_option maxHeartbeats 16000000 in
theorem alts_step (N : Nat) (hQ : ∀ m, m < N → RowC n₀ rb tb cap s fc fa m) : AltC n₀ rb tb cap s fc fa N := by
  intro d σ w bv hN hR
  have hrl := hR.blk.lt
  have hl := hR.len
  have ht := hR.tl
  have HR := Lib.hid hR
  have HQ := Lib.hid hQ
  obtain ⟨r, hr⟩ : ∃ r, r = run N 0 d [] σ := ⟨_, rfl⟩
  have H0 : Hid (ARel n₀ rb tb cap s d fc fa w N r s.length (.slice none 0 0) (w.alloc (.cells zeros 27))) :=
    Lib.hid ⟨N, [], σ, bv, by omega, hN, Nat.le_refl _, by simp; omega, hr.symm, RowR.nil _ _ _ _ _ (by simp), hR.alloc _, (Fr.refl w).alloc _, Blk.new w 27 zeros⟩
  rw [← hr]
  obtain ⟨i0, hi, hz0, hz1, hz2⟩ := info_three info27
  clear hQ hR hr hN ht
  go_enter Tryd.func20, Tryd.ntmps20
  go_wp2
  go_loopg [4] s.length (fun g v wr => ARel n₀ rb tb cap s d fc fa w N r g v wr)
  case atStart => exact H0.out
  case round =>
    clear H0
    obtain ⟨m, L, σ', bv', hg, hm, hmN, hL, hrun, hrow, hRr, hFr, hBr⟩ := hrel
    obtain ⟨m, rfl⟩ : ∃ m', m = m' + 1 := ⟨m - 1, by omega⟩
    rw [run_alts] at hrun
    obtain ⟨A4, c4, rfl⟩ := hrow.form
    have hwr := hBr.lt
    have HR1 := Lib.hid hRr
    have HRow1 := Lib.hid hrow
    have HB1 := Lib.hid hBr
    have hrw : rb < wr.heap.size := hRr.blk.lt
    have hpos := hRr.pos
    have ht := hRr.tl
    have hL256 : L.length ≤ 256 := by omega
    have HQm := Lib.hid (fun W (hW : Rd n₀ rb tb cap s W σ' d fc fa bv') => HQ.out m (by omega) d σ' W bv' (by omega) hW)
    have hql := fun a σ1 (h : run m 1 d [] σ' = .ok (a, σ1)) => ((run_len m).2.1 d [] σ' a σ1 h).1
    obtain ⟨rq, hrq⟩ : ∃ rq, rq = run m 1 d [] σ' := ⟨_, rfl⟩
    rw [← hrq] at HQm hql hrun
    have HMR := Lib.hid hrun
    have HQL := Lib.hid hql
    have hF := hFr
    clear hrun hrow hRr hBr HQ hrq hql hFr
    go_wp2_with fail
    refine (HQm.out _ HR1.out).mono ?_
    rintro e w2 hP2
    cases rq with
    | error f =>
      obtain ⟨rfl, hB, hF2⟩ := hP2
      unfold zeros
      have hpc := HMR.out
      simp only at hpc
      have HPC := Lib.hid hpc
      have hB2 := (hF2.blk HR1.out HB1.out (by decide) (by decide)).alloc (.cells zeros 27)
      have hz := hB2.zero
      have hfz := hB2.frozen
      unfold zeros at hz hfz
      clear hpc
      go_wp2
      exact ret_node rfl rfl rfl rfl (st7_blk hB2) (by
        rw [← HPC.out]
        exact ⟨rfl, (hB.alloc _).st7 (by omega), ((hF.trans hF2).alloc _).st7 (Nat.le_refl _)⟩)
    | ok y =>
      obtain ⟨a, σa⟩ := y
      obtain ⟨sv, kv, bv2, rfl, hNd, hR2, hF2⟩ := hP2
      obtain ⟨A1, A2, p1, p2, rfl, rfl⟩ := hNd.lens
      have hll := HQL.out a σa rfl
      have hpc := HMR.out
      simp only at hpc hR2 hNd
      obtain ⟨nk, hnk⟩ : ∃ nk : Array Value, nk = #[.int .i64 a.kind, .int .i64 a.lo, .int .i64 a.hi, .int .i64 a.mode, .int .i64 a.ref, .slice A1 a.set.length p1, .slice A2 a.kids.length p2] := ⟨_, rfl⟩
      have HB2 := Lib.hid (((hF2.blk HR1.out HB1.out (by decide) (by decide)).alloc (.cells nk 27)).alloc (.cells nk 27))
      have HB8 := Lib.hid (Blk.new (w2.alloc (.cells nk 27)) 27 nk)
      have HR2 := Lib.hid ((hR2.alloc (.cells nk 27)).alloc (.cells nk 27))
      have hFF := hF2.trans (((Fr.refl w2).alloc (.cells nk 27)).alloc (.cells nk 27))
      have HRow2 := Lib.hid (HRow1.out.fr HR1.out hFF)
      have HN2 := Lib.hid (hNd.fr (((Fr.refl w2).alloc (.cells nk 27)).alloc (.cells nk 27)))
      replace hF := hF.trans hFF
      have hgv : Hid (∀ g, (Value.slice A4 L.length c4).ownBlock = some g → g < wr.heap.size) := Lib.hid (fun g hg => (HRow1.out.own.lt g hg).2)
      have hsz2 : w.heap.size + 1 ≤ ((w2.alloc (.cells nk 27)).alloc (.cells nk 27)).heap.size := by have := HB2.out.lt; omega
      have hRow2o := HRow2.out.own
      have HO := Lib.hid hRow2o
      have HPC := Lib.hid hpc
      subst hnk
      clear hNd hR2 hF2 hFF hpc HRow1 hRow2o
      simp only [ndVal]
      have hb4 : 124 = at_ σa.t 0 ∨ 124 ≠ at_ σa.t 0 := by omega
      have HRow4 := Lib.hid (fun v' w4 hown' hgrow hown2 => (HRow2.out.push (v' := v') (w' := w4) HN2.out (by simp; omega) hgv.out hown' hgrow hown2).form2)
      have HRow5 := Lib.hid (fun v' w4 hown' hgrow hown2 => HRow2.out.push (v' := v') (w' := w4) HN2.out (by simp; omega) hgv.out hown' hgrow hown2)
      go_upto_region 6 with (at_builtin; refine wpList_append_node _ rfl _ _ rfl (w.heap.size + 1) i0 hi hz0 hz1 hz2 _ L rfl HO.out (w2.heap.size + 1) a A1 A2 a.set.length p1 a.kids.length p2 rfl (by have := HB8.out; simpa using this) (by omega) hsz2 ?_; intro v' w4 hown' hgrow hown2; obtain ⟨A5, n5, c5, rfl, hn5⟩ := HRow4.out v' w4 hown' hgrow hown2; have HN5 := Lib.hid hn5; have HRow6 := Lib.hid (HRow5.out _ w4 hown' hgrow hown2); have HG := Lib.hid hgrow; clear hn5 hown' hgrow hown2)
      have HR4 := Lib.hid (HR2.out.grown HO.out (by decide) (by decide) (by decide) (by have := HR.out.size; omega) HG.out)
      have HB4 : Hid (Blk w4 w.heap.size 27 zeros) := Lib.hid (HB2.out.grown HG.out (fun e => by have := (HO.out.lt _ e.symm).1; omega))
      replace hF := hF.grown HG.out (fun k hk => by have := (HO.out.lt k hk).1; omega)
      clear HRow4 HRow5 HG HO HB2 HB8 HR2 HRow2 HN2 hgv hsz2
      obtain ⟨L', hL'⟩ : ∃ L', L' = L ++ [(a, Value.slice A1 a.set.length p1, Value.slice A2 a.kids.length p2)] := ⟨_, rfl⟩
      have hmap : Hid (L'.map (·.1) = L.map (·.1) ++ [a]) := Lib.hid (by rw [hL', List.map_append]; rfl)
      have hlen' : L'.length = L.length + 1 := by rw [hL', List.length_append]; rfl
      rw [← hL'] at HRow6 HN5
      clear hL'
      rw [← hmap.out] at HPC
      by_cases h124 : at_ σa.t 0 = 124
      · have HT := Lib.hid (take1_yes 124 (by decide) (by simpa using h124) HR4.out)
        have hla := len_ne (at_ne (t := σa.t) (by omega))
        have HPC2 : Hid (run m 0 d (L'.map (·.1)) (σa.adv 1) = r) := Lib.hid (by have := HPC.out; rwa [if_pos h124] at this)
        clear HPC h124 hb4
        go_wp2_with fail
        refine HT.out.mono ?_
        rintro e w5 ⟨rfl, hR5, hF5⟩
        have HR5 := Lib.hid hR5
        have HB5 := Lib.hid (hF5.blk HR4.out HB4.out (by decide) (by decide))
        have HRow7 := Lib.hid (HRow6.out.fr HR4.out hF5)
        replace hF := hF.trans hF5
        clear hR5 hF5
        go_wp2
        go_roundg (σa.adv 1).t.length
        case measure => rw [adv_len]; omega
        case rel => exact ⟨m, L', σa.adv 1, bv2, Nat.le_refl _, by rw [adv_len]; omega, by omega, by rw [adv_len]; omega, HPC2.out, HRow7.out, HR5.out, hF, HB5.out⟩
      · have HT := Lib.hid (take1_no 124 (by decide) (by simpa using h124) HR4.out)
        have HPC2 : Hid (.ok (joinA (L'.map (·.1)), σa) = r) := Lib.hid (by have := HPC.out; rwa [if_neg h124] at this)
        clear HPC h124 hb4
        go_wp2_with fail
        refine HT.out.mono ?_
        rintro e w5 ⟨rfl, hb5⟩
        have HR5 := Lib.hid (HR4.out.on hb5)
        have HB5 := Lib.hid (HB4.out.on hb5)
        have HRow7 := Lib.hid (HRow6.out.fr HR4.out (Fr.of_below hb5))
        replace hF := hF.trans (Fr.of_below hb5)
        have hz := HB5.out.zero
        have hfz := HB5.out.frozen
        clear hb5
        by_cases l1 : n5 = 1
        · subst l1
          obtain ⟨x, rfl⟩ := List.length_eq_one_iff.1 HN5.out.symm
          obtain ⟨g9, c9, hv9, hN9, hc9⟩ := HRow7.out.first
          obtain ⟨nd, sv, kv⟩ := x
          obtain ⟨B1, B2, q1, q2, hsv, hkv⟩ := hN9.lens
          simp only at hsv hkv hN9 hc9
          subst hsv hkv
          have k0 := hc9 0 _ rfl
          have k1 := hc9 1 _ rfl
          have k2 := hc9 2 _ rfl
          have k3 := hc9 3 _ rfl
          have k4 := hc9 4 _ rfl
          have k5 := hc9 5 _ rfl
          have k6 := hc9 6 _ rfl
          injection hv9 with hA9 hl9 hp9
          subst hA9 hp9
          have HN9 := Lib.hid hN9
          clear hc9 hl9 hN9 hlen'
          go_wp2
          exact ret_node rfl rfl rfl rfl (st7_blk HB5.out) (by
            rw [← HPC2.out]
            exact ⟨_, _, _, rfl, (HN9.out.st7 HB5.out (by simp)).low (by simp), HR5.out.st7 HB5.out HR.out.size, hF.st7 (Nat.le_refl _)⟩)
        · have e1 : ((n5 : Int) == 1) = false := by simp; omega
          have h2l : 2 ≤ L'.length := by have := HN5.out; omega
          have hne : L' ≠ [] := by rintro rfl; simp at h2l
          have HNn := Lib.hid (HRow7.out.node HR5.out 3 hne (by omega))
          have hj : Hid (joinA (L'.map (·.1)) = .mk 3 0 0 0 0 [] (L'.map (·.1))) := Lib.hid (join_moreA (by rw [List.length_map]; exact h2l))
          clear hne l1
          go_wp2
          exact ret_node rfl rfl rfl rfl (st7_blk HB5.out) (by
            rw [← HPC2.out, hj.out]
            exact ⟨_, _, _, rfl, (HNn.out.st7 HB5.out (by simp)).low (by simp), HR5.out.st7 HB5.out HR.out.size, hF.st7 (Nat.le_refl _)⟩)

end Go.Proofs.YthipgidddgdojaaDoor
