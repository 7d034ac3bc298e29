/- A row: a step of the reader. -/
import Derived.Test.YthipgidddgdojaaDoorPR
import Derived.Deep.LoopGhost
namespace Go.Proofs.YthipgidddgdojaaDoor
open Go.RowKit
open Go.Proofs.YthipgidddgdojaaDoor.Cl (info_three)
variable {n₀ rb tb cap d : Nat} {s : List UInt8} {w w' : World} {σ σ1 : St} {fc fa : Int} {bv v : Value}

theorem join_moreR {l : List Nd} (h : 2 ≤ l.length) : joinR l = .mk 2 0 0 0 0 [] l := by
  match l, h with
  | a :: b :: r, _ => rfl
def RowC (n₀ rb tb cap : Nat) (s : List UInt8) (fc fa : Int) (N : Nat) : Prop :=
  ∀ (d : Nat) (σ : St) (w : World) (bv : Value), 4 * σ.t.length + 1 ≤ N → Rd n₀ rb tb cap s w σ d fc fa bv → Calls Tryd.prog 25 #[.pointer (some ⟨rb, 0, none⟩)] w (NPost n₀ rb tb cap s d fc fa w (run N 1 d [] σ))
/-- What a round of the row's loop keeps. -/
def RRel (n₀ rb tb cap : Nat) (s : List UInt8) (d : Nat) (fc fa : Int) (w : World) (N : Nat) (r : R) (g : Nat) (v : Value) (wr : World) : Prop :=
  ∃ (m : Nat) (L : List (Nd × Value × Value)) (σ' : St) (bv : Value), σ'.t.length ≤ g ∧ 4 * σ'.t.length + 1 ≤ m ∧ m ≤ N ∧ L.length + σ'.t.length ≤ s.length ∧ run m 1 d (L.map (·.1)) σ' = r ∧
    RowR n₀ rb (w.alloc (.cells zeros 27)) wr (w.heap.size + 1) v L ∧ Rd n₀ rb tb cap s wr σ' d fc fa bv ∧ Fr n₀ rb w wr ∧ Blk wr w.heap.size 27 zeros

set_option maxRecDepth 100000 in
set_option maxHeartbeats 16000000 in
theorem row_step (N : Nat) (hQ : ∀ m, m < N → QuaC n₀ rb tb cap s fc fa m) : RowC n₀ rb tb cap s fc fa N := by
  intro d σ w bv hN hR
  have hrl := hR.blk.lt
  have hl := hR.len
  have ht := hR.tl
  have HR := Lib.hid hR
  have HQ := Lib.hid hQ
  obtain ⟨r, hr⟩ : ∃ r, r = run N 1 d [] σ := ⟨_, rfl⟩
  have H0 : Hid (RRel n₀ rb tb cap s d fc fa w N r s.length (.slice none 0 0) (w.alloc (.cells zeros 27))) :=
    Lib.hid ⟨N, [], σ, bv, by omega, hN, Nat.le_refl _, by simp; omega, hr.symm, RowR.nil _ _ _ _ _ (by simp), hR.alloc _, (Fr.refl w).alloc _, Blk.new w 27 zeros⟩
  rw [← hr]
  obtain ⟨i0, hi, hz0, hz1, hz2⟩ := info_three info27
  clear hQ hR hr hN ht
  go_enter Tryd.func25, Tryd.ntmps25
  go_wp2
  try go_step3
  try go_wp2
  try go_step3
  try go_wp2
  go_loopg [4] s.length (fun g v wr => RRel n₀ rb tb cap s d fc fa w N r g v wr)
  case atStart => exact H0.out
  case round =>
    clear H0
    obtain ⟨m, L, σ', bv', hg, hm, hmN, hL, hrun, hrow, hRr, hFr, hBr⟩ := hrel
    obtain ⟨m, rfl⟩ : ∃ m', m = m' + 1 := ⟨m - 1, by omega⟩
    rw [run_row] at hrun
    obtain ⟨A4, c4, rfl⟩ := hrow.form
    have hwr := hBr.lt
    have HRr := Lib.hid hRr
    have HRow := Lib.hid hrow
    have HBk := Lib.hid hBr
    have HE := Lib.hid (ended_any hRr)
    have hrw : rb < wr.heap.size := hRr.blk.lt
    have hpos := hRr.pos
    have ht := hRr.tl
    have hL256 : L.length ≤ 256 := by omega
    cases hen : σ'.t.isEmpty with
    | true =>
      rw [hen] at HE
      have HPC : Hid (.ok (joinR (L.map (·.1)), σ') = r) := Lib.hid (by rw [← hrun, hen]; rfl)
      clear hrun hrow hRr hBr hen HQ
      go_wp2_with fail
      refine HE.out.mono ?_
      rintro e w1 ⟨rfl, hb1⟩
      have HR1 := Lib.hid (HRr.out.on hb1)
      have HB1 := Lib.hid (HBk.out.on hb1)
      have HRow1 := Lib.hid (HRow.out.fr HRr.out (Fr.of_below hb1))
      have hF := hFr.trans (Fr.of_below hb1)
      clear hFr hb1 HRow HRr HBk
      by_cases l0 : L.length = 0
      · obtain rfl : L = [] := List.eq_nil_of_length_eq_zero l0
        have hz := HB1.out.zero
        have hfz := HB1.out.frozen
        clear l0
        go_wp2
        exact ret_node rfl rfl rfl rfl (st7_blk HB1.out) (by
          rw [← HPC.out]
          exact ⟨_, _, _, rfl, NodeV.leaf (SetK.nil _ _) (by simp), HR1.out.st7 HB1.out HR.out.size, hF.st7 (Nat.le_refl _)⟩)
      · have e0 : ((L.length : Int) == 0) = false := by simpa using l0
        by_cases l1 : L.length = 1
        · obtain ⟨x, rfl⟩ := List.length_eq_one_iff.1 l1
          obtain ⟨g9, c9, hv9, hN9, hc9⟩ := HRow1.out.first
          obtain ⟨nd, sv, kv⟩ := x
          obtain ⟨A1, A2, p1, p2, hsv, hkv⟩ := hN9.lens
          simp only at hsv hkv hN9 hc9
          subst hsv hkv
          have q0 := hc9 0 _ rfl
          have q1 := hc9 1 _ rfl
          have q2 := hc9 2 _ rfl
          have q3 := hc9 3 _ rfl
          have q4 := hc9 4 _ rfl
          have q5 := hc9 5 _ rfl
          have q6 := hc9 6 _ rfl
          injection hv9 with hA9 hl9 hp9
          subst hA9 hp9
          have HN9 := Lib.hid hN9
          clear hc9 hl9 l1 hN9
          have hz := HB1.out.zero
          have hfz := HB1.out.frozen
          go_wp2
          exact ret_node rfl rfl rfl rfl (st7_blk HB1.out) (by
            rw [← HPC.out]
            exact ⟨_, _, _, rfl, (HN9.out.st7 HB1.out (by simp)).low (by simp), HR1.out.st7 HB1.out HR.out.size, hF.st7 (Nat.le_refl _)⟩)
        · have h2l : 2 ≤ L.length := by
            rcases Nat.lt_or_ge L.length 2 with h | h
            · exact absurd (show L.length = 1 by omega) l1
            · exact h
          have e1 : ((L.length : Int) == 1) = false := by simp; omega
          have hne : L ≠ [] := by rintro rfl; simp at h2l
          have HNn := Lib.hid (HRow1.out.node HR1.out 2 hne (by omega))
          have hj : Hid (joinR (L.map (·.1)) = .mk 2 0 0 0 0 [] (L.map (·.1))) := Lib.hid (join_moreR (by rw [List.length_map]; exact h2l))
          have hz := HB1.out.zero
          have hfz := HB1.out.frozen
          clear hne l1 l0
          go_wp2
          exact ret_node rfl rfl rfl rfl (st7_blk HB1.out) (by
            rw [← HPC.out, hj.out]
            exact ⟨_, _, _, rfl, (HNn.out.st7 HB1.out (by simp)).low (by simp), HR1.out.st7 HB1.out HR.out.size, hF.st7 (Nat.le_refl _)⟩)
    | false =>
      rw [hen] at HE
      have hn : σ'.t ≠ [] := by intro e; rw [e] at hen; cases hen
      have hlen := len_ne hn
      have hx := at_lt σ'.t 0
      have hi0 : (0 : Int) ≤ (σ'.pos : Int) := by omega
      have hi1 : (σ'.pos : Int) < (s.length : Int) := by omega
      have HC := Lib.hid (fun W (h : Rd n₀ rb tb cap s W σ' d fc fa bv') => show W.cell? ⟨tb, σ'.pos, none⟩ = some (.int .u8 ((at_ σ'.t 0 : Nat) : Int)) by have := h.at_ (j := 0) hlen; rwa [Nat.zero_add, Nat.add_zero] at this)
      by_cases hx2 : at_ σ'.t 0 = 124 ∨ at_ σ'.t 0 = 41
      · have HPC : Hid (.ok (joinR (L.map (·.1)), σ') = r) := Lib.hid (by rw [← hrun, hen, if_pos (by simpa using hx2)])
        obtain ⟨x, hxx⟩ : ∃ x, x = at_ σ'.t 0 := ⟨_, rfl⟩
        rw [← hxx] at hx2 hx HC
        clear hrun hrow hRr hBr hen HQ hn hxx
        rcases hx2 with rfl | rfl
        all_goals
          go_wp2_with fail
          refine HE.out.mono ?_
          rintro e w1 ⟨rfl, hb1⟩
          have hR1 := HRr.out.on hb1
          have c0 := hR1.c0
          have c1 := hR1.c1
          have ct := HC.out _ hR1
          have HR0 := Lib.hid hR1
          clear hR1
          go_wp2
          go_quiet (fail)
          have HR1 := Lib.hid (HR0.out.drewN nq)
          have HB1 : Hid (Blk (w1.drewN nq) w.heap.size 27 zeros) := Lib.hid (show Blk w1 w.heap.size 27 zeros from HBk.out.on hb1)
          have HRow1 := Lib.hid ((HRow.out.fr HRr.out (Fr.of_below hb1)).fr HR0.out ((Fr.refl w1).drewN nq))
          have hF := (hFr.trans (Fr.of_below hb1)).drewN nq
          clear hFr hb1 HRow HRr HBk c0 c1 ct
          generalize w1.drewN nq = W9 at HR1 HB1 HRow1 hF ⊢
          by_cases l0 : L.length = 0
          · obtain rfl : L = [] := List.eq_nil_of_length_eq_zero l0
            have hz := HB1.out.zero
            have hfz := HB1.out.frozen
            clear l0
            go_wp2
            exact ret_node rfl rfl rfl rfl (st7_blk HB1.out) (by
              rw [← HPC.out]
              exact ⟨_, _, _, rfl, NodeV.leaf (SetK.nil _ _) (by simp), HR1.out.st7 HB1.out HR.out.size, hF.st7 (Nat.le_refl _)⟩)
          · have e0 : ((L.length : Int) == 0) = false := by simpa using l0
            by_cases l1 : L.length = 1
            · obtain ⟨x, rfl⟩ := List.length_eq_one_iff.1 l1
              obtain ⟨g9, c9, hv9, hN9, hc9⟩ := HRow1.out.first
              obtain ⟨nd, sv, kv⟩ := x
              obtain ⟨A1, A2, p1, p2, hsv, hkv⟩ := hN9.lens
              simp only at hsv hkv hN9 hc9
              subst hsv hkv
              have q0 := hc9 0 _ rfl
              have q1 := hc9 1 _ rfl
              have q2 := hc9 2 _ rfl
              have q3 := hc9 3 _ rfl
              have q4 := hc9 4 _ rfl
              have q5 := hc9 5 _ rfl
              have q6 := hc9 6 _ rfl
              injection hv9 with hA9 hl9 hp9
              subst hA9 hp9
              have HN9 := Lib.hid hN9
              clear hc9 hl9 l1 hN9
              have hz := HB1.out.zero
              have hfz := HB1.out.frozen
              go_wp2
              exact ret_node rfl rfl rfl rfl (st7_blk HB1.out) (by
                rw [← HPC.out]
                exact ⟨_, _, _, rfl, (HN9.out.st7 HB1.out (by simp)).low (by simp), HR1.out.st7 HB1.out HR.out.size, hF.st7 (Nat.le_refl _)⟩)
            · have h2l : 2 ≤ L.length := by
                rcases Nat.lt_or_ge L.length 2 with h | h
                · exact absurd (show L.length = 1 by omega) l1
                · exact h
              have e1 : ((L.length : Int) == 1) = false := by simp; omega
              have hne : L ≠ [] := by rintro rfl; simp at h2l
              have HNn := Lib.hid (HRow1.out.node HR1.out 2 hne (by omega))
              have hj : Hid (joinR (L.map (·.1)) = .mk 2 0 0 0 0 [] (L.map (·.1))) := Lib.hid (join_moreR (by rw [List.length_map]; exact h2l))
              have hz := HB1.out.zero
              have hfz := HB1.out.frozen
              clear hne l1 l0
              go_wp2
              exact ret_node rfl rfl rfl rfl (st7_blk HB1.out) (by
                rw [← HPC.out, hj.out]
                exact ⟨_, _, _, rfl, (HNn.out.st7 HB1.out (by simp)).low (by simp), HR1.out.st7 HB1.out HR.out.size, hF.st7 (Nat.le_refl _)⟩)
      · have hmr : Hid ((match run m 2 d [] σ' with
          | .error e => .error e
          | .ok (a, σ1) => run m 1 d (L.map (·.1) ++ [a]) σ1 : R) = r) := Lib.hid (by rw [← hrun, hen, if_neg (by simpa using hx2)]; rfl)
        have HQm := Lib.hid (fun W (hW : Rd n₀ rb tb cap s W σ' d fc fa bv') => HQ.out m (by omega) d σ' W bv' hn (by omega) hW)
        have hql := fun a σ1 (h : run m 2 d [] σ' = .ok (a, σ1)) => ((run_len m).2.2.1 d [] σ' a σ1 hn h).1
        have e1 : ((at_ σ'.t 0 : Int) == 124) = false := by simp; omega
        have e2 : ((at_ σ'.t 0 : Int) == 41) = false := by simp; omega
        obtain ⟨x, hxx⟩ : ∃ x, x = at_ σ'.t 0 := ⟨_, rfl⟩
        rw [← hxx] at hx HC e1 e2
        obtain ⟨rq, hrq⟩ : ∃ rq, rq = run m 2 d [] σ' := ⟨_, rfl⟩
        have hmr' := hmr.out
        rw [← hrq] at HQm hql hmr'
        have HMR := Lib.hid hmr'
        have HQL := Lib.hid hql
        clear hrun hrow hRr hBr hen HQ hn hxx hx2 hmr hmr' hrq hql
        go_wp2_with fail
        refine HE.out.mono ?_
        rintro e w1 ⟨rfl, hb1⟩
        have hR1 := HRr.out.on hb1
        have c0 := hR1.c0
        have c1 := hR1.c1
        have ct := HC.out _ hR1
        have HR0 := Lib.hid hR1
        clear hR1
        go_wp2
        go_quiet (fail)
        have HR1 := Lib.hid (HR0.out.drewN nq)
        have HB1 : Hid (Blk (w1.drewN nq) w.heap.size 27 zeros) := Lib.hid (show Blk w1 w.heap.size 27 zeros from HBk.out.on hb1)
        have HRow1 := Lib.hid ((HRow.out.fr HRr.out (Fr.of_below hb1)).fr HR0.out ((Fr.refl w1).drewN nq))
        have hF := (hFr.trans (Fr.of_below hb1)).drewN nq
        clear hFr hb1 HRow HRr HBk c0 c1 ct
        go_wp2_with fail
        refine (HQm.out _ HR1.out).mono ?_
        rintro e w2 hP2
        cases rq with
        | error f =>
          obtain ⟨rfl, hB, hF2⟩ := hP2
          unfold zeros
          have hpc := HMR.out
          simp only at hpc
          have HPC := Lib.hid hpc
          have hB2 := (hF2.blk HR1.out HB1.out (by decide) (by decide)).alloc (.cells zeros 27)
          have hz := hB2.zero
          have hfz := hB2.frozen
          unfold zeros at hz hfz
          clear hpc
          go_wp2
          exact ret_node rfl rfl rfl rfl (st7_blk hB2) (by
            rw [← HPC.out]
            exact ⟨rfl, (hB.alloc _).st7 (by omega), ((hF.trans hF2).alloc _).st7 (Nat.le_refl _)⟩)
        | ok y =>
          obtain ⟨a, σa⟩ := y
          obtain ⟨sv, kv, bv2, rfl, hNd, hR2, hF2⟩ := hP2
          obtain ⟨A1, A2, p1, p2, rfl, rfl⟩ := hNd.lens
          have hll := HQL.out a σa rfl
          have hpc := HMR.out
          simp only at hpc hR2 hNd
          obtain ⟨nk, hnk⟩ : ∃ nk : Array Value, nk = #[.int .i64 a.kind, .int .i64 a.lo, .int .i64 a.hi, .int .i64 a.mode, .int .i64 a.ref, .slice A1 a.set.length p1, .slice A2 a.kids.length p2] := ⟨_, rfl⟩
          have HB2 := Lib.hid (((hF2.blk HR1.out HB1.out (by decide) (by decide)).alloc (.cells nk 27)).alloc (.cells nk 27))
          have HB8 := Lib.hid (Blk.new (w2.alloc (.cells nk 27)) 27 nk)
          have HR2 := Lib.hid ((hR2.alloc (.cells nk 27)).alloc (.cells nk 27))
          have hFF := hF2.trans (((Fr.refl w2).alloc (.cells nk 27)).alloc (.cells nk 27))
          have HRow2 := Lib.hid (HRow1.out.fr HR1.out hFF)
          have HN2 := Lib.hid (hNd.fr (((Fr.refl w2).alloc (.cells nk 27)).alloc (.cells nk 27)))
          replace hF := hF.trans hFF
          have hgv : Hid (∀ g, (Value.slice A4 L.length c4).ownBlock = some g → g < (w1.drewN nq).heap.size) := Lib.hid (fun g hg => (HRow1.out.own.lt g hg).2)
          have hwsz : w.heap.size < w1.heap.size := HB1.out.lt
          have hsz2 : w.heap.size + 1 ≤ ((w2.alloc (.cells nk 27)).alloc (.cells nk 27)).heap.size := by have := HB2.out.lt; omega
          have hRow2o := HRow2.out.own
          have HO := Lib.hid hRow2o
          have HPC := Lib.hid hpc
          subst hnk
          clear hNd hR2 hF2 hFF hpc HRow1 hRow2o
          simp only [ndVal]
          go_wp2_with (at_builtin; refine wpList_append_node _ rfl _ _ rfl (w.heap.size + 1) i0 hi hz0 hz1 hz2 _ L rfl HO.out (w2.heap.size + 1) a A1 A2 a.set.length p1 a.kids.length p2 rfl (by have := HB8.out; simpa using this) (by omega) hsz2 ?_; intro v' w4 hown' hgrow hown2)
          go_roundg σa.t.length
          case measure => omega
          case rel =>
            have hRow3 := HRow2.out.push HN2.out (by simp; omega) hgv.out hown' hgrow hown2
            exact ⟨m, L ++ [(a, .slice A1 a.set.length p1, .slice A2 a.kids.length p2)], σa, bv2, Nat.le_refl _, by omega, by omega, by rw [List.length_append]; simp; omega, by rw [List.map_append]; exact HPC.out, hRow3,
              HR2.out.grown HO.out (by decide) (by decide) (by decide) (by have := HR.out.size; omega) hgrow, hF.grown hgrow (fun k hk => by have := (HO.out.lt k hk).1; omega), HB2.out.grown hgrow (fun e => by have := (HO.out.lt _ e.symm).1; omega)⟩

end Go.Proofs.YthipgidddgdojaaDoor
