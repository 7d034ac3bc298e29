/- Joined: PS, PT, PU, PV, PW. -/
import Derived.Test.YtefgobmpleoafaaGreatDoorJPd
import Derived.Deep.LoopGhost
/- A row: a step of the reader. -/
namespace Go.Proofs.YtefgobmpleoafaaGreatDoor
open Go.RowKit
open Go.Proofs.YtefgobmpleoafaaGreatDoor.Cl (info_three)
variable {n₀ rb tb cap d : Nat} {s : List UInt8} {w w' : World} {σ σ1 : St} {fc fa : Int} {bv v : Value}

theorem join_moreR {l : List Nd} (h : 2 ≤ l.length) : joinR l = .mk 2 0 0 0 0 [] l := by
  match l, h with
  | a :: b :: r, _ => rfl
def RowC (n₀ rb tb cap : Nat) (s : List UInt8) (fc fa : Int) (N : Nat) : Prop :=
  ∀ (d : Nat) (σ : St) (w : World) (bv : Value), 4 * σ.t.length + 1 ≤ N → Rd n₀ rb tb cap s w σ d fc fa bv → Calls Tryz.prog 93 #[.pointer (some ⟨rb, 0, none⟩)] w (NPost n₀ rb tb cap s d fc fa w (run N 1 d [] σ))
/-- What a round of the row's loop keeps. -/
def RRel (n₀ rb tb cap : Nat) (s : List UInt8) (d : Nat) (fc fa : Int) (w : World) (N : Nat) (r : R) (g : Nat) (v : Value) (wr : World) : Prop :=
  ∃ (m : Nat) (L : List (Nd × Value × Value)) (σ' : St) (bv : Value), σ'.t.length ≤ g ∧ 4 * σ'.t.length + 1 ≤ m ∧ m ≤ N ∧ L.length + σ'.t.length ≤ s.length ∧ run m 1 d (L.map (·.1)) σ' = r ∧
    RowR n₀ rb (w.alloc (.cells zeros 117)) wr (w.heap.size + 1) v L ∧ Rd n₀ rb tb cap s wr σ' d fc fa bv ∧ Fr n₀ rb w wr ∧ Blk wr w.heap.size 117 zeros

set_option maxRecDepth 100000 in
set_option maxHeartbeats 16000000 in
theorem row_step (N : Nat) (hQ : ∀ m, m < N → QuaC n₀ rb tb cap s fc fa m) : RowC n₀ rb tb cap s fc fa N := by
  intro d σ w bv hN hR
  have hrl := hR.blk.lt
  have hl := hR.len
  have ht := hR.tl
  have HR := Lib.hid hR
  have HQ := Lib.hid hQ
  obtain ⟨r, hr⟩ : ∃ r, r = run N 1 d [] σ := ⟨_, rfl⟩
  have H0 : Hid (RRel n₀ rb tb cap s d fc fa w N r s.length (.slice none 0 0) (w.alloc (.cells zeros 117))) :=
    Lib.hid ⟨N, [], σ, bv, by omega, hN, Nat.le_refl _, by simp; omega, hr.symm, RowR.nil _ _ _ _ _ (by simp), hR.alloc _, (Fr.refl w).alloc _, Blk.new w 117 zeros⟩
  rw [← hr]
  obtain ⟨i0, hi, hz0, hz1, hz2⟩ := info_three info27
  clear hQ hR hr hN ht
  go_enter Tryz.func93, Tryz.ntmps93
  go_wp2
  try go_step3
  try go_wp2
  try go_step3
  try go_wp2
  go_loopg [4] s.length (fun g v wr => RRel n₀ rb tb cap s d fc fa w N r g v wr)
  case atStart => exact H0.out
  case round =>
    clear H0
    obtain ⟨m, L, σ', bv', hg, hm, hmN, hL, hrun, hrow, hRr, hFr, hBr⟩ := hrel
    obtain ⟨m, rfl⟩ : ∃ m', m = m' + 1 := ⟨m - 1, by omega⟩
    rw [run_row] at hrun
    obtain ⟨A4, c4, rfl⟩ := hrow.form
    have hwr := hBr.lt
    have HRr := Lib.hid hRr
    have HRow := Lib.hid hrow
    have HBk := Lib.hid hBr
    have HE := Lib.hid (ended_any hRr)
    have hrw : rb < wr.heap.size := hRr.blk.lt
    have hpos := hRr.pos
    have ht := hRr.tl
    have hL256 : L.length ≤ 256 := by omega
    cases hen : σ'.t.isEmpty with
    | true =>
      rw [hen] at HE
      have HPC : Hid (.ok (joinR (L.map (·.1)), σ') = r) := Lib.hid (by rw [← hrun, hen]; rfl)
      clear hrun hrow hRr hBr hen HQ
      go_wp2_with fail
      refine HE.out.mono ?_
      rintro e w1 ⟨rfl, hb1⟩
      have HR1 := Lib.hid (HRr.out.on hb1)
      have HB1 := Lib.hid (HBk.out.on hb1)
      have HRow1 := Lib.hid (HRow.out.fr HRr.out (Fr.of_below hb1))
      have hF := hFr.trans (Fr.of_below hb1)
      clear hFr hb1 HRow HRr HBk
      by_cases l0 : L.length = 0
      · obtain rfl : L = [] := List.eq_nil_of_length_eq_zero l0
        have hz := HB1.out.zero
        have hfz := HB1.out.frozen
        clear l0
        go_wp2
        exact ret_node rfl rfl rfl rfl (st7_blk HB1.out) (by
          rw [← HPC.out]
          exact ⟨_, _, _, rfl, NodeV.leaf (SetK.nil _ _) (by simp), HR1.out.st7 HB1.out HR.out.size, hF.st7 (Nat.le_refl _)⟩)
      · have e0 : ((L.length : Int) == 0) = false := by simpa using l0
        by_cases l1 : L.length = 1
        · obtain ⟨x, rfl⟩ := List.length_eq_one_iff.1 l1
          obtain ⟨g9, c9, hv9, hN9, hc9⟩ := HRow1.out.first
          obtain ⟨nd, sv, kv⟩ := x
          obtain ⟨A1, A2, p1, p2, hsv, hkv⟩ := hN9.lens
          simp only at hsv hkv hN9 hc9
          subst hsv hkv
          have q0 := hc9 0 _ rfl
          have q1 := hc9 1 _ rfl
          have q2 := hc9 2 _ rfl
          have q3 := hc9 3 _ rfl
          have q4 := hc9 4 _ rfl
          have q5 := hc9 5 _ rfl
          have q6 := hc9 6 _ rfl
          injection hv9 with hA9 hl9 hp9
          subst hA9 hp9
          have HN9 := Lib.hid hN9
          clear hc9 hl9 l1 hN9
          have hz := HB1.out.zero
          have hfz := HB1.out.frozen
          go_wp2
          exact ret_node rfl rfl rfl rfl (st7_blk HB1.out) (by
            rw [← HPC.out]
            exact ⟨_, _, _, rfl, (HN9.out.st7 HB1.out (by simp)).low (by simp), HR1.out.st7 HB1.out HR.out.size, hF.st7 (Nat.le_refl _)⟩)
        · have h2l : 2 ≤ L.length := by
            rcases Nat.lt_or_ge L.length 2 with h | h
            · exact absurd (show L.length = 1 by omega) l1
            · exact h
          have e1 : ((L.length : Int) == 1) = false := by simp; omega
          have hne : L ≠ [] := by rintro rfl; simp at h2l
          have HNn := Lib.hid (HRow1.out.node HR1.out 2 hne (by omega))
          have hj : Hid (joinR (L.map (·.1)) = .mk 2 0 0 0 0 [] (L.map (·.1))) := Lib.hid (join_moreR (by rw [List.length_map]; exact h2l))
          have hz := HB1.out.zero
          have hfz := HB1.out.frozen
          clear hne l1 l0
          go_wp2
          exact ret_node rfl rfl rfl rfl (st7_blk HB1.out) (by
            rw [← HPC.out, hj.out]
            exact ⟨_, _, _, rfl, (HNn.out.st7 HB1.out (by simp)).low (by simp), HR1.out.st7 HB1.out HR.out.size, hF.st7 (Nat.le_refl _)⟩)
    | false =>
      rw [hen] at HE
      have hn : σ'.t ≠ [] := by intro e; rw [e] at hen; cases hen
      have hlen := len_ne hn
      have hx := at_lt σ'.t 0
      have hi0 : (0 : Int) ≤ (σ'.pos : Int) := by omega
      have hi1 : (σ'.pos : Int) < (s.length : Int) := by omega
      have HC := Lib.hid (fun W (h : Rd n₀ rb tb cap s W σ' d fc fa bv') => show W.cell? ⟨tb, σ'.pos, none⟩ = some (.int .u8 ((at_ σ'.t 0 : Nat) : Int)) by have := h.at_ (j := 0) hlen; rwa [Nat.zero_add, Nat.add_zero] at this)
      by_cases hx2 : at_ σ'.t 0 = 124 ∨ at_ σ'.t 0 = 41
      · have HPC : Hid (.ok (joinR (L.map (·.1)), σ') = r) := Lib.hid (by rw [← hrun, hen, if_pos (by simpa using hx2)])
        obtain ⟨x, hxx⟩ : ∃ x, x = at_ σ'.t 0 := ⟨_, rfl⟩
        rw [← hxx] at hx2 hx HC
        clear hrun hrow hRr hBr hen HQ hn hxx
        rcases hx2 with rfl | rfl
        all_goals
          go_wp2_with fail
          refine HE.out.mono ?_
          rintro e w1 ⟨rfl, hb1⟩
          have hR1 := HRr.out.on hb1
          have c0 := hR1.c0
          have c1 := hR1.c1
          have ct := HC.out _ hR1
          have HR0 := Lib.hid hR1
          clear hR1
          go_wp2
          go_quiet (fail)
          have HR1 := Lib.hid (HR0.out.drewN nq)
          have HB1 : Hid (Blk (w1.drewN nq) w.heap.size 117 zeros) := Lib.hid (show Blk w1 w.heap.size 117 zeros from HBk.out.on hb1)
          have HRow1 := Lib.hid ((HRow.out.fr HRr.out (Fr.of_below hb1)).fr HR0.out ((Fr.refl w1).drewN nq))
          have hF := (hFr.trans (Fr.of_below hb1)).drewN nq
          clear hFr hb1 HRow HRr HBk c0 c1 ct
          generalize w1.drewN nq = W9 at HR1 HB1 HRow1 hF ⊢
          by_cases l0 : L.length = 0
          · obtain rfl : L = [] := List.eq_nil_of_length_eq_zero l0
            have hz := HB1.out.zero
            have hfz := HB1.out.frozen
            clear l0
            go_wp2
            exact ret_node rfl rfl rfl rfl (st7_blk HB1.out) (by
              rw [← HPC.out]
              exact ⟨_, _, _, rfl, NodeV.leaf (SetK.nil _ _) (by simp), HR1.out.st7 HB1.out HR.out.size, hF.st7 (Nat.le_refl _)⟩)
          · have e0 : ((L.length : Int) == 0) = false := by simpa using l0
            by_cases l1 : L.length = 1
            · obtain ⟨x, rfl⟩ := List.length_eq_one_iff.1 l1
              obtain ⟨g9, c9, hv9, hN9, hc9⟩ := HRow1.out.first
              obtain ⟨nd, sv, kv⟩ := x
              obtain ⟨A1, A2, p1, p2, hsv, hkv⟩ := hN9.lens
              simp only at hsv hkv hN9 hc9
              subst hsv hkv
              have q0 := hc9 0 _ rfl
              have q1 := hc9 1 _ rfl
              have q2 := hc9 2 _ rfl
              have q3 := hc9 3 _ rfl
              have q4 := hc9 4 _ rfl
              have q5 := hc9 5 _ rfl
              have q6 := hc9 6 _ rfl
              injection hv9 with hA9 hl9 hp9
              subst hA9 hp9
              have HN9 := Lib.hid hN9
              clear hc9 hl9 l1 hN9
              have hz := HB1.out.zero
              have hfz := HB1.out.frozen
              go_wp2
              exact ret_node rfl rfl rfl rfl (st7_blk HB1.out) (by
                rw [← HPC.out]
                exact ⟨_, _, _, rfl, (HN9.out.st7 HB1.out (by simp)).low (by simp), HR1.out.st7 HB1.out HR.out.size, hF.st7 (Nat.le_refl _)⟩)
            · have h2l : 2 ≤ L.length := by
                rcases Nat.lt_or_ge L.length 2 with h | h
                · exact absurd (show L.length = 1 by omega) l1
                · exact h
              have e1 : ((L.length : Int) == 1) = false := by simp; omega
              have hne : L ≠ [] := by rintro rfl; simp at h2l
              have HNn := Lib.hid (HRow1.out.node HR1.out 2 hne (by omega))
              have hj : Hid (joinR (L.map (·.1)) = .mk 2 0 0 0 0 [] (L.map (·.1))) := Lib.hid (join_moreR (by rw [List.length_map]; exact h2l))
              have hz := HB1.out.zero
              have hfz := HB1.out.frozen
              clear hne l1 l0
              go_wp2
              exact ret_node rfl rfl rfl rfl (st7_blk HB1.out) (by
                rw [← HPC.out, hj.out]
                exact ⟨_, _, _, rfl, (HNn.out.st7 HB1.out (by simp)).low (by simp), HR1.out.st7 HB1.out HR.out.size, hF.st7 (Nat.le_refl _)⟩)
      · have hmr : Hid ((match run m 2 d [] σ' with
          | .error e => .error e
          | .ok (a, σ1) => run m 1 d (L.map (·.1) ++ [a]) σ1 : R) = r) := Lib.hid (by rw [← hrun, hen, if_neg (by simpa using hx2)]; rfl)
        have HQm := Lib.hid (fun W (hW : Rd n₀ rb tb cap s W σ' d fc fa bv') => HQ.out m (by omega) d σ' W bv' hn (by omega) hW)
        have hql := fun a σ1 (h : run m 2 d [] σ' = .ok (a, σ1)) => ((run_len m).2.2.1 d [] σ' a σ1 hn h).1
        have e1 : ((at_ σ'.t 0 : Int) == 124) = false := by simp; omega
        have e2 : ((at_ σ'.t 0 : Int) == 41) = false := by simp; omega
        obtain ⟨x, hxx⟩ : ∃ x, x = at_ σ'.t 0 := ⟨_, rfl⟩
        rw [← hxx] at hx HC e1 e2
        obtain ⟨rq, hrq⟩ : ∃ rq, rq = run m 2 d [] σ' := ⟨_, rfl⟩
        have hmr' := hmr.out
        rw [← hrq] at HQm hql hmr'
        have HMR := Lib.hid hmr'
        have HQL := Lib.hid hql
        clear hrun hrow hRr hBr hen HQ hn hxx hx2 hmr hmr' hrq hql
        go_wp2_with fail
        refine HE.out.mono ?_
        rintro e w1 ⟨rfl, hb1⟩
        have hR1 := HRr.out.on hb1
        have c0 := hR1.c0
        have c1 := hR1.c1
        have ct := HC.out _ hR1
        have HR0 := Lib.hid hR1
        clear hR1
        go_wp2
        go_quiet (fail)
        have HR1 := Lib.hid (HR0.out.drewN nq)
        have HB1 : Hid (Blk (w1.drewN nq) w.heap.size 117 zeros) := Lib.hid (show Blk w1 w.heap.size 117 zeros from HBk.out.on hb1)
        have HRow1 := Lib.hid ((HRow.out.fr HRr.out (Fr.of_below hb1)).fr HR0.out ((Fr.refl w1).drewN nq))
        have hF := (hFr.trans (Fr.of_below hb1)).drewN nq
        clear hFr hb1 HRow HRr HBk c0 c1 ct
        go_wp2_with fail
        refine (HQm.out _ HR1.out).mono ?_
        rintro e w2 hP2
        cases rq with
        | error f =>
          obtain ⟨rfl, hB, hF2⟩ := hP2
          unfold zeros
          have hpc := HMR.out
          simp only at hpc
          have HPC := Lib.hid hpc
          have hB2 := (hF2.blk HR1.out HB1.out (by decide) (by decide)).alloc (.cells zeros 117)
          have hz := hB2.zero
          have hfz := hB2.frozen
          unfold zeros at hz hfz
          clear hpc
          go_wp2
          exact ret_node rfl rfl rfl rfl (st7_blk hB2) (by
            rw [← HPC.out]
            exact ⟨rfl, (hB.alloc _).st7 (by omega), ((hF.trans hF2).alloc _).st7 (Nat.le_refl _)⟩)
        | ok y =>
          obtain ⟨a, σa⟩ := y
          obtain ⟨sv, kv, bv2, rfl, hNd, hR2, hF2⟩ := hP2
          obtain ⟨A1, A2, p1, p2, rfl, rfl⟩ := hNd.lens
          have hll := HQL.out a σa rfl
          have hpc := HMR.out
          simp only at hpc hR2 hNd
          obtain ⟨nk, hnk⟩ : ∃ nk : Array Value, nk = #[.int .i64 a.kind, .int .i64 a.lo, .int .i64 a.hi, .int .i64 a.mode, .int .i64 a.ref, .slice A1 a.set.length p1, .slice A2 a.kids.length p2] := ⟨_, rfl⟩
          have HB2 := Lib.hid (((hF2.blk HR1.out HB1.out (by decide) (by decide)).alloc (.cells nk 117)).alloc (.cells nk 117))
          have HB8 := Lib.hid (Blk.new (w2.alloc (.cells nk 117)) 117 nk)
          have HR2 := Lib.hid ((hR2.alloc (.cells nk 117)).alloc (.cells nk 117))
          have hFF := hF2.trans (((Fr.refl w2).alloc (.cells nk 117)).alloc (.cells nk 117))
          have HRow2 := Lib.hid (HRow1.out.fr HR1.out hFF)
          have HN2 := Lib.hid (hNd.fr (((Fr.refl w2).alloc (.cells nk 117)).alloc (.cells nk 117)))
          replace hF := hF.trans hFF
          have hgv : Hid (∀ g, (Value.slice A4 L.length c4).ownBlock = some g → g < (w1.drewN nq).heap.size) := Lib.hid (fun g hg => (HRow1.out.own.lt g hg).2)
          have hwsz : w.heap.size < w1.heap.size := HB1.out.lt
          have hsz2 : w.heap.size + 1 ≤ ((w2.alloc (.cells nk 117)).alloc (.cells nk 117)).heap.size := by have := HB2.out.lt; omega
          have hRow2o := HRow2.out.own
          have HO := Lib.hid hRow2o
          have HPC := Lib.hid hpc
          subst hnk
          clear hNd hR2 hF2 hFF hpc HRow1 hRow2o
          simp only [ndVal]
          go_wp2_with (at_builtin; refine wpList_append_node _ rfl _ _ rfl (w.heap.size + 1) i0 hi hz0 hz1 hz2 _ L rfl HO.out (w2.heap.size + 1) a A1 A2 a.set.length p1 a.kids.length p2 rfl (by have := HB8.out; simpa using this) (by omega) hsz2 ?_; intro v' w4 hown' hgrow hown2)
          go_roundg σa.t.length
          case measure => omega
          case rel =>
            have hRow3 := HRow2.out.push HN2.out (by simp; omega) hgv.out hown' hgrow hown2
            exact ⟨m, L ++ [(a, .slice A1 a.set.length p1, .slice A2 a.kids.length p2)], σa, bv2, Nat.le_refl _, by omega, by omega, by rw [List.length_append]; simp; omega, by rw [List.map_append]; exact HPC.out, hRow3,
              HR2.out.grown HO.out (by decide) (by decide) (by decide) (by have := HR.out.size; omega) hgrow, hF.grown hgrow (fun k hk => by have := (HO.out.lt k hk).1; omega), HB2.out.grown hgrow (fun e => by have := (HO.out.lt _ e.symm).1; omega)⟩

end Go.Proofs.YtefgobmpleoafaaGreatDoor

/- Alternatives: a step of the reader. -/
namespace Go.Proofs.YtefgobmpleoafaaGreatDoor
open Go.RowKit
open Go.Proofs.YtefgobmpleoafaaGreatDoor.Cl (info_three)
variable {n₀ rb tb cap d : Nat} {s : List UInt8} {w w' : World} {σ σ1 : St} {fc fa : Int} {bv v : Value}

theorem RowR.form2 {a : World} {base : Nat} {L : List (Nd × Value × Value)} (h : RowR n₀ rb a w base v L) : ∃ A n c, v = .slice A n c ∧ n = L.length := by
  obtain ⟨A, c, hv⟩ := h.form
  exact ⟨A, _, c, hv, rfl⟩
theorem join_moreA {l : List Nd} (h : 2 ≤ l.length) : joinA l = .mk 3 0 0 0 0 [] l := by
  match l, h with
  | a :: b :: r, _ => rfl
/-- What a round of the loop over rows keeps. -/
def ARel (n₀ rb tb cap : Nat) (s : List UInt8) (d : Nat) (fc fa : Int) (w : World) (N : Nat) (r : R) (g : Nat) (v : Value) (wr : World) : Prop :=
  ∃ (m : Nat) (L : List (Nd × Value × Value)) (σ' : St) (bv : Value), σ'.t.length ≤ g ∧ 4 * σ'.t.length + 2 ≤ m ∧ m ≤ N ∧ L.length + σ'.t.length ≤ s.length ∧ run m 0 d (L.map (·.1)) σ' = r ∧
    RowR n₀ rb (w.alloc (.cells zeros 117)) wr (w.heap.size + 1) v L ∧ Rd n₀ rb tb cap s wr σ' d fc fa bv ∧ Fr n₀ rb w wr ∧ Blk wr w.heap.size 117 zeros

set_option maxRecDepth 100000 in
set_option maxHeartbeats 16000000 in
theorem alts_step (N : Nat) (hQ : ∀ m, m < N → RowC n₀ rb tb cap s fc fa m) : AltC n₀ rb tb cap s fc fa N := by
  intro d σ w bv hN hR
  have hrl := hR.blk.lt
  have hl := hR.len
  have ht := hR.tl
  have HR := Lib.hid hR
  have HQ := Lib.hid hQ
  obtain ⟨r, hr⟩ : ∃ r, r = run N 0 d [] σ := ⟨_, rfl⟩
  have H0 : Hid (ARel n₀ rb tb cap s d fc fa w N r s.length (.slice none 0 0) (w.alloc (.cells zeros 117))) :=
    Lib.hid ⟨N, [], σ, bv, by omega, hN, Nat.le_refl _, by simp; omega, hr.symm, RowR.nil _ _ _ _ _ (by simp), hR.alloc _, (Fr.refl w).alloc _, Blk.new w 117 zeros⟩
  rw [← hr]
  obtain ⟨i0, hi, hz0, hz1, hz2⟩ := info_three info27
  clear hQ hR hr hN ht
  go_enter Tryz.func76, Tryz.ntmps76
  go_wp2
  go_loopg [4] s.length (fun g v wr => ARel n₀ rb tb cap s d fc fa w N r g v wr)
  case atStart => exact H0.out
  case round =>
    clear H0
    obtain ⟨m, L, σ', bv', hg, hm, hmN, hL, hrun, hrow, hRr, hFr, hBr⟩ := hrel
    obtain ⟨m, rfl⟩ : ∃ m', m = m' + 1 := ⟨m - 1, by omega⟩
    rw [run_alts] at hrun
    obtain ⟨A4, c4, rfl⟩ := hrow.form
    have hwr := hBr.lt
    have HR1 := Lib.hid hRr
    have HRow1 := Lib.hid hrow
    have HB1 := Lib.hid hBr
    have hrw : rb < wr.heap.size := hRr.blk.lt
    have hpos := hRr.pos
    have ht := hRr.tl
    have hL256 : L.length ≤ 256 := by omega
    have HQm := Lib.hid (fun W (hW : Rd n₀ rb tb cap s W σ' d fc fa bv') => HQ.out m (by omega) d σ' W bv' (by omega) hW)
    have hql := fun a σ1 (h : run m 1 d [] σ' = .ok (a, σ1)) => ((run_len m).2.1 d [] σ' a σ1 h).1
    obtain ⟨rq, hrq⟩ : ∃ rq, rq = run m 1 d [] σ' := ⟨_, rfl⟩
    rw [← hrq] at HQm hql hrun
    have HMR := Lib.hid hrun
    have HQL := Lib.hid hql
    have hF := hFr
    clear hrun hrow hRr hBr HQ hrq hql hFr
    go_wp2_with fail
    refine (HQm.out _ HR1.out).mono ?_
    rintro e w2 hP2
    cases rq with
    | error f =>
      obtain ⟨rfl, hB, hF2⟩ := hP2
      unfold zeros
      have hpc := HMR.out
      simp only at hpc
      have HPC := Lib.hid hpc
      have hB2 := (hF2.blk HR1.out HB1.out (by decide) (by decide)).alloc (.cells zeros 117)
      have hz := hB2.zero
      have hfz := hB2.frozen
      unfold zeros at hz hfz
      clear hpc
      go_wp2
      exact ret_node rfl rfl rfl rfl (st7_blk hB2) (by
        rw [← HPC.out]
        exact ⟨rfl, (hB.alloc _).st7 (by omega), ((hF.trans hF2).alloc _).st7 (Nat.le_refl _)⟩)
    | ok y =>
      obtain ⟨a, σa⟩ := y
      obtain ⟨sv, kv, bv2, rfl, hNd, hR2, hF2⟩ := hP2
      obtain ⟨A1, A2, p1, p2, rfl, rfl⟩ := hNd.lens
      have hll := HQL.out a σa rfl
      have hpc := HMR.out
      simp only at hpc hR2 hNd
      obtain ⟨nk, hnk⟩ : ∃ nk : Array Value, nk = #[.int .i64 a.kind, .int .i64 a.lo, .int .i64 a.hi, .int .i64 a.mode, .int .i64 a.ref, .slice A1 a.set.length p1, .slice A2 a.kids.length p2] := ⟨_, rfl⟩
      have HB2 := Lib.hid (((hF2.blk HR1.out HB1.out (by decide) (by decide)).alloc (.cells nk 117)).alloc (.cells nk 117))
      have HB8 := Lib.hid (Blk.new (w2.alloc (.cells nk 117)) 117 nk)
      have HR2 := Lib.hid ((hR2.alloc (.cells nk 117)).alloc (.cells nk 117))
      have hFF := hF2.trans (((Fr.refl w2).alloc (.cells nk 117)).alloc (.cells nk 117))
      have HRow2 := Lib.hid (HRow1.out.fr HR1.out hFF)
      have HN2 := Lib.hid (hNd.fr (((Fr.refl w2).alloc (.cells nk 117)).alloc (.cells nk 117)))
      replace hF := hF.trans hFF
      have hgv : Hid (∀ g, (Value.slice A4 L.length c4).ownBlock = some g → g < wr.heap.size) := Lib.hid (fun g hg => (HRow1.out.own.lt g hg).2)
      have hsz2 : w.heap.size + 1 ≤ ((w2.alloc (.cells nk 117)).alloc (.cells nk 117)).heap.size := by have := HB2.out.lt; omega
      have hRow2o := HRow2.out.own
      have HO := Lib.hid hRow2o
      have HPC := Lib.hid hpc
      subst hnk
      clear hNd hR2 hF2 hFF hpc HRow1 hRow2o
      simp only [ndVal]
      have hb4 : 124 = at_ σa.t 0 ∨ 124 ≠ at_ σa.t 0 := by omega
      have HRow4 := Lib.hid (fun v' w4 hown' hgrow hown2 => (HRow2.out.push (v' := v') (w' := w4) HN2.out (by simp; omega) hgv.out hown' hgrow hown2).form2)
      have HRow5 := Lib.hid (fun v' w4 hown' hgrow hown2 => HRow2.out.push (v' := v') (w' := w4) HN2.out (by simp; omega) hgv.out hown' hgrow hown2)
      go_upto_region 6 with (at_builtin; refine wpList_append_node _ rfl _ _ rfl (w.heap.size + 1) i0 hi hz0 hz1 hz2 _ L rfl HO.out (w2.heap.size + 1) a A1 A2 a.set.length p1 a.kids.length p2 rfl (by have := HB8.out; simpa using this) (by omega) hsz2 ?_; intro v' w4 hown' hgrow hown2; obtain ⟨A5, n5, c5, rfl, hn5⟩ := HRow4.out v' w4 hown' hgrow hown2; have HN5 := Lib.hid hn5; have HRow6 := Lib.hid (HRow5.out _ w4 hown' hgrow hown2); have HG := Lib.hid hgrow; clear hn5 hown' hgrow hown2)
      have HR4 := Lib.hid (HR2.out.grown HO.out (by decide) (by decide) (by decide) (by have := HR.out.size; omega) HG.out)
      have HB4 : Hid (Blk w4 w.heap.size 117 zeros) := Lib.hid (HB2.out.grown HG.out (fun e => by have := (HO.out.lt _ e.symm).1; omega))
      replace hF := hF.grown HG.out (fun k hk => by have := (HO.out.lt k hk).1; omega)
      clear HRow4 HRow5 HG HO HB2 HB8 HR2 HRow2 HN2 hgv hsz2
      obtain ⟨L', hL'⟩ : ∃ L', L' = L ++ [(a, Value.slice A1 a.set.length p1, Value.slice A2 a.kids.length p2)] := ⟨_, rfl⟩
      have hmap : Hid (L'.map (·.1) = L.map (·.1) ++ [a]) := Lib.hid (by rw [hL', List.map_append]; rfl)
      have hlen' : L'.length = L.length + 1 := by rw [hL', List.length_append]; rfl
      rw [← hL'] at HRow6 HN5
      clear hL'
      rw [← hmap.out] at HPC
      by_cases h124 : at_ σa.t 0 = 124
      · have HT := Lib.hid (take1_yes 124 (by decide) (by simpa using h124) HR4.out)
        have hla := len_ne (at_ne (t := σa.t) (by omega))
        have HPC2 : Hid (run m 0 d (L'.map (·.1)) (σa.adv 1) = r) := Lib.hid (by have := HPC.out; rwa [if_pos h124] at this)
        clear HPC h124 hb4
        go_wp2_with fail
        refine HT.out.mono ?_
        rintro e w5 ⟨rfl, hR5, hF5⟩
        have HR5 := Lib.hid hR5
        have HB5 := Lib.hid (hF5.blk HR4.out HB4.out (by decide) (by decide))
        have HRow7 := Lib.hid (HRow6.out.fr HR4.out hF5)
        replace hF := hF.trans hF5
        clear hR5 hF5
        go_wp2
        go_roundg (σa.adv 1).t.length
        case measure => rw [adv_len]; omega
        case rel => exact ⟨m, L', σa.adv 1, bv2, Nat.le_refl _, by rw [adv_len]; omega, by omega, by rw [adv_len]; omega, HPC2.out, HRow7.out, HR5.out, hF, HB5.out⟩
      · have HT := Lib.hid (take1_no 124 (by decide) (by simpa using h124) HR4.out)
        have HPC2 : Hid (.ok (joinA (L'.map (·.1)), σa) = r) := Lib.hid (by have := HPC.out; rwa [if_neg h124] at this)
        clear HPC h124 hb4
        go_wp2_with fail
        refine HT.out.mono ?_
        rintro e w5 ⟨rfl, hb5⟩
        have HR5 := Lib.hid (HR4.out.on hb5)
        have HB5 := Lib.hid (HB4.out.on hb5)
        have HRow7 := Lib.hid (HRow6.out.fr HR4.out (Fr.of_below hb5))
        replace hF := hF.trans (Fr.of_below hb5)
        have hz := HB5.out.zero
        have hfz := HB5.out.frozen
        clear hb5
        by_cases l1 : n5 = 1
        · subst l1
          obtain ⟨x, rfl⟩ := List.length_eq_one_iff.1 HN5.out.symm
          obtain ⟨g9, c9, hv9, hN9, hc9⟩ := HRow7.out.first
          obtain ⟨nd, sv, kv⟩ := x
          obtain ⟨B1, B2, q1, q2, hsv, hkv⟩ := hN9.lens
          simp only at hsv hkv hN9 hc9
          subst hsv hkv
          have k0 := hc9 0 _ rfl
          have k1 := hc9 1 _ rfl
          have k2 := hc9 2 _ rfl
          have k3 := hc9 3 _ rfl
          have k4 := hc9 4 _ rfl
          have k5 := hc9 5 _ rfl
          have k6 := hc9 6 _ rfl
          injection hv9 with hA9 hl9 hp9
          subst hA9 hp9
          have HN9 := Lib.hid hN9
          clear hc9 hl9 hN9 hlen'
          go_wp2
          exact ret_node rfl rfl rfl rfl (st7_blk HB5.out) (by
            rw [← HPC2.out]
            exact ⟨_, _, _, rfl, (HN9.out.st7 HB5.out (by simp)).low (by simp), HR5.out.st7 HB5.out HR.out.size, hF.st7 (Nat.le_refl _)⟩)
        · have e1 : ((n5 : Int) == 1) = false := by simp; omega
          have h2l : 2 ≤ L'.length := by have := HN5.out; omega
          have hne : L' ≠ [] := by rintro rfl; simp at h2l
          have HNn := Lib.hid (HRow7.out.node HR5.out 3 hne (by omega))
          have hj : Hid (joinA (L'.map (·.1)) = .mk 3 0 0 0 0 [] (L'.map (·.1))) := Lib.hid (join_moreA (by rw [List.length_map]; exact h2l))
          clear hne l1
          go_wp2
          exact ret_node rfl rfl rfl rfl (st7_blk HB5.out) (by
            rw [← HPC2.out, hj.out]
            exact ⟨_, _, _, rfl, (HNn.out.st7 HB5.out (by simp)).low (by simp), HR5.out.st7 HB5.out HR.out.size, hF.st7 (Nat.le_refl _)⟩)

end Go.Proofs.YtefgobmpleoafaaGreatDoor

/- The reader's steps together; the references, when the text has ended. -/
namespace Go.Proofs.YtefgobmpleoafaaGreatDoor
open Go.RowKit
variable {n₀ rb tb cap d : Nat} {s : List UInt8} {w w' : World} {σ σ1 : St} {fc fa : Int} {bv v : Value}

theorem all_any (N : Nat) : (AltC n₀ rb tb cap s fc fa N ∧ RowC n₀ rb tb cap s fc fa N) ∧ QuaC n₀ rb tb cap s fc fa N ∧ ParC n₀ rb tb cap s fc fa N := by
  induction N using Nat.strongRecOn with
  | ind N ih =>
    refine ⟨⟨alts_step N fun m hm => (ih m hm).1.2, row_step N fun m hm => (ih m hm).2.1⟩, ?_, ?_⟩
    · cases N with
      | zero =>
        intro d σ w bv hn hN hR
        have := len_ne hn
        omega
      | succ n => exact quant_step n (ih n (Nat.lt_succ_self n)).2.2
    · cases N with
      | zero =>
        intro d σ w bv hc hN hR
        have := len_ne (at_ne (t := σ.t) (by omega))
        omega
      | succ n => exact paren_step n (ih n (Nat.lt_succ_self n)).1.1

/-- What the look at the references leaves. -/
def CPost (n₀ rb : Nat) (w : World) (r : Option (Nat × Nat)) (e : Ending) (w' : World) : Prop :=
  match r with
  | some b => e = .returned (.bool false) ∧ Bad w' rb (26, b.2) ∧ Fr n₀ rb w w'
  | none => e = .returned (.bool true) ∧ Below w.heap.size w w'
theorem find_take {l : List (Nat × Nat)} {k g : Nat} (hk : k < l.length) (h : ∀ x ∈ l.take k, ¬ g < x.1) :
    (g < l[k].1 → l.find? (fun b => decide (g < b.1)) = some l[k]) ∧ (¬ g < l[k].1 → ∀ x ∈ l.take (k + 1), ¬ g < x.1) := by
  refine ⟨fun hx => ?_, fun hx x hm => ?_⟩
  · have e : l = l.take k ++ l[k] :: l.drop (k + 1) := by rw [← List.drop_eq_getElem_cons hk, List.take_append_drop]
    have hn : (l.take k).find? (fun b => decide (g < b.1)) = none := List.find?_eq_none.2 fun x hx => by simpa using h x hx
    conv => lhs; rw [e]
    rw [List.find?_append, hn]
    simp [List.find?, hx]
  · rw [List.take_succ_eq_append_getElem hk] at hm
    rcases List.mem_append.1 hm with hm | hm
    · exact h x hm
    · obtain rfl := List.mem_singleton.1 hm
      exact hx

set_option maxRecDepth 100000 in
set_option maxHeartbeats 4000000 in
theorem checkBacks_any (hR : Rd n₀ rb tb cap s w σ d fc fa bv) : Calls Tryz.prog 79 #[.pointer (some ⟨rb, 0, none⟩)] w (CPost n₀ rb w (σ.bk.find? fun b => decide (σ.g < b.1))) := by
  have hO := (own_bk hR.own).set
  obtain ⟨A, cp, hbv, hcp, _⟩ := id hO
  rw [List.length_map] at hbv hcp
  subst hbv
  have c4 := hR.c4
  have HO := Lib.hid hO
  have HR := Lib.hid hR
  have hlen : σ.bk.length ≤ 256 := by have := hR.bnd; have := hR.pos; have := hR.len; omega
  have hg9 := hR.bnd.2.1
  have hbkr : Hid (∀ x ∈ σ.bk, x.1 ≤ 1000000) ∨ True := .inr trivial
  clear hO hR hbkr
  obtain ⟨r, hr⟩ : ∃ r, r = σ.bk.find? fun b => decide (σ.g < b.1) := ⟨_, rfl⟩
  rw [← hr]
  have HRr := Lib.hid hr
  clear hr
  go_enter Tryz.func79, Tryz.ntmps79
  go_wp2
  go_loopw [10] (fun i wr => ∃ k : Nat, k ≤ σ.bk.length ∧ i = .int .i64 k ∧ Hid (∀ x ∈ σ.bk.take k, ¬ σ.g < x.1) ∧ Below w.heap.size w wr) (fun i _ => σ.bk.length - (intOf i).toNat)
  case atStart => exact ⟨0, Nat.zero_le _, rfl, Lib.hid (by simp), Below.refl _ _⟩
  case round =>
    obtain ⟨k, hk, rfl, HH, hbel⟩ := hrel
    have hsz := hbel.size
    have HRr2 := Lib.hid (HR.out.on hbel)
    by_cases hlt : k < σ.bk.length
    · obtain ⟨b, off, lo, hi, rfl, hb, hget, c0, c1⟩ := (HO.out.below hbel).at_ (k := k) (by rw [List.length_map]; exact hlt)
      rw [List.getElem?_map, List.getElem?_eq_getElem hlt] at hget
      simp only [Option.map_some, Option.some.injEq, Prod.mk.injEq] at hget
      obtain ⟨g1, g2⟩ := hget
      subst g1 g2
      have HFT := Lib.hid (find_take (g := σ.g) hlt HH.out)
      have c3 := (HRr2.out.alloc (.cells #[.int .i64 (σ.bk[k].1 : Nat), .int .i64 (σ.bk[k].2 : Nat)] 59)).c3
      have c3r := HRr2.out.c3
      have hrl := HRr2.out.blk.lt
      obtain ⟨x, hx⟩ : ∃ x, x = σ.bk[k].1 := ⟨_, rfl⟩
      obtain ⟨y, hy⟩ : ∃ y, y = σ.bk[k].2 := ⟨_, rfl⟩
      have HX := Lib.hid hx
      have HY := Lib.hid hy
      rw [← hx] at c0 c3
      rw [← hy] at c1 c3
      clear hx hy HH
      by_cases hgt : σ.g < x
      · have hgt' : (σ.g : Int) < (x : Int) := by omega
        have HF : Hid (some (σ.bk[k].1, σ.bk[k].2) = r) := Lib.hid (by rw [HRr.out]; exact (HFT.out.1 (by rw [← HX.out]; exact hgt)).symm)
        rw [← HY.out] at HF
        have hF := HF.out
        subst hF
        clear HFT
        go_wp2
        go_quiet (fail)
        go_wp2_with fail
        refine (refuse_bad 26 y ((HRr2.out.alloc _).drewN _)).mono ?_
        rintro e w3 ⟨rfl, hB, hF3⟩
        go_wp2
        go_ret
        exact ⟨rfl, hB, (((Fr.refl w).trans ⟨hbel.os, hbel.tape, hbel.output, hbel.size, fun i hi _ => hbel.block i hi⟩).alloc _ |>.drewN _).trans hF3⟩
      · have hgt' : ¬ (σ.g : Int) < (x : Int) := by omega
        have HT := Lib.hid (HFT.out.2 (by rw [← HX.out]; exact hgt))
        clear HFT
        go_wp2
        go_quiet (fail)
        go_wp2
        go_roundw
        case rel => exact ⟨k + 1, by omega, by go_num, HT, (hbel.alloc hsz _).trans (Below.mono (bdrew _ _) (by simp; omega))⟩
        case measure => simp [intOf]; omega
    · obtain rfl : k = σ.bk.length := by omega
      have HF : Hid (none = r) := Lib.hid (by
        rw [HRr.out]
        exact (List.find?_eq_none.2 fun x hx => by simpa using HH.out x (by rw [List.take_length]; exact hx)).symm)
      have hF := HF.out
      subst hF
      go_wp2
      go_ret
      exact ⟨rfl, hbel⟩

end Go.Proofs.YtefgobmpleoafaaGreatDoor

/- A whole pattern. -/
namespace Go.Proofs.YtefgobmpleoafaaGreatDoor
open Go.RowKit
variable {n₀ rb tb cap d : Nat} {s : List UInt8} {w w' : World} {σ σ1 : St} {fc fa : Int} {bv v : Value}

def zero9 : Array Value := #[.int .i64 0, .int .i64 0, .int .i64 0, .int .i64 0, .int .i64 0, .slice none 0 0, .slice none 0 0, .int .i64 0, .bool false]
def st9 (w : World) (g : Nat) (c0 c1 c2 c3 c4 c5 c6 c7 c8 : Value) : World := ((st7 w g c0 c1 c2 c3 c4 c5 c6).setCell ⟨g, 7, none⟩ c7).setCell ⟨g, 8, none⟩ c8
section
variable {g : Nat} {t : TypeId} {x0 x1 x2 x3 x4 x5 x6 x7 x8 c0 c1 c2 c3 c4 c5 c6 c7 c8 : Value}
theorem st9_blk (h : Blk w g t #[x0, x1, x2, x3, x4, x5, x6, x7, x8]) : Blk (st9 w g c0 c1 c2 c3 c4 c5 c6 c7 c8) g t #[c0, c1, c2, c3, c4, c5, c6, c7, c8] := by
  have := ((((((((h.set_ 0 c0).set_ 1 c1).set_ 2 c2).set_ 3 c3).set_ 4 c4).set_ 5 c5).set_ 6 c6).set_ 7 c7).set_ 8 c8
  simpa [st9, st7] using this
theorem st9_heap {i : Nat} (h : i ≠ g) : (st9 w g c0 c1 c2 c3 c4 c5 c6 c7 c8).heap[i]? = w.heap[i]? := by
  unfold st9
  rw [Below.heap_setCell _ _ _ _ h, Below.heap_setCell _ _ _ _ h, st7_heap h]
theorem Fr.st9 {a : World} (h : Fr n₀ rb a w) (hn : n₀ ≤ rb) (hg : a.heap.size ≤ g) : Fr n₀ rb a (st9 w g c0 c1 c2 c3 c4 c5 c6 c7 c8) :=
  ((h.st7 hg).set_ hn (.inl hg) _).set_ hn (.inl hg) _
theorem Bad.st9 {f : Flt} (h : Bad w rb f) (hg : rb ≠ g) : Bad (st9 w g c0 c1 c2 c3 c4 c5 c6 c7 c8) rb f := h.keep (st9_heap hg)
theorem Blk.st9 {b : Nat} {cs : Array Value} (h : Blk w b t cs) (hb : b ≠ g) : Blk (st9 w g c0 c1 c2 c3 c4 c5 c6 c7 c8) b t cs := (st9_heap hb).trans h
theorem st9_size : (st9 w g c0 c1 c2 c3 c4 c5 c6 c7 c8).heap.size = w.heap.size := by
  have := st7_size (w := w) (g := g) (c0 := c0) (c1 := c1) (c2 := c2) (c3 := c3) (c4 := c4) (c5 := c5) (c6 := c6)
  simp [Go.Proofs.YtefgobmpleoafaaGreatDoor.st9, World.setCell] at this ⊢
  exact this
theorem okB.st9 {b : Nat} (h : okB n₀ rb w b) (hb : b ≠ g) : okB n₀ rb (Go.Proofs.YtefgobmpleoafaaGreatDoor.st9 w g c0 c1 c2 c3 c4 c5 c6 c7 c8) b := by
  refine ⟨by rw [st9_size]; exact h.1, h.2.imp id (fun ⟨h1, h2⟩ => ⟨h1, fun ⟨cs', z, hh⟩ => h2 ⟨cs', z, ?_⟩⟩)⟩
  rw [← st9_heap (w := w) (c0 := c0) (c1 := c1) (c2 := c2) (c3 := c3) (c4 := c4) (c5 := c5) (c6 := c6) (c7 := c7) (c8 := c8) hb]
  exact hh
theorem NodeV.st9 {a : World} {nd : Nd} {sv kv : Value} (h : NodeV (KB n₀ rb a w) w nd sv kv) {cs : Array Value} (hg : Blk w g 119 cs) (ha : g < a.heap.size) : NodeV (KB n₀ rb a (st9 w g c0 c1 c2 c3 c4 c5 c6 c7 c8)) (st9 w g c0 c1 c2 c3 c4 c5 c6 c7 c8) nd sv kv :=
  h.keep fun b hb => by
    have hne : b ≠ g := by
      rcases hb.2 with h1 | ⟨_, _, h1⟩
      · omega
      · exact ne_of_types h1 hg (by decide)
    exact ⟨⟨hb.1.st9 hne, hb.2.imp id (fun h => h.keep (st9_heap hne))⟩, st9_heap hne⟩
theorem node_st9e {a a' : World} {nd : Nd} {sv kv : Value} (h : NodeV (KB n₀ rb a w) w nd sv kv) {cs : Array Value} (hg : Blk w g 119 cs) (ha : g < a.heap.size) (h0 : a'.heap.size ≤ a.heap.size) : NodeV (KB n₀ rb a' (st9 w g c0 c1 c2 c3 c4 c5 c6 c7 c8)) (st9 w g c0 c1 c2 c3 c4 c5 c6 c7 c8) nd sv kv :=
  (h.st9 hg ha).low h0
theorem Blk.nine (h : Blk w g t #[x0, x1, x2, x3, x4, x5, x6, x7, x8]) : w.cell? ⟨g, 0, none⟩ = some x0 ∧ w.cell? ⟨g, 1, none⟩ = some x1 ∧ w.cell? ⟨g, 2, none⟩ = some x2 ∧ w.cell? ⟨g, 3, none⟩ = some x3 ∧ w.cell? ⟨g, 4, none⟩ = some x4 ∧
    w.cell? ⟨g, 5, none⟩ = some x5 ∧ w.cell? ⟨g, 6, none⟩ = some x6 ∧ w.cell? ⟨g, 7, none⟩ = some x7 ∧ w.cell? ⟨g, 8, none⟩ = some x8 :=
  ⟨h.cell 0, h.cell 1, h.cell 2, h.cell 3, h.cell 4, h.cell 5, h.cell 6, h.cell 7, h.cell 8⟩
theorem ret_pat {fn : Func} {Q : Ending → World → Prop} {a : Act} {b : Value} (hres : fn.results = #[.cell 2 119, .tmp 3]) (h2 : a.tmps.getD 2 undef = .pointer (some ⟨g, 0, none⟩)) (h3 : a.tmps.getD 3 undef = b) (hd : a.defers = [])
    (hB : Blk w g 119 #[c0, c1, c2, c3, c4, c5, c6, c7, c8]) (hQ : Q (.returned (.tuple #[.agg #[c0, c1, c2, c3, c4, c5, c6, c7, c8], b])) w) : bodyPost Tryz.prog fn Q Exit.ret a w := by
  obtain ⟨k0, k1, k2, k3, k4, k5, k6, k7, k8⟩ := hB.nine
  rw [Array.getD_eq_getD_getElem?] at h2 h3
  refine bodyPost_ret (v := .tuple #[.agg #[c0, c1, c2, c3, c4, c5, c6, c7, c8], b]) ?_ hd hQ
  simp [results, hres, go_sem, h2, h3, k0, k1, k2, k3, k4, k5, k6, k7, k8]
end

/-- What a whole pattern leaves. -/
def PPost (n₀ rb : Nat) (w : World) (r : Except Flt (Nd × Nat × Bool)) (e : Ending) (w' : World) : Prop :=
  match r with
  | .ok x => ∃ A1 A2 p1 p2, e = .returned (.tuple #[.agg #[.int .i64 x.1.kind, .int .i64 x.1.lo, .int .i64 x.1.hi, .int .i64 x.1.mode, .int .i64 x.1.ref, .slice A1 x.1.set.length p1, .slice A2 x.1.kids.length p2, .int .i64 (x.2.1 : Nat), .bool x.2.2], .bool true]) ∧
      NodeV (KB n₀ rb w w') w' x.1 (.slice A1 x.1.set.length p1) (.slice A2 x.1.kids.length p2) ∧ Fr n₀ rb w w'
  | .error f => e = .returned (.tuple #[.agg zero9, .bool false]) ∧ Bad w' rb f ∧ Fr n₀ rb w w'
def patClose (fold : Bool) (ra : R) : Except Flt (Nd × Nat × Bool) :=
  match ra with
  | .error e => .error e
  | .ok (r, σ) => ended fold r σ
theorem begins_len (s : List UInt8) : (begins s).t.length ≤ s.length := by
  unfold begins
  split <;> simp

set_option maxRecDepth 100000 in
set_option maxHeartbeats 2000000 in
theorem pattern_any (N : Nat) (hN : 4 * s.length + 2 ≤ N) (h0 : σ = { pos := 0, t := s, g := 0, bk := [] }) (hR : Rd n₀ rb tb cap s w σ 0 fc fa bv) :
    Calls Tryz.prog 66 #[.pointer (some ⟨rb, 0, none⟩)] w (PPost n₀ rb w (patClose (foldAt s) (run N 0 0 [] (begins s)))) := by
  have hrl := hR.blk.lt
  have hlow := hR.low
  have HR := Lib.hid hR
  have HR0 := Lib.hid (hR.alloc (.cells zero9 119))
  have HB0 := Lib.hid (Blk.new w 119 zero9)
  have HF0 : Hid (Fr n₀ rb w (w.alloc (.cells zero9 119))) := Lib.hid ((Fr.refl w).alloc _)
  have HT : Hid (Calls Tryz.prog 75 #[.pointer (some ⟨rb, 0, none⟩), .string ⟨[40, 63, 105, 41].toArray⟩] (w.alloc (.cells zero9 119)) fun e w' => e = .returned (.bool (foldAt s)) ∧ Rd n₀ rb tb cap s w' (begins s) 0 fc fa bv ∧ Fr n₀ rb (w.alloc (.cells zero9 119)) w') := Lib.hid (by
    cases hf : foldAt s with
    | true =>
      have hb : begins s = σ.adv 4 := by unfold begins; rw [if_pos hf, h0]; rfl
      rw [hb]
      exact take_yes [40, 63, 105, 41] (by rw [h0]; exact hf) HR0.out
    | false =>
      have hb : begins s = σ := by unfold begins; rw [if_neg (by rw [hf]; decide), h0]
      rw [hb]
      exact (take_no [40, 63, 105, 41] (by rw [h0]; exact hf) HR0.out).mono fun _ _ ⟨h1, h2⟩ => ⟨h1, HR0.out.on h2, Fr.of_below h2⟩)
  have HA := Lib.hid (fun W (hW : Rd n₀ rb tb cap s W (begins s) 0 fc fa bv) => (all_any (n₀ := n₀) (rb := rb) (tb := tb) (cap := cap) (s := s) (fc := fc) (fa := fa) N).1.1 0 (begins s) W bv (by have := begins_len s; omega) hW)
  obtain ⟨fo, hfo⟩ : ∃ fo, fo = foldAt s := ⟨_, rfl⟩
  obtain ⟨ra, hra⟩ : ∃ ra, ra = run N 0 0 [] (begins s) := ⟨_, rfl⟩
  rw [← hfo] at HT ⊢
  rw [← hra] at HA ⊢
  clear hfo hra hR h0 hN
  go_enter Tryz.func66, Tryz.ntmps66
  go_wp2_with fail
  refine HT.out.mono ?_
  rintro e w1 ⟨rfl, hR1, hF1⟩
  have HB1 := Lib.hid (hF1.blk HR0.out HB0.out (by decide) (by decide))
  have HR1 := Lib.hid hR1
  have hF := HF0.out.trans hF1
  have h01 : w.heap.size < w1.heap.size := HB1.out.lt
  clear hR1 hF1
  go_wp2_with fail
  refine (HA.out _ HR1.out).mono ?_
  rintro e w2 hP2
  cases ra with
  | error f =>
    obtain ⟨rfl, hB, hF2⟩ := hP2
    unfold zeros
    have hB2 := (hF2.blk HR1.out HB1.out (by decide) (by decide)).alloc (.cells zeros 117)
    have hz := hB2.nine
    have hfz := hB2.frozen
    unfold zeros at hz hfz
    go_wp2
    exact ret_pat rfl rfl rfl rfl (st9_blk hB2) ⟨rfl, (hB.alloc _).st9 (by omega), ((hF.trans hF2).alloc _).st9 hlow (Nat.le_refl _)⟩
  | ok y =>
    obtain ⟨nd, σ2⟩ := y
    obtain ⟨sv, kv, bv2, rfl, hNd, hR2, hF2⟩ := hP2
    obtain ⟨A1, A2, p1, p2, rfl, rfl⟩ := hNd.lens
    simp only at hR2 hNd
    have hw2 := hF2.size
    obtain ⟨nk, hnk⟩ : ∃ nk : Array Value, nk = #[.int .i64 nd.kind, .int .i64 nd.lo, .int .i64 nd.hi, .int .i64 nd.mode, .int .i64 nd.ref, .slice A1 nd.set.length p1, .slice A2 nd.kids.length p2] := ⟨_, rfl⟩
    have HB3 := Lib.hid ((hF2.blk HR1.out HB1.out (by decide) (by decide)).alloc (.cells nk 117))
    have HB5 := Lib.hid (Blk.new w2 117 nk)
    have HR3 := Lib.hid (hR2.alloc (.cells nk 117))
    have HN3 := Lib.hid (hNd.fr ((Fr.refl w2).alloc (.cells nk 117)))
    replace hF := (hF.trans hF2).alloc (.cells nk 117)
    have HE := Lib.hid (ended_any HR3.out)
    clear hNd hR2 hF2
    simp only [ndVal]
    subst hnk
    cases hen : σ2.t.isEmpty with
    | false =>
      have hpc : Hid (patClose fo (.ok (nd, σ2)) = .error (20, σ2.pos)) := Lib.hid (by show ended fo nd σ2 = _; unfold ended; rw [hen]; rfl)
      rw [hen] at HE
      clear hen
      go_wp2_with fail
      refine HE.out.mono ?_
      rintro e w4 ⟨rfl, hb4⟩
      have HR4 := Lib.hid (HR3.out.on hb4)
      have HB4 := Lib.hid (HB3.out.on hb4)
      have c1 := HR4.out.c1
      go_wp2_with fail
      refine (refuse_bad 20 σ2.pos HR4.out).mono ?_
      rintro e w5 ⟨rfl, hB, hF5⟩
      have hB5 := hF5.blk HR4.out HB4.out (by decide) (by decide)
      have hz := hB5.nine
      have hfz := hB5.frozen
      go_wp2
      exact ret_pat rfl rfl rfl rfl (st9_blk hB5) (by
        rw [hpc.out]
        exact ⟨rfl, hB.st9 (by omega), ((hF.trans (Fr.of_below hb4)).trans hF5).st9 hlow (Nat.le_refl _)⟩)
    | true =>
      have hpc0 : patClose fo (.ok (nd, σ2)) = (match σ2.bk.find? fun b => decide (σ2.g < b.1) with | some b => .error (26, b.2) | none => .ok (nd, σ2.g, fo)) := by show ended fo nd σ2 = _; unfold ended; rw [hen]; rfl
      have HCb := Lib.hid (fun W (hW : Rd n₀ rb tb cap s W σ2 0 fc fa bv2) => checkBacks_any hW)
      obtain ⟨rc, hrc⟩ : ∃ rc, rc = σ2.bk.find? fun b => decide (σ2.g < b.1) := ⟨_, rfl⟩
      rw [← hrc] at HCb hpc0
      rw [hen] at HE
      have HPC := Lib.hid hpc0
      clear hen hpc0 hrc
      go_wp2_with fail
      refine HE.out.mono ?_
      rintro e w4 ⟨rfl, hb4⟩
      have HR4 := Lib.hid (HR3.out.on hb4)
      have HB4 := Lib.hid (HB3.out.on hb4)
      have HB54 := Lib.hid (HB5.out.on hb4)
      have HN4 := Lib.hid (HN3.out.fr (Fr.of_below hb4))
      replace hF := hF.trans (Fr.of_below hb4)
      have h52 : w2.heap.size ≠ w.heap.size := by omega
      clear hb4 HB3 HB5 HR3 HN3
      go_wp2_with fail
      refine (HCb.out _ HR4.out).mono ?_
      rintro e w5 hP5
      cases rc with
      | some b =>
        obtain ⟨rfl, hB, hF5⟩ := hP5
        have hpc := HPC.out
        simp only at hpc
        have HPC2 := Lib.hid hpc
        have hB5 := hF5.blk HR4.out HB4.out (by decide) (by decide)
        have hz := hB5.nine
        have hfz := hB5.frozen
        clear hpc
        go_wp2
        exact ret_pat rfl rfl rfl rfl (st9_blk hB5) (by
          rw [HPC2.out]
          exact ⟨rfl, hB.st9 (by omega), (hF.trans hF5).st9 hlow (Nat.le_refl _)⟩)
      | none =>
        obtain ⟨rfl, hb5⟩ := hP5
        have hpc := HPC.out
        simp only at hpc
        have HPC2 := Lib.hid hpc
        have HR5 := Lib.hid (HR4.out.on hb5)
        have HB5 := Lib.hid (HB4.out.on hb5)
        have HB55 := Lib.hid (HB54.out.on hb5)
        have HN5 := Lib.hid (HN4.out.fr (Fr.of_below hb5))
        replace hF := hF.trans (Fr.of_below hb5)
        have hrne : rb ≠ w.heap.size := by omega
        clear hpc hb5
        go_upto_region 9 with (fail)
        refine wp_region_held_drew (S := fun W => Blk W w2.heap.size 117 #[.int .i64 nd.kind, .int .i64 nd.lo, .int .i64 nd.hi, .int .i64 nd.mode, .int .i64 nd.ref, .slice A1 nd.set.length p1, .slice A2 nd.kids.length p2] ∧ W.cell? ⟨rb, 3, none⟩ = some (.int .i64 (σ2.g : Nat))) (by kernel_rfl) ⟨HB55.out, HR5.out.c3⟩ (fun hHeld => ?_)
        have HB6 : Hid (Blk w5.drew w.heap.size 119 zero9) := Lib.hid HB5.out
        have HB56 : Hid (Blk w5.drew w2.heap.size 117 #[.int .i64 nd.kind, .int .i64 nd.lo, .int .i64 nd.hi, .int .i64 nd.mode, .int .i64 nd.ref, .slice A1 nd.set.length p1, .slice A2 nd.kids.length p2]) := Lib.hid HB55.out
        have HR6 := Lib.hid HR5.out.drew
        have HN6 : Hid (NodeV (KB n₀ rb w1 w5.drew) w5.drew nd (.slice A1 nd.set.length p1) (.slice A2 nd.kids.length p2)) := Lib.hid (HN5.out.fr ((Fr.refl w5).drewN 1))
        replace hF : Fr n₀ rb w w5.drew := hF.drewN 1
        clear HB5 HB55 HR5 HN5
        generalize w5.drew = W6 at HB6 HB56 HR6 HN6 hF hHeld ⊢
        refine take_d 0 31 (.agg #[.int .i64 nd.kind, .int .i64 nd.lo, .int .i64 nd.hi, .int .i64 nd.mode, .int .i64 nd.ref, .slice A1 nd.set.length p1, .slice A2 nd.kids.length p2]) _ rfl rfl (by kernel_rfl) (by kernel_rfl) (by kernel_rfl) (fun _ _ _ h => h) (Or.inl ⟨by rfl, fun w' hSw => ?_⟩) hHeld ?_
        · have hS7 := Blk.seven hSw.1
          have hS3 := hSw.2
          clear hSw
          go_simp
        simp only [List.setIfInBounds_toArray, List.set_cons_zero, List.set_cons_succ]
        refine take_d 1 32 (.pointer (some ⟨rb, 0, none⟩)) _ rfl rfl (by kernel_rfl) (by kernel_rfl) (by kernel_rfl) (fun _ _ _ h => h) (Or.inl ⟨by rfl, fun w' hSw => ?_⟩) hHeld ?_
        · go_simp
        simp only [List.setIfInBounds_toArray, List.set_cons_zero, List.set_cons_succ]
        refine take_d 2 33 (.pointer (some ⟨rb, 0, none⟩)) _ rfl rfl (by kernel_rfl) (by kernel_rfl) (by kernel_rfl) (fun _ _ _ h => h) (Or.inl ⟨by rfl, fun w' hSw => ?_⟩) hHeld ?_
        · go_simp
        simp only [List.setIfInBounds_toArray, List.set_cons_zero, List.set_cons_succ]
        refine take_d 3 34 (.pointer (some ⟨rb, 3, none⟩)) _ rfl rfl (by kernel_rfl) (by kernel_rfl) (by kernel_rfl) (fun _ _ _ h => h) (Or.inl ⟨by rfl, fun w' hSw => ?_⟩) hHeld ?_
        · go_simp
        simp only [List.setIfInBounds_toArray, List.set_cons_zero, List.set_cons_succ]
        refine take_d 4 35 (.int .i64 (σ2.g : Nat)) _ rfl rfl (by kernel_rfl) (by kernel_rfl) (by kernel_rfl) (fun _ _ _ h => h) (Or.inl ⟨by rfl, fun w' hSw => ?_⟩) hHeld ?_
        · have hS7 := Blk.seven hSw.1
          have hS3 := hSw.2
          clear hSw
          go_simp
        simp only [List.setIfInBounds_toArray, List.set_cons_zero, List.set_cons_succ]
        refine take_d 5 36 (.bool fo) _ rfl rfl (by kernel_rfl) (by kernel_rfl) (by kernel_rfl) (fun _ _ _ h => h) (Or.inl ⟨by rfl, fun w' hSw => ?_⟩) hHeld ?_
        · go_simp
        simp only [List.setIfInBounds_toArray, List.set_cons_zero, List.set_cons_succ]
        refine take_d 6 37 (.agg #[.int .i64 nd.kind, .int .i64 nd.lo, .int .i64 nd.hi, .int .i64 nd.mode, .int .i64 nd.ref, .slice A1 nd.set.length p1, .slice A2 nd.kids.length p2, .int .i64 (σ2.g : Nat), .bool fo]) _ rfl rfl (by kernel_rfl) (by kernel_rfl) (by kernel_rfl) (fun _ _ _ h => h) (Or.inl ⟨by rfl, fun w' hSw => ?_⟩) hHeld ?_
        · go_simp
        simp only [List.setIfInBounds_toArray, List.set_cons_zero, List.set_cons_succ]
        have hz := HB6.out.nine
        have hfz := HB6.out.frozen
        refine wpAnyH_ready (rs := [7]) (by kernel_rfl) (by simp) ?_
        refine AllReadyH.cons rfl (fun K hK => ?_) AllReadyH.nil
        go_simp
        refine hK.out _ _ ⟨HB56.out.st9 h52, (cell_same (st9_heap hrne) 3).trans HR6.out.c3⟩ (fun hHeld => ?_)
        clear hK K
        refine take_d 8 3 (.bool true) _ rfl rfl (by kernel_rfl) (by kernel_rfl) (by kernel_rfl) (fun _ _ _ h => h) (Or.inl ⟨by rfl, fun w' hSw => ?_⟩) hHeld ?_
        · go_simp
        simp only [List.setIfInBounds_toArray, List.set_cons_zero, List.set_cons_succ]
        refine wpAnyH_done (by kernel_rfl) ?_ _
        clear hHeld hz hfz
        go_wp2
        exact ret_pat rfl rfl rfl rfl (st9_blk HB6.out) (by
          rw [HPC2.out]
          exact ⟨_, _, _, _, rfl, node_st9e HN6.out HB6.out h01 (Nat.le_of_lt h01), hF.st9 hlow (Nat.le_refl _)⟩)

end Go.Proofs.YtefgobmpleoafaaGreatDoor

/- Parse, of any text. -/
namespace Go.Proofs.YtefgobmpleoafaaGreatDoor
open Go.RowKit
variable {n₀ rb tb cap d : Nat} {s : List UInt8} {w w' : World} {σ σ1 : St} {fc fa : Int} {bv v : Value}

def zero2 : Array Value := #[.int .i64 0, .int .i64 0]
def pCells (nd : Nd) (A1 A2 : Option Addr) (p1 p2 g : Nat) (fo : Bool) : Array Value := #[.int .i64 nd.kind, .int .i64 nd.lo, .int .i64 nd.hi, .int .i64 nd.mode, .int .i64 nd.ref, .slice A1 nd.set.length p1, .slice A2 nd.kids.length p2, .int .i64 (g : Nat), .bool fo]
/-- What Parse gives. -/
def ParsePost (w : World) (r : Except Flt (Nd × Nat × Bool)) (e : Ending) (w' : World) : Prop :=
  match r with
  | .ok x => ∃ A1 A2 p1 p2, e = .returned (.tuple #[.agg (pCells x.1 A1 A2 p1 p2 x.2.1 x.2.2), .agg #[.int .i64 0, .int .i64 0]]) ∧
      NodeV (fun b => b < w'.heap.size) w' x.1 (.slice A1 x.1.set.length p1) (.slice A2 x.1.kids.length p2) ∧ Below w.heap.size w w'
  | .error f => e = .returned (.tuple #[.agg zero9, .agg #[.int .i64 (f.1 : Nat), .int .i64 (f.2 : Nat)]]) ∧ Below w.heap.size w w'
theorem parse_pat (N : Nat) (s : List UInt8) (h : ¬ 256 < s.length) : parse N s = patClose (foldAt s) (run N 0 0 [] (begins s)) := by
  unfold parse
  rw [if_neg h]
  rfl
theorem ret_two {g h : Nat} {c0 c1 c2 c3 c4 c5 c6 c7 c8 d0 d1 : Value} {fn : Func} {Q : Ending → World → Prop} {a : Act} (hres : fn.results = #[.cell 2 119, .cell 3 121]) (h2 : a.tmps.getD 2 undef = .pointer (some ⟨g, 0, none⟩)) (h3 : a.tmps.getD 3 undef = .pointer (some ⟨h, 0, none⟩)) (hd : a.defers = [])
    (hB : Blk w g 119 #[c0, c1, c2, c3, c4, c5, c6, c7, c8]) (hC : Blk w h 121 #[d0, d1]) (hQ : Q (.returned (.tuple #[.agg #[c0, c1, c2, c3, c4, c5, c6, c7, c8], .agg #[d0, d1]])) w) : bodyPost Tryz.prog fn Q Exit.ret a w := by
  obtain ⟨k0, k1, k2, k3, k4, k5, k6, k7, k8⟩ := hB.nine
  have m0 := hC.cell 0
  have m1 := hC.cell 1
  simp at m0 m1
  rw [Array.getD_eq_getD_getElem?] at h2 h3
  refine bodyPost_ret (v := .tuple #[.agg #[c0, c1, c2, c3, c4, c5, c6, c7, c8], .agg #[d0, d1]]) ?_ hd hQ
  simp [results, hres, go_sem, h2, h3, k0, k1, k2, k3, k4, k5, k6, k7, k8, m0, m1]

set_option maxRecDepth 100000 in
set_option maxHeartbeats 1000000 in
theorem parse_long (N : Nat) (h : 256 < s.length) (hm : s.length ≤ 1000000) : Calls Tryz.prog 51 #[.string ⟨s.toArray⟩] w (ParsePost w (parse N s)) := by
  have e : parse N s = .error (12, 0) := by unfold parse; rw [if_pos h]
  rw [e]
  obtain ⟨x, hx⟩ : ∃ x : ByteArray, x = ⟨s.toArray⟩ := ⟨_, rfl⟩
  have hxs : x.size = s.length := by rw [hx]; rfl
  have h1 : 256 < x.size := by omega
  have h1' : (256 : Int) < (x.size : Int) := by omega
  have h2 : x.size ≤ 1000000 := by omega
  rw [← hx]
  clear hx hxs e
  go_enter Tryz.func51, Tryz.ntmps51
  go_wp2
  have hB : Blk ((w.alloc (.cells zero9 119)).alloc (.cells #[.int .i64 12, .int .i64 0] 121)) w.heap.size 119 zero9 := (Blk.new w 119 zero9).alloc _
  have hC : Blk ((w.alloc (.cells zero9 119)).alloc (.cells #[.int .i64 12, .int .i64 0] 121)) (w.heap.size + 1) 121 #[.int .i64 12, .int .i64 0] := Blk.new_at _ _ (by simp) 121 _
  exact ret_two rfl rfl rfl rfl hB hC ⟨rfl, ((Below.refl _ _).alloc (Nat.le_refl _) _).alloc (by simp) _⟩

theorem rd_start (w : World) (s : List UInt8) (hT : TabsAt n₀ w) (hn : n₀ ≤ w.heap.size) (hl : s.length ≤ 256) :
    Rd n₀ ((Lib.bytesWorld w 5 ⟨s.toArray⟩).heap.size) w.heap.size (grownCap w s.length 0 5) s ((Lib.bytesWorld w 5 ⟨s.toArray⟩).alloc (.cells #[.slice (some ⟨w.heap.size, 0, none⟩) s.length (grownCap w s.length 0 5), .int .i64 0, .int .i64 0, .int .i64 0, .slice none 0 0, .int .i64 0, .int .i64 0] 140)) { pos := 0, t := s, g := 0, bk := [] } 0 0 0 (.slice none 0 0) := by
  have hsz := Lib.bytesWorld_size w 5 ⟨s.toArray⟩
  have hnew := Lib.bytesWorld_at_new w 5 ⟨s.toArray⟩
  have hb := conv_below w ⟨s.toArray⟩
  have hal : ∀ i, i < (Lib.bytesWorld w 5 ⟨s.toArray⟩).heap.size → ((Lib.bytesWorld w 5 ⟨s.toArray⟩).alloc (.cells #[.slice (some ⟨w.heap.size, 0, none⟩) s.length (grownCap w s.length 0 5), .int .i64 0, .int .i64 0, .int .i64 0, .slice none 0 0, .int .i64 0, .int .i64 0] 140)).heap[i]? = (Lib.bytesWorld w 5 ⟨s.toArray⟩).heap[i]? := fun i hi => Below.heap_alloc _ _ i hi
  refine ⟨Blk.new _ _ _, fun j hj => ?_, ⟨_, _, (hal _ (by omega)).trans hnew⟩, ⟨grownCap_ge _ _, hl⟩, World.ownsRow_nil _ _ _ _, Nat.zero_le _, rfl, ⟨by omega, by simp, by simp⟩, by rw [hsz]; omega, ?_⟩
  · rw [cell_same (hal _ (by omega)) _]
    have := Lib.bytesWorld_cell w 5 ⟨s.toArray⟩ j (by simpa [ByteArray.size] using hj)
    rw [Nat.zero_add, this]
    simp [at_, List.getD_eq_getElem?_getD]
  · exact hT.below ((hb.mono hn).alloc (by omega) _)

def st2 (w : World) (g : Nat) (c0 c1 : Value) : World := (w.setCell ⟨g, 0, none⟩ c0).setCell ⟨g, 1, none⟩ c1
theorem st2_heap {g : Nat} {c0 c1 : Value} {i : Nat} (h : i ≠ g) : (st2 w g c0 c1).heap[i]? = w.heap[i]? := by
  unfold st2
  rw [Below.heap_setCell _ _ _ _ h, Below.heap_setCell _ _ _ _ h]
theorem st2_size {g : Nat} {c0 c1 : Value} : (st2 w g c0 c1).heap.size = w.heap.size := by simp [st2, World.setCell]
theorem st2_blk {g : Nat} {t : TypeId} {x0 x1 c0 c1 : Value} (h : Blk w g t #[x0, x1]) : Blk (st2 w g c0 c1) g t #[c0, c1] := by
  have := (h.set_ 0 c0).set_ 1 c1
  simpa [st2] using this
theorem st2_below {a : World} {B g : Nat} {c0 c1 : Value} (h : Below B a w) (hg : B ≤ g) : Below B a (st2 w g c0 c1) :=
  (h.setCell hg _).setCell hg _
theorem st9_below {a : World} {B g : Nat} {c0 c1 c2 c3 c4 c5 c6 c7 c8 : Value} (h : Below B a w) (hg : B ≤ g) : Below B a (st9 w g c0 c1 c2 c3 c4 c5 c6 c7 c8) :=
  (((((((((h.setCell hg _).setCell hg _).setCell hg _).setCell hg _).setCell hg _).setCell hg _).setCell hg _).setCell hg _).setCell hg _)

theorem node_two {a : World} {nd : Nd} {sv kv : Value} {g g' : Nat} {cs cs' : Array Value} {c0 c1 c2 c3 c4 c5 c6 c7 c8 d0 d1 : Value} (h : NodeV (KB n₀ rb a w) w nd sv kv) (hg : Blk w g 119 cs) (hh : Blk w g' 121 cs') (ha : g < a.heap.size) (hb : g' < a.heap.size) :
    NodeV (fun b => b < (st2 (st9 w g c0 c1 c2 c3 c4 c5 c6 c7 c8) g' d0 d1).heap.size) (st2 (st9 w g c0 c1 c2 c3 c4 c5 c6 c7 c8) g' d0 d1) nd sv kv :=
  h.keep fun b hk => by
    have hne : b ≠ g := by
      rcases hk.2 with h1 | ⟨_, _, h1⟩
      · omega
      · exact ne_of_types h1 hg (by decide)
    have hne' : b ≠ g' := by
      rcases hk.2 with h1 | ⟨_, _, h1⟩
      · omega
      · exact ne_of_types h1 hh (by decide)
    exact ⟨by rw [st2_size, st9_size]; exact hk.1.1, (st2_heap hne').trans (st9_heap hne)⟩

set_option maxRecDepth 100000 in
set_option maxHeartbeats 2000000 in
theorem parse_short (N : Nat) (hN : 1026 ≤ N) (h : ¬ 256 < s.length) (hT : TabsAt w.heap.size w) : Calls Tryz.prog 51 #[.string ⟨s.toArray⟩] w (ParsePost w (parse N s)) := by
  rw [parse_pat N s h]
  have hb1 : Below w.heap.size w ((w.alloc (.cells zero9 119)).alloc (.cells zero2 121)) := ((Below.refl _ _).alloc (Nat.le_refl _) _).alloc (by simp) _
  have HRd := Lib.hid (rd_start (n₀ := w.heap.size) ((w.alloc (.cells zero9 119)).alloc (.cells zero2 121)) s (hT.below hb1) (by simp; omega) (by omega))
  have HB := Lib.hid (((Blk.new w 119 zero9).alloc (.cells zero2 121)).on (conv_below _ ⟨s.toArray⟩))
  have HC := Lib.hid ((Blk.new_at (w.alloc (.cells zero9 119)) (w.heap.size + 1) (by simp) 121 zero2).on (conv_below _ ⟨s.toArray⟩))
  have hb2 := hb1.trans ((conv_below ((w.alloc (.cells zero9 119)).alloc (.cells zero2 121)) ⟨s.toArray⟩).mono hb1.size)
  have HP := Lib.hid (fun rb tb cap W (hW : Rd w.heap.size rb tb cap s W { pos := 0, t := s, g := 0, bk := [] } 0 0 0 (.slice none 0 0)) => pattern_any N (by omega) rfl hW)
  obtain ⟨r, hr⟩ : ∃ r, r = patClose (foldAt s) (run N 0 0 [] (begins s)) := ⟨_, rfl⟩
  rw [← hr] at HP ⊢
  obtain ⟨x, hx⟩ : ∃ x : ByteArray, x = ⟨s.toArray⟩ := ⟨_, rfl⟩
  have hxs : s.length = x.size := by rw [hx]; rfl
  rw [← hx] at HRd HB HC hb2 ⊢
  rw [hxs] at HRd h
  have h1' : ¬ (256 : Int) < (x.size : Int) := by omega
  have kc := conv_run
  have hsz := Lib.bytesWorld_size ((w.alloc (.cells zero9 119)).alloc (.cells zero2 121)) 5 x
  clear hr hx hT hb1
  go_enter Tryz.func51, Tryz.ntmps51
  go_upto_region 4 with (fail)
  unfold zero9 zero2 at HRd HB HC hb2 hsz
  have hs2 : ((w.alloc (.cells #[.int .i64 0, .int .i64 0, .int .i64 0, .int .i64 0, .int .i64 0, .slice none 0 0, .slice none 0 0, .int .i64 0, .bool false] 119)).alloc (.cells #[.int .i64 0, .int .i64 0] 121)).heap.size = w.heap.size + 1 + 1 := by simp
  rw [hs2] at HRd hsz
  have hB0 := HB.out
  have hC0 := HC.out
  generalize ((w.alloc (.cells #[.int .i64 0, .int .i64 0, .int .i64 0, .int .i64 0, .int .i64 0, .slice none 0 0, .slice none 0 0, .int .i64 0, .bool false] 119)).alloc (.cells #[.int .i64 0, .int .i64 0] 121)) = w1 at *
  obtain ⟨W, hW⟩ : ∃ W, W = (Lib.bytesWorld w1 5 x).alloc (.cells #[.slice (some ⟨w.heap.size + 1 + 1, 0, none⟩) x.size (grownCap w1 x.size 0 5), .int .i64 0, .int .i64 0, .int .i64 0, .slice none 0 0, .int .i64 0, .int .i64 0] 140) := ⟨_, rfl⟩
  have hBW : Blk W w.heap.size 119 #[.int .i64 0, .int .i64 0, .int .i64 0, .int .i64 0, .int .i64 0, .slice none 0 0, .slice none 0 0, .int .i64 0, .bool false] := by rw [hW]; exact hB0.alloc _
  have hCW : Blk W (w.heap.size + 1) 121 #[.int .i64 0, .int .i64 0] := by rw [hW]; exact hC0.alloc _
  have hbW : Below w.heap.size w W := by rw [hW]; exact hb2.alloc hb2.size _
  rw [← hW] at HRd ⊢
  generalize (Lib.bytesWorld w1 5 x).heap.size = rb at HRd ⊢
  generalize grownCap w1 x.size 0 5 = cap at HRd ⊢
  have hg1 : w.heap.size ≠ w.heap.size + 1 := by omega
  clear hW hB0 hC0 HB HC hb2 hsz hs2 h1' kc
  go_wp2_with fail
  refine (HP.out _ _ _ _ HRd.out).mono ?_
  rintro e w2 hP2
  have hlow := HRd.out.low
  cases r with
  | error f =>
    obtain ⟨rfl, hB, hF2⟩ := hP2
    unfold zero9
    have HB3 := Lib.hid ((hF2.blk HRd.out hBW (by decide) (by decide)).alloc (.cells #[.int .i64 0, .int .i64 0, .int .i64 0, .int .i64 0, .int .i64 0, .slice none 0 0, .slice none 0 0, .int .i64 0, .bool false] 119))
    have HC3 := Lib.hid ((hF2.blk HRd.out hCW (by decide) (by decide)).alloc (.cells #[.int .i64 0, .int .i64 0, .int .i64 0, .int .i64 0, .int .i64 0, .slice none 0 0, .slice none 0 0, .int .i64 0, .bool false] 119))
    have hbF : Below w.heap.size w w2 := hbW.trans (hF2.old (Nat.le_trans (by simp) hbW.size))
    have HF3 := Lib.hid (hbF.alloc hbF.size (.cells #[.int .i64 0, .int .i64 0, .int .i64 0, .int .i64 0, .int .i64 0, .slice none 0 0, .slice none 0 0, .int .i64 0, .bool false] 119))
    have hBad := hB.alloc (.cells #[.int .i64 0, .int .i64 0, .int .i64 0, .int .i64 0, .int .i64 0, .slice none 0 0, .slice none 0 0, .int .i64 0, .bool false] 119)
    have hr1 : rb ≠ w.heap.size := HRd.out.blk.ne_ hBW (by decide)
    have hr2 : rb ≠ w.heap.size + 1 := HRd.out.blk.ne_ hCW (by decide)
    clear HRd hBW hCW hbW hB hF2 HP hbF
    go_upto_region 6 with (fail)
    generalize w2.alloc (.cells #[.int .i64 0, .int .i64 0, .int .i64 0, .int .i64 0, .int .i64 0, .slice none 0 0, .slice none 0 0, .int .i64 0, .bool false] 119) = w3 at *
    refine wp_region_held_drew (S := fun W => Bad W rb f) (by kernel_rfl) hBad (fun hHeld => ?_)
    have hB4 : Blk w3.drew w.heap.size 119 #[.int .i64 0, .int .i64 0, .int .i64 0, .int .i64 0, .int .i64 0, .slice none 0 0, .slice none 0 0, .int .i64 0, .bool false] := HB3.out
    have hC4 : Blk w3.drew (w.heap.size + 1) 121 #[.int .i64 0, .int .i64 0] := HC3.out
    have hF4 : Below w.heap.size w w3.drew := HF3.out.drew
    have hBad4 : Bad w3.drew rb f := hBad
    clear HB3 HC3 HF3 hBad
    generalize w3.drew = W4 at *
    have HB4 := Lib.hid hB4
    have HC4 := Lib.hid hC4
    have HF4 := Lib.hid hF4
    have HBad4 := Lib.hid hBad4
    clear hB4 hC4 hF4 hBad4
    refine take_d 0 21 (.agg #[.int .i64 0, .int .i64 0, .int .i64 0, .int .i64 0, .int .i64 0, .slice none 0 0, .slice none 0 0, .int .i64 0, .bool false]) _ rfl rfl (by kernel_rfl) (by kernel_rfl) (by kernel_rfl) (fun _ _ _ h => h) (Or.inl ⟨by rfl, fun w' hSw => ?_⟩) hHeld ?_
    · go_simp
    simp only [List.setIfInBounds_toArray, List.set_cons_zero, List.set_cons_succ]
    refine take_d 1 22 (.pointer (some ⟨rb, 5, none⟩)) _ rfl rfl (by kernel_rfl) (by kernel_rfl) (by kernel_rfl) (fun _ _ _ h => h) (Or.inl ⟨by rfl, fun w' hSw => ?_⟩) hHeld ?_
    · go_simp
    simp only [List.setIfInBounds_toArray, List.set_cons_zero, List.set_cons_succ]
    refine take_d 2 23 (.agg #[.int .i64 (f.1 : Nat), .int .i64 (f.2 : Nat)]) _ rfl rfl (by kernel_rfl) (by kernel_rfl) (by kernel_rfl) (fun _ _ _ h => h) (Or.inl ⟨by rfl, fun w' hSw => ?_⟩) hHeld ?_
    · have hS5 := hSw.1
      have hS6 := hSw.2
      clear hSw
      go_simp
    simp only [List.setIfInBounds_toArray, List.set_cons_zero, List.set_cons_succ]
    have hz := HB4.out.nine
    have hfz := HB4.out.frozen
    refine wpAnyH_ready (rs := [3]) (by kernel_rfl) (by simp) ?_
    refine AllReadyH.cons rfl (fun K hK => ?_) AllReadyH.nil
    go_simp
    refine hK.out _ _ (HBad4.out.st9 hr1) (fun hHeld => ?_)
    clear hK K
    have HB5 : Hid (Blk (st9 W4 w.heap.size (.int .i64 0) (.int .i64 0) (.int .i64 0) (.int .i64 0) (.int .i64 0) (.slice none 0 0) (.slice none 0 0) (.int .i64 0) (.bool false)) w.heap.size 119 _) := Lib.hid (st9_blk HB4.out)
    have hC5 : Blk (st9 W4 w.heap.size (.int .i64 0) (.int .i64 0) (.int .i64 0) (.int .i64 0) (.int .i64 0) (.slice none 0 0) (.slice none 0 0) (.int .i64 0) (.bool false)) (w.heap.size + 1) 121 #[.int .i64 0, .int .i64 0] := HC4.out.st9 hg1.symm
    have HF5 : Hid (Below w.heap.size w (st9 W4 w.heap.size (.int .i64 0) (.int .i64 0) (.int .i64 0) (.int .i64 0) (.int .i64 0) (.slice none 0 0) (.slice none 0 0) (.int .i64 0) (.bool false))) := Lib.hid (st9_below HF4.out (Nat.le_refl _))
    clear hz hfz HB4 HC4 HF4
    obtain ⟨W5, hW5⟩ : ∃ W5, W5 = st9 W4 w.heap.size (.int .i64 0) (.int .i64 0) (.int .i64 0) (.int .i64 0) (.int .i64 0) (.slice none 0 0) (.slice none 0 0) (.int .i64 0) (.bool false) := ⟨_, rfl⟩
    have hHeld5 : Bad W5 rb f := by rw [hW5]; exact HBad4.out.st9 hr1
    rw [← hW5] at HB5 hC5 HF5
    unfold st9 st7 at hW5
    rw [← hW5]
    have HBad5 := Lib.hid hHeld5
    clear hHeld hHeld5 hW5 HBad4
    have hHeld := HBad5.out
    have HC5 := Lib.hid hC5
    have hz0 := hC5.cell 0
    have hz1 := hC5.cell 1
    simp at hz0 hz1
    have hfz := hC5.frozen
    clear hC5
    have hr2' : rb ≠ w.heap.size + 1 := hr2
    refine wpAnyH_ready (rs := [4]) (by kernel_rfl) (by simp) ?_
    refine AllReadyH.cons rfl (fun K hK => ?_) AllReadyH.nil
    go_simp
    refine hK.out _ _ (HBad5.out.keep (st2_heap hr2')) (fun hHeld => ?_)
    clear hK K
    refine wpAnyH_done (by kernel_rfl) ?_ _
    clear hHeld hz0 hz1 hfz
    go_wp2
    exact ret_two rfl rfl rfl rfl ((st2_heap hg1).trans HB5.out) (st2_blk HC5.out) ⟨rfl, st2_below HF5.out (by omega)⟩
  | ok y =>
    obtain ⟨nd, g, fo⟩ := y
    obtain ⟨A1, A2, p1, p2, rfl, hNd, hF2⟩ := hP2
    simp only at hNd
    obtain ⟨nk, hnk⟩ : ∃ nk : Array Value, nk = #[.int .i64 nd.kind, .int .i64 nd.lo, .int .i64 nd.hi, .int .i64 nd.mode, .int .i64 nd.ref, .slice A1 nd.set.length p1, .slice A2 nd.kids.length p2, .int .i64 (g : Nat), .bool fo] := ⟨_, rfl⟩
    have HB3 := Lib.hid ((hF2.blk HRd.out hBW (by decide) (by decide)).alloc (.cells nk 119))
    have HC3 := Lib.hid ((hF2.blk HRd.out hCW (by decide) (by decide)).alloc (.cells nk 119))
    have hbF : Below w.heap.size w w2 := hbW.trans (hF2.old (Nat.le_trans (by simp) hbW.size))
    have HF3 := Lib.hid (hbF.alloc hbF.size (.cells nk 119))
    have HN3 := Lib.hid (hNd.fr ((Fr.refl w2).alloc (.cells nk 119)))
    have HK3 := Lib.hid (Blk.new w2 119 nk)
    have hsl : w.heap.size + 1 < W.heap.size := hCW.lt
    have hk1 : w2.heap.size ≠ w.heap.size := by have := hF2.size; omega
    have hk2 : w2.heap.size ≠ w.heap.size + 1 := by have := hF2.size; omega
    clear HRd hBW hCW hbW hNd hF2 HP hbF
    subst hnk
    go_upto_region 7 with (fail)
    generalize w2.alloc (.cells #[.int .i64 nd.kind, .int .i64 nd.lo, .int .i64 nd.hi, .int .i64 nd.mode, .int .i64 nd.ref, .slice A1 nd.set.length p1, .slice A2 nd.kids.length p2, .int .i64 (g : Nat), .bool fo] 119) = W3 at *
    have hk := HK3.out.nine
    have hb := HB3.out.nine
    have hfb := HB3.out.frozen
    have hc0 := HC3.out.cell 0
    have hc1 := HC3.out.cell 1
    simp at hc0 hc1
    have hfc := HC3.out.frozen
    go_wp2
    clear hk hb hfb hc0 hc1 hfc
    refine ret_two rfl rfl rfl rfl ((st2_heap hg1).trans (st9_blk HB3.out)) (st2_blk (HC3.out.st9 hg1.symm)) ?_
    exact ⟨A1, A2, p1, p2, rfl, node_two HN3.out HB3.out HC3.out (by omega) (by omega), st2_below (st9_below HF3.out (Nat.le_refl _)) (by omega)⟩

/-- Parse, of any text. -/
theorem parse_any (N : Nat) (hN : 1026 ≤ N) (hl : s.length ≤ 1000000) (hT : TabsAt w.heap.size w) : Calls Tryz.prog 51 #[.string ⟨s.toArray⟩] w (ParsePost w (parse N s)) := by
  by_cases h : 256 < s.length
  · exact parse_long N h hl
  · exact parse_short N hN h hT

end Go.Proofs.YtefgobmpleoafaaGreatDoor

