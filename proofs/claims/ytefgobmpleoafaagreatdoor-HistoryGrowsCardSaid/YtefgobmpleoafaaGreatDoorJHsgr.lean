/- Joined: HsQ, HsR, HsGw. -/
import Derived.Test.YtefgobmpleoafaaGreatDoorJHsN
import Derived.Test.YtefgobmpleoafaaGreatDoorJHsL
/- Layer 14's laws: a history that grows (begun for HistoryGrows). -/
namespace Go.Proofs.YtefgobmpleoafaaGreatDoor
open Go.RowKit Go.Maps
variable {w0 w w' : World} {X : Nat → Prop} {n₀ g : Nat} {H : Hs} {x : En}

theorem One.more (a : One n₀ w0 w X g H) (b : Below w.heap.size w w') : One n₀ w0 w' (fun i => X i ∨ Rg w.heap.size w'.heap.size i) g H := by
  obtain ⟨S, U, h1, h2, h3, h4, h5⟩ := a
  refine ⟨S, U, h1.on b, h2, fun i hi => ?_, h4, h5.trans (b.mono (Nat.le_trans h4 h5.size))⟩
  rcases hi with hi | hi
  · exact ⟨(h3 i hi).1, Nat.lt_of_lt_of_le (h3 i hi).2 b.size⟩
  · exact ⟨fun e => by have := h1.old i e; have := hi.1; omega, hi.2⟩
/-- What a right entry does to the versions. -/
theorem Hs.put_vs (hx : x.ok = true) :
    (¬ H.twice x ∧ (H.chg pvM x).2.1 = 0 ∧ H.outA x = ⟨(H.vs.length : Int), 0, 0, 0⟩ ∧ (H.put pvM x).vs = H.vs ++ [(H.chg pvM x).1]) ∨
    ((H.outA x).ve = 0 ∧ (H.outA x).co ≠ 0 ∧ (H.put pvM x).vs = H.vs ∧ ((H.outA x).co = 31 ∨ ((H.outA x).co, (H.outA x).ru, (H.outA x).at_) = (H.chg pvM x).2)) := by
  unfold Hs.outA
  rw [if_pos hx, Hs.put_ok hx]
  unfold Hs.out Hs.add
  by_cases h1 : H.twice x
  · simp only [if_pos h1]
    exact .inr ⟨trivial, by decide, trivial, .inl trivial⟩
  · simp only [if_neg h1]
    by_cases h2 : (H.chg pvM x).2.1 = 0
    · simp only [if_pos h2]
      exact .inl ⟨h1, h2, trivial, trivial⟩
    · simp only [if_neg h2]
      exact .inr ⟨trivial, h2, trivial, .inr trivial⟩
end Go.Proofs.YtefgobmpleoafaaGreatDoor

/- Layer 14's laws: the sets that a law gathers, beside a history. -/
namespace Go.Proofs.YtefgobmpleoafaaGreatDoor
open Go.RowKit Go.Maps
variable {w0 w w' : World} {X Y : Nat → Prop} {n₀ g : Nat} {H : Hs} {x : En}

/-- Two rows of unlike things lie in two blocks. -/
theorem own_ne2 {base base' : Nat} {e e' : TypeId} {size size' n n' : Nat} {v v' : Value} {xs xs' : List Value} (h : w.ownsRow base e size v n xs) (h' : w.ownsRow base' e' size' v' n' xs') (hne : e ≠ e') (i : Nat) (hi : v.ownBlock = some i) : v'.ownBlock ≠ some i := by
  rcases h'.2 with ⟨rfl, _⟩ | ⟨g, cap, cur, rfl, _, hh, _⟩
  · simp [Value.ownBlock]
  · intro e2
    obtain rfl : g = i := by simpa [Value.ownBlock] using e2
    exact own_ne h hh hne hi
theorem set_own (j k : Nat) (s : RS) (hk : H.vs.length = k + 1) (hs : H.vs[j]? = some s) (a : One n₀ w0 w X g H) : Calls Tryz.prog 20 #[.pointer (some ⟨g, 0, none⟩), .int .i64 (j : Int)] w fun e w' => ∃ A c, e = .returned (.tuple #[.agg #[.int .i64 s.de, .int .i64 s.cl, .int .i64 s.fu, .int .i64 s.st, .slice A s.rs.length c], .bool true]) ∧ OwnU w' w.heap.size 72 (.slice A s.rs.length c) s.rs ∧ (rulesM pvM s).1 = 0 ∧ s.rs.length ≤ 16 ∧ Below w.heap.size w w' := by
  obtain ⟨S, U, h1, _⟩ := a
  refine (set_in j k s hk hs h1).mono ?_
  rintro e w' ⟨A, c, rfl, ho, hb⟩
  exact ⟨A, c, rfl, ho, h1.ok.2 s (List.mem_of_getElem? hs), h1.ok.few (List.mem_of_getElem? hs), hb⟩
theorem add_u2 (x : En) (pv dv : Value) (a : OneU n₀ w0 w X g H) (hT : TabsAt n₀ w0) (he : EnF n₀ w0 x pv dv) (hl : H.vs.length ≤ 100000) (hn : H.n ≤ 1000000) :
    Calls Tryz.prog 15 #[.pointer (some ⟨g, 0, none⟩), x.val pv dv] w fun e w' => e = .returned (.tuple #[.agg #[.int .i64 (H.outA x).ve, .int .i64 (H.outA x).co, .int .i64 (H.outA x).ru, .int .i64 (H.outA x).at_], .int .i64 (Hs.errA x)]) ∧ OneU n₀ w0 w' X g (H.put pvM x) ∧ Kp14 X w w' := by
  have hw := a.low
  obtain ⟨S, U, h1, h2, h3, h4, h5⟩ := a
  have hx : ∀ i, X i → i < w.heap.size := fun i hi => h1.uold i (h3 i hi).2.1
  refine (add_any x pv dv w n₀ (tabs_on hT h5 (Nat.le_refl _)) hw h2 (fun w2 k2 => ((he w2 (h5.trans (k2.old hw h2))).1.more hw)) (fun w2 k2 => ((he w2 (h5.trans (k2.old hw h2))).2.more hw)) hl hn h1).mono ?_
  rintro e w' ⟨rfl, S', hs, ht, hf⟩
  exact ⟨rfl, ⟨S', _, ht, fun i hi => (hs i hi).elim (h2 i) (fun e => by omega), fun i hi => ⟨fun e => (hs i e).elim (h3 i hi).1 (fun e => by have := hx i hi; omega), .inl (h3 i hi).2.1, (h3 i hi).2.2⟩, h4, h5.trans (hf.old hw h2)⟩, fun i hi => hf.block i (hx i hi) (h3 i hi).1⟩
theorem OneU.grown {row : Option Nat} (a : OneU n₀ w0 w X g H) (k : w.grownBy w' row) (hr : ∀ i, row = some i → X i) : OneU n₀ w0 w' (fun i => X i ∨ Rg w.heap.size w'.heap.size i) g H := by
  have hlow := a.low
  obtain ⟨S, U, h1, h2, h3, h4, h5⟩ := a
  have hF : Fh (fun i => row = some i) w w' := (Fh.refl w).grown k fun i hi => .inl hi
  refine ⟨S, fun i => U i ∨ Rg w.heap.size w'.heap.size i, h1.fr hF (fun i hi e => (h3 i (hr i e)).1 hi) (fun i e => (h3 i (hr i e)).2.1) (fun i hi => hi.imp id (fun e => e.1)) (fun i hi => .inl (h1.wide i hi)) (fun i hi => ?_), h2, fun i hi => ?_, h4, h5.trans (hF.old hlow fun i e => (h3 i (hr i e)).2.2)⟩
  · rcases hi with hi | hi
    · exact Nat.lt_of_lt_of_le (h1.uold i hi) k.size
    · exact hi.2
  · rcases hi with hi | hi
    · exact ⟨(h3 i hi).1, .inl (h3 i hi).2.1, (h3 i hi).2.2⟩
    · exact ⟨fun e => by have := h1.old i e; have := hi.1; omega, .inr hi, by have := hi.1; omega⟩
theorem orow_low14 {base b : Nat} {e : TypeId} {size n : Nat} {v : Value} {xs : List Value} (h : w.ownsRow base e size v n xs) (hb : b ≤ base) : w.ownsRow b e size v n xs := ⟨h.1, h.2.imp id fun ⟨g, c, cur, e, q, r⟩ => ⟨g, c, cur, e, by omega, r⟩⟩
/-- Sets as the document has them, in a row of the law's own; all blocks are X's. -/
def XsV (X : Nat → Prop) (w : World) (v : Value) (l : List RS) : Prop :=
  ∃ L : List SeV, L.map (·.1) = l ∧ w.ownsRow 0 60 5 v L.length (seCells L) ∧ (∀ i, v.ownBlock = some i → X i) ∧ ∀ x ∈ L, OwnU w 0 96 x.2 x.1.rs ∧ ∀ i, x.2.ownBlock = some i → X i
theorem XsV.nil (X : Nat → Prop) (w : World) : XsV X w (.slice none 0 0) [] := ⟨[], rfl, World.ownsRow_nil _ _ _ _, (fun i h => by cases h), (fun x h => by cases h)⟩
theorem XsV.kept {v : Value} {l : List RS} (h : XsV X w v l) (k : Kp14 X w w') : XsV X w' v l := by
  obtain ⟨L, h1, h2, h3, h4⟩ := h
  exact ⟨L, h1, own_keep h2 fun i hi => k i (h3 i hi.symm), h3, fun x hx => ⟨own_keep (h4 x hx).1 fun i hi => k i ((h4 x hx).2 i hi.symm), (h4 x hx).2⟩⟩
theorem XsV.on {v : Value} {l : List RS} (h : XsV X w v l) (b : Below w.heap.size w w') : XsV X w' v l := by
  obtain ⟨L, h1, h2, h3, h4⟩ := h
  exact ⟨L, h1, own_keep h2 fun i hi => b.block i (World.ownsRow.lt h2 i hi.symm).2, h3, fun x hx => ⟨OwnU.on (h4 x hx).1 b, (h4 x hx).2⟩⟩
theorem XsV.more {v : Value} {l : List RS} (h : XsV X w v l) (hy : ∀ i, X i → Y i) : XsV Y w v l := by
  obtain ⟨L, h1, h2, h3, h4⟩ := h
  exact ⟨L, h1, h2, fun i hi => hy i (h3 i hi), fun x hx => ⟨(h4 x hx).1, fun i hi => hy i ((h4 x hx).2 i hi)⟩⟩
theorem XsV.form {v : Value} {l : List RS} (h : XsV X w v l) : ∃ A c, v = .slice A l.length c := by
  obtain ⟨L, rfl, h2, _⟩ := h
  rw [List.length_map]
  exact orow_form h2
/-- One of them. -/
theorem XsV.at_ {A : Option Addr} {n c k : Nat} {l : List RS} (h : XsV X w (.slice A n c) l) (hk : k < l.length) : ∃ b s v, A = some ⟨b, 0, none⟩ ∧ b < w.heap.size ∧ l[k]? = some s ∧ OwnU w 0 96 v s.rs ∧
    w.cell? ⟨b, k * 5, none⟩ = some (.int .i64 s.de) ∧ w.cell? ⟨b, k * 5 + 1, none⟩ = some (.int .i64 s.cl) ∧ w.cell? ⟨b, k * 5 + 2, none⟩ = some (.int .i64 s.fu) ∧ w.cell? ⟨b, k * 5 + 3, none⟩ = some (.int .i64 s.st) ∧ w.cell? ⟨b, k * 5 + 4, none⟩ = some v := by
  obtain ⟨L, rfl, h2, _, h4⟩ := h
  rw [List.length_map] at hk
  have hx : L[k]? = some L[k] := List.getElem?_eq_getElem hk
  rcases h2.2 with ⟨hv, hn⟩ | ⟨b, cap, cur, hv, _, hh, _⟩
  · omega
  · injection hv with e1 e2 e3
    subst e1 e2
    have c : ∀ j u, j < 5 → (SeV.cells L[k])[j]? = some u → w.cell? ⟨b, k * 5 + j, none⟩ = some u := fun j u hj hu => by
      rw [World.ownsRow.cellAt h2 (k * 5 + j) (by omega), seCells_get L k j L[k] hx hj]
      exact hu
    refine ⟨b, L[k].1, L[k].2, rfl, lt_of_some hh, by rw [List.getElem?_map, hx]; rfl, (h4 _ (List.getElem_mem hk)).1, c 0 _ (by omega) rfl, c 1 _ (by omega) rfl, c 2 _ (by omega) rfl, c 3 _ (by omega) rfl, c 4 _ (by omega) rfl⟩
theorem info_xset14 : (Tryz.prog.info? 60).map (fun i => (i.zero, i.size, i.bytes)) = some (some (.agg #[.int .i64 0, .int .i64 0, .int .i64 0, .int .i64 0, .slice none 0 0]), 5, 56) := by kernel_rfl
/-- append of one that lies in a block of its own. -/
theorem wpList_app_xset (w : World) {ops : Array Oper} {rest : List Oper} {o : Oper} {a : Act} {Q : Exit → Act → World → Prop} (hgd : o.guard = none) (x y : Operand)
    (ho : o.op = .call { callee := .builtin .append, args := #[x, y], argTypes := #[28, 28] })
    (v : Value) (l : List RS) (hs : a.eval x = v) (b : Nat) (s : RS) (A : Option Addr) (n c : Nat) (hy : a.eval y = .slice (some ⟨b, 0, none⟩) 1 1) (hX : XsV X w v l)
    (hb : Blk w b 60 #[.int .i64 s.de, .int .i64 s.cl, .int .i64 s.fu, .int .i64 s.st, .slice A n c]) (ho2 : OwnU w 0 96 (.slice A n c) s.rs) (hA : ∀ i, (Value.slice A n c).ownBlock = some i → X i) (hl : l.length ≤ 1000000)
    (h : ∀ v' w', XsV (fun i => X i ∨ Rg w.heap.size w'.heap.size i) w' v' (l ++ [s]) → w.grownBy w' v.ownBlock → wpList Tryz.prog ops Q rest (a.put o.dst v') w') : wpList Tryz.prog ops Q (o :: rest) a w := by
  refine wpList_plain hgd fun K hK => ?_
  obtain ⟨L, rfl, q2, q3, q4⟩ := hX
  rw [List.length_map] at hl
  obtain ⟨i0, hi, hz0, hz1, hz2⟩ := info_three info_xset14
  obtain ⟨v', w', hrun, h2, h3, _, h5⟩ := run_append_own_at (P := Tryz.prog) w 0 28 o.type 60 i0 (.agg #[.int .i64 0, .int .i64 0, .int .i64 0, .int .i64 0, .slice none 0 0]) 5 56 Tryz.underlying28 hi hz0 hz1 hz2 rfl (by decide) v L.length (seCells L) q2 ⟨b, 0, none⟩ 1 1 (SeV.cells (s, .slice A n c)) rfl
    (fun j u hu => by
      have hl : j < 5 := by simpa [SeV.cells] using (List.getElem?_eq_some_iff.1 hu).1
      have e : (⟨b, 0, none⟩ : Addr).add j = ⟨b, j, none⟩ := by unfold Addr.add; split <;> simp_all
      rw [e, hb.cell j, ← hu]
      simp [SeV.cells]) (seV_one s A n c) (by unfold maxLen; omega) (by omega) (Nat.zero_le _)
  unfold Oper.wp execOp
  simp only [ho, resolve, invoke, builtin, Sem.run_bind, Sem.run_pure, Result.andThen_ok, List.map_toArray, List.map_cons, List.map_nil, hs, hy, hrun]
  refine hK _ _ (h v' w' ⟨L ++ [(s, .slice A n c)], by simp, ?_, ?_, ?_⟩ h3)
  · rw [seCells_append, seCells_one, List.length_append]
    exact h2
  · intro i hi
    rcases h5 with e | e
    · exact .inl (q3 i (e ▸ hi))
    · obtain rfl : i = w.heap.size := by rw [hi] at e; injection e
      exact .inr ⟨Nat.le_refl _, (World.ownsRow.lt h2 _ hi).2⟩
  · have kk : ∀ {V : Value} {r : List Ru}, OwnU w 0 96 V r → OwnU w' 0 96 V r := fun hO => own_keep hO fun i hi => h3.block i (World.ownsRow.lt hO i hi.symm).2 fun e => own_ne2 hO q2 (by decide) i hi.symm e.symm
    intro x hx
    rcases List.mem_append.1 hx with hx | hx
    · exact ⟨kk (q4 x hx).1, fun i hi => .inl ((q4 x hx).2 i hi)⟩
    · rw [List.mem_singleton] at hx
      subst hx
      exact ⟨kk ho2, fun i hi => .inl (hA i hi)⟩
theorem run_code14 (a b c : Int) (w : World) : (Instr.field 42 (.agg #[.int .i64 a, .int .i64 b, .int .i64 c]) 0).run Tryz.prog w = .ok (.int .i64 a) w := by kernel_rfl
end Go.Proofs.YtefgobmpleoafaaGreatDoor

/- HistoryGrows: the law's walk. (Written by genHsGw.py.) -/
namespace Go.Proofs.YtefgobmpleoafaaGreatDoor
open Go.RowKit Go.Maps

set_option maxRecDepth 100000 in
set_option maxHeartbeats 16000000 in
theorem historyGrows_law (v : Value) (l : List En) (w : World) (hT : TabsAt w.heap.size w) (hm : l.length ≤ 9223372036854775807) (hV : EntsV w.heap.size w v l) :
    Calls Tryz.prog 4 #[v] w fun e w' => e = .returned (.bool true) ∧ Below w.heap.size w w' := by
  obtain ⟨A, c, rfl⟩ := hV.form
  obtain ⟨n, hn⟩ : ∃ n, n = l.length := ⟨_, rfl⟩
  rw [← hn] at hV hm ⊢
  have HT := Lib.hid hT
  have HV := Lib.hid hV
  have HL := Lib.hid hn
  clear hT hV hn
  go_enter Tryz.func4, Tryz.ntmps4
  go_wp2_with fail
  refine (anchor14_any w HT.out).mono ?_
  rintro e w1 ⟨rfl, b1⟩
  have B1 := Lib.hid b1
  have SM := Lib.hid (small_any (.slice A n c) l w1 (by rw [← HL.out]; exact hm) (HV.out.on b1))
  obtain ⟨q1, hq1⟩ : ∃ q, q = smallL l := ⟨_, rfl⟩
  rw [← hq1] at SM
  have HQ1 := Lib.hid hq1
  clear b1 hq1
  go_wp2_with fail
  refine SM.out.mono ?_
  rintro e w2 ⟨rfl, b2⟩
  have B2 := Lib.hid (B1.out.trans (b2.mono B1.out.size))
  clear b2 SM B1
  cases q1 with
  | false =>
    go_wp2
    go_ret
    exact ⟨rfl, B2.out⟩
  | true =>
    have HSm : Hid (∀ e ∈ l, smallE e = true) := Lib.hid (by
      have h := HQ1.out
      unfold smallL at h
      have h2 : (l.all smallE && decide (l.length ≤ 70)) = true := h.symm
      rw [Bool.and_eq_true, List.all_eq_true] at h2
      exact h2.1)
    by_cases h16 : n ≤ 16
    · have h16i : ¬ (16 : Int) < (n : Int) := by omega
      have NW := Lib.hid (new_one w.heap.size w w2 (Nat.le_refl _) B2.out)
      go_wp2_with fail
      refine NW.out.mono ?_
      rintro e w3 ⟨g, rfl, og⟩
      have TW0 := Lib.hid og.u
      have SV0 : Hid (XsV (fun _ => False) w3 (.slice none 0 0) (runM pvM (l.take 0)).vs.tail) := Lib.hid (XsV.nil _ _)
      clear NW og
      go_wp2
      go_loopw [4, 33] (fun sv i wr => ∃ (k : Nat) (X : Nat → Prop), k ≤ n ∧ i = .int .i64 (k : Int) ∧ Hid (OneU w.heap.size w wr X g (runM pvM (l.take k))) ∧ Hid (XsV X wr sv (runM pvM (l.take k)).vs.tail)) (fun _ i _ => n - (intOf i).toNat)
      case atStart => exact ⟨0, fun _ => False, Nat.zero_le _, rfl, TW0, SV0⟩
      case round =>
        obtain ⟨k, X, hk, rfl, TW, SV⟩ := hrel
        have BW := Lib.hid TW.out.below
        have hsz : w.heap.size ≤ wr.heap.size := BW.out.size
        have HRK := Lib.hid (runM_n (p := pvM) (l.take k))
        have LK0 : Hid ((l.take k).length = k) := Lib.hid (by have := HL.out; simp; omega)
        obtain ⟨As, cs, hsv⟩ := SV.out.form
        obtain ⟨m, hm⟩ : ∃ m, m = (runM pvM (l.take k)).vs.tail.length := ⟨_, rfl⟩
        rw [← hm] at hsv
        subst hsv
        have HM := Lib.hid hm
        clear hm
        by_cases hlt : k < n
        · have hkl : k < l.length := by rw [← HL.out]; exact hlt
          obtain ⟨b, off, p, dd, rfl, hb, hef, hen⟩ := enf HV.out hkl
          have HG := Lib.hid (List.getElem?_eq_getElem hkl)
          have HSM : Hid (smallE l[k] = true) := Lib.hid (HSm.out _ (List.getElem_mem hkl))
          obtain ⟨c0, c1, c2, c3, c4, c5, c6, c7, c8⟩ := hen wr BW.out
          generalize l[k] = x at HG HSM hef c0 c1 c2 c3 c4 c5 c6 c7 c8
          obtain ⟨Ap, cp, Ad, cd, rfl, rfl⟩ := hef.forms
          obtain ⟨np, hnp⟩ : ∃ np, np = x.d.put.length := ⟨_, rfl⟩
          obtain ⟨nd, hnd⟩ : ∃ nd, nd = x.d.drop.length := ⟨_, rfl⟩
          rw [← hnp, ← hnd] at hef
          rw [← hnp] at c7
          rw [← hnd] at c8
          have HNP := Lib.hid hnp
          have HND := Lib.hid hnd
          have HEF := Lib.hid hef
          have HRT := Lib.hid (runM_take (p := pvM) HG.out)
          clear hef hnp hnd hen hkl
          obtain ⟨H, hH⟩ : ∃ H, H = runM pvM (l.take k) := ⟨_, rfl⟩
          rw [← hH] at TW SV HM HRT HRK
          clear hH
          obtain ⟨k1, hk1⟩ : ∃ k1, H.vs.length = k1 + 1 := ⟨H.vs.length - 1, by have := HRK.out; omega⟩
          have HKG := Lib.hid hk1
          have HK16 : Hid (k1 ≤ 100 ∧ H.n ≤ 100) := Lib.hid (by have := HRK.out; have := LK0.out; omega)
          have HTOP : Hid (H.vs[k1]? = some H.top) := Lib.hid (by
            have h := Hs.top_get (h := H) (by intro e; rw [e] at hk1; simp at hk1)
            rwa [hk1, Nat.add_sub_cancel] at h)
          obtain ⟨s, hs⟩ : ∃ s, s = H.top := ⟨_, rfl⟩
          rw [← hs] at HTOP
          have HST := Lib.hid hs
          obtain ⟨ns, hns⟩ : ∃ ns, ns = s.rs.length := ⟨_, rfl⟩
          have HNS := Lib.hid hns
          clear hk1 hs hns
          have b0 : Below wr.heap.size wr (wr.alloc (.cells #[.int .i64 x.vi, .int .i64 x.cl, .int .i64 x.re, .int .i64 x.d.de, .int .i64 x.d.cl, .int .i64 x.d.fu, .int .i64 x.d.st, .slice Ap np cp, .slice Ad nd cd] 39)) := (Below.refl _ _).alloc (Nat.le_refl _) _
          obtain ⟨X0, hX0⟩ : ∃ X0 : Nat → Prop, X0 = fun i => X i ∨ Rg wr.heap.size (wr.alloc (.cells #[.int .i64 x.vi, .int .i64 x.cl, .int .i64 x.re, .int .i64 x.d.de, .int .i64 x.d.cl, .int .i64 x.d.fu, .int .i64 x.d.st, .slice Ap np cp, .slice Ad nd cd] 39)).heap.size i := ⟨_, rfl⟩
          have OM0 : Hid (OneU w.heap.size w (wr.alloc (.cells #[.int .i64 x.vi, .int .i64 x.cl, .int .i64 x.re, .int .i64 x.d.de, .int .i64 x.d.cl, .int .i64 x.d.fu, .int .i64 x.d.st, .slice Ap np cp, .slice Ad nd cd] 39)) X0 g H) := Lib.hid (by rw [hX0]; exact TW.out.more b0)
          have SV0 : Hid (XsV X0 (wr.alloc (.cells #[.int .i64 x.vi, .int .i64 x.cl, .int .i64 x.re, .int .i64 x.d.de, .int .i64 x.d.cl, .int .i64 x.d.fu, .int .i64 x.d.st, .slice Ap np cp, .slice Ad nd cd] 39)) (.slice As m cs) H.vs.tail) := Lib.hid ((SV.out.on b0).more fun i h => by rw [hX0]; exact .inl h)
          have XE0 := Lib.hid (Blk.new wr 39 #[.int .i64 x.vi, .int .i64 x.cl, .int .i64 x.re, .int .i64 x.d.de, .int .i64 x.d.cl, .int .i64 x.d.fu, .int .i64 x.d.st, .slice Ap np cp, .slice Ad nd cd])
          have XX0 : Hid (X0 wr.heap.size) := Lib.hid (by rw [hX0]; exact .inr ⟨Nat.le_refl _, by simp⟩)
          clear b0 TW SV hX0
          go_wp2_with fail
          obtain ⟨xe, hxe⟩ : ∃ xe, xe = wr.heap.size := ⟨_, rfl⟩
          rw [← hxe] at XE0 XX0 ⊢
          clear c0 c1 c2 c3 c4 c5 c6 c7 c8
          generalize hwb : wr.alloc _ = wb at *
          clear hwb
          clear hxe
          refine (version_one k1 HKG.out OM0.out.one).mono ?_
          rintro e wv ⟨rfl, rfl⟩
          go_wp2_with fail
          refine (set_own k1 k1 s HKG.out HTOP.out OM0.out.one).mono ?_
          rintro e w5 ⟨Ab, cb, rfl, ho, hrk, hfw, b5⟩
          rw [← HNS.out] at ho ⊢
          have HRS := Lib.hid hrk
          have FW := Lib.hid hfw
          have b6 := b5.alloc b5.size (.cells #[.int .i64 s.de, .int .i64 s.cl, .int .i64 s.fu, .int .i64 s.st, .slice Ab ns cb] 54)
          obtain ⟨X6, hX6⟩ : ∃ X6 : Nat → Prop, X6 = fun i => X0 i ∨ Rg wb.heap.size (w5.alloc (.cells #[.int .i64 s.de, .int .i64 s.cl, .int .i64 s.fu, .int .i64 s.st, .slice Ab ns cb] 54)).heap.size i := ⟨_, rfl⟩
          have OM6 : Hid (OneU w.heap.size w (w5.alloc (.cells #[.int .i64 s.de, .int .i64 s.cl, .int .i64 s.fu, .int .i64 s.st, .slice Ab ns cb] 54)) X6 g H) := Lib.hid (by rw [hX6]; exact OM0.out.more b6)
          have SV6 : Hid (XsV X6 (w5.alloc (.cells #[.int .i64 s.de, .int .i64 s.cl, .int .i64 s.fu, .int .i64 s.st, .slice Ab ns cb] 54)) (.slice As m cs) H.vs.tail) := Lib.hid ((SV0.out.on b6).more fun i h => by rw [hX6]; exact .inl h)
          have XE6 := Lib.hid (XE0.out.on b6)
          have XX6 : Hid (X6 xe) := Lib.hid (by rw [hX6]; exact .inl XX0.out)
          have OB6 := Lib.hid (OwnU.alloc ho (.cells #[.int .i64 s.de, .int .i64 s.cl, .int .i64 s.fu, .int .i64 s.st, .slice Ab ns cb] 54))
          have XB6 := Lib.hid (Blk.new w5 54 #[.int .i64 s.de, .int .i64 s.cl, .int .i64 s.fu, .int .i64 s.st, .slice Ab ns cb])
          have HBX : Hid (∀ i, (Value.slice Ab ns cb).ownBlock = some i → X6 i) := Lib.hid fun i hi => by rw [hX6]; exact .inr ⟨(World.ownsRow.lt ho i hi).1, by have := (World.ownsRow.lt ho i hi).2; simp; omega⟩
          have HBB : Hid (X6 w5.heap.size) := Lib.hid (by rw [hX6]; exact .inr ⟨b5.size, by simp⟩)
          clear ho hrk hfw b6 b5 OM0 SV0 XE0 XX0 hX6
          have e0 := XE6.out.cell 0
          have e1 := XE6.out.cell 1
          have e2 := XE6.out.cell 2
          have e3 := XE6.out.cell 3
          have e4 := XE6.out.cell 4
          have e5 := XE6.out.cell 5
          have e6 := XE6.out.cell 6
          have e7 := XE6.out.cell 7
          have e8 := XE6.out.cell 8
          have el := XE6.out.lt
          go_wp2_with fail
          clear e0 e1 e2 e3 e4 e5 e6 e7 e8 el
          obtain ⟨bb, hbb⟩ : ∃ bb, bb = w5.heap.size := ⟨_, rfl⟩
          rw [← hbb] at XB6 HBB ⊢
          clear hbb
          generalize hwb : w5.alloc _ = w6 at *
          clear hwb
          refine (add_u2 x (.slice Ap np cp) (.slice Ad nd cd) OM6.out HT.out HEF.out (by have := HKG.out; have := HK16.out; omega) (by have := HK16.out; omega)).mono ?_
          rintro e wa ⟨rfl, oa, ka⟩
          have OMa := Lib.hid oa
          have SVa := Lib.hid (SV6.out.kept ka)
          have XEa := Lib.hid (ka.blk XX6.out XE6.out)
          have XBa := Lib.hid (ka.blk HBB.out XB6.out)
          have OBa : Hid (OwnU wa wb.heap.size 72 (.slice Ab ns cb) s.rs) := Lib.hid (own_keep OB6.out fun i hi => ka i (HBX.out i hi.symm))
          have bo : Below wa.heap.size wa (wa.alloc (.cells #[.int .i64 (H.outA x).ve, .int .i64 (H.outA x).co, .int .i64 (H.outA x).ru, .int .i64 (H.outA x).at_] 44)) := (Below.refl _ _).alloc (Nat.le_refl _) _
          have OMo := Lib.hid (OMa.out.on bo)
          have SVo := Lib.hid (SVa.out.on bo)
          have XEo := Lib.hid (XEa.out.on bo)
          have XBo := Lib.hid (XBa.out.on bo)
          have OBo := Lib.hid (OwnU.on OBa.out bo)
          have XOo := Lib.hid (Blk.new wa 44 #[.int .i64 (H.outA x).ve, .int .i64 (H.outA x).co, .int .i64 (H.outA x).ru, .int .i64 (H.outA x).at_])
          clear oa ka bo OM6 SV6 XE6 XB6 OB6 OMa SVa XEa XBa OBa XX6 HBB HBX
          cases hok : x.ok with
          | false =>
            have hea : Hs.errA x = 10 := by unfold Hs.errA; rw [hok]; rfl
            rw [hea]
            have HPN : Hid (H.put pvM x = H) := Lib.hid (Hs.put_not hok)
            clear hok hea
            go_wp2
            go_roundw
            case rel => exact ⟨k + 1, X6, hlt, by go_num, Lib.hid (by rw [HRT.out]; exact OMo.out), Lib.hid (by rw [HRT.out, HPN.out]; exact SVo.out)⟩
            case measure => simp [intOf]; omega
          | true =>
            have hea : Hs.errA x = 0 := by unfold Hs.errA; rw [hok]; rfl
            rw [hea]
            have HX := Lib.hid hok
            have HDR : Hid (x.d.put.length ≤ 16 ∧ x.d.drop.length ≤ 16 ∧ ∀ z ∈ x.d.drop, (Lit.int .i64 z).wf = true) := Lib.hid (by
              obtain ⟨_, _, _, h⟩ := En.ok_iff.1 hok
              obtain ⟨_, h5, _, h7, h8⟩ := Dl.okP_iff.1 h
              exact ⟨h5, h7, fun z hz => by have := h8 z hz; exact WalkArith.wf_i64 (by omega)⟩)
            obtain ⟨R, hR⟩ : ∃ R, R = changeM pvM s x.d := ⟨_, rfl⟩
            have HRR := Lib.hid hR
            have HPV := Lib.hid (Hs.put_vs (H := H) hok)
            have HCH : Hid (H.chg pvM x = R) := Lib.hid (by rw [hR, HST.out]; rfl)
            clear hok hea hR
            obtain ⟨G, hG⟩ : ∃ G, G = H.put pvM x := ⟨_, rfl⟩
            rw [← hG] at OMo HRT HPV
            obtain ⟨k2, hk2⟩ : ∃ k2, G.vs.length = k2 + 1 := ⟨G.vs.length - 1, by
              have h := Hs.put_len (p := pvM) (h := H) (e := x)
              rw [← hG] at h
              have := HRK.out
              omega⟩
            have HKG2 := Lib.hid hk2
            have HTOP2 : Hid (G.vs[k2]? = some G.top) := Lib.hid (by
              have h := Hs.top_get (h := G) (by intro e; rw [e] at hk2; simp at hk2)
              rwa [hk2, Nat.add_sub_cancel] at h)
            obtain ⟨s2, hs2⟩ : ∃ s2, s2 = G.top := ⟨_, rfl⟩
            rw [← hs2] at HTOP2
            have HST2 := Lib.hid hs2
            obtain ⟨n2, hn2⟩ : ∃ n2, n2 = s2.rs.length := ⟨_, rfl⟩
            have HNS2 := Lib.hid hn2
            clear hk2 hs2 hn2 hG
            obtain ⟨ov, hov⟩ : ∃ v, v = (H.outA x).ve := ⟨_, rfl⟩
            obtain ⟨oc, hoc⟩ : ∃ v, v = (H.outA x).co := ⟨_, rfl⟩
            obtain ⟨oru, horu⟩ : ∃ v, v = (H.outA x).ru := ⟨_, rfl⟩
            obtain ⟨oat, hoat⟩ : ∃ v, v = (H.outA x).at_ := ⟨_, rfl⟩
            have HOV := Lib.hid (show H.outA x = ⟨ov, oc, oru, oat⟩ by rw [hov, hoc, horu, hoat])
            rw [← hov, ← hoc, ← horu, ← hoat] at OMo SVo XEo XBo OBo XOo ⊢
            clear hov hoc horu hoat
            go_wp2_with fail
            obtain ⟨ob, hob⟩ : ∃ ob, ob = wa.heap.size := ⟨_, rfl⟩
            rw [← hob] at XOo ⊢
            clear hob
            generalize hwb : wa.alloc _ = w9 at *
            clear hwb
            refine (version_one k2 HKG2.out OMo.out.one).mono ?_
            rintro e wv ⟨rfl, rfl⟩
            go_wp2_with fail
            refine (set_own k2 k2 s2 HKG2.out HTOP2.out OMo.out.one).mono ?_
            rintro e w10 ⟨An, cn, rfl, ho, hrk, hfw, b10⟩
            rw [← HNS2.out] at ho ⊢
            have FW2 := Lib.hid hfw
            have b11 := b10.alloc b10.size (.cells #[.int .i64 s2.de, .int .i64 s2.cl, .int .i64 s2.fu, .int .i64 s2.st, .slice An n2 cn] 54)
            have OM11 := Lib.hid (OMo.out.on b11)
            have SV11 := Lib.hid (SVo.out.on b11)
            have XE11 := Lib.hid (XEo.out.on b11)
            have XB11 := Lib.hid (XBo.out.on b11)
            have OB11 := Lib.hid (OwnU.on OBo.out b11)
            have XO11 := Lib.hid (XOo.out.on b11)
            have XN11 := Lib.hid (Blk.new w10 54 #[.int .i64 s2.de, .int .i64 s2.cl, .int .i64 s2.fu, .int .i64 s2.st, .slice An n2 cn])
            have ON11 := Lib.hid (OwnU.alloc ho (.cells #[.int .i64 s2.de, .int .i64 s2.cl, .int .i64 s2.fu, .int .i64 s2.st, .slice An n2 cn] 54))
            clear ho hrk hfw b10 b11 OMo SVo XEo XBo OBo XOo
            have e3 := XE11.out.cell 3
            have e4 := XE11.out.cell 4
            have e5 := XE11.out.cell 5
            have e6 := XE11.out.cell 6
            have e7 := XE11.out.cell 7
            have e8 := XE11.out.cell 8
            have el := XE11.out.lt
            have q0 := XB11.out.cell 0
            have q1 := XB11.out.cell 1
            have q2 := XB11.out.cell 2
            have q3 := XB11.out.cell 3
            have q4 := XB11.out.cell 4
            have ql := XB11.out.lt
            go_wp2_with fail
            clear e3 e4 e5 e6 e7 e8 el q0 q1 q2 q3 q4 ql
            obtain ⟨nb, hnb⟩ : ∃ nb, nb = w10.heap.size := ⟨_, rfl⟩
            rw [← hnb] at XN11 ⊢
            clear hnb
            generalize hwb : w10.alloc _ = w11 at *
            clear hwb
            have BL := Lib.hid OM11.out.below
            have CH := vchange_any s x.d (.slice Ab ns cb) (.slice Ap np cp) (.slice Ad nd cd) w11 (by have := FW.out; omega) (by have := HDR.out; omega) (by have := HDR.out; omega) HDR.out.2.2 (tabs_on HT.out BL.out BL.out.size) (OwnU.set OB11.out) ((HEF.out w11 BL.out).1.more BL.out.size) ((HEF.out w11 BL.out).2.more BL.out.size)
            rw [← HRR.out] at CH
            refine CH.mono ?_
            rintro e w12 ⟨rv, rfl, hrv, hfar, b12⟩
            obtain ⟨Ar, cr, rfl⟩ := hrv.form
            clear CH hfar
            rcases HPV.out with ⟨h1, h2, h3, h4⟩ | ⟨h1, h2, h3, h4⟩
            · have hG4 : G.vs = H.vs ++ [R.1] := by rw [h4, HCH.out]
              have hR1 : R.1 = s2 := by
                rw [HST2.out]; unfold Hs.top; rw [hG4, List.getLast?_concat]; rfl
              have hR2 : R.2 = (0, 0, 0) := by
                have h := (changeM_top (p := pvM) (s := H.top) (d := x.d) h2).2
                have h' : (H.chg pvM x).2 = (0, 0, 0) := h
                rwa [HCH.out] at h'
              obtain rfl : R = (s2, (0, 0, 0)) := Prod.ext hR1 hR2
              have hk12 : k2 = k1 + 1 := by have h := congrArg List.length hG4; rw [List.length_append, HKG.out, HKG2.out] at h; simp at h; omega
              have HTAIL : Hid (G.vs.tail = H.vs.tail ++ [s2]) := Lib.hid (by rw [hG4]; exact List.tail_append_of_ne_nil (by intro e; have := HKG.out; rw [e] at this; simp at this))
              have EW : Hid (IntKind.i64.wrap ((k1 : Int) + 1) = (k2 : Int)) := Lib.hid (by have := HK16.out; rw [IntWalk.i64_in] <;> omega)
              have hOV := HOV.out
              rw [h3, HKG.out] at hOV
              obtain ⟨rfl, rfl, rfl, rfl⟩ : ov = (k2 : Int) ∧ oc = 0 ∧ oru = 0 ∧ oat = 0 := by
                injection hOV with a1 a2 a3 a4
                exact ⟨by omega, a2.symm, a3.symm, a4.symm⟩
              simp only at hrv ⊢
              rw [← HNS2.out] at hrv ⊢
              clear h1 h2 h3 h4 hG4 hR1 hR2 hk12 hOV HOV HPV HCH HRR
              have b13 := (b12.alloc b12.size (.cells #[.int .i64 s2.de, .int .i64 s2.cl, .int .i64 s2.fu, .int .i64 s2.st, .slice Ar n2 cr] 54)).alloc (by have := b12.size; simp; omega) (.cells #[.int .i64 0, .int .i64 0, .int .i64 0] 42)
              have OMz := Lib.hid (OM11.out.on b13)
              have SVz := Lib.hid (SV11.out.on b13)
              have XOz := Lib.hid (XO11.out.on b13)
              have XNz := Lib.hid (XN11.out.on b13)
              have ONz := Lib.hid (OwnU.on ON11.out b13)
              have XTz := Lib.hid ((Blk.new w12 54 #[.int .i64 s2.de, .int .i64 s2.cl, .int .i64 s2.fu, .int .i64 s2.st, .slice Ar n2 cr]).alloc (.cells #[.int .i64 0, .int .i64 0, .int .i64 0] 42))
              have XVz := Lib.hid (Blk.at_new (w12.alloc (.cells #[.int .i64 s2.de, .int .i64 s2.cl, .int .i64 s2.fu, .int .i64 s2.st, .slice Ar n2 cr] 54)) (w12.heap.size + 1) (by simp) 42 #[.int .i64 0, .int .i64 0, .int .i64 0])
              have RTz := Lib.hid (hrv.on (((Below.refl _ _).alloc (Nat.le_refl _) (.cells #[.int .i64 s2.de, .int .i64 s2.cl, .int .i64 s2.fu, .int .i64 s2.st, .slice Ar n2 cr] 54)).alloc (by simp) (.cells #[.int .i64 0, .int .i64 0, .int .i64 0] 42)))
              clear b12 b13 hrv OM11 SV11 XE11 XB11 OB11 XO11 XN11 ON11
              have q0 := XOz.out.cell 0
              have q1 := XOz.out.cell 1
              have q2 := XOz.out.cell 2
              have q3 := XOz.out.cell 3
              have ql := XOz.out.lt
              go_upto_region 17 with (fail)
              clear q0 q1 q2 q3 ql
              obtain ⟨tb, htb⟩ : ∃ tb, tb = w12.heap.size := ⟨_, rfl⟩
              obtain ⟨vb, hvb⟩ : ∃ vb, vb = w12.heap.size + 1 := ⟨_, rfl⟩
              rw [← hvb] at XVz ⊢
              rw [← htb] at XTz ⊢
              clear htb hvb
              generalize hwb : (w12.alloc _).alloc _ = wz at *
              clear hwb
              refine wp_region_held_drew (S := fun w' => Below wz.heap.size wz w') (by kernel_rfl) (Below.drewN' (Below.refl _ wz) 1) (fun hHeld => ?_)
              refine take_d 0 72 (.pointer (some ⟨ob, 0, none⟩)) _ rfl rfl (by kernel_rfl) (by kernel_rfl) (by kernel_rfl) (fun _ _ _ h => h) (Or.inl ⟨by rfl, fun w' hSw => ?_⟩) hHeld ?_
              · go_simp
              simp only [List.setIfInBounds_toArray, List.set_cons_zero, List.set_cons_succ]
              refine take_d 1 73 (.int .i64 (k2 : Int)) _ rfl rfl (by kernel_rfl) (by kernel_rfl) (by kernel_rfl) (fun _ _ _ h => h) (Or.inl ⟨by rfl, fun w' hSw => ?_⟩) hHeld ?_
              · have q0 := (XOz.out.on hSw).cell 0
                go_simp
              simp only [List.setIfInBounds_toArray, List.set_cons_zero, List.set_cons_succ]
              refine take_d 2 74 (.int .i64 (k1 : Int)) _ rfl rfl (by kernel_rfl) (by kernel_rfl) (by kernel_rfl) (fun _ _ _ h => h) (Or.inl ⟨by rfl, fun w' hSw => ?_⟩) hHeld ?_
              · go_simp
              simp only [List.setIfInBounds_toArray, List.set_cons_zero, List.set_cons_succ]
              refine take_d 3 75 (.int .i64 (k2 : Int)) _ rfl rfl (by kernel_rfl) (by kernel_rfl) (by kernel_rfl) (fun _ _ _ h => h) (Or.inl ⟨by rfl, fun w' hSw => ?_⟩) hHeld ?_
              · have ew := EW.out
                go_simp
              simp only [List.setIfInBounds_toArray, List.set_cons_zero, List.set_cons_succ]
              refine take_d 4 76 (.bool false) _ rfl rfl (by kernel_rfl) (by kernel_rfl) (by kernel_rfl) (fun _ _ _ h => h) (Or.inl ⟨by rfl, fun w' hSw => ?_⟩) hHeld ?_
              · skip
                go_simp
              simp only [List.setIfInBounds_toArray, List.set_cons_zero, List.set_cons_succ]
              refine take_d 5 77 (.bool false) _ rfl rfl (by kernel_rfl) (by kernel_rfl) (by kernel_rfl) (fun _ _ _ h => h) (Or.inl ⟨by rfl, fun w' hSw => ?_⟩) hHeld ?_
              · go_simp
              simp only [List.setIfInBounds_toArray, List.set_cons_zero, List.set_cons_succ]
              refine take_d 6 78 (.pointer (some ⟨g, 0, none⟩)) _ rfl rfl (by kernel_rfl) (by kernel_rfl) (by kernel_rfl) (fun _ _ _ h => h) (Or.inl ⟨by rfl, fun w' hSw => ?_⟩) hHeld ?_
              · go_simp
              simp only [List.setIfInBounds_toArray, List.set_cons_zero, List.set_cons_succ]
              refine take_d 8 80 (.int .i64 (k1 : Int)) _ rfl rfl (by kernel_rfl) (by kernel_rfl) (by kernel_rfl) (fun _ _ _ h => h) (Or.inl ⟨by rfl, fun w' hSw => ?_⟩) hHeld ?_
              · go_simp
              simp only [List.setIfInBounds_toArray, List.set_cons_zero, List.set_cons_succ]
              refine take_d 9 81 (.int .i64 (k2 : Int)) _ rfl rfl (by kernel_rfl) (by kernel_rfl) (by kernel_rfl) (fun _ _ _ h => h) (Or.inl ⟨by rfl, fun w' hSw => ?_⟩) hHeld ?_
              · have ew := EW.out
                go_simp
              simp only [List.setIfInBounds_toArray, List.set_cons_zero, List.set_cons_succ]
              refine wpAnyH_ready (rs := [7]) (by kernel_rfl) (by simp) ?_
              refine AllReadyH.cons rfl (fun K hK => ?_) AllReadyH.nil
              go_simp
              refine (version_one k2 HKG2.out (OMz.out.on hHeld).one).mono ?_
              rintro e wv7 ⟨rfl, rfl⟩
              refine hK.out _ _ hHeld (fun hHeld => ?_)
              clear hK K
              refine take_d 10 82 (.bool false) _ rfl rfl (by kernel_rfl) (by kernel_rfl) (by kernel_rfl) (fun _ _ _ h => h) (Or.inl ⟨by rfl, fun w' hSw => ?_⟩) hHeld ?_
              · skip
                go_simp
              simp only [List.setIfInBounds_toArray, List.set_cons_zero, List.set_cons_succ]
              refine take_d 11 83 (.bool false) _ rfl rfl (by kernel_rfl) (by kernel_rfl) (by kernel_rfl) (fun _ _ _ h => h) (Or.inl ⟨by rfl, fun w' hSw => ?_⟩) hHeld ?_
              · go_simp
              simp only [List.setIfInBounds_toArray, List.set_cons_zero, List.set_cons_succ]
              refine take_d 12 84 (.bool false) _ rfl rfl (by kernel_rfl) (by kernel_rfl) (by kernel_rfl) (fun _ _ _ h => h) (Or.inl ⟨by rfl, fun w' hSw => ?_⟩) hHeld ?_
              · go_simp
              simp only [List.setIfInBounds_toArray, List.set_cons_zero, List.set_cons_succ]
              refine take_d 13 85 (.bool true) _ rfl rfl (by kernel_rfl) (by kernel_rfl) (by kernel_rfl) (fun _ _ _ h => h) (Or.inl ⟨by rfl, fun w' hSw => ?_⟩) hHeld ?_
              · go_simp
              simp only [List.setIfInBounds_toArray, List.set_cons_zero, List.set_cons_succ]
              refine take_d 14 86 (.bool false) _ rfl rfl (by kernel_rfl) (by kernel_rfl) (by kernel_rfl) (fun _ _ _ h => h) (Or.inl ⟨by rfl, fun w' hSw => ?_⟩) hHeld ?_
              · go_simp
              simp only [List.setIfInBounds_toArray, List.set_cons_zero, List.set_cons_succ]
              refine take_d 15 87 (.bool false) _ rfl rfl (by kernel_rfl) (by kernel_rfl) (by kernel_rfl) (fun _ _ _ h => h) (Or.inl ⟨by rfl, fun w' hSw => ?_⟩) hHeld ?_
              · go_simp
              simp only [List.setIfInBounds_toArray, List.set_cons_zero, List.set_cons_succ]
              refine take_d 16 88 (.bool false) _ rfl rfl (by kernel_rfl) (by kernel_rfl) (by kernel_rfl) (fun _ _ _ h => h) (Or.inl ⟨by rfl, fun w' hSw => ?_⟩) hHeld ?_
              · go_simp
              simp only [List.setIfInBounds_toArray, List.set_cons_zero, List.set_cons_succ]
              refine take_d 17 89 (.pointer (some ⟨vb, 0, none⟩)) _ rfl rfl (by kernel_rfl) (by kernel_rfl) (by kernel_rfl) (fun _ _ _ h => h) (Or.inl ⟨by rfl, fun w' hSw => ?_⟩) hHeld ?_
              · go_simp
              simp only [List.setIfInBounds_toArray, List.set_cons_zero, List.set_cons_succ]
              refine take_d 18 90 (.int .i64 0) _ rfl rfl (by kernel_rfl) (by kernel_rfl) (by kernel_rfl) (fun _ _ _ h => h) (Or.inl ⟨by rfl, fun w' hSw => ?_⟩) hHeld ?_
              · have q0 := (XVz.out.on hSw).cell 0
                go_simp
              simp only [List.setIfInBounds_toArray, List.set_cons_zero, List.set_cons_succ]
              refine take_d 19 91 (.bool false) _ rfl rfl (by kernel_rfl) (by kernel_rfl) (by kernel_rfl) (fun _ _ _ h => h) (Or.inl ⟨by rfl, fun w' hSw => ?_⟩) hHeld ?_
              · skip
                go_simp
              simp only [List.setIfInBounds_toArray, List.set_cons_zero, List.set_cons_succ]
              refine take_d 20 92 (.bool false) _ rfl rfl (by kernel_rfl) (by kernel_rfl) (by kernel_rfl) (fun _ _ _ h => h) (Or.inl ⟨by rfl, fun w' hSw => ?_⟩) hHeld ?_
              · go_simp
              simp only [List.setIfInBounds_toArray, List.set_cons_zero, List.set_cons_succ]
              refine take_d 21 93 (.bool false) _ rfl rfl (by kernel_rfl) (by kernel_rfl) (by kernel_rfl) (fun _ _ _ h => h) (Or.inl ⟨by rfl, fun w' hSw => ?_⟩) hHeld ?_
              · go_simp
              simp only [List.setIfInBounds_toArray, List.set_cons_zero, List.set_cons_succ]
              refine take_d 22 94 (.agg #[.int .i64 s2.de, .int .i64 s2.cl, .int .i64 s2.fu, .int .i64 s2.st, .slice Ar n2 cr]) _ rfl rfl (by kernel_rfl) (by kernel_rfl) (by kernel_rfl) (fun _ _ _ h => h) (Or.inl ⟨by rfl, fun w' hSw => ?_⟩) hHeld ?_
              · have q0 := (XTz.out.on hSw).cell 0
                have q1 := (XTz.out.on hSw).cell 1
                have q2 := (XTz.out.on hSw).cell 2
                have q3 := (XTz.out.on hSw).cell 3
                have q4 := (XTz.out.on hSw).cell 4
                go_simp
              simp only [List.setIfInBounds_toArray, List.set_cons_zero, List.set_cons_succ]
              refine take_d 24 96 (.agg #[.int .i64 s2.de, .int .i64 s2.cl, .int .i64 s2.fu, .int .i64 s2.st, .slice An n2 cn]) _ rfl rfl (by kernel_rfl) (by kernel_rfl) (by kernel_rfl) (fun _ _ _ h => h) (Or.inl ⟨by rfl, fun w' hSw => ?_⟩) hHeld ?_
              · have q0 := (XNz.out.on hSw).cell 0
                have q1 := (XNz.out.on hSw).cell 1
                have q2 := (XNz.out.on hSw).cell 2
                have q3 := (XNz.out.on hSw).cell 3
                have q4 := (XNz.out.on hSw).cell 4
                go_simp
              simp only [List.setIfInBounds_toArray, List.set_cons_zero, List.set_cons_succ]
              refine wpAnyH_ready (rs := [23]) (by kernel_rfl) (by simp) ?_
              refine AllReadyH.cons rfl (fun K hK => ?_) AllReadyH.nil
              go_simp
              refine (madeSet_any s2 (.slice Ar n2 cr) _ (by have := FW2.out; omega) (RTz.out.on hHeld)).mono ?_
              rintro e m1 ⟨MV, rfl, ox, hbk⟩
              obtain ⟨M1, N1, rfl⟩ := OwnU.form ox
              have Om1 := Lib.hid (OwnU.set ox)
              have hSk := hHeld.trans (hbk.mono hHeld.size)
              rw [← HNS2.out] at Om1 ⊢
              refine hK.out _ _ hSk (fun hHeld => ?_)
              clear hK K hbk hSk ox
              refine wpAnyH_ready (rs := [25]) (by kernel_rfl) (by simp) ?_
              refine AllReadyH.cons rfl (fun K hK => ?_) AllReadyH.nil
              go_simp
              skip
              refine (madeSet_any s2 (.slice An n2 cn) _ (by have := FW2.out; omega) ((OwnU.set ONz.out).on hHeld)).mono ?_
              rintro e m2 ⟨MV, rfl, ox, hbk⟩
              obtain ⟨M2, N2, rfl⟩ := OwnU.form ox
              have Om2 := Lib.hid (OwnU.set ox)
              have Om1 := Lib.hid (Om1.out.on hbk)
              have hSk := hHeld.trans (hbk.mono hHeld.size)
              rw [← HNS2.out] at Om2 ⊢
              refine hK.out _ _ hSk (fun hHeld => ?_)
              clear hK K hbk hSk ox
              refine wpAnyH_ready (rs := [26]) (by kernel_rfl) (by simp) ?_
              refine AllReadyH.cons rfl (fun K hK => ?_) AllReadyH.nil
              go_simp
              refine (same_any s2 s2 (.slice M1 n2 N1) (.slice M2 n2 N2) _ (by have := FW2.out; omega) (by have := FW2.out; omega) Om1.out Om2.out).mono ?_
              rintro e wk3 ⟨cc, rfl, hcc, hbk⟩
              have hct : cc = true := hcc.2 rfl
              subst hct
              have hSk := hHeld.trans (hbk.mono hHeld.size)
              refine hK.out _ _ hSk (fun hHeld => ?_)
              clear hK K hbk hSk hcc
              refine take_d 27 99 (.bool false) _ rfl rfl (by kernel_rfl) (by kernel_rfl) (by kernel_rfl) (fun _ _ _ h => h) (Or.inl ⟨by rfl, fun w' hSw => ?_⟩) hHeld ?_
              · go_simp
              simp only [List.setIfInBounds_toArray, List.set_cons_zero, List.set_cons_succ]
              refine take_d 28 100 (.bool false) _ rfl rfl (by kernel_rfl) (by kernel_rfl) (by kernel_rfl) (fun _ _ _ h => h) (Or.inl ⟨by rfl, fun w' hSw => ?_⟩) hHeld ?_
              · go_simp
              simp only [List.setIfInBounds_toArray, List.set_cons_zero, List.set_cons_succ]
              refine wpAnyH_done (by kernel_rfl) ?_ _
              have OMq := Lib.hid (OMz.out.on hHeld)
              have SVq := Lib.hid (SVz.out.on hHeld)
              have XNq := Lib.hid (XNz.out.on hHeld)
              have ONq := Lib.hid (OwnU.on ONz.out hHeld)
              clear hHeld
              have q0 := XNq.out.cell 0
              have q1 := XNq.out.cell 1
              have q2 := XNq.out.cell 2
              have q3 := XNq.out.cell 3
              have q4 := XNq.out.cell 4
              have ql := XNq.out.lt
              go_wp2_with fail
              clear q0 q1 q2 q3 q4 ql
              refine (madeSet_any s2 (.slice An n2 cn) _ (by have := FW2.out; omega) (OwnU.set ONq.out)).mono ?_
              rintro e w20 ⟨MV, rfl, ox, b20⟩
              obtain ⟨Mx, Nx, rfl⟩ := OwnU.form ox
              rw [← HNS2.out] at ox ⊢
              have b21 := b20.alloc b20.size (.cells #[.int .i64 s2.de, .int .i64 s2.cl, .int .i64 s2.fu, .int .i64 s2.st, .slice Mx n2 Nx] 60)
              obtain ⟨X9, hX9⟩ : ∃ X9 : Nat → Prop, X9 = fun i => X6 i ∨ Rg wk3.heap.size (w20.alloc (.cells #[.int .i64 s2.de, .int .i64 s2.cl, .int .i64 s2.fu, .int .i64 s2.st, .slice Mx n2 Nx] 60)).heap.size i := ⟨_, rfl⟩
              have OM21 : Hid (OneU w.heap.size w (w20.alloc (.cells #[.int .i64 s2.de, .int .i64 s2.cl, .int .i64 s2.fu, .int .i64 s2.st, .slice Mx n2 Nx] 60)) X9 g G) := Lib.hid (by rw [hX9]; exact OMq.out.more b21)
              have SV21 : Hid (XsV X9 (w20.alloc (.cells #[.int .i64 s2.de, .int .i64 s2.cl, .int .i64 s2.fu, .int .i64 s2.st, .slice Mx n2 Nx] 60)) (.slice As m cs) H.vs.tail) := Lib.hid ((SVq.out.on b21).more fun i h => by rw [hX9]; exact .inl h)
              have XX21 := Lib.hid (Blk.new w20 60 #[.int .i64 s2.de, .int .i64 s2.cl, .int .i64 s2.fu, .int .i64 s2.st, .slice Mx n2 Nx])
              have OX21 : Hid (OwnU (w20.alloc (.cells #[.int .i64 s2.de, .int .i64 s2.cl, .int .i64 s2.fu, .int .i64 s2.st, .slice Mx n2 Nx] 60)) 0 96 (.slice Mx n2 Nx) s2.rs) := Lib.hid (orow_low14 (OwnU.alloc ox (.cells #[.int .i64 s2.de, .int .i64 s2.cl, .int .i64 s2.fu, .int .i64 s2.st, .slice Mx n2 Nx] 60)) (Nat.zero_le _))
              have HX21 : Hid (∀ i, (Value.slice Mx n2 Nx).ownBlock = some i → X9 i) := Lib.hid fun i hi => by rw [hX9]; exact .inr ⟨(World.ownsRow.lt ox i hi).1, by have := (World.ownsRow.lt ox i hi).2; simp; omega⟩
              have HML : Hid (H.vs.tail.length ≤ 1000000) := Lib.hid (by have := HRK.out; have := LK0.out; simp; omega)
              have HRW : Hid (∀ i, (Value.slice As m cs).ownBlock = some i → X9 i) := Lib.hid (by obtain ⟨L, _, _, h3, _⟩ := SV21.out; exact h3)
              clear ox b20 b21 OMq SVq XNq ONq hX9
              go_wp2_with (at_builtin
                           go_loud (refine wpList_app_xset _ rfl (.tmp 101) (.tmp 104) rfl _ H.vs.tail rfl w20.heap.size s2 Mx n2 Nx rfl SV21.out XX21.out OX21.out HX21.out HML.out ?_)
                           intro v' w' o3 g3
                           have OMr := Lib.hid (OM21.out.grown g3 HRW.out)
                           have SVr : Hid (XsV (fun i => X9 i ∨ Rg (w20.alloc (.cells #[.int .i64 s2.de, .int .i64 s2.cl, .int .i64 s2.fu, .int .i64 s2.st, .slice Mx n2 Nx] 60)).heap.size w'.heap.size i) w' v' G.vs.tail) := Lib.hid (by rw [HTAIL.out]; exact o3)
                           obtain ⟨Aq, cq, hv'⟩ := SVr.out.form
                           obtain ⟨mq, hmq⟩ : ∃ mq, mq = G.vs.tail.length := ⟨_, rfl⟩
                           rw [← hmq] at hv'
                           subst hv'
                           clear hmq g3 o3)
              go_roundw
              case rel => exact ⟨k + 1, _, hlt, by go_num, Lib.hid (by rw [HRT.out]; exact OMr.out), Lib.hid (by rw [HRT.out]; exact SVr.out)⟩
              case measure => simp [intOf]; omega
            · rw [HOV.out] at h1 h2 h4
              simp only at h1 h2 h4
              rw [HCH.out] at h4
              subst h1
              obtain rfl : k2 = k1 := by have a := HKG.out; have b := HKG2.out; rw [h3] at b; omega
              have HGV : Hid (G.vs.tail = H.vs.tail) := Lib.hid (by rw [h3])
              have hoc0 : (oc == 0) = false := by simpa using h2
              have b13 := (b12.alloc b12.size (.cells #[.int .i64 R.1.de, .int .i64 R.1.cl, .int .i64 R.1.fu, .int .i64 R.1.st, .slice Ar R.1.rs.length cr] 54)).alloc (by have := b12.size; simp; omega) (.cells #[.int .i64 R.2.1, .int .i64 R.2.2.1, .int .i64 R.2.2.2] 42)
              have OMz := Lib.hid (OM11.out.on b13)
              have SVz : Hid (XsV X6 _ (.slice As m cs) G.vs.tail) := Lib.hid (by rw [HGV.out]; exact SV11.out.on b13)
              have XOz := Lib.hid (XO11.out.on b13)
              have XVz := Lib.hid (Blk.at_new (w12.alloc (.cells #[.int .i64 R.1.de, .int .i64 R.1.cl, .int .i64 R.1.fu, .int .i64 R.1.st, .slice Ar R.1.rs.length cr] 54)) (w12.heap.size + 1) (by simp) 42 #[.int .i64 R.2.1, .int .i64 R.2.2.1, .int .i64 R.2.2.2])
              clear b12 b13 hrv OM11 SV11 XE11 XB11 OB11 XO11 XN11 ON11 HOV HPV HCH HRR h2 h3
              have H4 := Lib.hid h4
              have q0 := XOz.out.cell 0
              have q1 := XOz.out.cell 1
              have q2 := XOz.out.cell 2
              have q3 := XOz.out.cell 3
              have ql := XOz.out.lt
              by_cases h31 : oc = 31
              · clear h4
                subst h31
                go_wp2_with fail
                generalize hwb : (w12.alloc _).alloc _ = wz at *
                clear hwb
                refine (version_one k2 HKG2.out OMz.out.one).mono ?_
                rintro e wv7 ⟨rfl, rfl⟩
                go_wp2
                go_roundw
                case rel => exact ⟨k + 1, X6, hlt, by go_num, Lib.hid (by rw [HRT.out]; exact OMz.out), Lib.hid (by rw [HRT.out]; exact SVz.out)⟩
                case measure => simp [intOf]; omega
              · have h31b : (oc != 31) = true := by simpa using h31
                have hR2 : R.2 = (oc, oru, oat) := (h4.resolve_left h31).symm
                obtain ⟨r1, r2⟩ := R
                simp only at hR2
                subst hR2
                simp only at XVz SVz OMz XOz ⊢
                clear h4 H4 h31
                have hrn : ∀ W, (binOp .neq 42 (.agg #[.int .i64 oc, .int .i64 oru, .int .i64 oat]) (.agg #[.int .i64 oc, .int .i64 oru, .int .i64 oat])).run Tryz.prog W = .ok (.bool false) W := fun W => by
                  rw [run_neq_verdict]; simp
                have z0 := XVz.out.cell 0
                have z1 := XVz.out.cell 1
                have z2 := XVz.out.cell 2
                have zl := XVz.out.lt
                go_wp2_with fail
                generalize hwb : (w12.alloc _).alloc _ = wz at *
                clear hwb
                refine (version_one k2 HKG2.out OMz.out.one).mono ?_
                rintro e wv7 ⟨rfl, rfl⟩
                go_wp2
                go_roundw
                case rel => exact ⟨k + 1, X6, hlt, by go_num, Lib.hid (by rw [HRT.out]; exact OMz.out), Lib.hid (by rw [HRT.out]; exact SVz.out)⟩
                case measure => simp [intOf]; omega
        · obtain rfl : n = k := by omega
          have hT0 : l.take n = l := List.take_of_length_le (by have := HL.out; omega)
          rw [hT0] at TW SV HM HRK
          obtain ⟨H, hH⟩ : ∃ H, H = runM pvM l := ⟨_, rfl⟩
          rw [← hH] at TW SV HM HRK
          clear hH hT0
          have HKG : Hid (H.vs.length = m + 1) := Lib.hid (by have := HRK.out; have h := HM.out; rw [List.length_tail] at h; omega)
          have HM16 : Hid (m ≤ 100) := Lib.hid (by have := HRK.out; have := HKG.out; have := HL.out; omega)
          go_wp2
          go_loopw [131] (fun i wr => ∃ j : Nat, j ≤ m ∧ i = .int .i64 (j : Int) ∧ Hid (OneU w.heap.size w wr X g H) ∧ Hid (XsV X wr (.slice As m cs) H.vs.tail)) (fun i _ => m - (intOf i).toNat)
          case atStart => exact ⟨0, Nat.zero_le _, rfl, TW, SV⟩
          case round =>
            obtain ⟨j, hj, rfl, TJ, SJ⟩ := hrel
            by_cases hjm : j < m
            · obtain ⟨b, s, vv, hA, hb, hsj, hO, c0, c1, c2, c3, c4⟩ := SJ.out.at_ (k := j) (by rw [← HM.out]; exact hjm)
              subst hA
              obtain ⟨Av, cv, rfl⟩ := OwnU.form hO
              obtain ⟨ns, hns⟩ : ∃ ns, ns = s.rs.length := ⟨_, rfl⟩
              have HNS := Lib.hid hns
              rw [← hns] at hO c4
              clear hns
              have HSJ : Hid (H.vs[j + 1]? = some s) := Lib.hid (by rw [← hsj, List.getElem?_tail])
              have hmx := HM16.out
              have hjn : (j : Int) < (m : Int) := by omega
              have b0 : Below wr.heap.size wr (wr.alloc (.cells #[.int .i64 s.de, .int .i64 s.cl, .int .i64 s.fu, .int .i64 s.st, .slice Av ns cv] 60)) := (Below.refl _ _).alloc (Nat.le_refl _) _
              have TJ0 := Lib.hid (TJ.out.on b0)
              have SJ0 := Lib.hid (SJ.out.on b0)
              have XS0 := Lib.hid (Blk.new wr 60 #[.int .i64 s.de, .int .i64 s.cl, .int .i64 s.fu, .int .i64 s.st, .slice Av ns cv])
              have OV0 := Lib.hid (OwnU.alloc hO (.cells #[.int .i64 s.de, .int .i64 s.cl, .int .i64 s.fu, .int .i64 s.st, .slice Av ns cv] 60))
              clear b0 hO hsj
              have SO := set_own (j + 1) m s HKG.out HSJ.out TJ0.out.one
              rw [show (((j + 1 : Nat)) : Int) = (j : Int) + 1 by omega] at SO
              have SO := Lib.hid SO
              go_wp2_with fail
              obtain ⟨xb, hxb⟩ : ∃ xb, xb = wr.heap.size := ⟨_, rfl⟩
              rw [← hxb] at XS0 ⊢
              clear hxb c0 c1 c2 c3 c4
              generalize hwb : wr.alloc _ = wb at *
              clear hwb
              refine SO.out.mono ?_
              rintro e w5 ⟨Af, cf, rfl, ho, hrk, hfw, b5⟩
              rw [← HNS.out] at ho ⊢
              have HRS := Lib.hid hrk
              have FW := Lib.hid hfw
              have b6 := b5.alloc b5.size (.cells #[.int .i64 s.de, .int .i64 s.cl, .int .i64 s.fu, .int .i64 s.st, .slice Af ns cf] 54)
              have TJz := Lib.hid (TJ0.out.on b6)
              have SJz := Lib.hid (SJ0.out.on b6)
              have XSz := Lib.hid (XS0.out.on b6)
              have OVz := Lib.hid (OwnU.on OV0.out b6)
              have XFz := Lib.hid (Blk.new w5 54 #[.int .i64 s.de, .int .i64 s.cl, .int .i64 s.fu, .int .i64 s.st, .slice Af ns cf])
              have OFz := Lib.hid (OwnU.alloc ho (.cells #[.int .i64 s.de, .int .i64 s.cl, .int .i64 s.fu, .int .i64 s.st, .slice Af ns cf] 54))
              have BLz := Lib.hid TJz.out.below
              clear ho hrk hfw b5 b6 SO TJ SJ TJ0 SJ0 XS0 OV0
              go_upto_region 27 with (fail)
              obtain ⟨fb, hfb⟩ : ∃ fb, fb = w5.heap.size := ⟨_, rfl⟩
              rw [← hfb] at XFz ⊢
              clear hfb
              generalize hwb : w5.alloc _ = wz at *
              clear hwb
              refine wp_region_held_drew (S := fun w' => Below wz.heap.size wz w') (by kernel_rfl) (Below.drewN' (Below.refl _ wz) 1) (fun hHeld => ?_)
              refine take_d 0 143 (.bool true) _ rfl rfl (by kernel_rfl) (by kernel_rfl) (by kernel_rfl) (fun _ _ _ h => h) (Or.inl ⟨by rfl, fun w' hSw => ?_⟩) hHeld ?_
              · go_simp
              simp only [List.setIfInBounds_toArray, List.set_cons_zero, List.set_cons_succ]
              refine take_d 1 144 (.bool false) _ rfl rfl (by kernel_rfl) (by kernel_rfl) (by kernel_rfl) (fun _ _ _ h => h) (Or.inl ⟨by rfl, fun w' hSw => ?_⟩) hHeld ?_
              · go_simp
              simp only [List.setIfInBounds_toArray, List.set_cons_zero, List.set_cons_succ]
              refine take_d 2 145 (.bool false) _ rfl rfl (by kernel_rfl) (by kernel_rfl) (by kernel_rfl) (fun _ _ _ h => h) (Or.inl ⟨by rfl, fun w' hSw => ?_⟩) hHeld ?_
              · go_simp
              simp only [List.setIfInBounds_toArray, List.set_cons_zero, List.set_cons_succ]
              refine take_d 3 146 (.agg #[.int .i64 s.de, .int .i64 s.cl, .int .i64 s.fu, .int .i64 s.st, .slice Af ns cf]) _ rfl rfl (by kernel_rfl) (by kernel_rfl) (by kernel_rfl) (fun _ _ _ h => h) (Or.inl ⟨by rfl, fun w' hSw => ?_⟩) hHeld ?_
              · have q0 := (XFz.out.on hSw).cell 0
                have q1 := (XFz.out.on hSw).cell 1
                have q2 := (XFz.out.on hSw).cell 2
                have q3 := (XFz.out.on hSw).cell 3
                have q4 := (XFz.out.on hSw).cell 4
                go_simp
              simp only [List.setIfInBounds_toArray, List.set_cons_zero, List.set_cons_succ]
              refine take_d 5 148 (.agg #[.int .i64 s.de, .int .i64 s.cl, .int .i64 s.fu, .int .i64 s.st, .slice Av ns cv]) _ rfl rfl (by kernel_rfl) (by kernel_rfl) (by kernel_rfl) (fun _ _ _ h => h) (Or.inl ⟨by rfl, fun w' hSw => ?_⟩) hHeld ?_
              · have q0 := (XSz.out.on hSw).cell 0
                have q1 := (XSz.out.on hSw).cell 1
                have q2 := (XSz.out.on hSw).cell 2
                have q3 := (XSz.out.on hSw).cell 3
                have q4 := (XSz.out.on hSw).cell 4
                go_simp
              simp only [List.setIfInBounds_toArray, List.set_cons_zero, List.set_cons_succ]
              refine wpAnyH_ready (rs := [4]) (by kernel_rfl) (by simp) ?_
              refine AllReadyH.cons rfl (fun K hK => ?_) AllReadyH.nil
              go_simp
              refine (madeSet_any s (.slice Af ns cf) _ (by have := FW.out; omega) ((OwnU.set OFz.out).on hHeld)).mono ?_
              rintro e m1 ⟨MV, rfl, ox, hbk⟩
              obtain ⟨M1, N1, rfl⟩ := OwnU.form ox
              have Om1 := Lib.hid (OwnU.set ox)
              have hSk := hHeld.trans (hbk.mono hHeld.size)
              rw [← HNS.out] at Om1 ⊢
              refine hK.out _ _ hSk (fun hHeld => ?_)
              clear hK K hbk hSk ox
              refine wpAnyH_ready (rs := [6]) (by kernel_rfl) (by simp) ?_
              refine AllReadyH.cons rfl (fun K hK => ?_) AllReadyH.nil
              go_simp
              refine (same_any s s (.slice M1 ns N1) (.slice Av ns cv) _ (by have := FW.out; omega) (by have := FW.out; omega) Om1.out ((OwnU.set OVz.out).on hHeld)).mono ?_
              rintro e wk3 ⟨cc, rfl, hcc, hbk⟩
              have hct : cc = true := hcc.2 rfl
              subst hct
              have hSk := hHeld.trans (hbk.mono hHeld.size)
              refine hK.out _ _ hSk (fun hHeld => ?_)
              clear hK K hbk hSk hcc
              refine take_d 7 150 (.bool false) _ rfl rfl (by kernel_rfl) (by kernel_rfl) (by kernel_rfl) (fun _ _ _ h => h) (Or.inl ⟨by rfl, fun w' hSw => ?_⟩) hHeld ?_
              · go_simp
              simp only [List.setIfInBounds_toArray, List.set_cons_zero, List.set_cons_succ]
              refine take_d 8 151 (.bool false) _ rfl rfl (by kernel_rfl) (by kernel_rfl) (by kernel_rfl) (fun _ _ _ h => h) (Or.inl ⟨by rfl, fun w' hSw => ?_⟩) hHeld ?_
              · go_simp
              simp only [List.setIfInBounds_toArray, List.set_cons_zero, List.set_cons_succ]
              refine take_d 9 152 (.bool false) _ rfl rfl (by kernel_rfl) (by kernel_rfl) (by kernel_rfl) (fun _ _ _ h => h) (Or.inl ⟨by rfl, fun w' hSw => ?_⟩) hHeld ?_
              · go_simp
              simp only [List.setIfInBounds_toArray, List.set_cons_zero, List.set_cons_succ]
              refine take_d 10 153 (.agg #[.int .i64 s.de, .int .i64 s.cl, .int .i64 s.fu, .int .i64 s.st, .slice Af ns cf]) _ rfl rfl (by kernel_rfl) (by kernel_rfl) (by kernel_rfl) (fun _ _ _ h => h) (Or.inl ⟨by rfl, fun w' hSw => ?_⟩) hHeld ?_
              · have q0 := (XFz.out.on hSw).cell 0
                have q1 := (XFz.out.on hSw).cell 1
                have q2 := (XFz.out.on hSw).cell 2
                have q3 := (XFz.out.on hSw).cell 3
                have q4 := (XFz.out.on hSw).cell 4
                go_simp
              simp only [List.setIfInBounds_toArray, List.set_cons_zero, List.set_cons_succ]
              refine wpAnyH_ready (rs := [11]) (by kernel_rfl) (by simp) ?_
              refine AllReadyH.cons rfl (fun K hK => ?_) AllReadyH.nil
              go_simp
              refine (vrules_any s (.slice Af ns cf) _ (by have := FW.out; omega) (tabs_on HT.out (BLz.out.trans (hHeld.mono BLz.out.size)) (Nat.le_trans BLz.out.size hHeld.size)) ((OwnU.set OFz.out).on hHeld)).mono ?_
              rintro e wk4 ⟨rfl, hbk⟩
              rw [HRS.out]
              generalize (rulesM pvM s).2.1 = ru1, (rulesM pvM s).2.2 = ru2
              have hSk := hHeld.trans (hbk.mono hHeld.size)
              refine hK.out _ _ hSk (fun hHeld => ?_)
              clear hK K hbk hSk
              refine take_d 12 155 (.int .i64 0) _ rfl rfl (by kernel_rfl) (by kernel_rfl) (by kernel_rfl) (fun _ _ _ h => h) (Or.inl ⟨by rfl, fun w' hSw => ?_⟩) hHeld ?_
              · have rc := run_code14
                go_simp
              simp only [List.setIfInBounds_toArray, List.set_cons_zero, List.set_cons_succ]
              refine take_d 13 156 (.bool false) _ rfl rfl (by kernel_rfl) (by kernel_rfl) (by kernel_rfl) (fun _ _ _ h => h) (Or.inl ⟨by rfl, fun w' hSw => ?_⟩) hHeld ?_
              · skip
                go_simp
              simp only [List.setIfInBounds_toArray, List.set_cons_zero, List.set_cons_succ]
              refine take_d 14 157 (.bool false) _ rfl rfl (by kernel_rfl) (by kernel_rfl) (by kernel_rfl) (fun _ _ _ h => h) (Or.inl ⟨by rfl, fun w' hSw => ?_⟩) hHeld ?_
              · go_simp
              simp only [List.setIfInBounds_toArray, List.set_cons_zero, List.set_cons_succ]
              refine wpAnyH_done (by kernel_rfl) ?_ _
              have TJq := Lib.hid (TJz.out.on hHeld)
              have SJq := Lib.hid (SJz.out.on hHeld)
              clear hHeld
              go_wp2
              go_roundw
              case rel => exact ⟨j + 1, hjm, by go_num, TJq, SJq⟩
              case measure => simp [intOf]; omega
            · obtain rfl : m = j := by omega
              go_wp2_with fail
              refine (version_one m HKG.out TJ.out.one).mono ?_
              rintro e wv ⟨rfl, rfl⟩
              go_wp2
              go_ret
              exact ⟨rfl, TJ.out.below⟩
    · have h16i : (16 : Int) < (n : Int) := by omega
      go_wp2
      go_ret
      exact ⟨rfl, B2.out⟩
end Go.Proofs.YtefgobmpleoafaaGreatDoor

