/- Package history: Set, Last. -/
import Derived.Test.YtefgobmpleoafaaGreatDoorJHsw
import Derived.Test.YtefgobmpleoafaaGreatDoorJHpC
import Derived.Test.YtefgobmpleoafaaGreatDoorJRc
namespace Go.Proofs.YtefgobmpleoafaaGreatDoor
open Go.RowKit Go.Maps
variable {w w' : World} {S U : Nat → Prop} {g : Nat} {H : Hs}

theorem OwnU.lower_ {base base' : Nat} {e : TypeId} {v : Value} {l : List Ru} (h : OwnU w base e v l) (hb : base' ≤ base) : OwnU w base' e v l := ⟨h.1, h.2.imp id fun ⟨g, c, cur, e, q, r⟩ => ⟨g, c, cur, e, by omega, r⟩⟩
theorem ne_own {base : Nat} {l : List Ru} {e t : TypeId} {v : Value} {cs : Array Value} (h : OwnU w base e v l) (hg : Blk w g t cs) (hne : e ≠ t) : v.ownBlock ≠ some g := own_ne h hg hne
set_option maxRecDepth 100000 in
set_option maxHeartbeats 2000000 in
theorem set_out (v : Int) (k : Nat) (hk : H.vs.length = k + 1) (hv : v < 0 ∨ (k : Int) < v) (h : HistAt w g S U H) : Calls Tryz.prog 20 #[.pointer (some ⟨g, 0, none⟩), .int .i64 v] w fun e w' => e = .returned (.tuple #[.agg #[.int .i64 0, .int .i64 0, .int .i64 0, .int .i64 0, .slice none 0 0], .bool false]) ∧ Below w.heap.size w w' := by
  have b0 : Below w.heap.size w (w.alloc (.cells #[.int .i64 0, .int .i64 0, .int .i64 0, .int .i64 0, .slice none 0 0] 54)) := (Below.refl _ _).alloc (Nat.le_refl _) _
  have hb := Blk.new w 54 #[.int .i64 0, .int .i64 0, .int .i64 0, .int .i64 0, .slice none 0 0]
  have VE := Lib.hid (version_any k hk (h.on b0))
  have HF := Lib.hid hb
  have B0 := Lib.hid b0
  clear h hb b0 hk
  go_enter Tryz.func20, Tryz.ntmps20
  by_cases h0 : v < 0
  · go_wp2
    refine bodyPost_ret (v := .tuple #[.agg #[.int .i64 0, .int .i64 0, .int .i64 0, .int .i64 0, .slice none 0 0], .bool false]) (by simp [results, Tryz.results20, go_sem, *]) rfl ⟨rfl, B0.out⟩
  · have hv2 : (k : Int) < v := by omega
    clear hv
    go_wp2_with fail
    refine VE.out.mono ?_
    rintro e w1 ⟨rfl, rfl⟩
    clear VE
    go_wp2
    refine bodyPost_ret (v := .tuple #[.agg #[.int .i64 0, .int .i64 0, .int .i64 0, .int .i64 0, .slice none 0 0], .bool false]) (by simp [results, Tryz.results20, go_sem, *]) rfl ⟨rfl, B0.out⟩
set_option maxRecDepth 100000 in
set_option maxHeartbeats 2000000 in
theorem set_in (j k : Nat) (s : RS) (hk : H.vs.length = k + 1) (hs : H.vs[j]? = some s) (h : HistAt w g S U H) : Calls Tryz.prog 20 #[.pointer (some ⟨g, 0, none⟩), .int .i64 (j : Int)] w fun e w' => ∃ A c, e = .returned (.tuple #[.agg #[.int .i64 s.de, .int .i64 s.cl, .int .i64 s.fu, .int .i64 s.st, .slice A s.rs.length c], .bool true]) ∧ OwnU w' w.heap.size 72 (.slice A s.rs.length c) s.rs ∧ Below w.heap.size w w' := by
  have b0 : Below w.heap.size w (w.alloc (.cells #[.int .i64 0, .int .i64 0, .int .i64 0, .int .i64 0, .slice none 0 0] 54)) := (Below.refl _ _).alloc (Nat.le_refl _) _
  have hjl : j < H.vs.length := (List.getElem?_eq_some_iff.1 hs).1
  have hb := Blk.new w 54 #[.int .i64 0, .int .i64 0, .int .i64 0, .int .i64 0, .slice none 0 0]
  have VE := Lib.hid (version_any k hk (h.on b0))
  have hat := h.on b0
  have hfew := h.ok.few (List.mem_of_getElem? hs)
  obtain ⟨vv, L, mb, m, D, hv⟩ := hat
  obtain ⟨b, c, k', rfl, hL, hl, hc, hm, _⟩ := hv.form
  obtain rfl : k' = k := by omega
  obtain ⟨x, hx, hxs, ⟨A0, d0, hx2⟩, hrf, e0, e1, e2, e3, e4⟩ := hv.cells_ hjl
  have hxe : x.1 = s := by rw [hs] at hxs; injection hxs with h; exact h.symm
  rw [hx2] at e4 hrf
  rw [hxe] at e0 e1 e2 e3 e4 hrf
  have c1 := hv.blk.cell 1
  have hlt := hv.blk.lt
  have hjk : (j : Int) < ((k' + 1 : Nat) : Int) := by omega
  have hj0 : ¬ (j : Int) < 0 := by omega
  have hjv : ¬ (k' : Int) < (j : Int) := by omega
  have B0 := Lib.hid b0
  have HB := Lib.hid hb
  have HR := Lib.hid hrf
  have HF := Lib.hid hfew
  clear h b0 hb hrf hv hs hxs hxe hx hx2 hl hk hL hjl hc hm hfew
  go_enter Tryz.func20, Tryz.ntmps20
  go_upto_region 1 with (fail)
  generalize w.alloc _ = w0 at *
  have hsz : w.heap.size < w0.heap.size := HB.out.lt
  go_wp2_with fail
  refine VE.out.mono ?_
  rintro e w1 ⟨rfl, rfl⟩
  clear VE
  have ha : b < w1.heap.size := block_lt_of_cell e0
  go_upto_region 4 with (fail)
  have b2 : Below w1.heap.size w1 (w1.alloc (.cells #[.int .i64 s.de, .int .i64 s.cl, .int .i64 s.fu, .int .i64 s.st, .slice A0 s.rs.length d0] 54)) := (Below.refl _ _).alloc (Nat.le_refl _) _
  have X2 := Lib.hid (Blk.new w1 54 #[.int .i64 s.de, .int .i64 s.cl, .int .i64 s.fu, .int .i64 s.st, .slice A0 s.rs.length d0])
  have R2 := Lib.hid (HR.out.on b2).read
  have B2 := Lib.hid (B0.out.trans (b2.mono (Nat.le_of_lt hsz)))
  have Z2 := Lib.hid (HB.out.on b2)
  clear b2 e0 e1 e2 e3 e4 c1 hlt HB B0
  generalize w1.alloc _ = w2 at *
  have x4 := X2.out.cell 4
  have xl := X2.out.lt
  have CL := Lib.hid (cloneR_any _ s.rs w2 (by have := HF.out; omega) R2.out)
  obtain ⟨q, hq⟩ : ∃ q, q = s.rs.length := ⟨_, rfl⟩
  rw [← hq] at CL X2 x4 R2 ⊢
  have HQ := Lib.hid hq
  clear hq
  go_wp2_with fail
  refine CL.out.mono ?_
  rintro e w3 ⟨A3, c3, rfl, o3, b3⟩
  have O3 : Hid (OwnU w3 w.heap.size 72 (.slice A3 q c3) s.rs) := Lib.hid (o3.lower_ (base' := w.heap.size) B2.out.size)
  have B3 := Lib.hid (B2.out.trans (b3.mono B2.out.size))
  have X3 := Lib.hid (X2.out.on b3)
  have Z3 := Lib.hid (Z2.out.on b3)
  have D3 : Hid ((Value.slice A3 q c3).ownBlock ≠ some w1.heap.size) := Lib.hid (ne_own O3.out X3.out (by decide))
  have E3 : Hid ((Value.slice A3 q c3).ownBlock ≠ some w.heap.size) := Lib.hid (ne_own O3.out Z3.out (by decide))
  clear o3 b3 CL x4 xl
  have x0 := X3.out.cell 0
  have x1 := X3.out.cell 1
  have x2 := X3.out.cell 2
  have x3 := X3.out.cell 3
  have x4 := X3.out.cell 4
  have xf := X3.out.frozen
  have xl := X3.out.lt
  have z0 := Z3.out.cell 0
  have z1 := Z3.out.cell 1
  have z2 := Z3.out.cell 2
  have z3 := Z3.out.cell 3
  have z4 := Z3.out.cell 4
  have zf := Z3.out.frozen
  have zl := Z3.out.lt
  have hn1 : ¬ w1.heap.size = w.heap.size := by omega
  have hn2 : ¬ w.heap.size = w1.heap.size := by omega
  go_wp2
  refine bodyPost_ret (v := .tuple #[.agg #[.int .i64 s.de, .int .i64 s.cl, .int .i64 s.fu, .int .i64 s.st, .slice A3 q c3], .bool true]) (by simp [results, Tryz.results20, go_sem, *]) rfl ⟨A3, c3, by rw [HQ.out], ?_, ?_⟩
  · have e3 : Value.slice A3 s.rs.length c3 = .slice A3 q c3 := by rw [HQ.out]
    rw [e3]
    iterate 5 refine OwnU.farset ?_ E3.out _
    refine OwnU.farset ?_ D3.out _
    exact O3.out
  · iterate 5 refine Below.setCell ?_ (show w.heap.size ≤ w.heap.size from Nat.le_refl _) _
    refine Below.setCell ?_ (show w.heap.size ≤ w1.heap.size from Nat.le_of_lt hsz) _
    exact B3.out
/-- 'm[k]' of a map of lasts. -/
theorem keyC {c : Int} (h : (Lit.int .i64 c).wf = true) : keyOf Tryz.prog 3 (.int .i64 c) = some (.int .i64 c) := keyI c h
theorem zeroLa (w : World) : (zeroValue 90).run Tryz.prog w = .ok La.zero.val w := by kernel_rfl
theorem wpList_lookup_la (w : World) {ops : Array Oper} {rest : List Oper} {o : Oper} {a : Act} {Q : Exit → Act → World → Prop} (hg : o.guard = none) (m x : Operand) (hop : o.op = Op.lookup 78 m x true) (b n : Nat) (D : DataW La) (cl : Int → Option La)
    (hm : a.eval m = .map (some b)) (hown : w.ownsMap Tryz.prog 3 laR b n D) (hc : Cm D cl) (z : Int) (hx : a.eval x = .int .i64 z) (hz : (Lit.int .i64 z).wf = true)
    (hK : wpList Tryz.prog ops Q rest (a.put o.dst (.tuple #[((cl z).getD .zero).val, .bool (cl z).isSome])) w) : wpList Tryz.prog ops Q (o :: rest) a w :=
  wpList_lookup_own_ok w hg m x 78 hop 3 90 (int_keyed Tryz.underlying3) Tryz.underlying78 laR (zeroLa w) (.held .zero) [] rfl b n D hm hown _ _ hx (keyC hz) (fun v ps hv => by
    obtain ⟨l, rfl, he⟩ := laR_inv hv
    obtain ⟨h1, h2⟩ := hc.2 z hz
    rw [h2] at he
    obtain ⟨h3, _⟩ := Prod.mk.inj he
    have h4 : (cl z).getD .zero = l := by injection h3
    rw [h1, ← h4]
    exact hK)
set_option maxRecDepth 100000 in
set_option maxHeartbeats 2000000 in
theorem last_any (c : Int) (hc : (Lit.int .i64 c).wf = true) (h : HistAt w g S U H) : Calls Tryz.prog 23 #[.pointer (some ⟨g, 0, none⟩), .int .i64 c] w fun e w' => e = .returned (.tuple #[.int .i64 (H.la c).re, .agg #[.int .i64 (H.la c).o.ve, .int .i64 (H.la c).o.co, .int .i64 (H.la c).o.ru, .int .i64 (H.la c).o.at_], .bool (H.cl c).isSome]) ∧ Below w.heap.size w w' := by
  have b0 : Below w.heap.size w (w.alloc (.cells #[.int .i64 0, .int .i64 0, .int .i64 0, .int .i64 0] 44)) := (Below.refl _ _).alloc (Nat.le_refl _) _
  have hb := Blk.new w 44 #[.int .i64 0, .int .i64 0, .int .i64 0, .int .i64 0]
  have B0 := Lib.hid b0
  have HB := Lib.hid hb
  have HA := Lib.hid (h.on b0)
  obtain ⟨vv, L, mb, m, D, hv⟩ := h.on b0
  have c2 := hv.blk.cell 2
  have hlt := hv.blk.lt
  have HM := Lib.hid hv.map_
  have HC := Lib.hid hv.cm
  have HW := Lib.hid hc
  obtain ⟨r, hr⟩ : ∃ r, r = (H.cl c).getD .zero := ⟨_, rfl⟩
  obtain ⟨i, hi⟩ : ∃ i, i = (H.cl c).isSome := ⟨_, rfl⟩
  have hla : H.la c = r := hr.symm
  rw [hla, ← hi]
  have HRR := Lib.hid hr
  have HI := Lib.hid hi
  obtain ⟨⟨ve, co, ru, at_⟩, re⟩ := r
  simp only
  clear b0 hb h hv hr hi hla hc
  go_enter Tryz.func23, Tryz.ntmps23
  go_upto_region 1 with (fail)
  generalize w.alloc _ = w0 at *
  have hsz : w.heap.size < w0.heap.size := HB.out.lt
  go_upto_region 2 with (first | (at_lookup; refine wpList_lookup_la _ rfl _ _ rfl mb m D H.cl rfl HM.out HC.out c rfl HW.out ?_; rw [← HRR.out, ← HI.out]; unfold La.val) | fail)
  have b1 : Below w0.heap.size w0 (w0.alloc (.cells #[.int .i64 ve, .int .i64 co, .int .i64 ru, .int .i64 at_, .int .i64 re] 90)) := (Below.refl _ _).alloc (Nat.le_refl _) _
  have X1 := Lib.hid (Blk.new w0 90 #[.int .i64 ve, .int .i64 co, .int .i64 ru, .int .i64 at_, .int .i64 re])
  have Z1 := Lib.hid (HB.out.on b1)
  have B1 := Lib.hid (B0.out.trans (b1.mono (Nat.le_of_lt hsz)))
  clear b1 c2 hlt HA HM
  generalize w0.alloc _ = w1 at *
  have x0 := X1.out.cell 0
  have x1 := X1.out.cell 1
  have x2 := X1.out.cell 2
  have x3 := X1.out.cell 3
  have x4 := X1.out.cell 4
  have xl := X1.out.lt
  have z0 := Z1.out.cell 0
  have z1 := Z1.out.cell 1
  have z2 := Z1.out.cell 2
  have z3 := Z1.out.cell 3
  have zf := Z1.out.frozen
  have zl := Z1.out.lt
  have hn1 : ¬ w0.heap.size = w.heap.size := by omega
  have hn2 : ¬ w.heap.size = w0.heap.size := by omega
  go_region
  go_wp2
  refine bodyPost_ret (v := .tuple #[.int .i64 re, .agg #[.int .i64 ve, .int .i64 co, .int .i64 ru, .int .i64 at_], .bool i]) (by simp [results, Tryz.results23, go_sem, *]) rfl ⟨rfl, ?_⟩
  refine Below.drewN' (n := 1) ?_
  iterate 4 refine Below.setCell ?_ (show w.heap.size ≤ w.heap.size from Nat.le_refl _) _
  exact B1.out
end Go.Proofs.YtefgobmpleoafaaGreatDoor

