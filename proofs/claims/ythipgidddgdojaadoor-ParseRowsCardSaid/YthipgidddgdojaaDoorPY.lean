/- The parse law's anchor: four short patterns. -/
import Derived.Test.YthipgidddgdojaaDoorPX
namespace Go.Proofs.YthipgidddgdojaaDoor
open Go.RowKit
open Go.Proofs.YthipgidddgdojaaDoor.Cl (Rg)
variable {w w' : World}

theorem tabs_on {n n' : Nat} (h : TabsAt n w) (hb : Below n w w') (hn : n ≤ n') : TabsAt n' w' := ⟨by have := h.1; omega, (h.below hb).2⟩
def anchorNd : Nd := .mk 3 0 0 0 0 [] [.mk 1 0 0 0 0 [(97, 97)] [], .mk 4 0 (-1) 1 0 [] [.mk 1 0 0 0 0 [(98, 98)] []]]
theorem anchor1 : parse 1026 [97, 124, 98, 42, 63] = .ok (anchorNd, 0, false) := by kernel_rfl
theorem anchor2 : parse 1026 [97, 42, 42] = .error (23, 2) := by kernel_rfl
theorem anchor3 : parse 1026 [40, 97] = .error (20, 0) := by kernel_rfl
theorem anchor4 : parse 1026 [92, 49] = .error (26, 0) := by kernel_rfl

theorem run_eql_fault (a b c d : Int) (w : World) : (binOp .eql 32 (.agg #[.int .i64 a, .int .i64 b]) (.agg #[.int .i64 c, .int .i64 d])).run Tryd.prog w = .ok (.bool (a == c && b == d)) w := by
  have u3 := Tryd.underlying3
  have a3 := Tryd.isAgg3
  have z3 := Tryd.sizeOf3
  have u30 := Tryd.underlying30
  have hS : Tryd.prog.underlying 32 = some (.struct (Tryd.prog.fieldsOf 32)) := by kernel_rfl
  have hp : Tryd.prog.stoodInHeld 32 = false := by kernel_rfl
  rw [run_eql_struct, show (10000 : Nat) = 9999 + 1 from rfl, run_equalIn_agg w 9999 32 _ _ hS hp]
  simp only [Program.fieldsOf, Tryd.underlying32]
  go_simp
  by_cases h1 : a = c <;> by_cases h2 : b = d <;> simp [h1, h2]

/-- What a call of Parse and the two variables behind it leave. -/
structure Put (w v : World) (g : Nat) (cs fs : Array Value) : Prop where
  node : Blk v g 29 cs
  flt : Blk v (g + 1) 32 fs
  keep : Below w.heap.size w v
theorem put_new (w w1 : World) (cs fs : Array Value) (h : Below w.heap.size w w1) : Put w ((w1.alloc (.cells cs 29)).alloc (.cells fs 32)) w1.heap.size cs fs :=
  ⟨(Blk.new _ _ _).alloc _, Blk.new_at _ _ (by simp) _ _, (h.alloc h.size _).alloc (by have := h.size; simp; omega) _⟩

set_option maxRecDepth 100000 in
set_option maxHeartbeats 2000000 in
theorem anchor_any (hT : TabsAt w.heap.size w) : Calls Tryd.prog 9 #[] w fun e w' => e = .returned (.bool true) ∧ Below w.heap.size w w' := by
  have keq := run_eql_fault
  have HT := Lib.hid hT
  clear hT
  go_enter Tryd.func9, Tryd.ntmps9
  go_wp2_with fail
  refine (parse_any (s := [97, 124, 98, 42, 63]) 1026 (Nat.le_refl _) (by simp) HT.out).mono ?_
  rw [anchor1]
  rintro e w1 ⟨A1, A2, p1, p2, rfl, hN, hb1⟩
  obtain ⟨_, _, b, off, he, hl, _, _, _, hk⟩ := hN.parts
  obtain ⟨rfl, _, rfl⟩ := Value.slice.inj he
  obtain ⟨hA, hb, _, _, _, _, _, hC⟩ := hk 1 _ rfl
  subst hA
  have HK1 : Hid (w1.cell? ⟨b, off + 7, none⟩ = some (.int .i64 4) ∧ w1.cell? ⟨b, off + 7 + 3, none⟩ = some (.int .i64 1)) := Lib.hid ⟨hC 0 _ rfl, hC 3 _ rfl⟩
  clear hN hk hC he hl
  unfold pCells
  simp only [anchorNd, Nd.kind, Nd.lo, Nd.hi, Nd.mode, Nd.ref, Nd.set, Nd.kids, List.length_cons, List.length_nil, Nat.zero_add, Nat.reduceAdd]
  have P1 := Lib.hid (put_new w w1 #[.int .i64 3, .int .i64 0, .int .i64 0, .int .i64 0, .int .i64 0, .slice A1 0 p1, .slice (some ⟨b, off, none⟩) 2 p2, .int .i64 0, .bool false] #[.int .i64 0, .int .i64 0] hb1)
  go_upto_region 2 with (fail)
  obtain ⟨v1, hv1⟩ : ∃ v1, v1 = (w1.alloc (.cells #[.int .i64 3, .int .i64 0, .int .i64 0, .int .i64 0, .int .i64 0, .slice A1 0 p1, .slice (some ⟨b, off, none⟩) 2 p2, .int .i64 0, .bool false] 29)).alloc (.cells #[.int .i64 0, .int .i64 0] 32) := ⟨_, rfl⟩
  rw [← hv1] at P1 ⊢
  have HK2 : Hid (v1.cell? ⟨b, off + 7, none⟩ = some (.int .i64 4) ∧ v1.cell? ⟨b, off + 7 + 3, none⟩ = some (.int .i64 1) ∧ b < v1.heap.size) := Lib.hid (by
    have hbl : Below w1.heap.size w1 v1 := by rw [hv1]; exact ((Below.refl _ _).alloc (Nat.le_refl _) _).alloc (by simp) _
    exact ⟨(hbl.cell hb).trans HK1.out.1, (hbl.cell hb).trans HK1.out.2, Nat.lt_of_lt_of_le hb hbl.size⟩)
  clear hv1 HK1
  have HT2 := Lib.hid (tabs_on HT.out P1.out.keep P1.out.keep.size)
  go_wp2_with fail
  refine (parse_any (w := v1) (s := [97, 42, 42]) 1026 (Nat.le_refl _) (by simp) HT2.out).mono ?_
  rw [anchor2]
  rintro e w2 ⟨rfl, hb2⟩
  unfold zero9
  have P2 := Lib.hid (put_new v1 w2 #[.int .i64 0, .int .i64 0, .int .i64 0, .int .i64 0, .int .i64 0, .slice none 0 0, .slice none 0 0, .int .i64 0, .bool false] #[.int .i64 23, .int .i64 2] hb2)
  go_upto_region 3 with (fail)
  generalize (w2.alloc (.cells #[.int .i64 0, .int .i64 0, .int .i64 0, .int .i64 0, .int .i64 0, .slice none 0 0, .slice none 0 0, .int .i64 0, .bool false] 29)).alloc (.cells #[.int .i64 23, .int .i64 2] 32) = v2 at *
  have hbw2 : Below w.heap.size w v2 := P1.out.keep.trans (P2.out.keep.mono P1.out.keep.size)
  have HT3 := Lib.hid (tabs_on HT.out hbw2 hbw2.size)
  go_wp2_with fail
  refine (parse_any (w := v2) (s := [40, 97]) 1026 (Nat.le_refl _) (by simp) HT3.out).mono ?_
  rw [anchor3]
  rintro e w3 ⟨rfl, hb3⟩
  unfold zero9
  have P3 := Lib.hid (put_new v2 w3 #[.int .i64 0, .int .i64 0, .int .i64 0, .int .i64 0, .int .i64 0, .slice none 0 0, .slice none 0 0, .int .i64 0, .bool false] #[.int .i64 20, .int .i64 0] hb3)
  go_upto_region 4 with (fail)
  generalize (w3.alloc (.cells #[.int .i64 0, .int .i64 0, .int .i64 0, .int .i64 0, .int .i64 0, .slice none 0 0, .slice none 0 0, .int .i64 0, .bool false] 29)).alloc (.cells #[.int .i64 20, .int .i64 0] 32) = v3 at *
  have hbw3 : Below w.heap.size w v3 := hbw2.trans (P3.out.keep.mono hbw2.size)
  have HT4 := Lib.hid (tabs_on HT.out hbw3 hbw3.size)
  go_wp2_with fail
  refine (parse_any (w := v3) (s := [92, 49]) 1026 (Nat.le_refl _) (by simp) HT4.out).mono ?_
  rw [anchor4]
  rintro e w4 ⟨rfl, hb4⟩
  unfold zero9
  have P4 := Lib.hid (put_new v3 w4 #[.int .i64 0, .int .i64 0, .int .i64 0, .int .i64 0, .int .i64 0, .slice none 0 0, .slice none 0 0, .int .i64 0, .bool false] #[.int .i64 26, .int .i64 0] hb4)
  go_upto_region 5 with (fail)
  generalize (w4.alloc (.cells #[.int .i64 0, .int .i64 0, .int .i64 0, .int .i64 0, .int .i64 0, .slice none 0 0, .slice none 0 0, .int .i64 0, .bool false] 29)).alloc (.cells #[.int .i64 26, .int .i64 0] 32) = v4 at *
  have hbw4 : Below w.heap.size w v4 := hbw3.trans (P4.out.keep.mono hbw3.size)
  have k23 := P3.out.keep
  have k34 := P4.out.keep
  have k12 := P2.out.keep
  have k24 := k23.trans (k34.mono k23.size)
  have k14 := k12.trans (k24.mono k12.size)
  have hc1 := (P1.out.node.on k14).nine
  have hf1a := (P1.out.flt.on k14).cell 0
  have hf1b := (P1.out.flt.on k14).cell 1
  have hf2a := (P2.out.flt.on k24).cell 0
  have hf2b := (P2.out.flt.on k24).cell 1
  have hf3a := (P3.out.flt.on k34).cell 0
  have hf3b := (P3.out.flt.on k34).cell 1
  have hf4a := P4.out.flt.cell 0
  have hf4b := P4.out.flt.cell 1
  have hk1 := (k14.cell (p := ⟨b, off + 7, none⟩) HK2.out.2.2).trans HK2.out.1
  have hk2 := (k14.cell (p := ⟨b, off + 7 + 3, none⟩) HK2.out.2.2).trans HK2.out.2.1
  simp at hf1a hf1b hf2a hf2b hf3a hf3b hf4a hf4b
  clear k12 k23 k34 k24 k14 P1 P2 P3 P4 HK2
  go_wp2
  go_ret
  exact ⟨rfl, hbw4⟩

/-! ### What Parse gives, told at once -/
def ndOf : Except Flt (Nd × Nat × Bool) → Nd | .ok x => x.1 | .error _ => emptyN
def gOf : Except Flt (Nd × Nat × Bool) → Nat | .ok x => x.2.1 | .error _ => 0
def foOf : Except Flt (Nd × Nat × Bool) → Bool | .ok x => x.2.2 | .error _ => false
def fOf : Except Flt (Nd × Nat × Bool) → Flt | .ok _ => (0, 0) | .error f => f
theorem ParsePost.uni {r : Except Flt (Nd × Nat × Bool)} {e : Ending} (h : ParsePost w r e w') : ∃ A1 A2 p1 p2, e = .returned (.tuple #[.agg (pCells (ndOf r) A1 A2 p1 p2 (gOf r) (foOf r)), .agg #[.int .i64 (fOf r).1, .int .i64 (fOf r).2]]) ∧
    NodeV (fun b => b < w'.heap.size) w' (ndOf r) (.slice A1 (ndOf r).set.length p1) (.slice A2 (ndOf r).kids.length p2) ∧ Below w.heap.size w w' := by
  cases r with
  | ok x => exact h
  | error f => exact ⟨none, none, 0, 0, h.1, NodeV.leaf (SetK.nil _ _) (by simp), h.2⟩
theorem NodeV.on {nd : Nd} {sv kv : Value} (h : NodeV (fun b => b < w.heap.size) w nd sv kv) (hb : Below w.heap.size w w') : NodeV (fun b => b < w'.heap.size) w' nd sv kv :=
  h.keep fun b hk => ⟨Nat.lt_of_lt_of_le hk hb.size, hb.block b hk⟩
theorem put_on (w1 : World) (cs fs : Array Value) : Below w1.heap.size w1 ((w1.alloc (.cells cs 29)).alloc (.cells fs 32)) := ((Below.refl _ _).alloc (Nat.le_refl _) _).alloc (by simp) _

end Go.Proofs.YthipgidddgdojaaDoor
