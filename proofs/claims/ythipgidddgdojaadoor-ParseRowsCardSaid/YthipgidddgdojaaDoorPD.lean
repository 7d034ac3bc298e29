/- An escape that stands for one unit, as a contract. -/
import Derived.Test.YthipgidddgdojaaDoorPC
namespace Go.Proofs.YthipgidddgdojaaDoor
open Go.RowKit
variable {n₀ rb tb cap d : Nat} {s : List UInt8} {w w' : World} {σ σ1 : St} {fc fa : Int} {bv : Value}

/-- The reader has told a fault. -/
def Bad (w : World) (rb : Nat) (f : Flt) : Prop := w.cell? ⟨rb, 5, none⟩ = some (.int .i64 (f.1 : Nat)) ∧ w.cell? ⟨rb, 6, none⟩ = some (.int .i64 (f.2 : Nat))
theorem Bad.keep {rb : Nat} {f : Flt} (h : Bad w rb f) (hk : w'.heap[rb]? = w.heap[rb]?) : Bad w' rb f := ⟨(cell_same hk _).trans h.1, (cell_same hk _).trans h.2⟩
theorem Bad.alloc {rb : Nat} {f : Flt} (h : Bad w rb f) (o : Obj) : Bad (w.alloc o) rb f := h.keep (Below.heap_alloc w o rb (block_lt_of_cell h.1))
theorem Bad.far {rb : Nat} {f : Flt} (h : Bad w rb f) {p : Addr} (hp : rb ≠ p.block) (u : Value) : Bad (w.setCell p u) rb f := h.keep (Below.heap_setCell w p u rb hp)

theorem refuse_bad (c p : Nat) (hR : Rd n₀ rb tb cap s w σ d fc fa bv) :
    Calls Tryd.prog 22 #[.pointer (some ⟨rb, 0, none⟩), .int .i64 (c : Nat), .int .i64 (p : Nat)] w fun e w' => e = .returned (.bool false) ∧ Bad w' rb (c, p) ∧ Fr n₀ rb w w' :=
  (refuse_any (c : Nat) (p : Nat) hR).mono fun e w' ⟨he, hw⟩ => by
    subst hw
    have b1 := (hR.blk.set_ 5 (.int .i64 (c : Nat))).set_ 6 (.int .i64 (p : Nat))
    refine ⟨he, ⟨?_, ?_⟩, ((Fr.refl w).set_ hR.low (.inr rfl) _).set_ hR.low (.inr rfl) _⟩
    · have := b1.cell 5
      simpa using this
    · have := b1.cell 6
      simpa using this
theorem hexq_yes (c : Nat) (W : World) (h9 : c < 256) (hx : isHex c = true) : Calls Tryd.prog 67 #[.int .u8 (c : Nat)] W fun e w' => e = .returned (.tuple #[.int .i64 (hexV c : Nat), .bool true]) ∧ w' = W :=
  (hex_yes c W h9 hx).mono fun _ _ ⟨a, b⟩ => ⟨a, b.symm⟩
theorem hexq_no (c : Nat) (W : World) (h9 : c < 256) (hx : isHex c = false) : Calls Tryd.prog 67 #[.int .u8 (c : Nat)] W fun e w' => e = .returned (.tuple #[.int .i64 0, .bool false]) ∧ w' = W :=
  (hex_no c W h9 hx).mono fun _ _ ⟨a, b⟩ => ⟨a, b.symm⟩
theorem hexV_le {c : Nat} (h : isHex c = true) : hexV c ≤ 15 := by
  simp [isHex] at h
  unfold hexV
  split <;> omega

/-- A call that leaves the world, in a quiet region behind another one. -/
theorem quiet2 {f : FuncId} {args : Array Value} {a n : Nat} {v : Value} (c : Calls Tryd.prog f args (w.drewN (a + n)) fun e w' => e = .returned v ∧ w' = w.drewN (a + n)) :
    Calls Tryd.prog f args (w.drewN (a + n)) fun e w' => e = .returned v ∧ ∃ m, w' = w.drewN (a + m) := c.mono fun _ _ ⟨he, hw⟩ => ⟨he, n, hw⟩

set_option maxRecDepth 100000 in
set_option maxHeartbeats 1000000 in
theorem hexUnit_short (h : σ.t.length < 4) (hR : Rd n₀ rb tb cap s w σ d fc fa bv) :
    Calls Tryd.prog 61 #[.pointer (some ⟨rb, 0, none⟩)] w fun e w' => e = .returned (.tuple #[.int .i64 0, .bool false]) ∧ Bad w' rb (21, σ.pos) ∧ Fr n₀ rb w w' := by
  have c0 := hR.c0
  have c1 := hR.c1
  have hp := hR.pos
  have ht := hR.tl
  have hl := hR.len
  have HR := Lib.hid hR
  have hw1 : IntKind.i64.wrap ((s.length : Int) - (σ.pos : Int)) = (s.length : Int) - (σ.pos : Int) := IntWalk.i64_in _ (by omega)
  have hlt : (s.length : Int) - (σ.pos : Int) < 4 := by omega
  clear hR
  go_enter Tryd.func61, Tryd.ntmps61
  go_wp2
  go_quiet (fail)
  go_wp2_with fail
  refine (refuse_bad 21 σ.pos (HR.out.drewN _)).mono ?_
  rintro e w1 ⟨rfl, hB, hF⟩
  go_wp2
  go_ret2
  exact ⟨rfl, hB, ((Fr.refl w).drewN _).trans hF⟩

set_option maxRecDepth 100000 in
set_option maxHeartbeats 1000000 in
theorem hexUnit_long (h : 4 ≤ σ.t.length) (b2 b3 : Bool) (e2 : isHex (at_ σ.t 2) = b2) (e3 : isHex (at_ σ.t 3) = b3) (hR : Rd n₀ rb tb cap s w σ d fc fa bv) :
    Calls Tryd.prog 61 #[.pointer (some ⟨rb, 0, none⟩)] w fun e w' =>
      (b2 = true ∧ b3 = true ∧ e = .returned (.tuple #[.int .i64 (16 * hexV (at_ σ.t 2) + hexV (at_ σ.t 3) : Nat), .bool true]) ∧ Rd n₀ rb tb cap s w' (σ.adv 4) d fc fa bv ∧ Fr n₀ rb w w') ∨
      ((b2 && b3) = false ∧ e = .returned (.tuple #[.int .i64 0, .bool false]) ∧ Bad w' rb (21, σ.pos) ∧ Fr n₀ rb w w') := by
  have c0 := hR.c0
  have c1 := hR.c1
  have c1f := hR.fz 1
  have d2 := hR.at_ (j := 2) (by omega)
  have d3 := hR.at_ (j := 3) (by omega)
  rw [Nat.zero_add] at d2 d3
  have hp := hR.pos
  have ht := hR.tl
  have hl := hR.len
  have HR := Lib.hid hR
  have hw1 : IntKind.i64.wrap ((s.length : Int) - (σ.pos : Int)) = (s.length : Int) - (σ.pos : Int) := IntWalk.i64_in _ (by omega)
  have hw2 : IntKind.i64.wrap ((σ.pos : Int) + 2) = (σ.pos : Int) + 2 := IntWalk.i64_in _ (by omega)
  have hw3 : IntKind.i64.wrap ((σ.pos : Int) + 3) = (σ.pos : Int) + 3 := IntWalk.i64_in _ (by omega)
  have q2 : ((σ.pos : Int) + 2).toNat = σ.pos + 2 := by omega
  have q3 : ((σ.pos : Int) + 3).toNat = σ.pos + 3 := by omega
  have q4 : (0 : Int) ≤ (σ.pos : Int) + 2 := by omega
  have q5 : (0 : Int) ≤ (σ.pos : Int) + 3 := by omega
  have hlt : ¬ (s.length : Int) - (σ.pos : Int) < 4 := by omega
  have hl2 : (σ.pos : Int) + 2 < (s.length : Int) := by omega
  have hl3 : (σ.pos : Int) + 3 < (s.length : Int) := by omega
  have x2 := at_lt σ.t 2
  have x3 := at_lt σ.t 3
  obtain ⟨a, ha⟩ : ∃ a, a = at_ σ.t 2 := ⟨_, rfl⟩
  obtain ⟨b, hb⟩ : ∃ b, b = at_ σ.t 3 := ⟨_, rfl⟩
  rw [← ha] at d2 e2 x2 ⊢
  rw [← hb] at d3 e3 x3 ⊢
  clear hR ha hb
  cases b2
  · have k2 := fun W => hexq_no a W x2 e2
    cases b3
    · have k3 := fun W => hexq_no b W x3 e3
      clear e2 e3
      go_enter Tryd.func61, Tryd.ntmps61
      go_wp2
      go_quiet (fail)
      go_wp2
      go_quiet ((go_at_call 67; exact quiet2 (k2 _)))
      go_wp2
      go_quiet ((go_at_call 67; exact quiet2 (k3 _)))
      go_wp2_with fail
      refine (refuse_bad 21 σ.pos (HR.out.drewN _)).mono ?_
      rintro e w1 ⟨rfl, hB, hF⟩
      go_wp2
      go_ret2
      exact .inr ⟨rfl, rfl, hB, ((Fr.refl w).drewN _).trans hF⟩
    · have k3 := fun W => hexq_yes b W x3 e3
      clear e2 e3
      go_enter Tryd.func61, Tryd.ntmps61
      go_wp2
      go_quiet (fail)
      go_wp2
      go_quiet ((go_at_call 67; exact quiet2 (k2 _)))
      go_wp2
      go_quiet ((go_at_call 67; exact quiet2 (k3 _)))
      go_wp2_with fail
      refine (refuse_bad 21 σ.pos (HR.out.drewN _)).mono ?_
      rintro e w1 ⟨rfl, hB, hF⟩
      go_wp2
      go_ret2
      exact .inr ⟨rfl, rfl, hB, ((Fr.refl w).drewN _).trans hF⟩
  · have k2 := fun W => hexq_yes a W x2 e2
    have y2 := hexV_le e2
    cases b3
    · have k3 := fun W => hexq_no b W x3 e3
      clear e2 e3
      go_enter Tryd.func61, Tryd.ntmps61
      go_wp2
      go_quiet (fail)
      go_wp2
      go_quiet ((go_at_call 67; exact quiet2 (k2 _)))
      go_wp2
      go_quiet ((go_at_call 67; exact quiet2 (k3 _)))
      go_wp2_with fail
      refine (refuse_bad 21 σ.pos (HR.out.drewN _)).mono ?_
      rintro e w1 ⟨rfl, hB, hF⟩
      go_wp2
      go_ret2
      exact .inr ⟨rfl, rfl, hB, ((Fr.refl w).drewN _).trans hF⟩
    · have k3 := fun W => hexq_yes b W x3 e3
      have y3 := hexV_le e3
      clear e2 e3
      obtain ⟨x, hx⟩ : ∃ x, x = hexV a := ⟨_, rfl⟩
      obtain ⟨y, hy⟩ : ∃ y, y = hexV b := ⟨_, rfl⟩
      simp only [← hx] at k2 y2 ⊢
      simp only [← hy] at k3 y3 ⊢
      clear hx hy
      go_enter Tryd.func61, Tryd.ntmps61
      go_wp2
      go_quiet (fail)
      go_wp2
      go_quiet ((go_at_call 67; exact quiet2 (k2 _)))
      go_wp2
      go_quiet ((go_at_call 67; exact quiet2 (k3 _)))
      go_wp2
      go_ret2
      exact .inl ⟨trivial, trivial, ret_int_bool (by omega) rfl, (HR.out.drewN _).step' (n := 4) (by omega), (HR.out.drewN _).below_set ((Fr.refl w).drewN _) _ _⟩

end Go.Proofs.YthipgidddgdojaaDoor
