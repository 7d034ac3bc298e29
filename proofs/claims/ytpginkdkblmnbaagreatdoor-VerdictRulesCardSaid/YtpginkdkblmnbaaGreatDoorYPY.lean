/- The parse law's anchor: four short patterns. -/
import Derived.Test.YtpginkdkblmnbaaGreatDoorYMPe
import Derived.Test.YtpginkdkblmnbaaGreatDoorYMPa
namespace Go.Proofs.YtpginkdkblmnbaaGreatDoor
open Go.RowKit
open Go.Proofs.YtpginkdkblmnbaaGreatDoor.Cl (Rg)
variable {w w' : World}

theorem tabs_on {n n' : Nat} (h : TabsAt n w) (hb : Below n w w') (hn : n ≤ n') : TabsAt n' w' := ⟨by have := h.1; omega, (h.below hb).2⟩
/-- What a call of Parse and the two variables behind it leave. -/
structure Put (w v : World) (g : Nat) (cs fs : Array Value) : Prop where
  node : Blk v g 29 cs
  flt : Blk v (g + 1) 32 fs
  keep : Below w.heap.size w v
theorem put_new (w w1 : World) (cs fs : Array Value) (h : Below w.heap.size w w1) : Put w ((w1.alloc (.cells cs 29)).alloc (.cells fs 32)) w1.heap.size cs fs :=
  ⟨(Blk.new _ _ _).alloc _, Blk.new_at _ _ (by simp) _ _, (h.alloc h.size _).alloc (by have := h.size; simp; omega) _⟩

/-! ### What Parse gives, told at once -/
theorem NodeV.on {nd : Nd} {sv kv : Value} (h : NodeV (fun b => b < w.heap.size) w nd sv kv) (hb : Below w.heap.size w w') : NodeV (fun b => b < w'.heap.size) w' nd sv kv :=
  h.keep fun b hk => ⟨Nat.lt_of_lt_of_le hk hb.size, hb.block b hk⟩
theorem put_on (w1 : World) (cs fs : Array Value) : Below w1.heap.size w1 ((w1.alloc (.cells cs 29)).alloc (.cells fs 32)) := ((Below.refl _ _).alloc (Nat.le_refl _) _).alloc (by simp) _

end Go.Proofs.YtpginkdkblmnbaaGreatDoor
