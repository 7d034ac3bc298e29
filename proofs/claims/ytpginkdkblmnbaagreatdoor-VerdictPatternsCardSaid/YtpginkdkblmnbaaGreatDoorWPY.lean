import Derived.Test.YtpginkdkblmnbaaGreatDoorWMPe
namespace Go.Proofs.YtpginkdkblmnbaaGreatDoor
section
open Go.RowKit
open Go.Proofs.YtpginkdkblmnbaaGreatDoor.Cl (Rg)
variable {w w' : World}
theorem ÀF {n n' : Nat} (h : ś n w) (hb : Below n w w') (hn : n ≤ n') : ś n' w' := ⟨by have := h.1; omega, (h.below hb).2⟩
structure Put (w v : World) (g : Nat) (cs fs : Array Value) : Prop where
 node : Blk v g 29 cs
 flt : Blk v (g + 1) 32 fs
 keep : Below w.heap.size w v
theorem År (w w1 : World) (cs fs : Array Value) (h : Below w.heap.size w w1) : Put w ((w1.alloc (.cells cs 29)).alloc (.cells fs 32)) w1.heap.size cs fs :=
 ⟨(Blk.new _ _ _).alloc _, Blk.new_at _ _ (by simp) _ _, (h.alloc h.size _).alloc (by have := h.size; simp; omega) _⟩
theorem Ê.on {nd : Nd} {sv kv : Value} (h : Ê (fun b => b < w.heap.size) w nd sv kv) (hb : Below w.heap.size w w') : Ê (fun b => b < w'.heap.size) w' nd sv kv :=
 h.keep fun b hk => ⟨Ć hk hb.size, hb.block b hk⟩
theorem ÎH (w1 : World) (cs fs : Array Value) : Below w1.heap.size w1 ((w1.alloc (.cells cs 29)).alloc (.cells fs 32)) := ((ā _ _).alloc (ŋ _) _).alloc (by simp) _
end
end Go.Proofs.YtpginkdkblmnbaaGreatDoor
