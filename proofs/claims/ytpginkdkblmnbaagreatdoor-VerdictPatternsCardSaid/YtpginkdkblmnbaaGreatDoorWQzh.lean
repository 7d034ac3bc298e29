import Derived.Test.YtpginkdkblmnbaaGreatDoorWMQf
import Derived.Test.YtpginkdkblmnbaaGreatDoorWMVe
namespace Go.Proofs.YtpginkdkblmnbaaGreatDoor
section
open Go.RowKit
variable {w w' : World}
set_option maxHeartbeats 1000000 in
theorem ÍB (a b c : Int) (w : World) : Calls Tryz.prog 19 #[.agg #[.int .i64 a, .int .i64 b, .int .i64 c], .agg #[.int .i64 a, .int .i64 b, .int .i64 c]] w fun e w' => e = .returned (.bool true) ∧ Below w.heap.size w w' := by
 obtain ⟨w0, hw0⟩ : ∃ w0, w0 = ((w.alloc (.cells #[.int .i64 a, .int .i64 b, .int .i64 c] 48)).alloc (.cells #[.int .i64 a, .int .i64 b, .int .i64 c] 52)) := ⟨_, rfl⟩
 have hb0 : Below w.heap.size w w0 := by rw [hw0]; exact ((ā _ _).alloc (ŋ _) _).alloc (by simp) _
 have hx0 : Blk w0 w.heap.size 48 #[.int .i64 a, .int .i64 b, .int .i64 c] := by rw [hw0]; exact (Blk.new _ _ _).alloc _
 have hz0 : Blk w0 (w.heap.size + 1) 52 #[.int .i64 a, .int .i64 b, .int .i64 c] := by rw [hw0]; exact Blk.at_new _ _ (by simp) _ _
 have x0 := hx0.cell 0;have x1 := hx0.cell 1;have x2 := hx0.cell 2;have z0 := hz0.cell 0;have z1 := hz0.cell 1;have z2 := hz0.cell 2;clear hx0 hz0;go_enter Tryz.func19, Tryz.ntmps19
 go_upto_region 1 with (fail)
 rw [← hw0];clear hw0;go_wp2;go_ret;exact ⟨rfl, hb0⟩
end
end Go.Proofs.YtpginkdkblmnbaaGreatDoor
