import Derived.Test.YtpginkdkblmnbaaGreatDoorWMQz
import Derived.Test.YtpginkdkblmnbaaGreatDoorWMQw
import Derived.Test.YtpginkdkblmnbaaGreatDoorWSf
namespace Go.Proofs.YtpginkdkblmnbaaGreatDoor
section
open Go.RowKit
open Go.Proofs.YtpginkdkblmnbaaGreatDoor.Cl (Rg)
variable {w w' : World}
def XPR (r : Except Flt (Nd × Nat × Bool)) (w' : World) (e : Ending) : Prop := match r with
 | .error f => e = .returned (.tuple #[.agg #[.int .i64 0, .int .i64 0, .int .i64 0, .int .i64 0, .int .i64 0, .slice none 0 0, .bool false, .slice none 0 0], .int .i64 0, .bool false, .int .i64 (f.1 : Nat), .int .i64 (f.2 : Nat)])
 | .ok x => ∃ A1 n1 p1 nb A2 p2, e = .returned (.tuple #[.agg #[.int .i64 x.1.kind, .int .i64 x.1.lo, .int .i64 x.1.hi, .int .i64 x.1.mode, .int .i64 x.1.ref, .slice A1 n1 p1, .bool nb, .slice A2 x.1.kids.length p2], .int .i64 (x.2.1 : Nat), .bool x.2.2, .int .i64 0, .int .i64 0]) ∧
  Ó (fun b => b < w'.heap.size) w' x.1 (.slice A1 n1 p1) nb (.slice A2 x.1.kids.length p2)
theorem Äg (n : Nat) (x : ByteArray) (h : 4 * x.size + 2 ≤ n) (w : World) : Calls Tryz.prog 9 #[.string x] w fun e w' => Below w.heap.size w w' ∧ XPR (ñ n x.data.toList) w' e := by
 have hx : (⟨x.data.toList.toArray⟩ : ByteArray) = x := by cases x; simp
 have h1 := ËG n x.data.toList h w;rw [hx] at h1;refine h1.mono ?_;intro e w' h2;unfold XPP at h2;refine ⟨h2.1, ?_⟩
 revert h2
 cases ñ n x.data.toList with
 | error f => exact fun h2 => h2.2
 | ok y =>
  rintro ⟨_, A1, n1, p1, nb, A2, p2, he, hN⟩
  exact ⟨A1, n1, p1, nb, A2, p2, he, hN.keep fun b hb => ⟨hb.2, rfl⟩⟩
end
end Go.Proofs.YtpginkdkblmnbaaGreatDoor
