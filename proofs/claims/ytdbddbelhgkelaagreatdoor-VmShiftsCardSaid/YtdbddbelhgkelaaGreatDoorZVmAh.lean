/- What made gives of the laws' texts. -/
import Derived.Test.YtdbddbelhgkelaaGreatDoorZMVm
import Derived.Test.YtdbddbelhgkelaaGreatDoorZGo
namespace Go.Proofs.YtdbddbelhgkelaaGreatDoor
open Go.Proofs.YtdbddbelhgkelaaGreatDoor.Cl

theorem prT_of {x : ByteArray} {nd : Nd} {g : Nat} {fo : Bool} (e : parse 1026 x.data.toList = .ok (nd, g, fo)) (hv : verdictN nd = 0) : prT x = whole fo nd := by
  have h1 : ndT x = nd := by unfold ndT; rw [e]; rfl
  have h2 : fcT x = 0 := by unfold fcT; rw [e]; rfl
  have h3 : foT x = fo := by unfold foT; rw [e]; rfl
  unfold prT
  rw [h1, h2, h3, if_pos ⟨rfl, hv⟩]
theorem prT_low {x : ByteArray} {s : List UInt8} (e : x.data.toList = s) (h : Low s) (hl : s.length ≤ 100) : prT x = plainC s := by
  rw [prT_of (by rw [e]; exact low_parse h hl) (low_verdict s hl), low_whole]
theorem prT_g {x : ByteArray} {lo hi m : Nat} {tl : List UInt8} (e : x.data.toList = gText lo hi m tl) (hlo : lo ≤ 20) (hh : hi ≤ 20) (hlh : lo ≤ hi) (hm : m ≤ 2) (ht : tl = [] ∨ (tl = [97] ∧ m = 2)) : prT x = whole false (gNode lo hi m tl) :=
  prT_of (by rw [e]; exact g_parse hlo hh hlh hm ht) (g_verdict hh hlh (by rcases ht with h | h; exact .inl h; exact .inr h.1))
end Go.Proofs.YtdbddbelhgkelaaGreatDoor
