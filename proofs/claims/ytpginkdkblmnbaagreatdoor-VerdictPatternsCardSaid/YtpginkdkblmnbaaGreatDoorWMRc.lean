import Derived.Test.YtpginkdkblmnbaaGreatDoorWMRb
import Derived.BigQuiet
import Derived.Deep.QuietTactic
import Derived.Laws.StructEq
namespace Go.Proofs.YtpginkdkblmnbaaGreatDoor
section
theorem ÉK : ∀ {p l : List Ru} {x : Ru}, (p.map Ru.id).Nodup → (x ∈ puts l p ↔ x ∈ p ∨ (x ∈ l ∧ x.id ∉ p.map Ru.id))
 | [], l, x, _ => by simp [puts]
 | r :: p, l, x, h => by
  obtain ⟨h1, h2⟩ := List.nodup_cons.1 h
  show x ∈ puts (ins r l) p ↔ _
  rw [ÉK h2, ÏO];simp only [ė, List.map_cons, not_or];constructor
  ·rintro (h | ⟨rfl | ⟨h3, h4⟩, h5⟩)
   ·exact .inl (.inr h)
   ·exact .inl (.inl rfl)
   ·exact .inr ⟨h3, h4, h5⟩
  ·rintro ((rfl | h) | ⟨h3, h4, h5⟩)
   ·exact .inr ⟨.inl rfl, h1⟩
   ·exact .inl h
   ·exact .inr ⟨.inr ⟨h3, h4⟩, h5⟩
theorem Íe {l : List Ru} {ids : List Int} {x : Ru} : x ∈ drops l ids ↔ x ∈ l ∧ x.id ∉ ids := by simp [drops]
structure ÉL (s : RS) (d : Dl) : Prop where
 ok : s.Ok
 num : (Ñp s d).num = true
 put : ∀ r ∈ d.put, r.ok = true
 once : d.ids.Nodup
 drop : ∀ i ∈ d.drop, i ∈ s.rs.map Ru.id
 few : (ÉJ s d).length ≤ 16
theorem Ëk {s : RS} {d : Dl} (h : s.Ok) : ÃY (ÉJ s d) := (h.2.2.2.drops _).puts _
theorem ÉL.put_nodup {s : RS} {d : Dl} (h : ÉL s d) : (d.put.map Ru.id).Nodup := (List.nodup_append.1 h.once).1
theorem Íf {s : RS} {d : Dl} (h : ÉL s d) {x : Ru} : x ∈ ÉJ s d ↔ x ∈ d.put ∨ (x ∈ s.rs ∧ x.id ∉ d.drop ∧ x.id ∉ d.put.map Ru.id) := by
 unfold ÉJ;rw [ÉK h.put_nodup, Íe, and_assoc]
theorem ÉL.right {s : RS} {d : Dl} (h : ÉL s d) : RS.Ok { Ñp s d with rs := ÉJ s d } := by
 refine ⟨h.num, h.few, fun r hr => ?_, Ëk h.ok⟩
 rcases (Íf h).1 hr with h' | ⟨h', _⟩
 ·exact h.put r h'
 ·exact h.ok.2.2.1 r h'
end
section
end
section
open Go.RowKit Go.Maps
variable {w w' : World}
def r3 : Ru := ⟨3, 0, 0, 1, ⟨#[97]⟩⟩
end
section
open Go.RowKit Go.Maps
variable {w w' : World}
theorem Ãa.form {base : Nat} {e : TypeId} {V : Value} {l : List Ru} (h : Ãa w base e V l) : ∃ A c, V = .slice A l.length c := by
 obtain ⟨A, c, hv, _⟩ := h.set;exact ⟨A, c, hv⟩
end
section
open Go.RowKit Go.Maps
variable {w w' : World}
end
section
open Go.RowKit Go.Maps
variable {w w' : World}
section
variable {P : Program} (w : World)
end
theorem Far.of_own {base : Nat} {e : TypeId} {v : Value} {l : List Ru} (h : Ãa w base e v l) : Far base v := fun k hk => (h.lt k hk).1
end
end Go.Proofs.YtpginkdkblmnbaaGreatDoor
