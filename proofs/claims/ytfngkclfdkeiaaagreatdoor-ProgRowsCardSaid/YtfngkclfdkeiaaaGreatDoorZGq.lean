/- ProgPlaces' walk. -/
import Derived.Test.YtfngkclfdkeiaaaGreatDoorZGp
import Derived.Test.YtfngkclfdkeiaaaGreatDoorZMPg
namespace Go.Proofs.YtfngkclfdkeiaaaGreatDoor
open Go.RowKit
open Go.Proofs.YtfngkclfdkeiaaaGreatDoor.Cl (Rg SetV SetAt rgCells info_three normal_any normB normB_true)
variable {w w' w0 : World} {n₀ : Nat}

theorem lt_of_cell {b o : Nat} {v : Value} (h : w.cell? ⟨b, o, none⟩ = some v) : b < w.heap.size := block_lt_of_cell h
theorem whole_at {fo : Bool} {g : Nat} {nd : Nd} (hf : Wf nd) (hn : Wn (g : Nat) nd) {k : Nat} {x : In} (h : (whole fo nd)[k]? = some x) : (k + 1 = (whole fo nd).length ∧ x = .i 0 0 0 0 0) ∨ (k + 1 < (whole fo nd).length ∧ OkI (g : Nat) (body fo nd) k x) := by
  have e := whole_body fo nd
  have hl : (whole fo nd).length = (body fo nd).length + 1 := by rw [e, List.length_append]; rfl
  rw [e, List.getElem?_append] at h
  split at h
  · rename_i hk
    refine .inr ⟨by omega, ?_⟩
    have := body_ok fo hf hn k x h
    rwa [show ((0 : Nat) : Int) = 0 from rfl, sh_zero, Nat.zero_add] at this
  · rename_i hk
    have hkl := (List.getElem?_eq_some_iff.1 h).1
    simp at hkl
    have : k - (body fo nd).length = 0 := by omega
    rw [this] at h
    simp at h
    exact .inl ⟨by omega, h.symm⟩
theorem body_get {fo : Bool} {nd : Nd} {j : Nat} {y : In} (h : (body fo nd)[j]? = some y) : (whole fo nd)[j]? = some y := by
  rw [whole_body, List.getElem?_append_left (List.getElem?_eq_some_iff.1 h).1]
  exact h
theorem body_take {fo : Bool} {nd : Nd} {k : Nat} (h : k ≤ (body fo nd).length) : (whole fo nd).take k = (body fo nd).take k := by
  rw [whole_body, List.take_append_of_le_length h]
theorem whole_len {fo : Bool} {nd : Nd} (hf : Wf nd) (h : verdictN nd = 0) : ((whole fo nd).length : Int) = ndSize nd + 3 ∧ ((whole fo nd).length : Int) = len (body fo nd) + 1 ∧ (whole fo nd).length ≤ 2000 := by
  have h1 := code_len fo hf
  have h2 := ok_len fo hf h
  have h3 := body_len fo nd
  have h4 : (whole fo nd).length = (body fo nd).length + 1 := by rw [whole_body, List.length_append]; rfl
  have h5 : capF (len (code fo nd)) = len (code fo nd) := by unfold capF far len; rw [if_neg (by omega)]
  rw [h5] at h1
  unfold len at *
  omega

end Go.Proofs.YtfngkclfdkeiaaaGreatDoor
