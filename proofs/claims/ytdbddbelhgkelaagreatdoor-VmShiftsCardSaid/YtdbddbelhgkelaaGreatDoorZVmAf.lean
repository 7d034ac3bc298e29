/- Units ahead that a text's first letter is none of only move what is found. Of no program. -/
import Derived.Test.YtdbddbelhgkelaaGreatDoorZMVm
namespace Go.Proofs.YtdbddbelhgkelaaGreatDoor
open Go.Proofs.YtdbddbelhgkelaaGreatDoor.Cl
variable {U : List Int} {n p : Nat} {w : List UInt8}

theorem startM_len (X : List In) : (startM X).sl.length = 20 + marks X := by simp [startM]
/-- n z's and U. -/
def zed (n : Nat) (U : List Int) : List Int := List.replicate n 122 ++ U
theorem zed_len : (zed n U).length = n + U.length := by simp [zed]
theorem zed_pre (w : List UInt8) (p : Nat) (h : n ≤ p) : isPre w (zed n U) p = isPre w U (p - n) := by
  unfold isPre zed
  have : (List.replicate n (122 : Int) ++ U).drop p = U.drop (p - n) := by
    rw [List.drop_append, List.drop_of_length_le (by simpa using h), List.nil_append, List.length_replicate]
  rw [this]
theorem zed_no {c : UInt8} (h : p < n) (hc : c.toNat ≤ 121) : isPre (c :: w) (zed n U) p = false := by
  unfold isPre
  have hp : p < (zed n U).length := by rw [zed_len]; omega
  have hz : (zed n U)[p] = 122 := by
    have : (zed n U)[p]? = some 122 := by
      unfold zed
      rw [List.getElem?_append_left (by simpa using h), List.getElem?_replicate, if_pos h]
    rw [List.getElem?_eq_getElem hp] at this
    exact Option.some.inj this
  rw [List.drop_eq_getElem_cons hp, hz, List.map_cons, List.isPrefixOf]
  have : (((c.toNat : Nat) : Int) == 122) = false := beq_false_of_ne (by omega)
  rw [this, Bool.false_and]
/-- What is found of a text of letters. -/
theorem shifts {c : UInt8} {stack : Nat} (hc : c.toNat ≤ 121) (hw : w.length ≤ 20) (hU : U.length ≤ 30) (hn : n ≤ 20) :
    ((findM (plainC (c :: w)) U 20000 stack (U.length + 1) 0 (startM (plainC (c :: w)))).1 = 0 ∧ (findM (plainC (c :: w)) (zed n U) 20000 stack ((zed n U).length + 1) 0 (startM (plainC (c :: w)))).1 = 0) ∨
    ∃ (q : Nat) (s s' : Ms) (e : Nat), findM (plainC (c :: w)) U 20000 stack (U.length + 1) 0 (startM (plainC (c :: w))) = (1, s) ∧ findM (plainC (c :: w)) (zed n U) 20000 stack ((zed n U).length + 1) 0 (startM (plainC (c :: w))) = (1, s') ∧
      s.sl[0]? = some (q : Int) ∧ s.sl[1]? = some (e : Int) ∧ s'.sl[0]? = some ((q + n : Nat) : Int) ∧ s'.sl[1]? = some ((e + n : Nat) : Int) ∧ q ≤ 30 ∧ e ≤ 60 := by
  have hl : (c :: w).length = w.length + 1 := rfl
  have hzl := zed_len (n := n) (U := U)
  have hm : ∀ a b : Nat, a ≤ 51 → b ≤ 21 → a * (b + 1) ≤ 51 * 22 := fun a b h1 h2 => Nat.mul_le_mul h1 (by omega)
  have h1 := hm (U.length + 1) (c :: w).length (by omega) (by omega)
  have h2 := hm ((zed n U).length + 1) (c :: w).length (by omega) (by omega)
  have f1 := plain_find (U := U) (fuel := 20000) (stack := stack) (c :: w) (by omega) (U.length + 1) 0 (startM (plainC (c :: w))) (by show 0 + _ + _ + _ ≤ _; omega) rfl rfl (by rw [startM_len]; omega)
  have f2 := plain_find (U := zed n U) (fuel := 20000) (stack := stack) (c :: w) (by omega) ((zed n U).length + 1) 0 (startM (plainC (c :: w))) (by show 0 + _ + _ + _ ≤ _; omega) rfl rfl (by rw [startM_len]; omega)
  rcases f1 with ⟨q, s, _, hq, hp, hno, e1, _, a1, b1⟩ | ⟨hno, s, e1⟩
  · rcases f2 with ⟨q', s', _, hq', hp', hno', e2, _, a2, b2⟩ | ⟨hno', s', e2⟩
    · have hqn : n ≤ q' := by
        apply Classical.byContradiction
        intro h
        rw [zed_no (by omega) hc] at hp'
        cases hp'
      have hqq : q' = q + n := by
        rcases Nat.lt_trichotomy (q' - n) q with h | h | h
        · have := hno (q' - n) (Nat.zero_le _) h
          rw [zed_pre _ _ hqn, this] at hp'
          cases hp'
        · omega
        · have := hno' (q + n) (Nat.zero_le _) (by omega)
          rw [zed_pre _ _ (by omega), Nat.add_sub_cancel, hp] at this
          cases this
      subst hqq
      exact .inr ⟨q, s, s', q + (c :: w).length, e1, e2, a1, b1, a2, by rw [b2]; congr 2; omega, by omega, by omega⟩
    · have := hno' (q + n) (Nat.zero_le _) (by omega)
      rw [zed_pre _ _ (by omega), Nat.add_sub_cancel, hp] at this
      cases this
  · rcases f2 with ⟨q', s', _, hq', hp', hno', e2, _, a2, b2⟩ | ⟨hno', s', e2⟩
    · exfalso
      by_cases h : q' < n
      · rw [zed_no h hc] at hp'
        cases hp'
      · rw [zed_pre _ _ (by omega)] at hp'
        rw [hno (q' - n) (Nat.zero_le _) (by omega)] at hp'
        cases hp'
    · exact .inl ⟨by rw [e1], by rw [e2]⟩
end Go.Proofs.YtdbddbelhgkelaaGreatDoor
