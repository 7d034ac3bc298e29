/- Frames that are cut off: the mathematics. No program is walked. -/
import Derived.Test.YtcikdeknbkcggaaFrS
namespace Go.Proofs.Ytcikdeknbkcggaa
open Go.RowKit

/-- How many bytes the first k frames have. -/
def En (bs : List (List UInt8)) (k : Nat) : Nat := (cat (bs.take k)).length
theorem cat_len_cons (b : List UInt8) (bs : List (List UInt8)) : (cat (b :: bs)).length = 10 + b.length + (cat bs).length := by rw [cat_cons, List.length_append, frm_len]
theorem En_zero (bs : List (List UInt8)) : En bs 0 = 0 := rfl
theorem En_cons (b : List UInt8) (bs : List (List UInt8)) (k : Nat) : En (b :: bs) (k + 1) = 10 + b.length + En bs k := by unfold En; rw [List.take_succ_cons, cat_len_cons]
theorem En_succ (bs : List (List UInt8)) (k : Nat) (hk : k < bs.length) : En bs (k + 1) = En bs k + (10 + (bs.getD k []).length) := by
  unfold En
  rw [take_snoc bs k hk, cat_app, cat_one, List.length_append, frm_len]
  simp [hk]
theorem En_mono (bs : List (List UInt8)) : ∀ {j k : Nat}, j ≤ k → k ≤ bs.length → En bs j ≤ En bs k := by
  intro j k h
  induction h with
  | refl => intro _; exact Nat.le_refl _
  | @step m _ ih => intro hm; show En bs j ≤ En bs (m + 1); have := ih (by omega); have := En_succ bs m (by omega); omega
theorem En_all (bs : List (List UInt8)) : En bs bs.length = (cat bs).length := by unfold En; rw [List.take_length]
theorem En_le (bs : List (List UInt8)) (h : ∀ b ∈ bs, b.length ≤ 300) : (cat bs).length ≤ 310 * bs.length := by
  induction bs with
  | nil => simp [cat]
  | cons b bs ih =>
    have := ih fun x hx => h x (by simp [hx])
    have := h b (by simp)
    rw [cat_len_cons, List.length_cons]
    omega
/-- Of frames that are cut off behind n bytes the first i are read. -/
theorem cut_scan : ∀ (bs : List (List UInt8)) (n : Nat), (∀ b ∈ bs, b.length ≤ 65536) → n ≤ (cat bs).length →
    ∃ i, i ≤ bs.length ∧ En bs i ≤ n ∧ (i = bs.length ∨ n < En bs (i + 1)) ∧ Sc ((cat bs).take n) (En bs i) (bs.take i) ∧ rdE (((cat bs).take n).drop (En bs i)) ≠ 0
  | [], n, _, _ => ⟨0, Nat.le_refl _, Nat.zero_le _, .inl rfl, rfl, by rw [En_zero]; simp [cat, rdE_nil]⟩
  | b :: bs, n, h, hn => by
    have hb := h b (by simp)
    have hfl := frm_len b
    rw [cat_len_cons] at hn
    by_cases hlt : n < 10 + b.length
    · refine ⟨0, Nat.zero_le _, Nat.zero_le _, .inr ?_, rfl, ?_⟩
      · have := En_cons b bs 0
        rw [En_zero] at this
        rw [Nat.zero_add] at this ⊢
        omega
      · rw [En_zero, List.drop_zero, cat_cons, List.take_append_of_le_length (by omega), rd_cut b hb n hlt]
        decide
    · obtain ⟨i, h1, h2, h3, h4, h5⟩ := cut_scan bs (n - (10 + b.length)) (fun x hx => h x (by simp [hx])) (by omega)
      have e : (cat (b :: bs)).take n = frm b ++ (cat bs).take (n - (10 + b.length)) := by
        rw [cat_cons, List.take_append, List.take_of_length_le (by omega), hfl]
      have ed : (frm b ++ (cat bs).take (n - (10 + b.length))).drop (10 + b.length) = (cat bs).take (n - (10 + b.length)) := by rw [← hfl, List.drop_left]
      have hr := rd_frm b ((cat bs).take (n - (10 + b.length))) hb
      refine ⟨i + 1, by simp; omega, by rw [En_cons]; omega, ?_, ?_, ?_⟩
      · rcases h3 with h3 | h3
        · exact .inl (by rw [h3, List.length_cons])
        · exact .inr (by rw [En_cons]; omega)
      · rw [e, En_cons, List.take_succ_cons]
        refine ⟨hr.1, hr.2.1.symm, by omega, ?_⟩
        rw [ed, Nat.add_sub_cancel_left]
        exact h4
      · rw [e, En_cons, ← List.drop_drop, ed]
        exact h5
/-- At the k-th end: not yet, or just there. -/
theorem cut_at {bs : List (List UInt8)} {n i k : Nat} (hi : i ≤ bs.length) (h1 : En bs i ≤ n) (h2 : i = bs.length ∨ n < En bs (i + 1)) (hk : k < bs.length) (hkn : En bs k ≤ n) :
    (n < En bs (k + 1) → i = k) ∧ (En bs (k + 1) ≤ n → k < i) := by
  constructor
  · intro h
    rcases Nat.lt_trichotomy i k with hlt | e | hgt
    · have := En_mono bs (j := i + 1) (k := k) (by omega) (by omega)
      omega
    · exact e
    · have := En_mono bs (j := k + 1) (k := i) (by omega) hi
      omega
  · intro h
    rcases Nat.lt_or_ge k i with hlt | hge
    · exact hlt
    · have := En_mono bs (j := i + 1) (k := k + 1) (by omega) (by omega)
      omega
theorem cut_end {bs : List (List UInt8)} {n i : Nat} (hi : i ≤ bs.length) (h2 : i = bs.length ∨ n < En bs (i + 1)) (hn : En bs bs.length ≤ n) : i = bs.length := by
  rcases h2 with h2 | h2
  · exact h2
  · rcases Nat.lt_or_ge i bs.length with hlt | hge
    · have := En_mono bs (j := i + 1) (k := bs.length) (by omega) (Nat.le_refl _)
      omega
    · omega
def ends (bs : List (List UInt8)) (k : Nat) : List Int := (List.range k).map fun j => ((En bs (j + 1) : Nat) : Int)
theorem ends_len (bs : List (List UInt8)) (k : Nat) : (zI (ends bs k)).length = k := by simp [zI, ends]
theorem ends_snoc (bs : List (List UInt8)) (k : Nat) : zI (ends bs (k + 1)) = zI (ends bs k) ++ [.int .i64 ((En bs (k + 1) : Nat) : Int)] := by simp [zI, ends, List.range_succ]
theorem ends_get (bs : List (List UInt8)) (k j : Nat) (h : j < k) : (zI (ends bs k))[j]? = some (.int .i64 ((En bs (j + 1) : Nat) : Int)) := by simp [zI, ends, h]
theorem take_cat (bs : List (List UInt8)) (k : Nat) (h : k < bs.length) : cat (bs.take (k + 1)) = cat (bs.take k) ++ frm (bs.getD k []) := by
  rw [take_snoc bs k h, cat_app, cat_one]; simp [h]
theorem Places.below {w w' : World} {b off : Nat} {bs : List (List UInt8)} (h : Places w b off bs) (hb : b < w.heap.size) (hB : Below w.heap.size w w') : Places w' b off bs := fun k hk => by
  obtain ⟨A', c', h1, h2⟩ := h k hk
  exact ⟨A', c', (hB.cell (p := ⟨b, off + k, none⟩) hb).trans h1, (h2.below hB).more hB.size⟩
theorem Places.bytes {w w' : World} {b off : Nat} {bs : List (List UInt8)} (h : Places w b off bs) (hb : b < w.heap.size) (hB : Below w.heap.size w w') : ∀ k, k < bs.length → ∃ A c, w'.cell? ⟨b, off + k, none⟩ = some (.slice A (bs.getD k []).length c) ∧ Bytes w.heap.size w' (.slice A (bs.getD k []).length c) (bs.getD k []) := fun k hk => by
  obtain ⟨A', c', h1, h2⟩ := h k hk
  exact ⟨A', c', (hB.cell (p := ⟨b, off + k, none⟩) hb).trans h1, h2.below hB⟩
end Go.Proofs.Ytcikdeknbkcggaa
