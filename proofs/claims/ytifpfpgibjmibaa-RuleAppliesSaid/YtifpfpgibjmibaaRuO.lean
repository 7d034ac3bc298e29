/- Of layer 7, without a program: the order of a scope's rules, as the document has it, and that there is one such order. -/
import Derived.Test.YtifpfpgibjmibaaRuP
namespace Go.Proofs.Ytifpfpgibjmibaa

variable {l : List Ru} {hs : Ru → Bool}
/-- does the rule at a place come, and with which priority? -/
def prAt (l : List Ru) (x : Int) : Int := ((l[x.toNat]?).getD .none).pr
def hasAt (l : List Ru) (hs : Ru → Bool) (i : Nat) : Bool := match l[i]? with | some r => hs r | none => false
def rowP (l : List Ru) (hs : Ru → Bool) (p : Int) (n : Nat) : List Int := ((List.range n).filter fun i : Nat => decide (prAt l i = p) && hasAt l hs i).map fun i : Nat => (i : Int)
/-- the document's: priorities from 1000 down; n of them -/
def ordR (l : List Ru) (hs : Ru → Bool) : Nat → List Int
  | 0 => []
  | n + 1 => ordR l hs n ++ rowP l hs (1000 - n) l.length
def picked (l : List Ru) (hs : Ru → Bool) (n : Nat) : List Int := ((List.range n).filter fun i => hasAt l hs i).map fun i : Nat => (i : Int)
theorem rowP_succ {p : Int} {n : Nat} : rowP l hs p (n + 1) = rowP l hs p n ++ (if prAt l n = p ∧ hasAt l hs n = true then [(n : Int)] else []) := by
  unfold rowP
  rw [List.range_succ, List.filter_append, List.map_append]
  congr 1
  by_cases h : prAt l n = p ∧ hasAt l hs n = true
  · simp [h.1, h.2]
  · rw [if_neg h]
    rw [List.filter_cons_of_neg (by simpa using h)]
    rfl
theorem picked_succ {n : Nat} : picked l hs (n + 1) = picked l hs n ++ (if hasAt l hs n = true then [(n : Int)] else []) := by
  unfold picked
  rw [List.range_succ, List.filter_append, List.map_append]
  congr 1
  by_cases h : hasAt l hs n = true
  · simp [h]
  · rw [if_neg h, List.filter_cons_of_neg (by simpa using h)]
    rfl
theorem picked_len {n : Nat} : (picked l hs n).length ≤ n := by
  unfold picked
  rw [List.length_map]
  exact Nat.le_trans (List.length_filter_le _ _) (by simp)
theorem picked_rise {n : Nat} : (picked l hs n).Pairwise (· < ·) := by
  unfold picked
  rw [List.pairwise_map]
  exact (List.pairwise_lt_range.filter _).imp fun h => by omega
theorem mem_picked {n : Nat} {x : Int} : x ∈ picked l hs n ↔ ∃ i : Nat, x = i ∧ i < n ∧ hasAt l hs i = true := by
  unfold picked
  simp only [List.mem_map, List.mem_filter, List.mem_range]
  constructor
  · rintro ⟨i, ⟨h1, h2⟩, rfl⟩; exact ⟨i, rfl, h1, h2⟩
  · rintro ⟨i, rfl, h1, h2⟩; exact ⟨i, ⟨h1, h2⟩, rfl⟩
theorem mem_rowP {p x : Int} {n : Nat} : x ∈ rowP l hs p n ↔ ∃ i : Nat, x = i ∧ i < n ∧ prAt l i = p ∧ hasAt l hs i = true := by
  unfold rowP
  simp only [List.mem_map, List.mem_filter, List.mem_range, Bool.and_eq_true, decide_eq_true_eq]
  constructor
  · rintro ⟨i, ⟨h1, h2⟩, rfl⟩; exact ⟨i, rfl, h1, h2⟩
  · rintro ⟨i, rfl, h1, h2⟩; exact ⟨i, ⟨h1, h2⟩, rfl⟩
theorem mem_ordR {x : Int} : ∀ {n : Nat}, x ∈ ordR l hs n ↔ ∃ i : Nat, x = i ∧ i < l.length ∧ hasAt l hs i = true ∧ prAt l i ≤ 1000 ∧ 1000 - (n : Int) < prAt l i
  | 0 => by simp only [ordR, List.not_mem_nil, false_iff]; rintro ⟨i, _, _, _, h1, h2⟩; simp at h2; omega
  | n + 1 => by
    rw [ordR, List.mem_append, mem_ordR, mem_rowP]
    constructor
    · rintro (⟨i, e, h1, h2, h3, h4⟩ | ⟨i, e, h1, h2, h3⟩)
      · exact ⟨i, e, h1, h2, h3, by omega⟩
      · exact ⟨i, e, h1, h3, by omega, by omega⟩
    · rintro ⟨i, e, h1, h2, h3, h4⟩
      by_cases h : prAt l i = 1000 - (n : Int)
      · exact .inr ⟨i, e, h1, h, h2⟩
      · exact .inl ⟨i, e, h1, h2, h3, by omega⟩
theorem ordR_sorted : ∀ {n : Nat}, (ordR l hs n).Pairwise fun x y => lexI (prAt l) x y = true
  | 0 => List.Pairwise.nil
  | n + 1 => by
    refine List.pairwise_append.2 ⟨ordR_sorted, ?_, fun x hx y hy => ?_⟩
    · have : (rowP l hs (1000 - n) l.length).Pairwise (· < ·) := by
        unfold rowP
        rw [List.pairwise_map]
        exact (List.pairwise_lt_range.filter _).imp fun h => by omega
      refine this.imp_of_mem fun {a b} ha hb h => ?_
      obtain ⟨i, rfl, _, e1, _⟩ := mem_rowP.1 ha
      obtain ⟨j, rfl, _, e2, _⟩ := mem_rowP.1 hb
      simp only [lexI, decide_eq_true_eq]
      exact .inr ⟨by rw [e1, e2], h⟩
    · obtain ⟨i, rfl, _, _, _, h4⟩ := mem_ordR.1 hx
      obtain ⟨j, rfl, _, e2, _⟩ := mem_rowP.1 hy
      simp only [lexI, decide_eq_true_eq]
      exact .inl (by omega)
theorem strict_ext {lt : Int → Int → Bool} (hS : Sort.SWO lt) : ∀ {a b : List Int}, a.Pairwise (fun x y => lt x y = true) → b.Pairwise (fun x y => lt x y = true) → (∀ x, x ∈ a ↔ x ∈ b) → a = b
  | [], [], _, _, _ => rfl
  | [], y :: _, _, _, h => by have := (h y).2 (List.mem_cons_self ..); simp at this
  | x :: _, [], _, _, h => by have := (h x).1 (List.mem_cons_self ..); simp at this
  | x :: a, y :: b, h1, h2, h => by
    obtain ⟨a1, a2⟩ := List.pairwise_cons.1 h1
    obtain ⟨b1, b2⟩ := List.pairwise_cons.1 h2
    have asy : ∀ {p q}, lt p q = true → lt q p = true → False := fun {p q} u v => by have := hS.trans _ _ _ u v; rw [hS.irrefl] at this; cases this
    have e : x = y := by
      rcases List.mem_cons.1 ((h x).1 (List.mem_cons_self ..)) with e | hx
      · exact e
      · rcases List.mem_cons.1 ((h y).2 (List.mem_cons_self ..)) with e | hy
        · exact e.symm
        · exact absurd (a1 y hy) fun h' => asy h' (b1 x hx)
    subst e
    congr 1
    refine strict_ext hS a2 b2 fun z => ⟨fun hz => ?_, fun hz => ?_⟩
    · rcases List.mem_cons.1 ((h z).1 (List.mem_cons_of_mem _ hz)) with e | h'
      · have := a1 z hz; rw [e, hS.irrefl] at this; cases this
      · exact h'
    · rcases List.mem_cons.1 ((h z).2 (List.mem_cons_of_mem _ hz)) with e | h'
      · have := b1 z hz; rw [e, hS.irrefl] at this; cases this
      · exact h'
/-- what a sort that keeps equals makes of the picked places is the document's -/
theorem ord_one (hpr : ∀ r ∈ l, 0 ≤ r.pr ∧ r.pr ≤ 1000) {d d' : Array Int} (hd : d.toList = picked l hs l.length) (hp : Sort.PermIn 0 d.size d d') (hso : Sort.SortedIn (lexI (prAt l)) 0 d.size d') : d'.toList = ordR l hs 1001 := by
  obtain ⟨h1, _, h3⟩ := hp
  have hperm : d'.toList.Perm d.toList := by
    simp only [Array.toList_extract, List.extract_eq_take_drop, List.drop_zero, Nat.sub_zero] at h3
    rw [List.take_of_length_le (by rw [Array.length_toList, h1]; exact Nat.le_refl _), List.take_of_length_le (by simp)] at h3
    exact h3
  have hnd : d'.toList.Nodup := hperm.nodup_iff.2 (by rw [hd]; exact picked_rise.imp fun h => by omega)
  refine strict_ext (lex_swo (prAt l)) ?_ ordR_sorted fun x => ?_
  · rw [List.pairwise_iff_getElem]
    intro i j hi hj hij
    have hj' : j < d'.size := by simpa using hj
    have hi' : i < d'.size := by simpa using hi
    have := hso i j (Nat.zero_le _) hij (by rw [← h1]; exact hj')
    rw [getElem!_pos d' i hi', getElem!_pos d' j hj'] at this
    have hne : d'[i] ≠ d'[j] := fun e => by
      have := (List.getElem_inj hnd (h₀ := hi) (h₁ := hj)).1 (by simpa using e)
      omega
    simp only [lexI, decide_eq_false_iff_not, decide_eq_true_eq, Array.getElem_toList] at this ⊢
    omega
  · rw [hperm.mem_iff, hd, mem_picked, mem_ordR]
    constructor
    · rintro ⟨i, e, h1, h2⟩
      have : 0 ≤ prAt l i ∧ prAt l i ≤ 1000 := by
        unfold prAt
        rw [Int.toNat_natCast, List.getElem?_eq_getElem h1]
        exact hpr _ (List.getElem_mem h1)
      exact ⟨i, e, h1, h2, this.2, by omega⟩
    · rintro ⟨i, e, h1, h2, _⟩; exact ⟨i, e, h1, h2⟩

end Go.Proofs.Ytifpfpgibjmibaa
