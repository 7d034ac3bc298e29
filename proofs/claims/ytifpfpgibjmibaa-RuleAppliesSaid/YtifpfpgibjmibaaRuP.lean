/- Of layer 7, without a program: the document's put, IDs that are twice, a sort that keeps equals as they stand. -/
import Derived.Test.YtifpfpgibjmibaaRuM
import Derived.Maps.Views
import Derived.Sort.LotA
namespace Go.Proofs.Ytifpfpgibjmibaa

theorem ins_end {r : Ru} {l : List Ru} (h : ∀ x ∈ l, x.id < r.id) : ins r l = l ++ [r] := by
  unfold ins
  rw [List.filter_eq_self.2 fun x hx => by simpa using h x hx, List.filter_eq_nil_iff.2 fun x hx => by have := h x hx; simp; omega]
theorem ins_same {r x : Ru} {l : List Ru} (h : ∀ y ∈ l, y.id < r.id) (e : x.id = r.id) : ins r (l ++ [x]) = l ++ [r] := by
  rw [← ins_end h]
  unfold ins
  rw [List.filter_append, List.filter_append]
  simp [e]
theorem ins_above {r x : Ru} {l : List Ru} (h : r.id < x.id) : ins r (l ++ [x]) = ins r l ++ [x] := by
  unfold ins
  rw [List.filter_append, List.filter_append]
  have : ¬ x.id < r.id := by omega
  simp [h, this]
theorem ins_len (r : Ru) (l : List Ru) : (ins r l).length ≤ l.length + 1 := by
  unfold ins
  rw [List.length_append, List.length_cons]
  have h1 : (l.filter fun x => decide (x.id < r.id)).length + (l.filter fun x => !decide (x.id < r.id)).length = l.length := by
    induction l with
    | nil => rfl
    | cons x l ih =>
      by_cases h : x.id < r.id
      · simp [h] at ih ⊢; omega
      · simp [h] at ih ⊢; omega
  have h2 : (l.filter fun x => decide (r.id < x.id)).length ≤ (l.filter fun x => !decide (x.id < r.id)).length := by
    have : (l.filter fun x => decide (r.id < x.id)) = (l.filter fun x => !decide (x.id < r.id)).filter fun x => decide (r.id < x.id) := by
      rw [List.filter_filter]
      apply List.filter_congr
      intro x _
      by_cases h : r.id < x.id
      · have : ¬ x.id < r.id := by omega
        simp [h, this]
      · simp [h]
    rw [this]
    exact List.length_filter_le _ _
  omega
theorem puts_len (p : List Ru) : ∀ (l : List Ru), (puts l p).length ≤ l.length + p.length := by
  induction p with
  | nil => intro l; simp [puts]
  | cons r p ih => intro l; have h1 := ih (ins r l); have h2 := ins_len r l; simp only [puts, List.foldl_cons, List.length_cons] at h1 ⊢; omega

/-! ### IDs -/
theorem nodup_snoc {l : List Int} {x : Int} : (l ++ [x]).Nodup ↔ l.Nodup ∧ x ∉ l := by
  rw [List.nodup_append]
  constructor
  · rintro ⟨h1, _, h3⟩
    exact ⟨h1, fun h => h3 x h x (by simp) rfl⟩
  · rintro ⟨h1, h2⟩
    exact ⟨h1, by simp, fun a ha b hb e => by rw [List.mem_singleton.1 hb] at e; exact h2 (e ▸ ha)⟩
def lits (l : List Int) : List Lit := l.map fun i => .int .i64 i
theorem size_named (u : DataW Unit) : ∀ (l : List Int), Maps.size (Maps.setOf u (lits l)) ≤ l.length ∧ (Maps.size (Maps.setOf u (lits l)) = l.length ↔ l.Nodup) := by
  intro l
  generalize hn : l.length = n
  induction n generalizing l with
  | zero =>
    obtain rfl := List.eq_nil_of_length_eq_zero hn
    simp [lits, Maps.setOf, Maps.size]
  | succ n ih =>
    rcases List.eq_nil_or_concat l with rfl | ⟨m, x, rfl⟩
    · simp at hn
    · have hm : m.length = n := by simpa using hn
      obtain ⟨i1, i2⟩ := ih m hm
      have hk : ∀ y ∈ lits m, WideAt.IsKeyLit y := fun y hy => by obtain ⟨z, _, rfl⟩ := List.mem_map.1 hy; trivial
      have e : Maps.setOf u (lits (m ++ [x])) = (Maps.setOf u (lits m)).put (.int .i64 x) u := by
        rw [lits, List.map_append]; exact Maps.setOf_snoc u _ _
      rw [List.concat_eq_append, e, Maps.size_put (Maps.tidy_setOf u _ hk), Maps.has_setOf u _ _ hk, nodup_snoc]
      have hany : (lits m).any (fun y => y.sameKey (.int .i64 x)) = decide (x ∈ m) := by
        rw [Bool.eq_iff_iff]
        simp [lits, Lit.sameKey]
      rw [hany]
      by_cases h : x ∈ m
      · simp only [h, decide_true, if_true, not_true, and_false, iff_false]
        omega
      · simp only [h, decide_false, not_false_eq_true, and_true, ← i2]
        rw [if_neg (by simp)]
        omega

/-! ### a sort that keeps equals -/
open Go.Sort in
theorem insInner_eq {lt lt2 : Int → Int → Bool} (a : Nat) : ∀ (j : Nat) (d : Array Int), j < d.size → (∀ k, k < j → lt d[j]! d[k]! = lt2 d[j]! d[k]!) → insInner lt a j d = insInner lt2 a j d
  | 0, _, _, _ => rfl
  | j + 1, d, hj, h => by
    unfold insInner
    rw [h j (by omega)]
    split
    · refine insInner_eq a j _ (by simp [swp]; omega) fun k hk => ?_
      have e1 : (swp d (j + 1) j)[j]! = d[j + 1]! := by
        exact swp_right d (j + 1) j (by omega)
      have e2 : (swp d (j + 1) j)[k]! = d[k]! := by
        exact swp_other d (j + 1) j k (by omega) (by omega)
      rw [e1, e2]
      exact h k (by omega)
    · rfl

open Go.Sort in
theorem insOuter_eq {lt lt2 : Int → Int → Bool} (hS : SWO lt2) (hlt : ∀ x y, y < x → lt x y = lt2 x y) : ∀ (n i b : Nat) (d : Array Int), b - i = n → 0 < i → i ≤ b → b ≤ d.size → SortedIn lt2 0 i d → (∀ k p, k < i → i ≤ p → p < b → d[k]! < d[p]!) → (∀ k p, i ≤ k → k < p → p < b → d[k]! < d[p]!) →
    insOuter lt 0 b i d = insOuter lt2 0 b i d
  | 0, i, b, d, hn, _, hib, _, _, _, _ => by
    obtain rfl : i = b := by omega
    rw [insOuter, if_neg (by omega), insOuter, if_neg (by omega)]
  | n + 1, i, b, d, hn, h0, hib, hb, hs, hk, hr => by
    have hlt' : i < b := by omega
    rw [insOuter, if_pos hlt']
    conv => rhs; rw [insOuter, if_pos hlt']
    have e : insInner lt 0 i d = insInner lt2 0 i d := insInner_eq 0 i d (by omega) fun k h => hlt _ _ (hk k i h (Nat.le_refl _) hlt')
    rw [e]
    have h1 := insInner_spec hS swp_permIn permIn_refl permIn_trans 0 (i + 1) i (by omega) i d (Nat.zero_le _) (Nat.le_refl _) (by omega) ⟨fun p q _ hpq hqi _ hq => hs p q (Nat.zero_le _) hpq (by omega), fun q h1 h2 => by omega⟩
    obtain ⟨⟨p1, p2, p3⟩, h2⟩ := h1
    refine insOuter_eq hS hlt n (i + 1) b _ (by omega) (by omega) (by omega) (by rw [p1]; exact hb) h2 (fun k p hk1 hp1 hpb => ?_) (fun k p hk1 hp1 hpb => ?_)
    · rw [p2 p (.inr (by omega))]
      have := permIn_all d (insInner lt2 0 i d) 0 (i + 1) (fun x => x < d[p]!) (by omega) ⟨p1, p2, p3⟩ (fun q _ hq => by
        by_cases e : q = i
        · rw [e]; exact hr i p (Nat.le_refl _) (by omega) hpb
        · exact hk q p (by omega) (by omega) hpb)
      exact this k (Nat.zero_le _) hk1
    · rw [p2 p (.inr (by omega)), p2 k (.inr (by omega))]
      exact hr k p (by omega) hp1 hpb
/-- by falling keys, equals as they stand: sorted by key and place -/
def lexI (f : Int → Int) (x y : Int) : Bool := decide (f y < f x ∨ (f x = f y ∧ x < y))
theorem lex_swo (f : Int → Int) : Sort.SWO (lexI f) where
  irrefl x := by simp [lexI]
  trans x y z h1 h2 := by simp only [lexI, decide_eq_true_eq] at *; omega
  ntrans x y z h1 h2 := by simp only [lexI, decide_eq_false_iff_not] at *; omega
theorem stable {lt : Int → Int → Bool} {f : Int → Int} (hlt : ∀ x y, lt x y = decide (f y < f x)) {d : Array Int} (hd : ∀ k p, k < p → p < d.size → d[k]! < d[p]!) :
    Sort.PermIn 0 d.size d (Sort.insertionSort lt d 0 d.size) ∧ Sort.SortedIn (lexI f) 0 d.size (Sort.insertionSort lt d 0 d.size) := by
  have e : Sort.insertionSort lt d 0 d.size = Sort.insertionSort (lexI f) d 0 d.size := by
    unfold Sort.insertionSort
    by_cases h : d.size = 0
    · rw [h, Sort.insOuter, if_neg (by omega), Sort.insOuter, if_neg (by omega)]
    · refine insOuter_eq (lex_swo f) (fun x y h => ?_) _ 1 d.size d rfl (by omega) (by omega) (Nat.le_refl _) (fun i j _ h1 h2 => by omega) (fun k p h1 _ h2 => hd k p (by omega) h2) (fun k p _ h1 h2 => hd k p h1 h2)
      rw [hlt]
      unfold lexI
      rw [Bool.eq_iff_iff, decide_eq_true_eq, decide_eq_true_eq]
      omega
  rw [e]
  exact Sort.insertionSort_holds (lex_swo f) d 0 d.size (Nat.zero_le _) (Nat.le_refl _)

end Go.Proofs.Ytifpfpgibjmibaa
