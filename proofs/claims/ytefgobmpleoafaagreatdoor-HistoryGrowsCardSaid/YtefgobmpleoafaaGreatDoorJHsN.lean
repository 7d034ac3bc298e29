/- Layer 14's laws: a row of entries that a law makes. -/
import Derived.Test.YtefgobmpleoafaaGreatDoorJHsL
namespace Go.Proofs.YtefgobmpleoafaaGreatDoor
open Go.RowKit Go.Maps
variable {w w' : World} {n₀ : Nat}

abbrev EnP := En × Value × Value
def EnP.cells (x : EnP) : List Value := x.1.cells x.2.1 x.2.2
def erCells (L : List EnP) : List Value := L.flatMap EnP.cells
theorem erCells_append (a b : List EnP) : erCells (a ++ b) = erCells a ++ erCells b := by simp [erCells]
theorem erCells_one (x : EnP) : erCells [x] = EnP.cells x := by simp [erCells]
theorem EnP.len (x : EnP) : (EnP.cells x).length = 9 := rfl
theorem erCells_len : ∀ L : List EnP, (erCells L).length = L.length * 9
  | [] => rfl
  | x :: l => by
    show (EnP.cells x ++ erCells l).length = _
    rw [List.length_append, EnP.len, erCells_len l, List.length_cons]
    omega
theorem erCells_get : ∀ (L : List EnP) (i k : Nat) (x : EnP), L[i]? = some x → k < 9 → (erCells L)[i * 9 + k]? = (EnP.cells x)[k]?
  | [], i, k, r, h, _ => by simp at h
  | x :: l, 0, k, r, h, hk => by
    simp at h
    subst h
    rw [Nat.zero_mul, Nat.zero_add]
    show (EnP.cells x ++ erCells l)[k]? = _
    exact List.getElem?_append_left (by rw [EnP.len]; omega)
  | x :: l, i + 1, k, r, h, hk => by
    have := erCells_get l i k r (by simpa using h) hk
    show (EnP.cells x ++ erCells l)[(i + 1) * 9 + k]? = _
    rw [List.getElem?_append_right (by rw [EnP.len]; omega), ← this, EnP.len]
    congr 1
    omega
theorem erCells_inv : ∀ (L : List EnP) (j : Nat) (u : Value), (erCells L)[j]? = some u → ∃ x, L[j / 9]? = some x ∧ (EnP.cells x)[j % 9]? = some u
  | [], j, u, h => by simp [erCells] at h
  | x :: l, j, u, h => by
    have h' : (EnP.cells x ++ erCells l)[j]? = some u := h
    by_cases hj : j < 9
    · rw [List.getElem?_append_left (by rw [EnP.len]; exact hj)] at h'
      exact ⟨x, by rw [Nat.div_eq_of_lt hj]; rfl, by rw [Nat.mod_eq_of_lt hj]; exact h'⟩
    · rw [List.getElem?_append_right (by rw [EnP.len]; omega), EnP.len] at h'
      obtain ⟨y, h1, h2⟩ := erCells_inv l (j - 9) u h'
      refine ⟨y, ?_, ?_⟩
      · rw [show j / 9 = (j - 9) / 9 + 1 by omega]
        exact h1
      · rw [show j % 9 = (j - 9) % 9 by omega]
        exact h2
theorem EnAt.get {b o : Nat} {e : En} {p d : Value} (h : EnAt w b o e p d) (k : Nat) (u : Value) (hu : (e.cells p d)[k]? = some u) : w.cell? ⟨b, o + k, none⟩ = some u := by
  obtain ⟨h0, h1, h2, h3, h4, h5, h6, h7, h8⟩ := h
  match k, hu with
  | 0, hu => simp [En.cells] at hu; subst hu; exact h0
  | 1, hu => simp [En.cells] at hu; subst hu; exact h1
  | 2, hu => simp [En.cells] at hu; subst hu; exact h2
  | 3, hu => simp [En.cells] at hu; subst hu; exact h3
  | 4, hu => simp [En.cells] at hu; subst hu; exact h4
  | 5, hu => simp [En.cells] at hu; subst hu; exact h5
  | 6, hu => simp [En.cells] at hu; subst hu; exact h6
  | 7, hu => simp [En.cells] at hu; subst hu; exact h7
  | 8, hu => simp [En.cells] at hu; subst hu; exact h8
  | k + 9, hu => simp [En.cells] at hu
theorem pick_list {α β : Type} : ∀ (l : List α) (P : Nat → α → β → Prop), (∀ i e, l[i]? = some e → ∃ b, P i e b) → ∃ L : List (α × β), L.map Prod.fst = l ∧ ∀ i x, L[i]? = some x → P i x.1 x.2
  | [], P, _ => ⟨[], rfl, by simp⟩
  | a :: l, P, h => by
    obtain ⟨b, hb⟩ := h 0 a rfl
    obtain ⟨L, h1, h2⟩ := pick_list l (fun i => P (i + 1)) (fun i e he => h (i + 1) e (by simpa using he))
    refine ⟨(a, b) :: L, by simp [h1], fun i x hx => ?_⟩
    cases i with
    | zero => simp at hx; subst hx; exact hb
    | succ i => exact h2 i x (by simpa using hx)
theorem EntsV.pairs {n c : Nat} {A : Option Addr} {l : List En} (h : EntsV n₀ w (.slice A n c) l) : ∃ L : List EnP, L.map Prod.fst = l ∧ (A = none → n = 0) ∧ (∀ a, A = some a → ∀ j u, (erCells L)[j]? = some u → w.cell? (a.add j) = some u) ∧ ∀ x ∈ L, RulesV n₀ w x.2.1 x.1.d.put ∧ Row n₀ w x.2.2 (zI x.1.d.drop) := by
  obtain ⟨A', c', hv, _, ht⟩ := h
  injection hv with e1 e2 e3
  subst e1 e2
  by_cases hl : l = []
  · subst hl
    exact ⟨[], rfl, fun _ => rfl, fun a _ j u hj => by simp [erCells] at hj, by simp⟩
  · obtain ⟨b, off, hA, _, hx⟩ := ht hl
    obtain ⟨L, h1, h2⟩ := pick_list l (fun i e (pd : Value × Value) => EnAt w b (off + i * 9) e pd.1 pd.2 ∧ RulesV n₀ w pd.1 e.d.put ∧ Row n₀ w pd.2 (zI e.d.drop)) (fun i e he => by
      obtain ⟨p, d, h⟩ := hx i e he
      exact ⟨(p, d), h⟩)
    refine ⟨L, h1, fun h => (by rw [hA] at h; cases h), fun a ha j u hj => ?_, fun x hx' => ?_⟩
    · rw [hA] at ha
      injection ha with ha
      subst ha
      obtain ⟨x, hx1, hx2⟩ := erCells_inv L j u hj
      have := (h2 (j / 9) x hx1).1.get (j % 9) u hx2
      have hadd : (⟨b, off, none⟩ : Addr).add j = ⟨b, off + j, none⟩ := by unfold Addr.add; split <;> simp_all
      rw [hadd, show off + j = off + j / 9 * 9 + j % 9 by omega]
      exact this
    · obtain ⟨i, hi⟩ := List.getElem?_of_mem hx'
      exact (h2 i x hi).2
theorem enp_one {L : List EnP} (h : ∀ x ∈ L, RulesV n₀ w x.2.1 x.1.d.put ∧ Row n₀ w x.2.2 (zI x.1.d.drop)) : ∀ u ∈ erCells L, u.oneCell' = true := by
  intro u hu
  obtain ⟨x, hx, hu⟩ := List.mem_flatMap.1 hu
  obtain ⟨h1, h2⟩ := h x hx
  obtain ⟨A, c, e1⟩ := h1.form
  obtain ⟨B, d, e2⟩ := h2.form
  unfold EnP.cells En.cells at hu
  rw [e1, e2] at hu
  simp only [List.mem_cons, List.not_mem_nil, or_false] at hu
  rcases hu with rfl | rfl | rfl | rfl | rfl | rfl | rfl | rfl | rfl <;> rfl
theorem ents_of_own {base n : Nat} {v : Value} {L : List EnP} (h : w.ownsRow base 39 9 v n (erCells L)) (hn : n = L.length) (hb : ∀ x ∈ L, RulesV w.heap.size w x.2.1 x.1.d.put ∧ Row w.heap.size w x.2.2 (zI x.1.d.drop)) : EntsV w.heap.size w v (L.map Prod.fst) := by
  rcases h.2 with ⟨hv, hn0⟩ | ⟨g, cap, cur, hv, _, _, hnc, _⟩
  · obtain rfl : L = [] := List.length_eq_zero_iff.1 (by omega)
    subst hv
    exact EntsV.nil _ _
  · subst hv
    have e1 : n = (L.map Prod.fst).length := by simp [hn]
    refine ⟨some ⟨g, 0, none⟩, cap, by rw [← e1], by rw [← e1]; exact hnc, fun _ => ⟨g, 0, rfl, (h.lt g rfl).2, fun i e he => ?_⟩⟩
    rw [List.getElem?_map] at he
    obtain ⟨x, hx, rfl⟩ := Option.map_eq_some_iff.1 he
    have hadd : ∀ j, (⟨g, 0, none⟩ : Addr).add j = ⟨g, 0 + j, none⟩ := fun j => by unfold Addr.add; split <;> simp_all
    have c : ∀ k u, k < 9 → (EnP.cells x)[k]? = some u → w.cell? ⟨g, 0 + (i * 9 + k), none⟩ = some u := fun k u hk hu => by
      have := h.cells (g := g) rfl _ _ ((erCells_get L i k x hx hk).trans hu)
      rwa [hadd] at this
    exact ⟨x.2.1, x.2.2, ⟨c 0 _ (by omega) rfl, c 1 _ (by omega) rfl, c 2 _ (by omega) rfl, c 3 _ (by omega) rfl, c 4 _ (by omega) rfl, c 5 _ (by omega) rfl, c 6 _ (by omega) rfl, c 7 _ (by omega) rfl, c 8 _ (by omega) rfl⟩, hb x (List.mem_of_getElem? hx)⟩
theorem info_entry14 : (Tryz.prog.info? 39).map (fun i => (i.zero, i.size, i.bytes)) = some (some (.agg #[.int .i64 0, .int .i64 0, .int .i64 0, .int .i64 0, .int .i64 0, .int .i64 0, .int .i64 0, .slice none 0 0, .slice none 0 0]), 9, 104) := by kernel_rfl
end Go.Proofs.YtefgobmpleoafaaGreatDoor

