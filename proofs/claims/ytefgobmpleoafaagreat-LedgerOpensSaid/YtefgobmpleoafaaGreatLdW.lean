/- Entries that read whatever is turned in some blocks; states and ledgers in memory. -/
import Derived.Test.YtefgobmpleoafaaGreatMPk
import Derived.Test.YtefgobmpleoafaaGreatPkQ
import Derived.Test.YtefgobmpleoafaaGreatMTp
namespace Go.Proofs.YtefgobmpleoafaaGreat
open Go.RowKit
variable {w w' w'' : World} {S S' : Nat → Prop} {n₀ n₁ : Nat}

theorem Fr.sub (h : Fr S w w') (hs : ∀ i, i < w.heap.size → S i → S' i) : Fr S' w w' := ⟨h.os, h.tape, h.output, h.size, fun i hi hc => h.block i hi fun e => hc (hs i hi e)⟩
/-- A slice that reads as entries whose lists' slices are known. -/
def EntsP (n₀ : Nat) (w : World) (v : Value) (L : List EnV) : Prop :=
  ∃ A cap, v = .slice A L.length cap ∧ L.length ≤ cap ∧ (L ≠ [] → ∃ b off, A = some ⟨b, off, none⟩ ∧ b < n₀ ∧ ∀ i x, L[i]? = some x → EnAt w b (off + i * 9) x.1 x.2.1 x.2.2 ∧ RulesV n₀ w x.2.1 x.1.d.put ∧ Row n₀ w x.2.2 (zI x.1.d.drop))
theorem EntsP.more {v : Value} {L : List EnV} (h : EntsP n₀ w v L) (hn : n₀ ≤ n₁) : EntsP n₁ w v L := by
  obtain ⟨A, cap, hv, hc, h⟩ := h
  refine ⟨A, cap, hv, hc, fun hs => ?_⟩
  obtain ⟨b, off, hA, hb, ht⟩ := h hs
  refine ⟨b, off, hA, by omega, fun i e he => ?_⟩
  obtain ⟨h1, h2, h3⟩ := ht i e he
  exact ⟨h1, h2.more hn, h3.more hn⟩
theorem EntsP.read {v : Value} {L : List EnV} (h : EntsP n₀ w v L) : EntsV n₀ w v (L.map (·.1)) := by
  obtain ⟨A, cap, hv, hc, h⟩ := h
  refine ⟨A, cap, by rw [List.length_map]; exact hv, by rw [List.length_map]; exact hc, fun hs => ?_⟩
  obtain ⟨b, off, hA, hb, ht⟩ := h (by rintro rfl; exact hs rfl)
  refine ⟨b, off, hA, hb, fun i e he => ?_⟩
  rw [List.getElem?_map, Option.map_eq_some_iff] at he
  obtain ⟨x, hx, rfl⟩ := he
  obtain ⟨h1, h2, h3⟩ := ht i x hx
  exact ⟨x.2.1, x.2.2, h1, h2, h3⟩
theorem pick_pd : ∀ (l : List En) (P : Nat → En → Value → Value → Prop), (∀ i e, l[i]? = some e → ∃ p d, P i e p d) → ∃ L : List EnV, L.map (·.1) = l ∧ ∀ i x, L[i]? = some x → P i x.1 x.2.1 x.2.2
  | [], _, _ => ⟨[], rfl, fun i x h => by simp at h⟩
  | e :: l, P, h => by
    obtain ⟨p, d, hp⟩ := h 0 e rfl
    obtain ⟨L, hL, hx⟩ := pick_pd l (fun i => P (i + 1)) fun i x hx => h (i + 1) x (by simpa using hx)
    refine ⟨(e, p, d) :: L, by simp [hL], fun i x hi => ?_⟩
    cases i with
    | zero => simp at hi; subst hi; exact hp
    | succ i => exact hx i x (by simpa using hi)
theorem EntsV.named {v : Value} {l : List En} (h : EntsV n₀ w v l) : ∃ L : List EnV, L.map (·.1) = l ∧ EntsP n₀ w v L := by
  obtain ⟨A, cap, hv, hc, h⟩ := h
  by_cases hl : l = []
  · subst hl
    exact ⟨[], rfl, A, cap, hv, hc, fun h => absurd rfl h⟩
  · obtain ⟨b, off, hA, hb, ht⟩ := h hl
    obtain ⟨L, rfl, hx⟩ := pick_pd l (fun i e p d => EnAt w b (off + i * 9) e p d ∧ RulesV n₀ w p e.d.put ∧ Row n₀ w d (zI e.d.drop)) ht
    rw [List.length_map] at hv hc
    exact ⟨L, rfl, A, cap, hv, hc, fun _ => ⟨b, off, hA, hb, hx⟩⟩
/-- Entries that read, whatever is turned in S's blocks. -/
def LogV (S : Nat → Prop) (w : World) (v : Value) (l : List En) : Prop := ∃ L : List EnV, L.map (·.1) = l ∧ ∀ w', Fr S w w' → EntsP w.heap.size w' v L
section
variable {v : Value} {l : List En}
theorem LogV.read (h : LogV S w v l) : EntsV w.heap.size w v l := by
  obtain ⟨L, rfl, h⟩ := h
  exact (h w (Fr.refl w)).read
theorem LogV.next (h : LogV S w v l) (k : Fr S w w') : LogV S w' v l := by
  obtain ⟨L, hL, h⟩ := h
  exact ⟨L, hL, fun w2 k2 => (h w2 (k.next k2)).more k.size⟩
theorem LogV.on (h : LogV S w v l) (k : Below w.heap.size w w') : LogV S w' v l := h.next (Fr.of_below k)
theorem LogV.sub (h : LogV S w v l) (hs : ∀ i, S' i → S i ∨ w.heap.size ≤ i) : LogV S' w v l := by
  obtain ⟨L, hL, h⟩ := h
  exact ⟨L, hL, fun w2 k2 => h w2 (k2.sub fun i hi e => (hs i e).elim id (by omega))⟩
theorem LogV.alloc (h : LogV S w v l) (o : Obj) : LogV S (w.alloc o) v l := h.on ((Below.refl _ _).alloc (Nat.le_refl _) o)
theorem LogV.drew (h : LogV S w v l) : LogV S w.drew v l := h.next (Fr.refl w).drew
theorem LogV.form (h : LogV S w v l) : ∃ A c, v = .slice A l.length c := h.read.form
theorem LogV.nil (S : Nat → Prop) (w : World) : LogV S w (.slice none 0 0) [] := ⟨[], rfl, fun _ _ => ⟨none, 0, rfl, Nat.le_refl _, fun h => absurd rfl h⟩⟩
theorem LogV.of_ents (h : EntsV w.heap.size w v l) : LogV (fun _ => False) w v l := by
  obtain ⟨L, hL, h⟩ := h.named
  refine ⟨L, hL, fun w2 k2 => ?_⟩
  have hB : Below w.heap.size w w2 := k2.old (Nat.le_refl _) fun _ e => e.elim
  obtain ⟨A, cap, hv, hc, h⟩ := h
  refine ⟨A, cap, hv, hc, fun hs => ?_⟩
  obtain ⟨b, off, hA, hb, ht⟩ := h hs
  refine ⟨b, off, hA, hb, fun i x hx => ?_⟩
  obtain ⟨h1, h2, h3⟩ := ht i x hx
  exact ⟨h1.below hb hB, h2.below hB, h3.below hB⟩
theorem LogV.take {A : Option Addr} {n c k : Nat} (h : LogV S w (.slice A n c) l) (hk : k ≤ l.length) : LogV S w (.slice A k c) (l.take k) := by
  obtain ⟨L, rfl, h⟩ := h
  rw [List.length_map] at hk
  refine ⟨L.take k, by simp [List.map_take], fun w2 k2 => ?_⟩
  obtain ⟨A', cap, hv, hc, h⟩ := h w2 k2
  injection hv with e1 e2 e3
  subst e1 e3
  refine ⟨A, c, by rw [List.length_take, Nat.min_eq_left hk], by rw [List.length_take]; omega, fun hs => ?_⟩
  obtain ⟨b, off, hA, hb, ht⟩ := h (by rintro rfl; simp at hs)
  refine ⟨b, off, hA, hb, fun i x hx => ht i x ?_⟩
  rw [List.getElem?_take] at hx
  split at hx
  · exact hx
  · cases hx
/-- A row of the call's own, of entries whose lists read. -/
theorem LogV.of_row {base : Nat} {te : TypeId} {L : List EnV} (h : w.ownsRow base te 9 v L.length (enCells L)) (hb : ∀ i, S i → i < base) (hx : ∀ x ∈ L, ∀ w', Fr S w w' → RulesV w.heap.size w' x.2.1 x.1.d.put ∧ Row w.heap.size w' x.2.2 (zI x.1.d.drop)) : LogV S w v (L.map (·.1)) := by
  refine ⟨L, rfl, fun w2 k2 => ?_⟩
  rcases h.2 with ⟨hv, hn⟩ | ⟨g, cap, cur, hv, hg, hh, hnc, _⟩
  · obtain rfl : L = [] := List.length_eq_zero_iff.1 hn
    subst hv
    exact ⟨none, 0, rfl, Nat.le_refl _, fun h => absurd rfl h⟩
  · subst hv
    refine ⟨_, cap, rfl, hnc, fun _ => ⟨g, 0, rfl, lt_of_some hh, fun i x hx' => ?_⟩⟩
    have hadd : ∀ j, (⟨g, 0, none⟩ : Addr).add j = ⟨g, 0 + j, none⟩ := fun j => by unfold Addr.add; split <;> simp_all
    have c : ∀ k u, k < 9 → (x.1.cells x.2.1 x.2.2)[k]? = some u → w2.cell? ⟨g, 0 + i * 9 + k, none⟩ = some u := fun k u hk hu => by
      have := h.cells (g := g) rfl _ _ ((enCells_get L i k x hx' hk).trans hu)
      rw [hadd] at this
      rw [k2.cell (lt_of_some hh) (fun e => by have := hb _ e; simp only at this; omega), Nat.add_assoc]
      exact this
    exact ⟨⟨c 0 _ (by omega) rfl, c 1 _ (by omega) rfl, c 2 _ (by omega) rfl, c 3 _ (by omega) rfl, c 4 _ (by omega) rfl, c 5 _ (by omega) rfl, c 6 _ (by omega) rfl, c 7 _ (by omega) rfl, c 8 _ (by omega) rfl⟩, hx x (List.mem_of_getElem? hx') w2 k2⟩
theorem LogV.of_own {base : Nat} {te tr : TypeId} (h : OwnE te tr base w v l) (hb : ∀ i, S i → i < base) : LogV S w v l := by
  obtain ⟨L, rfl, h, hx⟩ := h
  refine LogV.of_row h hb fun x hm w2 k2 => ?_
  obtain ⟨h1, h2⟩ := hx x hm
  have hk : ∀ {t : TypeId} {sz n : Nat} {u : Value} {xs : List Value}, w.ownsRow base t sz u n xs → w2.ownsRow base t sz u n xs := fun ho => own_kept ho fun i h1 h2 _ => k2.block i h1 fun e => by have := hb i e; omega
  have a := OwnU.set (hk h1)
  have b := Row.of_own (hk h2)
  have k1 : RulesV w.heap.size w2 x.2.1 x.1.d.put := by
    obtain ⟨A, cap, hv, hc, hr⟩ := OwnU.set h1
    obtain ⟨A', cap', hv', _, hr'⟩ := a
    rw [hv] at hv'
    injection hv' with e1 e2 e3
    refine ⟨A, cap, hv, hc, fun hs => ?_⟩
    obtain ⟨b, off, hA, hb, _⟩ := hr hs
    obtain ⟨b', off', hA', _, ht⟩ := hr' hs
    rw [← e1, hA] at hA'
    injection hA' with hA'
    injection hA' with q1 q2 _
    exact ⟨b, off, hA, hb, by rw [q1, q2]; exact ht⟩
  have k2 : Row w.heap.size w2 x.2.2 (zI x.1.d.drop) := by
    obtain ⟨A, cap, hv, hc, hr⟩ := Row.of_own h2
    obtain ⟨A', cap', hv', _, hr'⟩ := b
    rw [hv] at hv'
    injection hv' with e1 e2 e3
    refine ⟨A, cap, hv, hc, fun hs => ?_⟩
    obtain ⟨b, off, hA, hb, _⟩ := hr hs
    obtain ⟨b', off', hA', _, ht⟩ := hr' hs
    rw [← e1, hA] at hA'
    injection hA' with hA'
    injection hA' with q1 q2 _
    exact ⟨b, off, hA, hb, by rw [q1, q2]; exact ht⟩
  exact ⟨k1, k2⟩
end
/-- A state as a value. -/
abbrev St.val (s : St) (v : Value) : Value := .agg #[.int .i64 s.vi, .int .i64 s.no, .int .i64 s.co, .int .i64 s.ac, v]
end Go.Proofs.YtefgobmpleoafaaGreat
