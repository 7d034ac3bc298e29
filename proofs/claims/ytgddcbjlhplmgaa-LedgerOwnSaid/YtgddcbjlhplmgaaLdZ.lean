/- Rows of entries of the call's own in which numbers are overwritten. -/
import Derived.Test.YtgddcbjlhplmgaaLdLs
namespace Go.Proofs.Ytgddcbjlhplmgaa
open Go.RowKit
variable {w w' w'' : World}

/-- A slice's block, of which its type and how many cells it has are known. -/
def SlB (base : Nat) (w : World) (t : TypeId) (sz : Nat) (v : Value) : Prop :=
  ∃ A n c, v = .slice A n c ∧ n ≤ 9223372036854775807 ∧ (n = 0 ∨ ∃ g, A = some ⟨g, 0, none⟩ ∧ base ≤ g ∧ n ≤ c ∧ ∃ cs : Array Value, Blk w g t cs ∧ cs.size = c * sz)
theorem SlB.set_ {base sz : Nat} {t : TypeId} {v : Value} (h : SlB base w t sz v) {b o : Nat} (u : Value) : SlB base (w.setCell ⟨b, o, none⟩ u) t sz v := by
  obtain ⟨A, n, c, hv, hx, h⟩ := h
  refine ⟨A, n, c, hv, hx, h.imp id ?_⟩
  rintro ⟨g, hA, hb, hn, cs, hB, hs⟩
  by_cases hg : g = b
  · subst hg
    exact ⟨g, hA, hb, hn, _, hB.set_ o u, by simpa using hs⟩
  · exact ⟨g, hA, hb, hn, cs, hB.far (p := ⟨b, o, none⟩) hg u, hs⟩
theorem SlB.of_own {base sz n : Nat} {t : TypeId} {v : Value} {xs : List Value} (h : w.ownsRow base t sz v n xs) : SlB base w t sz v := by
  rcases h.2 with ⟨hv, hn⟩ | ⟨g, c, cur, hv, hb, hh, hnc, hmx, hs, _⟩
  · exact ⟨none, 0, 0, hv, by omega, .inl rfl⟩
  · exact ⟨_, n, c, hv, by (have : maxLen = 9223372036854775807 := rfl); omega, .inr ⟨g, rfl, hb, hnc, cur, hh, hs⟩⟩
/-- What stays while the numbers are overwritten. -/
structure OvI (base : Nat) (w wr : World) (b6 c6 : Nat) (L : List EnV) (bx : Nat) (xc : Array Value) : Prop where
  fr : Fr (fun i => base ≤ i) w wr
  row : ∃ cs : Array Value, Blk wr b6 63 cs ∧ cs.size = c6 * 9 ∧ ∀ i x, L[i]? = some x → cs[i * 9 + 7]? = some x.2.1 ∧ cs[i * 9 + 8]? = some x.2.2
  box : Blk wr bx 24 xc
  lists : ∀ x ∈ L, SlB base wr 65 5 x.2.1 ∧ SlB base wr 3 1 x.2.2
theorem OvI.client {base b6 c6 k bx : Nat} {xc : Array Value} {L : List EnV} {wr : World} (h : OvI base w wr b6 c6 L bx xc) (hb : base ≤ b6) (u : Value) : OvI base w (wr.setCell ⟨b6, k * 9 + 1, none⟩ u) b6 c6 L bx xc := by
  obtain ⟨cs, h1, h2, h3⟩ := h.row
  refine ⟨h.fr.set_ (q := ⟨b6, k * 9 + 1, none⟩) (.inl hb) u, ⟨_, h1.set_ (k * 9 + 1) u, by simpa using h2, fun i x hx => ?_⟩, h.box.far (p := ⟨b6, k * 9 + 1, none⟩) (h.box.ne_ h1 (by decide)) u, fun x hx => ⟨(h.lists x hx).1.set_ u, (h.lists x hx).2.set_ u⟩⟩
  obtain ⟨q1, q2⟩ := h3 i x hx
  rw [Array.getElem?_setIfInBounds_ne (by omega), Array.getElem?_setIfInBounds_ne (by omega)]
  exact ⟨q1, q2⟩
theorem OvI.other {base b6 c6 b o bx : Nat} {xc : Array Value} {L : List EnV} {wr : World} (h : OvI base w wr b6 c6 L bx xc) {t : TypeId} {cs : Array Value} (hg : Blk wr b t cs) (ht : t ≠ 63) (ht2 : t ≠ 24) (hb : base ≤ b) (u : Value) : OvI base w (wr.setCell ⟨b, o, none⟩ u) b6 c6 L bx xc := by
  obtain ⟨cs6, h1, h2, h3⟩ := h.row
  exact ⟨h.fr.set_ (q := ⟨b, o, none⟩) (.inl hb) u, ⟨cs6, h1.far (p := ⟨b, o, none⟩) (h1.ne_ hg (Ne.symm ht)) u, h2, h3⟩, h.box.far (p := ⟨b, o, none⟩) (h.box.ne_ hg (Ne.symm ht2)) u, fun x hx => ⟨(h.lists x hx).1.set_ u, (h.lists x hx).2.set_ u⟩⟩
end Go.Proofs.Ytgddcbjlhplmgaa
