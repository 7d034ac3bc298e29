/- All frames with which bytes begin (package frame), as a contract. -/
import Derived.Test.YtcikdeknbkcggaaFrF
namespace Go.Proofs.Ytcikdeknbkcggaa
open Go.RowKit

/-- A row of the call's own that holds bodies, each in a block of its own. -/
structure Bods (w : World) (base : Nat) (v : Value) (bs : List (List UInt8)) (vals : List Value) : Prop where
  len : vals.length = bs.length
  row : w.ownsRow base 22 1 v bs.length vals
  own : ∀ (i : Nat) x t, vals[i]? = some x → bs[i]? = some t → Own w base x t
  far : ∀ (i j : Nat) x y, i < j → vals[i]? = some x → vals[j]? = some y → x.ownBlock = none ∨ x.ownBlock ≠ y.ownBlock
theorem Bods.nil (w : World) (base : Nat) : Bods w base (.slice none 0 0) [] [] := ⟨rfl, ⟨rfl, .inl ⟨rfl, rfl⟩⟩, fun i x t h => by simp at h, fun i j x y _ h => by simp at h⟩
theorem Own.grown {w w' : World} {base : Nat} {v x : Value} {t : List UInt8} {n : Nat} {xs : List Value} (h : Own w base x t) (hr : w.ownsRow base 22 1 v n xs) (hg : w.grownBy w' v.ownBlock) : Own w' base x t :=
  own_kept h fun i hi _ ⟨cs, z, hc⟩ => hg.block i hi (fun e => own_ne hr hc (by decide) e.symm)
theorem Bods.below {w w' : World} {base : Nat} {v : Value} {bs : List (List UInt8)} {vals : List Value} (h : Bods w base v bs vals) (hB : Below w.heap.size w w') : Bods w' base v bs vals :=
  ⟨h.len, own_below h.row hB, fun i x t hx ht => (h.own i x t hx ht).below hB, h.far⟩
theorem Bods.snoc {wr w1 w3 : World} {o : Obj} {base : Nat} {v v3 x : Value} {bs : List (List UInt8)} {t : List UInt8} {vals : List Value} (h : Bods wr base v bs vals) (hB : Below wr.heap.size wr w1) (hx : Own w1 wr.heap.size x t) (hb : base ≤ wr.heap.size)
    (h3 : w3.ownsRow base 22 1 v3 (bs.length + 1) (vals ++ [x])) (g3 : (w1.alloc o).grownBy w3 v.ownBlock) : Bods w3 base v3 (bs ++ [t]) (vals ++ [x]) := by
  have h1 := h.below hB
  have r1 : (w1.alloc o).ownsRow base 22 1 v bs.length vals := h1.row.alloc o
  refine ⟨by simp [h.len], by rw [List.length_append]; exact h3, fun i y u hy hu => ?_, fun i j y z hij hy hz => ?_⟩
  · by_cases hi : i < vals.length
    · rw [List.getElem?_append_left hi] at hy
      rw [List.getElem?_append_left (by rw [← h.len]; exact hi)] at hu
      exact Own.grown (World.ownsRow.alloc (h1.own i y u hy hu) o) r1 g3
    · rw [List.getElem?_append_right (by omega)] at hy
      rw [List.getElem?_append_right (by rw [← h.len]; omega), ← h.len] at hu
      have hi0 : i - vals.length = 0 := by
        have := (List.getElem?_eq_some_iff.1 hy).1
        simp at this; omega
      rw [hi0] at hy hu
      simp at hy hu
      subst hy hu
      have hx' : Own w1 base x t := ⟨hx.1, hx.2.imp id fun ⟨g, c, cur, e, q, r⟩ => ⟨g, c, cur, e, by omega, r⟩⟩
      exact Own.grown (World.ownsRow.alloc hx' o) r1 g3
  · have hiv : i < vals.length := by
      have := (List.getElem?_eq_some_iff.1 hz).1
      simp at this; omega
    rw [List.getElem?_append_left hiv] at hy
    by_cases hj : j < vals.length
    · rw [List.getElem?_append_left hj] at hz
      exact h.far i j y z hij hy hz
    · rw [List.getElem?_append_right (by omega)] at hz
      have hj0 : j - vals.length = 0 := by
        have := (List.getElem?_eq_some_iff.1 hz).1
        simp at this; omega
      rw [hj0] at hz
      simp at hz
      subst hz
      have hbs : i < bs.length := by rw [← h.len]; exact hiv
      have o1 := h.own i y bs[i] hy (by simp [hbs])
      cases hyb : y.ownBlock with
      | none => exact .inl rfl
      | some k =>
        refine .inr fun e => ?_
        have a1 := (World.ownsRow.lt o1 k hyb).2
        have a2 := (World.ownsRow.lt hx k e.symm).1
        omega
theorem one_slice {w : World} {base : Nat} {v : Value} {s : List UInt8} (h : Own w base v s) : ∃ A c, v = .slice A s.length c := by
  rcases own_at h with ⟨rfl, h0⟩ | ⟨g, c, rfl, _⟩
  · exact ⟨none, 0, by rw [h0]⟩
  · exact ⟨_, c, rfl⟩
def Scanned (w : World) (s : List UInt8) (e : Ending) (w' : World) : Prop :=
  ∃ v u bs vals, e = .returned (.tuple #[v, .int .i64 ((u : Nat) : Int)]) ∧ Sc s u bs ∧ rdE (s.drop u) ≠ 0 ∧ Bods w' w.heap.size v bs vals ∧ Below w.heap.size w w'
theorem bad_below {w w1 : World} {x : Nat} {e : Ending} (h : RdBad w x e w1) : e = .returned (.tuple #[.slice none 0 0, .int .i64 0, .int .i64 (x : Int)]) ∧ Below w.heap.size w w1 := by
  obtain ⟨he, m, rfl⟩ := h
  exact ⟨he, Below.drewN' (Below.refl _ _) _⟩
theorem rd_empty : rdE (([] : List UInt8).drop 0) ≠ 0 := by rw [List.drop_zero, rdE_nil]; decide
theorem sc_nil (s : List UInt8) : Sc s 0 [] := rfl
set_option maxHeartbeats 1000000 in
theorem scan_empty (A : Option Addr) (cap : Nat) (w : World) : Calls Try.prog 16 #[.slice A 0 cap] w (Scanned w []) := by
  have key : ∀ e w1, RdBad w 11 e w1 → e = .returned (.tuple #[.slice none 0 0, .int .i64 0, .int .i64 ((11 : Nat) : Int)]) ∧ Below w.heap.size w w1 := fun _ _ h => bad_below h
  cases A with
  | none =>
    go_enter Try.func16, Try.ntmps16
    go_wp2
    refine wp_loop_rounds 1 ?_
    rw [rounds_succ]
    go_wp2_with fail
    refine (read_11 _ 0 _ (by decide) w).mono ?_
    intro e w1 h1
    obtain ⟨rfl, hB1⟩ := key _ _ h1
    clear h1 key
    go_wp2
    go_ret2
    exact ⟨_, 0, [], [], rfl, sc_nil [], rd_empty, Bods.nil _ _, hB1⟩
  | some a =>
    obtain ⟨b, off, spot⟩ := a
    cases cap with
    | zero =>
      go_enter Try.func16, Try.ntmps16
      go_wp2
      refine wp_loop_rounds 1 ?_
      rw [rounds_succ]
      go_wp2_with fail
      refine (read_11 _ 0 _ (by decide) w).mono ?_
      intro e w1 h1
      obtain ⟨rfl, hB1⟩ := key _ _ h1
      clear h1 key
      go_wp2
      go_ret2
      exact ⟨_, 0, [], [], rfl, sc_nil [], rd_empty, Bods.nil _ _, hB1⟩
    | succ cap =>
      go_enter Try.func16, Try.ntmps16
      go_wp2
      refine wp_loop_rounds 1 ?_
      rw [rounds_succ]
      go_wp2_with fail
      refine (read_11 _ 0 _ (by decide) w).mono ?_
      intro e w1 h1
      obtain ⟨rfl, hB1⟩ := key _ _ h1
      clear h1 key
      go_wp2
      go_ret2
      exact ⟨_, 0, [], [], rfl, sc_nil [], rd_empty, Bods.nil _ _, hB1⟩
end Go.Proofs.Ytcikdeknbkcggaa
