/- Layer 14's laws: the calls at one and at two histories. -/
import Derived.Test.YtefgobmpleoafaaGreatDoorJHsI
import Derived.Test.YtefgobmpleoafaaGreatDoorJRc
namespace Go.Proofs.YtefgobmpleoafaaGreatDoor
open Go.RowKit Go.Maps
variable {w0 w w' : World} {X : Nat → Prop} {n₀ g h : Nat} {G H : Hs} {x : En}

theorem new_one (n₀ : Nat) (w0 w : World) (hn : n₀ ≤ w0.heap.size) (hB : Below n₀ w0 w) : Calls Tryz.prog 11 #[] w fun e w' => ∃ g, e = .returned (.pointer (some ⟨g, 0, none⟩)) ∧ One n₀ w0 w' (fun _ => False) g .start := by
  refine (new14_any (fun _ => False) w (fun _ e => e.elim)).mono ?_
  rintro e w' ⟨g, S, rfl, hs, h1, b1⟩
  have hw : n₀ ≤ w.heap.size := Nat.le_trans hn hB.size
  exact ⟨g, rfl, S, _, h1, fun i hi => by have := hs i hi; omega, fun i e => e.elim, hn, hB.trans (b1.mono hw)⟩
theorem new_two (a : One n₀ w0 w (fun _ => False) g H) : Calls Tryz.prog 11 #[] w fun e w' => ∃ h, e = .returned (.pointer (some ⟨h, 0, none⟩)) ∧ Two n₀ w0 w' (fun _ => False) g h H .start := by
  obtain ⟨S, U, h1, h2, h3, h4, h5⟩ := a
  refine (new14_any U w (fun i hi => h1.uold i hi)).mono ?_
  rintro e w' ⟨h, T, rfl, hs, k1, b1⟩
  have hw : n₀ ≤ w.heap.size := Nat.le_trans h4 h5.size
  have g1 : HistAt w' g S (fun i => U i ∨ T i) H := h1.fr (S' := fun _ => False) (Fh.of_below b1) (fun _ _ e => e) (fun _ e => e.elim) (fun i hi => hi.imp id (hs i)) (fun i hi => .inl (h1.wide i hi)) (fun i hi => k1.uold i hi)
  exact ⟨h, rfl, S, T, _, g1, k1, fun i hi e => by have := h1.old i hi; have := hs i e; omega, h2, fun i hi => by have := hs i hi; omega, fun i e => e.elim, h4, h5.trans (b1.mono hw)⟩
theorem version_one (k : Nat) (hk : H.vs.length = k + 1) (a : One n₀ w0 w X g H) : Calls Tryz.prog 19 #[.pointer (some ⟨g, 0, none⟩)] w fun e w' => e = .returned (.int .i64 (k : Int)) ∧ w = w' := by
  obtain ⟨S, U, h1, _⟩ := a
  exact version_any2 k hk h1
theorem set_one (j k : Nat) (s : RS) (hk : H.vs.length = k + 1) (hs : H.vs[j]? = some s) (a : One n₀ w0 w X g H) : Calls Tryz.prog 20 #[.pointer (some ⟨g, 0, none⟩), .int .i64 (j : Int)] w fun e w' => ∃ A c, e = .returned (.tuple #[.agg #[.int .i64 s.de, .int .i64 s.cl, .int .i64 s.fu, .int .i64 s.st, .slice A s.rs.length c], .bool true]) ∧ RulesV w'.heap.size w' (.slice A s.rs.length c) s.rs ∧ s.rs.length ≤ 16 ∧ Below w.heap.size w w' := by
  obtain ⟨S, U, h1, _⟩ := a
  refine (set_in j k s hk hs h1).mono ?_
  rintro e w' ⟨A, c, rfl, ho, hb⟩
  exact ⟨A, c, rfl, OwnU.set ho, h1.ok.few (List.mem_of_getElem? hs), hb⟩
theorem One.ok (a : One n₀ w0 w X g H) : H.Ok pvM := by obtain ⟨S, U, h1, _⟩ := a; exact h1.ok
/-- An entry of a row that was handed in. -/
theorem enf {A : Option Addr} {n c k : Nat} {l : List En} (h : EntsV n₀ w (.slice A n c) l) (hk : k < l.length) : ∃ b off p d, A = some ⟨b, off, none⟩ ∧ b < n₀ ∧ EnF n₀ w l[k] p d ∧ ∀ w', Below n₀ w w' → EnAt w' b (off + k * 9) l[k] p d := by
  obtain ⟨b, off, p, d, hA, hb, he, hp, hd⟩ := h.at_ hk
  exact ⟨b, off, p, d, hA, hb, fun w' hB => ⟨hp.below hB, hd.below hB⟩, fun w' hB => he.below hb hB⟩
theorem EnF.forms {pv dv : Value} (h : EnF n₀ w x pv dv) : ∃ A c B d, pv = .slice A x.d.put.length c ∧ dv = .slice B x.d.drop.length d := by
  obtain ⟨h1, h2⟩ := h w (Below.refl _ _)
  obtain ⟨A, c, e1⟩ := h1.form
  obtain ⟨B, d, e2⟩ := h2.form
  rw [zI_len] at e2
  exact ⟨A, c, B, d, e1, e2⟩
end Go.Proofs.YtefgobmpleoafaaGreatDoor

