/- The sets in a code are shorter. A pattern behind (?i). Of no program. -/
import Derived.Test.YtkoflhohokdllaaGreatDoorMPg
namespace Go.Proofs.YtkoflhohokdllaaGreatDoor
open Go.Proofs.YtkoflhohokdllaaGreatDoor.Cl

def Lmt (l : List In) : Prop := ∀ x ∈ l, x.set.length ≤ 100000
theorem Lmt.nil : Lmt [] := fun _ h => by simp at h
theorem Lmt.one {i : In} (h : i.set.length ≤ 100000) : Lmt [i] := fun x hx => by rw [List.mem_singleton.1 hx]; exact h
theorem Lmt.app {x y : List In} (hx : Lmt x) (hy : Lmt y) : Lmt (app x y) := by
  intro z hz
  unfold Go.Proofs.YtkoflhohokdllaaGreatDoor.app at hz
  rcases List.mem_append.1 hz with h | h
  · exact hx z h
  · obtain ⟨u, hu, rfl⟩ := List.mem_map.1 h
    rw [sh_set]
    exact hy u hu
theorem Lmt.row : ∀ {l : List (List In)}, (∀ x ∈ l, Lmt x) → Lmt (rowC l)
  | [], _ => Lmt.nil
  | x :: l, h => (h x (by simp)).app (Lmt.row fun y hy => h y (by simp [hy]))
theorem Lmt.i {a b c d e : Int} : Lmt [.i a b c d e] := Lmt.one (by simp [In.i])
theorem Lmt.split {lz : Bool} {n : Int} : Lmt [splitI lz n] := Lmt.one (by unfold splitI; split <;> simp [In.i])
theorem Lmt.alt : ∀ {l : List (List In)}, (∀ x ∈ l, Lmt x) → Lmt (altC l)
  | [], _ => Lmt.nil
  | [x], h => h x (by simp)
  | x :: y :: l, h => by
    have := Lmt.alt (l := y :: l) fun z hz => h z (by simp at hz ⊢; exact .inr hz)
    rw [altC]
    exact Lmt.split.app ((h x (by simp)).app (Lmt.i.app this))
theorem Lmt.rep {x : List In} (h : Lmt x) : ∀ (n : Nat), Lmt (repC n x)
  | 0 => Lmt.nil
  | n + 1 => h.app (Lmt.rep h n)
theorem Lmt.opt {lz : Bool} {x : List In} (h : Lmt x) : ∀ (n : Nat), Lmt (optC lz n x)
  | 0 => Lmt.nil
  | n + 1 => Lmt.split.app (h.app (Lmt.opt h n))
theorem Lmt.loop {lz : Bool} {x : List In} (h : Lmt x) : Lmt (loopC lz x) := Lmt.split.app (Lmt.i.app (h.app (Lmt.i.app Lmt.i)))
theorem Lmt.times {lo hi m : Int} {x : List In} (h : Lmt x) : Lmt (timesC lo hi m x) := by
  unfold timesC
  refine (h.rep _).app ?_
  split
  · exact h.loop
  · exact h.opt _
theorem Lmt.within {i : In} {x : List In} (hi : i.set = []) (h : Lmt x) : Lmt (withinC i x) := (Lmt.one (by simp [hi])).app (h.app (Lmt.one (by simp [doneI, In.i])))
theorem foldS_lent {l : List Rg} (h : Ns l) : (foldS l).length ≤ 100000 := by
  have h1 := (mkSet_nrm (l := l ++ folds l) (fun r hr => (List.mem_append.1 hr).elim (h.1.1 r) (folds_right l r))).2.2
  have h2 := folds_len l
  have h3 := h.2
  rw [List.length_append] at h1
  unfold foldS
  omega
theorem code_lmt (fo : Bool) {G : Int} {nd : Nd} (hn : Wn G nd) : Lmt (code fo nd) := by
  induction hn with
  | @mk k lo hi m r set kids hs h5 h6 _ ih =>
    have hk : ∀ x ∈ kids.map (code fo), Lmt x := by
      intro x hx
      obtain ⟨y, hy, rfl⟩ := List.mem_map.1 hx
      exact ih y hy
    have hR := Lmt.row hk
    rw [code_eq]
    unfold cF
    split
    · refine Lmt.one ?_
      unfold unitI
      split
      · exact foldS_lent hs
      · exact Nat.le_trans hs.2 (by decide)
    split
    · exact hR
    split
    · exact Lmt.alt hk
    split
    · split
      · exact Lmt.within rfl hR.times
      · exact hR.times
    split
    · exact (Lmt.one (by simp [saveI, In.i])).app (hR.app (Lmt.one (by simp [saveI, In.i])))
    split
    · exact Lmt.one (by simp [backI, In.i])
    split
    · exact Lmt.within rfl hR
    split
    · exact Lmt.within rfl hR
    split
    · exact Lmt.i
    · exact Lmt.nil
theorem whole_lmt (fo : Bool) {G : Int} {nd : Nd} (hn : Wn G nd) : Lmt (whole fo nd) :=
  (Lmt.one (by simp [saveI, In.i])).app ((code_lmt fo hn).app ((Lmt.one (by simp [saveI, In.i])).app Lmt.i))

theorem fold_twice {N : Nat} {s : List UInt8} (h : foldAt s = true) : ∃ e, parse (N + 4) (40 :: 63 :: 105 :: 41 :: s) = .error e := by
  obtain ⟨r, rfl⟩ : ∃ r, s = 40 :: 63 :: 105 :: 41 :: r := by
    unfold foldAt pre at h
    obtain ⟨r, hr⟩ := List.isPrefixOf_iff_prefix.1 h
    exact ⟨r, hr.symm⟩
  unfold parse
  split
  · exact ⟨_, rfl⟩
  · have hf : foldAt (40 :: 63 :: 105 :: 41 :: 40 :: 63 :: 105 :: 41 :: r) = true := by simp [foldAt, pre, List.isPrefixOf]
    have hb : begins (40 :: 63 :: 105 :: 41 :: 40 :: 63 :: 105 :: 41 :: r) = { pos := 4, t := 40 :: 63 :: 105 :: 41 :: r, g := 0, bk := [] } := by unfold begins; rw [hf]; rfl
    have ho : opening { pos := 4, t := 40 :: 63 :: 105 :: 41 :: r, g := 0, bk := [] } = .error (20, 4) := by simp [opening, pre, List.isPrefixOf]
    have h40 : at_ (St.mk 4 (40 :: 63 :: 105 :: 41 :: r) 0 []).t 0 = 40 := rfl
    rw [hb, run_alts, row_goes h40, run_quant, if_pos h40, run_paren, if_neg (by decide), ho]
    exact ⟨_, rfl⟩

end Go.Proofs.YtkoflhohokdllaaGreatDoor
