/- The ops of a code are not negative. Of no program. -/
import Derived.Test.YtkoflhohokdllaaGreatDoorMPg
namespace Go.Proofs.YtkoflhohokdllaaGreatDoor
open Go.Proofs.YtkoflhohokdllaaGreatDoor.Cl

def Opn (l : List In) : Prop := ∀ x ∈ l, 0 ≤ x.op
theorem Opn.nil : Opn [] := fun _ h => by simp at h
theorem Opn.one {i : In} (h : 0 ≤ i.op) : Opn [i] := fun x hx => by rw [List.mem_singleton.1 hx]; exact h
theorem Opn.app {x y : List In} (hx : Opn x) (hy : Opn y) : Opn (app x y) := by
  intro z hz
  unfold Go.Proofs.YtkoflhohokdllaaGreatDoor.app at hz
  rcases List.mem_append.1 hz with h | h
  · exact hx z h
  · obtain ⟨u, hu, rfl⟩ := List.mem_map.1 h
    rw [sh_op]
    exact hy u hu
theorem Opn.row : ∀ {l : List (List In)}, (∀ x ∈ l, Opn x) → Opn (rowC l)
  | [], _ => Opn.nil
  | x :: l, h => (h x (by simp)).app (Opn.row fun y hy => h y (by simp [hy]))
theorem Opn.i {a b c d e : Int} (h : 0 ≤ a) : Opn [.i a b c d e] := Opn.one (by simp [In.i]; exact h)
theorem Opn.split {lz : Bool} {n : Int} : Opn [splitI lz n] := Opn.one (by unfold splitI; split <;> simp [In.i])
theorem Opn.alt : ∀ {l : List (List In)}, (∀ x ∈ l, Opn x) → Opn (altC l)
  | [], _ => Opn.nil
  | [x], h => h x (by simp)
  | x :: y :: l, h => by
    have := Opn.alt (l := y :: l) fun z hz => h z (by simp at hz ⊢; exact .inr hz)
    rw [altC]
    exact Opn.split.app ((h x (by simp)).app ((Opn.i (by decide)).app this))
theorem Opn.rep {x : List In} (h : Opn x) : ∀ (n : Nat), Opn (repC n x)
  | 0 => Opn.nil
  | n + 1 => h.app (Opn.rep h n)
theorem Opn.opt {lz : Bool} {x : List In} (h : Opn x) : ∀ (n : Nat), Opn (optC lz n x)
  | 0 => Opn.nil
  | n + 1 => Opn.split.app (h.app (Opn.opt h n))
theorem Opn.loop {lz : Bool} {x : List In} (h : Opn x) : Opn (loopC lz x) := Opn.split.app ((Opn.i (by decide)).app (h.app ((Opn.i (by decide)).app (Opn.i (by decide)))))
theorem Opn.times {lo hi m : Int} {x : List In} (h : Opn x) : Opn (timesC lo hi m x) := by
  unfold timesC
  refine (h.rep _).app ?_
  split
  · exact h.loop
  · exact h.opt _
theorem Opn.within {i : In} {x : List In} (hi : 0 ≤ i.op) (h : Opn x) : Opn (withinC i x) := (Opn.one (i := { i with b := (x.length : Int) + 2 }) hi).app (h.app (Opn.one (i := doneI) (by simp [doneI, In.i])))
theorem code_opn (fo : Bool) {G : Int} {nd : Nd} (hn : Wn G nd) : Opn (code fo nd) := by
  induction hn with
  | @mk k lo hi m r set kids hs h5 h6 _ ih =>
    have hk : ∀ x ∈ kids.map (code fo), Opn x := by
      intro x hx
      obtain ⟨y, hy, rfl⟩ := List.mem_map.1 hx
      exact ih y hy
    have hR := Opn.row hk
    rw [code_eq]
    unfold cF
    split
    · exact Opn.one (by simp [unitI])
    split
    · exact hR
    split
    · exact Opn.alt hk
    split
    · split
      · exact Opn.within (by simp [In.i]) hR.times
      · exact hR.times
    split
    · exact (Opn.one (by simp [saveI, In.i])).app (hR.app (Opn.one (by simp [saveI, In.i])))
    split
    · exact Opn.one (by simp [backI, In.i])
    split
    · exact Opn.within (by simp [In.i, lookI]) hR
    split
    · exact Opn.within (by simp [In.i]) hR
    split
    · exact Opn.i (by decide)
    · exact Opn.nil
theorem whole_opn (fo : Bool) {G : Int} {nd : Nd} (hn : Wn G nd) : Opn (whole fo nd) :=
  (Opn.one (by simp [saveI, In.i])).app ((code_opn fo hn).app ((Opn.one (by simp [saveI, In.i])).app (Opn.i (by decide))))

end Go.Proofs.YtkoflhohokdllaaGreatDoor
