/- Package rule: all, rise. -/
import Derived.Test.YtifpfpgibjmibaaRuA
namespace Go.Proofs.Ytifpfpgibjmibaa
open Go.RowKit
variable {w w' : World}

theorem all_take_succ {l : List Ru} {k : Nat} {r : Ru} (h : l[k]? = some r) : (l.take (k + 1)).all Ru.ok = ((l.take k).all Ru.ok && r.ok) := by
  obtain ⟨hk, rfl⟩ := List.getElem?_eq_some_iff.1 h
  rw [List.take_succ_eq_append_getElem hk, List.all_append]
  simp
theorem all_false {l : List Ru} {k : Nat} {r : Ru} (h : l[k]? = some r) (hr : r.ok = false) : l.all Ru.ok = false := by
  rw [List.all_eq_false]
  exact ⟨r, List.mem_of_getElem? h, by simp [hr]⟩

set_option maxRecDepth 100000 in
set_option maxHeartbeats 2000000 in
theorem ruall_any (v : Value) (l : List Ru) (w : World) (hmax : l.length ≤ 1000000) (hS : RulesV w.heap.size w v l) :
    Calls Try.prog 16 #[v, .func (.func 17) #[] #[]] w fun e w' => e = .returned (.bool (l.all Ru.ok)) ∧ Below w.heap.size w w' := by
  obtain ⟨A, cap, rfl⟩ := hS.form
  go_enter Try.func16, Try.ntmps16
  go_wp2
  go_loopw [9] (fun i wr => ∃ k : Nat, k ≤ l.length ∧ i = .int .i64 k ∧ Hid ((l.take k).all Ru.ok = true) ∧ Below w.heap.size w wr) (fun i _ => l.length - (intOf i).toNat)
  case atStart => exact ⟨0, Nat.zero_le _, rfl, rfl, Below.refl _ _⟩
  case round =>
    obtain ⟨k, hk, rfl, HH, hbel⟩ := hrel
    have hsz := hbel.size
    by_cases hlt : k < l.length
    · obtain ⟨b, off, rfl, hb, c0, c1, c2, c3, c4⟩ := (hS.below hbel).at_ hlt
      have HG := Lib.hid (List.getElem?_eq_getElem hlt)
      generalize l[k] = r at HG c0 c1 c2 c3 c4
      cases hok : r.ok
      · have HI := Lib.hid hok
        clear hok
        go_wp2_with fail
        refine (ruleRight_any r _).mono ?_
        rintro e w1 ⟨rfl, hb1⟩
        rw [HI.out]
        go_wp2
        go_ret
        exact ⟨ret_bool (all_false HG.out HI.out).symm, below_call hbel hsz hb1⟩
      · have HI := Lib.hid hok
        clear hok
        go_wp2_with fail
        refine (ruleRight_any r _).mono ?_
        rintro e w1 ⟨rfl, hb1⟩
        rw [HI.out]
        have HB := Lib.hid (below_call hbel hsz hb1)
        clear hb1
        go_wp2
        go_roundw
        case rel => exact ⟨k + 1, by omega, by go_num, Lib.hid (by rw [all_take_succ HG.out, HH.out, HI.out]; rfl), HB.out⟩
        case measure => simp [intOf]; omega
    · obtain rfl : k = l.length := by omega
      go_wp2
      go_ret
      exact ⟨ret_bool (by have := HH.out; rw [List.take_length] at this; exact this.symm), hbel⟩

/-- do the IDs rise, from a number on? -/
def riseB : Int → List Ru → Bool
  | _, [] => true
  | last, r :: l => decide (last < r.id) && riseB r.id l
theorem riseB_iff : ∀ {l : List Ru} {last : Int}, riseB last l = true ↔ Rise l ∧ ∀ r ∈ l, last < r.id
  | [], _ => by simp [riseB]
  | r :: l, last => by
    simp only [riseB, Bool.and_eq_true, decide_eq_true_eq, riseB_iff (l := l), List.mem_cons, forall_eq_or_imp]
    constructor
    · rintro ⟨h, h1, h2⟩
      exact ⟨List.pairwise_cons.2 ⟨h2, h1⟩, h, fun x hx => by have := h2 x hx; omega⟩
    · rintro ⟨h1, h, _⟩
      exact ⟨h, (List.pairwise_cons.1 h1).2, (List.pairwise_cons.1 h1).1⟩

set_option maxRecDepth 100000 in
set_option maxHeartbeats 2000000 in
theorem rise_any (v : Value) (l : List Ru) (w : World) (hmax : l.length ≤ 1000000) (hS : RulesV w.heap.size w v l) :
    Calls Try.prog 28 #[v] w fun e w' => e = .returned (.bool (riseB 0 l)) ∧ Below w.heap.size w w' := by
  obtain ⟨A, cap, rfl⟩ := hS.form
  go_enter Try.func28, Try.ntmps28
  go_wp2
  go_loopw [3, 8] (fun lv i wr => ∃ (k : Nat) (last : Int), k ≤ l.length ∧ i = .int .i64 k ∧ lv = .int .i64 last ∧ Hid (riseB last (l.drop k) = riseB 0 l) ∧ Below w.heap.size w wr) (fun _ i _ => l.length - (intOf i).toNat)
  case atStart => exact ⟨0, 0, Nat.zero_le _, rfl, rfl, rfl, Below.refl _ _⟩
  case round =>
    obtain ⟨k, last, hk, rfl, rfl, HH, hbel⟩ := hrel
    have hsz := hbel.size
    by_cases hlt : k < l.length
    · obtain ⟨b, off, rfl, hb, c0, c1, c2, c3, c4⟩ := (hS.below hbel).at_ hlt
      have HG := Lib.hid (List.drop_eq_getElem_cons hlt)
      generalize l[k] = r at HG c0 c1 c2 c3 c4
      by_cases hle : r.id ≤ last
      · go_wp2
        go_ret
        refine ⟨ret_bool ?_, hbel.alloc hsz _⟩
        rw [← HH.out, HG.out]
        have : ¬ last < r.id := by omega
        simp [riseB, this]
      · go_wp2
        go_roundw
        case rel => exact ⟨k + 1, r.id, by omega, by go_num, rfl, Lib.hid (by
          rw [← HH.out, HG.out]
          have : last < r.id := by omega
          simp [riseB, this]), hbel.alloc hsz _⟩
        case measure => simp [intOf]; omega
    · obtain rfl : k = l.length := by omega
      go_wp2
      go_ret
      exact ⟨ret_bool (by have := HH.out; rw [List.drop_length] at this; exact this), hbel⟩

end Go.Proofs.Ytifpfpgibjmibaa
