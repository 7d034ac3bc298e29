/- Set.Or, of any two sets. -/
import Derived.Test.YtjdboindeikhhaaDoorConcat
import Derived.Test.YtjdboindeikhhaaDoorNorm
import Derived.Test.YtjdboindeikhhaaDoorMake
namespace Go.Proofs.YtjdboindeikhhaaDoor
open Go.RowKit

/-- ErrForm and nothing. -/
def formErr : Ending := .returned (.tuple #[.slice none 0 0, .int .i64 10])

set_option maxHeartbeats 1000000 in
theorem or_wrong (v1 v2 : Value) (s o : List Rg) (w : World) (hs : SetV w.heap.size w v1 s) (ho : SetV w.heap.size w v2 o) (hms : s.length ≤ 1000000) (hmo : o.length ≤ 1000000) (hn : ¬ (Norm s ∧ Norm o)) :
    Calls Tryd.prog 22 #[v1, v2] w fun e w' => e = .returned (.tuple #[.slice none 0 0, .int .i64 10]) ∧ Below w.heap.size w w' := by
  have HS := Lib.hid hs
  have HO := Lib.hid ho
  obtain ⟨A1, cap1, rfl, _, _⟩ := id hs
  obtain ⟨A2, cap2, rfl, _, _⟩ := id ho
  by_cases h1 : Norm s
  · have h2 : ¬ Norm o := fun h2 => hn ⟨h1, h2⟩
    have b1 := normB_true h1
    have b2 := normB_false h2
    clear h1 h2 hn hs ho
    go_enter Tryd.func22, Tryd.ntmps22
    go_wp2_with fail
    refine (normal_any _ s _ hms HS.out).mono ?_
    rintro e w1 ⟨rfl, hb1⟩
    have HO1 := Lib.hid (HO.out.on hb1)
    go_wp2_with fail
    refine (normal_any _ o _ hmo HO1.out).mono ?_
    rintro e w2 ⟨rfl, hb2⟩
    go_wp2
    go_ret2
    exact ⟨rfl, hb1.trans (hb2.mono hb1.size)⟩
  · have b1 := normB_false h1
    clear h1 hn hs ho
    go_enter Tryd.func22, Tryd.ntmps22
    go_wp2_with fail
    refine (normal_any _ s _ hms HS.out).mono ?_
    rintro e w1 ⟨rfl, hb1⟩
    go_wp2
    go_ret2
    exact ⟨rfl, hb1⟩

set_option maxHeartbeats 1000000 in
theorem or_right (v1 v2 : Value) (s o : List Rg) (w : World) (hs : SetV w.heap.size w v1 s) (ho : SetV w.heap.size w v2 o) (hms : s.length ≤ 400000) (hmo : o.length ≤ 400000) (h1 : Norm s) (h2 : Norm o) :
    Calls Tryd.prog 22 #[v1, v2] w fun e w' => ∃ v' m, e = .returned (.tuple #[v', .int .i64 0]) ∧ SetV w'.heap.size w' v' m ∧ Norm m ∧ (∀ u, hasB m u = (hasB s u || hasB o u)) ∧ m.length ≤ s.length + o.length ∧ Below w.heap.size w w' := by
  have HS := Lib.hid hs
  have HO := Lib.hid ho
  obtain ⟨A1, cap1, rfl, _, _⟩ := id hs
  obtain ⟨A2, cap2, rfl, _, _⟩ := id ho
  have b1 := normB_true h1
  have b2 := normB_true h2
  have HN : Hid (∀ r ∈ s ++ o, Rt r) := Lib.hid fun r hr => (List.mem_append.1 hr).elim (h1.1 r) (h2.1 r)
  clear h1 h2 hs ho
  go_enter Tryd.func22, Tryd.ntmps22
  go_wp2_with fail
  refine (normal_any _ s _ (by omega) HS.out).mono ?_
  rintro e w1 ⟨rfl, hb1⟩
  have HO1 := Lib.hid (HO.out.on hb1)
  have HS1 := Lib.hid (HS.out.on hb1)
  go_wp2_with fail
  refine (normal_any _ o _ (by omega) HO1.out).mono ?_
  rintro e w2 ⟨rfl, hb2⟩
  have HO2 := Lib.hid (HO1.out.on hb2)
  have HS2 := Lib.hid (HS1.out.on hb2)
  have hbw := hb1.trans (hb2.mono hb1.size)
  clear hb1 hb2
  go_wp2_with fail
  have hba := hbw.alloc hbw.size (.cells #[.slice A1 s.length cap1, .slice A2 o.length cap2] 24)
  have hbB := heap_alloc_new w2 (.cells #[.slice A1 s.length cap1, .slice A2 o.length cap2] 24)
  have hal := (Below.refl w2.heap.size w2).alloc (Nat.le_refl _) (.cells #[.slice A1 s.length cap1, .slice A2 o.length cap2] 24)
  refine (concat_any _ _ s o w2.heap.size _ hbB (HS2.out.on hal) (HO2.out.on hal) (by omega) (by omega)).mono ?_
  rintro e w3 ⟨v3, rfl, hS3, hb3⟩
  have HS3 := Lib.hid hS3
  clear hbB hal hS3
  have hbw3 := hba.trans (hb3.mono hba.size)
  go_wp2_with fail
  refine (make_right _ (s ++ o) _ (by simp; omega) HN.out HS3.out).mono ?_
  rintro e w4 ⟨v4, m, rfl, hS4, hm, hh, hl, hb4⟩
  have H4 := Lib.hid (And.intro hS4 (And.intro hm (And.intro hh hl)))
  clear hS4 hm hh hl
  go_wp2
  go_ret2
  exact ⟨_, m, rfl, H4.out.1, H4.out.2.1, fun u => by rw [H4.out.2.2.1, hasB_append], by have := H4.out.2.2.2; simpa using this, hbw3.trans (hb4.mono hbw3.size)⟩

end Go.Proofs.YtjdboindeikhhaaDoor
