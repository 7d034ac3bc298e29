/- The document's examples: the law's anchor. -/
import Derived.Test.YtjdboindeikhhaaDoorMake
import Derived.Test.YtjdboindeikhhaaDoorNot
import Derived.Test.YtjdboindeikhhaaDoorTwin
import Derived.Test.YtjdboindeikhhaaDoorSame
namespace Go.Proofs.YtjdboindeikhhaaDoor
open Go.RowKit

/-- A composite literal of ranges. -/
theorem lit_own (w : World) (l : List Rg) (e : TypeId) (hl : l.length ≤ 1000000) : Own (w.alloc (.cells (rgCells l).toArray e)) w.heap.size e (.slice (some ⟨w.heap.size, 0, none⟩) l.length l.length) l := by
  have := World.ownsRow_lit (base := w.heap.size) (e := e) (size := 2) w (rgCells l).toArray l.length (Nat.le_refl _) (by unfold maxLen; omega) (by simp [rgCells_len])
  simpa [Own] using this
theorem make_gives (v : Value) (l : List Rg) (w : World) (hmax : l.length ≤ 1000000) (hR : ∀ r ∈ l, Rt r) (hS : SetV w.heap.size w v l) :
    Calls Tryd.prog 11 #[v] w (Gives (fun m => Norm m ∧ (∀ u, hasB m u = hasB l u) ∧ m.length ≤ l.length) w) :=
  (make_right v l w hmax hR hS).mono fun _ _ ⟨v', m, he, hs, hn, hh, hl, hb⟩ => ⟨v', m, he, hs, ⟨hn, hh, hl⟩, hb⟩

theorem anchor_make {m : List Rg} (hn : Norm m) (hh : ∀ u, hasB m u = hasB [(5, 9), (1, 2), (3, 3)] u) : m = [(1, 3), (5, 9)] := by
  refine norm_ext hn ?_ fun u => ?_
  · refine norm_cons.2 ⟨by unfold Rt; omega, by simp, norm_cons.2 ⟨by unfold Rt; omega, by simp, norm_nil⟩⟩
  · rw [hh, Bool.eq_iff_iff]
    simp only [hasB, inB, List.any_cons, List.any_nil, Bool.or_false, Bool.or_eq_true, decide_eq_true_eq]
    omega
theorem anchor_not {m : List Rg} (hn : Norm m) (hh : ∀ u, hasB m u = (inAll u && !hasB [(1, 3), (5, 9)] u)) : m = [(0, 0), (4, 4), (10, 1114367)] := by
  refine norm_ext hn ?_ fun u => ?_
  · refine norm_cons.2 ⟨by unfold Rt; omega, by simp, norm_cons.2 ⟨by unfold Rt; omega, by simp, norm_cons.2 ⟨by unfold Rt; omega, by simp, norm_nil⟩⟩⟩
  · rw [hh, Bool.eq_iff_iff]
    simp only [hasB, inB, inAll, List.any_cons, List.any_nil, Bool.or_false, Bool.or_eq_true, Bool.and_eq_true, Bool.not_eq_true', Bool.or_eq_false_iff, decide_eq_true_eq, decide_eq_false_iff_not]
    omega

set_option maxRecDepth 100000 in
set_option maxHeartbeats 2000000 in
theorem anchor_any (w : World) (hL : LU w.heap.size w) : Calls Tryd.prog 10 #[] w fun e w' => e = .returned (.bool true) ∧ Below w.heap.size w w' := by
  have HL := Lib.hid hL
  clear hL
  have heq := run_eql_rg
  have h1 := Lib.hid (lit_own w [(5, 9), (1, 2), (3, 3)] 46 (by simp)).set
  have hB1 := (Below.refl w.heap.size w).alloc (Nat.le_refl _) (.cells (rgCells [(5, 9), (1, 2), (3, 3)]).toArray 46)
  go_enter Tryd.func10, Tryd.ntmps10
  go_wp2_with fail
  refine (make_gives _ [(5, 9), (1, 2), (3, 3)] _ (by simp) (by unfold Rt; simp) h1.out).mono ?_
  rintro e w1 ⟨v1, m, rfl, hS1, ⟨hn, hh, _⟩, hb1⟩
  obtain rfl := anchor_make hn hh
  have hbel1 := hB1.trans (hb1.mono (by simp))
  have HS1 := Lib.hid hS1
  clear hn hh hB1 hb1 h1 hS1
  go_wp2_with fail
  refine (not_right _ [(1, 3), (5, 9)] _ (by simp) HS1.out ?_).mono ?_
  · exact norm_cons.2 ⟨by unfold Rt; omega, by simp, norm_cons.2 ⟨by unfold Rt; omega, by simp, norm_nil⟩⟩
  rintro e w2 ⟨v2, m, rfl, hS2, ⟨hn, hh, _⟩, hb2⟩
  obtain rfl := anchor_not hn hh
  have hbel2 := hbel1.trans (hb2.mono hbel1.size)
  have HS12 := Lib.hid (HS1.out.on hb2)
  obtain ⟨A2, c2, rfl, _, _⟩ := id hS2
  have HS2 := Lib.hid hS2
  clear hn hh hb2 hS2
  have hsz2 := hbel2.size
  have h3 := Lib.hid (lit_own w2 [(1, 3), (5, 9)] 46 (by simp)).set
  have hB3 := (Below.refl w2.heap.size w2).alloc (Nat.le_refl _) (.cells (rgCells [(1, 3), (5, 9)]).toArray 46)
  have hs3 : sameB [(1, 3), (5, 9)] [(1, 3), (5, 9)] = true := sameB_refl _
  have htw : tw 113 = 81 := by decide
  go_wp2_with fail
  refine (same_any _ _ [(1, 3), (5, 9)] [(1, 3), (5, 9)] _ (by simp) (by simp) (HS12.out.on hB3) h3.out).mono ?_
  rintro e w3 ⟨rfl, hb3⟩
  have hB2 := hB3.trans (hb3.mono (by simp))
  have hbel3 := hbel2.trans (hB2.mono hsz2)
  obtain ⟨b, off, lo, hi, rfl, hb, hget, c0, c1⟩ := (HS2.out.on hB2).at_ (k := 2) (by simp)
  obtain ⟨rfl, rfl⟩ : lo = 10 ∧ hi = 1114367 := by simpa [eq_comm] using hget
  clear hget hb3 hB3 h3
  have hlu := HL.out.below hbel3
  have ht := twin_any 113 w3 (hlu.more hbel3.size)
  rw [htw] at ht
  go_wp2_with fail
  refine ht.mono ?_
  rintro e w4 ⟨rfl, hb4⟩
  go_wp2
  go_ret
  exact ⟨rfl, hbel3.trans (hb4.mono hbel3.size)⟩

end Go.Proofs.YtjdboindeikhhaaDoor
