/- Layer 7's laws: the anchor; Set.Rule. -/
import Derived.Test.YtifpfpgibjmibaaRuJ
namespace Go.Proofs.Ytifpfpgibjmibaa
open Go.RowKit Go.Maps
variable {w w' : World}

def r3 : Ru := ⟨3, 0, 0, 1, ⟨#[97]⟩⟩
def d7 : Dl := ⟨-1, 7, -1, -1, [r3], []⟩
theorem apply7 : applyM RS.first d7 = (⟨0, 7, 10000, 500, [r3]⟩, 0) := by
  have e : after RS.first d7 = [r3] := by simp [after, d7, RS.first, drops, puts, ins]
  have h1 : RS.first.Ok := by refine ⟨by decide, by decide, by simp [RS.first], by simp [RS.first]⟩
  have h2 : ¬ ((nums RS.first d7).num = false ∨ ∃ r ∈ d7.put, r.ok = false) := by
    rintro (h | ⟨r, hr, h⟩)
    · exact absurd h (by decide)
    · simp only [d7, List.mem_singleton] at hr
      subst hr
      exact absurd h (by decide)
  rw [applyM_ok h1 h2 (by simp [Dl.ids, d7]) (by simp [d7]) (by rw [e]; decide), e]
  rfl
theorem one_rule (w : World) (r : Ru) : RulesV (w.alloc (.cells #[.int .i64 r.id, .int .i64 r.pr, .int .i64 r.ac, .int .i64 r.sc, .string r.pat] 44)).heap.size (w.alloc (.cells #[.int .i64 r.id, .int .i64 r.pr, .int .i64 r.ac, .int .i64 r.sc, .string r.pat] 44)) (.slice (some ⟨w.heap.size, 0, none⟩) 1 1) [r] := by
  refine ⟨_, 1, rfl, Nat.le_refl _, fun _ => ⟨w.heap.size, 0, rfl, by simp, fun i x hx => ?_⟩⟩
  have h := Blk.new w 44 #[.int .i64 r.id, .int .i64 r.pr, .int .i64 r.ac, .int .i64 r.sc, .string r.pat]
  match i, hx with
  | 0, hx =>
    simp at hx
    subst hx
    exact h.c5
  | i + 1, hx => simp at hx
theorem row_nil (n : Nat) (w : World) : Row n w (.slice none 0 0) (zI []) := ⟨none, 0, rfl, Nat.le_refl _, fun h => absurd rfl h⟩

set_option maxRecDepth 100000 in
set_option maxHeartbeats 4000000 in
theorem anchor7_any (w : World) : Calls Try.prog 4 #[] w fun e w' => e = .returned (.bool true) ∧ Below w.heap.size w w' := by
  go_enter Try.func4, Try.ntmps4
  go_wp2_with fail
  refine (first_any w).mono ?_
  rintro e w1 ⟨rfl, hb1⟩
  have HA := Lib.hid (apply_any RS.first d7 (.slice none 0 0) (.slice (some ⟨w1.heap.size, 0, none⟩) 1 1) (.slice none 0 0) (w1.alloc (.cells #[.int .i64 3, .int .i64 0, .int .i64 0, .int .i64 1, .string ⟨#[97]⟩] 44)) (by decide) (by decide) (by decide) (by simp [d7]) (RulesV.nil _ _) (one_rule w1 r3) (row_nil _ _))
  rw [apply7] at HA
  have hb2 : Below w.heap.size w (w1.alloc (.cells #[.int .i64 3, .int .i64 0, .int .i64 0, .int .i64 1, .string ⟨#[97]⟩] 44)) := hb1.alloc hb1.size _
  have HB2 := Lib.hid hb2
  clear hb1 hb2
  go_wp2_with fail
  refine HA.out.mono ?_
  rintro e w3 ⟨rv, rfl, hrv, _, hb3⟩
  have HB3 := Lib.hid (HB2.out.trans (hb3.mono HB2.out.size))
  obtain ⟨RA, rcap, rfl⟩ := hrv.form
  obtain ⟨b, off, rfl, hb, c0, c1, c2, c3, c4⟩ := hrv.at_ (k := 0) (by decide)
  simp only [List.getElem_cons_zero, r3, Nat.zero_mul, Nat.add_zero] at c0 c1 c2 c3 c4
  clear hb3 hrv
  go_wp2
  go_ret
  exact ⟨rfl, HB3.out.alloc HB3.out.size _⟩

set_option maxRecDepth 100000 in
set_option maxHeartbeats 4000000 in
/-- the first rule of an ID, and whether there is one -/
theorem setRule_any (s : RS) (v : Value) (id : Int) (w : World) (hmax : s.rs.length ≤ 1000000) (hS : RulesV w.heap.size w v s.rs) :
    Calls Try.prog 13 #[.agg #[.int .i64 s.de, .int .i64 s.cl, .int .i64 s.fu, .int .i64 s.st, v], .int .i64 id] w
      fun e w' => e = .returned (.tuple #[.agg #[.int .i64 (look s.rs id).id, .int .i64 (look s.rs id).pr, .int .i64 (look s.rs id).ac, .int .i64 (look s.rs id).sc, .string (look s.rs id).pat], .bool (decide (id ∈ s.rs.map Ru.id))]) ∧ Below w.heap.size w w' := by
  obtain ⟨A, cap, rfl⟩ := hS.form
  have HS := Lib.hid hS
  clear hS
  go_enter Try.func13, Try.ntmps13
  go_wp2_with fail
  go_upto_region 2 with (fail)
  have hb0 : Below w.heap.size w ((w.alloc (.cells #[.int .i64 s.de, .int .i64 s.cl, .int .i64 s.fu, .int .i64 s.st, .slice A s.rs.length cap] 24)).alloc (.cells #[.int .i64 0, .int .i64 0, .int .i64 0, .int .i64 0, .string ⟨#[]⟩] 44)) := ((Below.refl _ _).alloc (Nat.le_refl _) _).alloc (by simp) _
  have hz0 : Blk ((w.alloc (.cells #[.int .i64 s.de, .int .i64 s.cl, .int .i64 s.fu, .int .i64 s.st, .slice A s.rs.length cap] 24)).alloc (.cells #[.int .i64 0, .int .i64 0, .int .i64 0, .int .i64 0, .string ⟨#[]⟩] 44)) (w.heap.size + 1) 44 #[.int .i64 0, .int .i64 0, .int .i64 0, .int .i64 0, .string ⟨#[]⟩] := Blk.at_new _ _ (by simp) _ _
  generalize (w.alloc (.cells #[.int .i64 s.de, .int .i64 s.cl, .int .i64 s.fu, .int .i64 s.st, .slice A s.rs.length cap] 24)).alloc (.cells #[.int .i64 0, .int .i64 0, .int .i64 0, .int .i64 0, .string ⟨#[]⟩] 44) = w0 at *
  have HS0 := Lib.hid (HS.out.on hb0)
  have HZ := Lib.hid hz0
  have HB := Lib.hid hb0
  clear hb0 hz0
  go_loopw [11] (fun i wr => ∃ k : Nat, k ≤ s.rs.length ∧ i = .int .i64 k ∧ Hid (∀ x ∈ s.rs.take k, x.id ≠ id) ∧ Below w0.heap.size w0 wr) (fun i _ => s.rs.length - (intOf i).toNat)
  case atStart => exact ⟨0, Nat.zero_le _, rfl, Lib.hid (by simp), Below.refl _ _⟩
  case round =>
    obtain ⟨k, hk, rfl, HN, hbel⟩ := hrel
    have hsz := hbel.size
    by_cases hlt : k < s.rs.length
    · obtain ⟨b, off, rfl, hb, c0, c1, c2, c3, c4⟩ := (HS0.out.below hbel).at_ hlt
      have HG := Lib.hid (List.getElem?_eq_getElem hlt)
      generalize s.rs[k] = r at HG c0 c1 c2 c3 c4
      have HLt := Lib.hid hlt
      by_cases he : r.id = id
      · have HL : Hid (look s.rs id = r ∧ decide (id ∈ s.rs.map Ru.id) = true) := Lib.hid (by
          have hm : r ∈ s.rs := List.mem_of_getElem? HG.out
          refine ⟨?_, decide_eq_true (he ▸ List.mem_map_of_mem hm)⟩
          unfold look
          obtain ⟨hk', e⟩ := List.getElem?_eq_some_iff.1 HG.out
          have : s.rs.find? (fun x => decide (x.id = id)) = some r := by
            rw [List.find?_eq_some_iff_getElem]
            refine ⟨by simpa using he, k, hk', e, fun j hj => ?_⟩
            have := HN.out s.rs[j] (List.mem_take_iff_getElem.2 ⟨j, by omega, rfl⟩)
            simpa using this
          rw [this]
          rfl)
        have HBl := Lib.hid hbel
        obtain ⟨z0, z1, z2, z3, z4⟩ := (HZ.out.on hbel).c5
        obtain ⟨f0, f1, f2, f3, f4⟩ := (HZ.out.on hbel).f5
        have hlr := (HZ.out.on hbel).lt
        go_wp2
        refine bodyPost_ret (v := .tuple #[.agg #[.int .i64 r.id, .int .i64 r.pr, .int .i64 r.ac, .int .i64 r.sc, .string r.pat], .bool true]) (by simp [results, Try.results13, go_sem, *]) rfl ⟨by rw [HL.out.1, HL.out.2], ?_⟩
        refine Below.alloc ?_ (by have := (HB.out.trans (HBl.out.mono HB.out.size)).size; simp; omega) _
        refine Below.setCell ?_ (show w.heap.size ≤ w.heap.size + 1 by omega) _
        refine Below.setCell ?_ (show w.heap.size ≤ w.heap.size + 1 by omega) _
        refine Below.setCell ?_ (show w.heap.size ≤ w.heap.size + 1 by omega) _
        refine Below.setCell ?_ (show w.heap.size ≤ w.heap.size + 1 by omega) _
        refine Below.setCell ?_ (show w.heap.size ≤ w.heap.size + 1 by omega) _
        exact HB.out.trans (HBl.out.mono HB.out.size)
      · have HE := Lib.hid he
        go_wp2
        go_roundw
        case rel => exact ⟨k + 1, HLt.out, by go_num, Lib.hid (by
          rw [ru_take HG.out]
          intro x hx
          rcases List.mem_append.1 hx with h | h
          · exact HN.out x h
          · rw [List.mem_singleton.1 h]; exact HE.out), hbel.alloc hsz _⟩
        case measure => have := HLt.out; simp [intOf]; omega
    · obtain rfl : k = s.rs.length := by omega
      have HL : Hid (look s.rs id = Ru.none ∧ decide (id ∈ s.rs.map Ru.id) = false) := Lib.hid (by
        have hn := HN.out
        rw [List.take_length] at hn
        refine ⟨?_, decide_eq_false fun h => ?_⟩
        · unfold look
          rw [List.find?_eq_none.2 fun x hx => by simpa using hn x hx]
          rfl
        · obtain ⟨x, hx, e⟩ := List.mem_map.1 h
          exact hn x hx e)
      have HBl := Lib.hid hbel
      obtain ⟨z0, z1, z2, z3, z4⟩ := (HZ.out.on hbel).c5
      obtain ⟨f0, f1, f2, f3, f4⟩ := (HZ.out.on hbel).f5
      have hlr := (HZ.out.on hbel).lt
      go_wp2
      refine bodyPost_ret (v := .tuple #[.agg #[.int .i64 0, .int .i64 0, .int .i64 0, .int .i64 0, .string ⟨#[]⟩], .bool false]) (by simp [results, Try.results13, go_sem, *]) rfl ⟨by rw [HL.out.1, HL.out.2]; rfl, ?_⟩
      refine Below.setCell ?_ (show w.heap.size ≤ w.heap.size + 1 by omega) _
      refine Below.setCell ?_ (show w.heap.size ≤ w.heap.size + 1 by omega) _
      refine Below.setCell ?_ (show w.heap.size ≤ w.heap.size + 1 by omega) _
      refine Below.setCell ?_ (show w.heap.size ≤ w.heap.size + 1 by omega) _
      refine Below.setCell ?_ (show w.heap.size ≤ w.heap.size + 1 by omega) _
      exact HB.out.trans (HBl.out.mono HB.out.size)

end Go.Proofs.Ytifpfpgibjmibaa
