/- The law UnitJoins, as a contract: true, and nothing that lay has turned. -/
import Derived.Test.YtphpcdnefjbopaaDoorBack
import Derived.Test.YtphpcdnefjbopaaDoorRefNext
namespace Go.Proofs.YtphpcdnefjbopaaDoor
open Go.RowKit Go.Shelf

def plB (l : List Int) : Bool := l.all charB
theorem plB_take (l : List Int) (k : Nat) (h : k < l.length) : plB (l.take (k + 1)) = (plB (l.take k) && charB (l[k]?.getD 0)) := by
  unfold plB
  rw [List.take_succ_eq_append_getElem h, List.all_append]
  simp only [List.all_cons, List.all_nil, Bool.and_true, List.getElem?_eq_getElem h, Option.getD_some]
theorem flatMap_same {β γ : Type} (l : List β) (f g : β → List γ) (h : ∀ a ∈ l, f a = g a) : l.flatMap f = l.flatMap g := by
  induction l with
  | nil => rfl
  | cons a l ih => rw [List.flatMap_cons, List.flatMap_cons, h a (by simp), ih (fun x hx => h x (by simp [hx]))]
theorem un_jn (l : List Int) (h : plB l = true) : (un (jn l)).map (fun n => ((n : Nat) : Int)) = l := by
  have hc : ∀ u ∈ l, charB u = true := by simpa [plB] using h
  have e : jn l = (l.map Int.toNat).flatMap fun c => toB (encN c) := by
    unfold jn
    rw [List.flatMap_map]
    refine flatMap_same l _ _ (fun u hu => ?_)
    have := hc u hu
    unfold ub bytesOf
    rw [if_pos (by simp [charB] at this; omega)]
  rw [e, un_chars _ (by
    intro c hcm
    obtain ⟨u, hu, rfl⟩ := List.mem_map.1 hcm
    exact isCh_of (hc u hu)), List.map_map]
  conv => rhs; rw [← List.map_id l]
  apply List.map_congr_left
  intro u hu
  have := hc u hu
  simp [charB] at this
  simp
  omega

theorem ub_ch {u : Int} (h : charB u = true) : toB (encN u.toNat) = ub u := by
  simp [charB] at h
  unfold ub bytesOf
  rw [if_pos (by omega)]

set_option maxHeartbeats 4000000 in
set_option maxRecDepth 100000 in
theorem joins_small (v0 : Value) (l : List Int) (k0 : l.length ≤ 300) (hbd : ∀ n ∈ l, -9223372036854775808 ≤ n ∧ n ≤ 9223372036854775807) (w : World) (hT : TabsAt w.heap.size w) (h0 : Row w.heap.size w v0 (zs l)) :
    Calls Tryd.prog 5 #[v0] w fun e w' => e = .returned (.bool true) ∧ Below w.heap.size w w' := by
  obtain ⟨i0, hi, hz0, hz1, hz2⟩ := info_parts info5
  have H0 := Lib.hid h0
  have H := Lib.hid hT
  have HB := Lib.hid hbd
  obtain ⟨A, cap, rfl, _, hA⟩ := h0
  rw [zs_len] at H0 ⊢
  obtain ⟨n, hn⟩ : ∃ n, n = l.length := ⟨_, rfl⟩
  rw [← hn] at k0 H0 ⊢
  have HN := Lib.hid hn
  have HA := Lib.hid hA
  have l0 : ¬ (300 : Int) < (n : Int) := by omega
  clear hn hA hT hbd
  go_enter Tryd.func5, Tryd.ntmps5
  go_wp2_with fail
  refine (anchor_any w H.out).mono ?_
  rintro e w1 ⟨rfl, hB1⟩
  go_wp2_with fail
  go_loopw [3, 4, 18] (fun v p i wr => ∃ (k : Nat) (q : Bool), k ≤ n ∧ i = .int .i64 k ∧ p = .bool q ∧ q = plB (l.take k) ∧ wr.ownsRow w.heap.size 5 1 v (jn (l.take k)).length (Lib.byteCells (jn (l.take k))) ∧ (∀ u ∈ l.take k, rightB u = true) ∧ Below w.heap.size w wr) (fun _ _ i _ => n - (intOf i).toNat)
  case atStart => exact ⟨0, true, Nat.zero_le _, rfl, rfl, rfl, World.ownsRow_nil _ _ _ _, by simp, hB1⟩
  case round =>
    obtain ⟨k, q, hk, rfl, rfl, hq, hown, hR, hB⟩ := hrel
    by_cases hlt : k < n
    · have hkl : k < l.length := by rw [← HN.out]; exact hlt
      obtain ⟨b, off, rfl, hb, ht⟩ := HA.out (fun e => by have := congrArg List.length e; rw [zs_len, List.length_nil] at this; omega)
      have hc := (hB.cell (p := ⟨b, off + k, none⟩) hb).trans (ht k _ (zs_get hkl))
      have hj := jn_take l k hkl
      have hpl := plB_take l k hkl
      have hbd := HB.out (l[k]?.getD 0) (by rw [List.getElem?_eq_getElem hkl]; exact List.getElem_mem hkl)
      have hmem : l[k]?.getD 0 ∈ l := by rw [List.getElem?_eq_getElem hkl]; exact List.getElem_mem hkl
      have hjl := jn_len (l.take k)
      have htl : (l.take k).length ≤ k := List.length_take_le _ _
      have hR' : rightB (l[k]?.getD 0) = true → ∀ u ∈ l.take (k + 1), rightB u = true := by
        intro hr u hu
        rw [List.take_succ_eq_append_getElem hkl] at hu
        rcases List.mem_append.1 hu with hu | hu
        · exact hR u hu
        · simp at hu
          rw [hu]
          rw [List.getElem?_eq_getElem hkl] at hr
          exact hr
      obtain ⟨u, hu⟩ : ∃ u, u = l[k]?.getD 0 := ⟨_, rfl⟩
      rw [← hu] at hc hj hpl hbd hmem hR'
      rw [← hq] at hpl
      have HJ := Lib.hid hj
      have HP := Lib.hid hpl
      have HR := Lib.hid hR'
      have HM := Lib.hid hmem
      obtain ⟨m, hm⟩ : ∃ m, m = (jn (l.take k)).length := ⟨_, rfl⟩
      rw [← hm] at hown hjl
      have HMM := Lib.hid hm
      have hul := ub_len u
      clear hj hpl hR' hmem hu hm hq ht hR
      cases hch : charB u with
      | true =>
        have hr : rightB u = true := by simp [rightB, hch]
        have hst : strayB u = false := by simp [charB] at hch; simp [strayB]; omega
        have hlo : ¬ (1114112 : Int) ≤ u := by simp [charB] at hch; omega
        have HUB := Lib.hid (ub_ch hch)
        have HBY := Lib.hid (bytes_int u hch)
        have HCH := Lib.hid hch
        have HRR := Lib.hid (HR.out hr)
        have HOwn := Lib.hid hown
        clear hown hch
        go_wp2_with (first
          | (go_at_call 15; refine (right_any _ _).mono ?_; rintro e w' ⟨rfl, rfl⟩)
          | (go_at_call 17; refine (rightRef_any _ _).mono ?_; rintro e w' ⟨rfl, rfl⟩)
          | (go_at_call 18; refine (stray_any _ _).mono ?_; rintro e w' ⟨rfl, rfl⟩))
        refine (HBY.out _).mono ?_
        rintro e w2 ⟨x2, rfl, m2, C2⟩
        rw [HUB.out] at m2
        have o2 := own_below HOwn.out C2
        have hC := hB.trans (C2.mono hB.size)
        have M2 := Lib.hid m2
        clear C2 m2 hB
        go_wp2_with (at_builtin
                     refine wpList_append_row _ rfl (.tmp 61) (.tmp 63) 22 rfl w.heap.size 5 i0 (.int .u8 0) 1 Tryd.underlying22 hi hz0 hz1 hz2 rfl _ _ (Lib.byteCells (jn (l.take k))) rfl o2 w2.heap.size _ (Lib.byteCells (ub u)) rfl (Row.of_bytes M2.out) (one_bytes _) (by rw [Lib.byteCells_length]; unfold maxLen; omega) (by rw [Lib.byteCells_length]; omega) hC.size ?_
                     intro v3 w3 o3 g3
                     have hD : Below w.heap.size w w3 := below_append hC o2 (Nat.le_refl _) g3 hC.size
                     rw [← Lib.byteCells_append, ← HJ.out, Lib.byteCells_length] at o3
                     have hlen : m + (ub u).length = (jn (l.take (k + 1))).length := by rw [HJ.out, List.length_append, HMM.out]
                     rw [hlen] at o3
                     have O3 := Lib.hid o3
                     clear o3 g3 hlen o2 hC)
        go_roundw
        case rel => exact ⟨k + 1, q, by omega, by go_num, rfl, by rw [HP.out, HCH.out, Bool.and_true], O3.out, HRR.out, hD⟩
        case measure => simp [intOf]; omega
      | false =>
        cases hst : strayB u with
        | true =>
          have hr : rightB u = true := by simp [rightB, hst]
          have hub : 1114240 ≤ u ∧ u ≤ 1114367 := by simp [strayB] at hst; omega
          obtain ⟨hub1, hub2⟩ := hub
          have hlo : (1114112 : Int) ≤ u := by omega
          have HC := Lib.hid (stray_cells hst)
          have HCH := Lib.hid hch
          have HRR := Lib.hid (HR.out hr)
          clear hch
          go_wp2_with (first
            | (go_at_call 15; refine (right_any _ _).mono ?_; rintro e w' ⟨rfl, rfl⟩)
            | (go_at_call 17; refine (rightRef_any _ _).mono ?_; rintro e w' ⟨rfl, rfl⟩)
            | (go_at_call 18; refine (stray_any _ _).mono ?_; rintro e w' ⟨rfl, rfl⟩)
            | (at_builtin
               refine wpList_append_row _ rfl (.tmp 55) (.tmp 59) 22 rfl w.heap.size 5 i0 (.int .u8 0) 1 Tryd.underlying22 hi hz0 hz1 hz2 rfl _ _ (Lib.byteCells (jn (l.take k))) rfl (hown.alloc _) (wr.heap.size + 1) _ [.int .u8 (u - 1114112)] rfl (Row.lit wr #[.int .u8 (u - 1114112)] 5 (0, 0)) (by simp [Value.oneCell']) (by unfold maxLen; simp; omega) (by simp; omega) (by simp; have := hB.size; omega) ?_
               intro v2 w2 o2 g2
               have hD : Below w.heap.size w w2 := below_append (hB.alloc hB.size _) (hown.alloc _) (Nat.le_refl _) g2 (by simp; have := hB.size; omega)
               rw [← HC.out, ← Lib.byteCells_append, ← HJ.out, Lib.byteCells_length] at o2
               have hlen : m + (ub u).length = (jn (l.take (k + 1))).length := by rw [HJ.out, List.length_append, HMM.out]
               rw [hlen] at o2
               have O2 := Lib.hid o2
               clear o2 g2 hlen hown))
          go_roundw
          case rel => exact ⟨k + 1, false, by omega, by go_num, rfl, by rw [HP.out, HCH.out, Bool.and_false], O2.out, HRR.out, hD⟩
          case measure => simp [intOf]; omega
        | false =>
          have hr : rightB u = false := by simp [rightB, hst, hch]
          have HRR := Lib.hid (show ∃ u ∈ l, rightB u = false from ⟨u, HM.out, hr⟩)
          have HJN := Lib.hid (join_any _ l (by rw [← HN.out]; omega) HB.out _ wr hB.size (H0.out.below hB))
          clear hch hown
          go_wp2_with (first
            | (go_at_call 15; refine (right_any _ _).mono ?_; rintro e w' ⟨rfl, rfl⟩)
            | (go_at_call 17; refine (rightRef_any _ _).mono ?_; rintro e w' ⟨rfl, rfl⟩)
            | (go_at_call 18; refine (stray_any _ _).mono ?_; rintro e w' ⟨rfl, rfl⟩))
          refine HJN.out.mono ?_
          rintro e w3 ⟨⟨hall, _⟩ | ⟨_, rfl⟩, C3⟩
          · obtain ⟨u', hu', hr'⟩ := HRR.out
            rw [hall u' hu'] at hr'
            cases hr'
          · have hB3 := hB.trans (C3.mono hB.size)
            go_wp2
            go_ret
            exact ⟨rfl, hB3⟩
    · obtain rfl : k = n := by omega
      have hkl : l.length ≤ k := by rw [← HN.out]; exact Nat.le_refl _
      rw [List.take_of_length_le hkl] at hown hR hq
      have HQ := Lib.hid hq
      have HR := Lib.hid hR
      have HOwn := Lib.hid hown
      have HJN := Lib.hid (join_any _ l (by rw [← HN.out]; omega) HB.out _ wr hB.size (H0.out.below hB))
      have hjl := jn_len l
      have HJL := Lib.hid hjl
      clear hq hR hown hjl
      go_wp2_with fail
      refine HJN.out.mono ?_
      rintro e w3 ⟨⟨_, x3, rfl, o3⟩ | ⟨⟨u, hu, hr⟩, _⟩, C3⟩
      · have hx := Bytes.of_row (Row.of_own o3)
        have hk1 := run_string_bytes hx
        have hk2 := run_string_bytes (Bytes.of_row (Row.of_own (own_below HOwn.out C3)))
        have hB3 := hB.trans (C3.mono hB.size)
        have HX := Lib.hid hx
        clear hx o3
        cases q with
        | true =>
          go_wp2_with fail
          clear hk1 hk2
          refine (split_row _ (jn l) (by have := HJL.out; rw [← HN.out] at this; omega) w3 _ (Nat.le_refl _) ((H.out.below hB3).more hB3.size) HX.out).mono ?_
          rintro e w4 ⟨x4, rfl, r4, C4⟩
          rw [un_jn l HQ.out.symm] at r4
          have hB4 := hB3.trans (C4.mono hB3.size)
          have R4 := Lib.hid r4
          clear r4 C4
          go_wp2_with fail
          refine (same_true l (by rw [← HN.out]; omega) _ _ _ _ w4 R4.out (H0.out.below hB4)).mono ?_
          rintro e w5 ⟨rfl, rfl⟩
          go_wp2
          go_ret
          exact ⟨rfl, hB4⟩
        | false =>
          go_wp2
          go_ret
          exact ⟨rfl, hB3⟩
      · rw [HR.out u hu] at hr
        cases hr

set_option maxHeartbeats 1000000 in
set_option maxRecDepth 100000 in
theorem unitJoins_law (v0 : Value) (s0 : List Int) (w : World) (hT : TabsAt w.heap.size w) (h0 : Row w.heap.size w v0 (zs s0)) (hbd : ∀ n ∈ s0, -9223372036854775808 ≤ n ∧ n ≤ 9223372036854775807) :
    Calls Tryd.prog 5 #[v0] w fun e w' => e = .returned (.bool true) ∧ Below w.heap.size w w' := by
  by_cases hl : s0.length ≤ 300
  · exact joins_small v0 s0 hl hbd w hT h0
  · obtain ⟨A, cap, rfl, _⟩ := h0
    have hl' : (300 : Int) < (s0.length : Int) := by omega
    rw [zs_len]
    have H := Lib.hid hT
    clear hT hbd
    go_enter Tryd.func5, Tryd.ntmps5
    go_wp2_with fail
    refine (anchor_any w H.out).mono ?_
    rintro e w1 ⟨rfl, hB1⟩
    go_wp2
    go_ret
    exact ⟨rfl, hB1⟩

end Go.Proofs.YtphpcdnefjbopaaDoor
