/- The document's bytes: a number. -/
import Derived.Test.YtiheeafmplccoaaPkX
namespace Go.Proofs.Ytiheeafmplccoaa
open Go.RowKit
variable {w w' w'' : World} {base : Nat} {s : List UInt8}

/-- What a call keeps that writes onto a row of bytes from base on. -/
structure Fr8 (base : Nat) (w w' : World) : Prop where
  os : w'.os = w.os
  tape : w'.tape = w.tape
  output : w'.output = w.output
  size : w.heap.size ≤ w'.heap.size
  block : ∀ i, i < w.heap.size → (i < base ∨ ¬ isU8 w i) → w'.heap[i]? = w.heap[i]?
theorem Fr8.refl (w : World) : Fr8 base w w := ⟨rfl, rfl, rfl, Nat.le_refl _, fun _ _ _ => rfl⟩
theorem Fr8.trans (h : Fr8 base w w') (k : Fr8 base w' w'') : Fr8 base w w'' :=
  ⟨k.os.trans h.os, k.tape.trans h.tape, k.output.trans h.output, Nat.le_trans h.size k.size, fun i hi hc => by
    have e := h.block i hi hc
    refine (k.block i (Nat.lt_of_lt_of_le hi h.size) ?_).trans e
    rcases hc with hc | h2
    · exact .inl hc
    · refine .inr fun ⟨cs, z, hb⟩ => h2 ⟨cs, z, ?_⟩
      rw [← e]
      exact hb⟩
theorem Fr8.of_below (h : Below w.heap.size w w') : Fr8 base w w' := ⟨h.os, h.tape, h.output, h.size, fun i hi _ => h.block i hi⟩
theorem Fr8.alloc (h : Fr8 base w w') (o : Obj) : Fr8 base w (w'.alloc o) := h.trans (Fr8.of_below ((Below.refl _ _).alloc (Nat.le_refl _) o))
theorem Fr8.drew (h : Fr8 base w w') : Fr8 base w w'.drew := ⟨h.os, h.tape, h.output, h.size, h.block⟩
theorem Fr8.old (h : Fr8 base w w') (hn : base ≤ w.heap.size) : Below base w w' := ⟨h.os, h.tape, h.output, h.size, fun i hi => h.block i (by omega) (.inl hi)⟩
theorem Fr8.blk (h : Fr8 base w w') {g : Nat} {t : TypeId} {cs : Array Value} (hg : Blk w g t cs) (ht : t ≠ 5) : Blk w' g t cs :=
  (h.block g hg.lt (.inr fun ⟨_, _, hh⟩ => ne_of_types hg hh ht rfl)).trans hg
theorem Fr8.push {v : Value} {n : Nat} {xs : List Value} (hO : w.ownsRow base 5 1 v n xs) (hg : w.grownBy w' v.ownBlock) : Fr8 base w w' := by
  refine ⟨hg.os, hg.tape, hg.output, hg.size, fun i hi hc => hg.block i hi ?_⟩
  intro e
  rcases hO.2 with ⟨hv, _⟩ | ⟨g, cap, cur, hv, hb, hh, _⟩
  · rw [hv] at e; simp [Value.ownBlock] at e
  · rw [hv] at e
    obtain rfl : i = g := by simpa [Value.ownBlock] using e
    rcases hc with hc | hc
    · omega
    · exact hc ⟨cur, _, hh⟩
def sixA (m j : Nat) : Array Value := #[.int .u8 (if 6 ≤ j then ((m / 1099511627776 % 256 : Nat) : Int) else 0), .int .u8 (if 5 ≤ j then ((m / 4294967296 % 256 : Nat) : Int) else 0), .int .u8 (if 4 ≤ j then ((m / 16777216 % 256 : Nat) : Int) else 0), .int .u8 (if 3 ≤ j then ((m / 65536 % 256 : Nat) : Int) else 0), .int .u8 (if 2 ≤ j then ((m / 256 % 256 : Nat) : Int) else 0), .int .u8 (if 1 ≤ j then ((m % 256 : Nat) : Int) else 0)]
theorem six_done (m : Nat) : (sixA m 6).toList = Lib.byteCells (be6 m) := by
  simp only [sixA, Lib.byteCells, be6, List.map_cons, List.map_nil]
  rw [u8 _ (Nat.mod_lt _ (by decide)), u8 _ (Nat.mod_lt _ (by decide)), u8 _ (Nat.mod_lt _ (by decide)), u8 _ (Nat.mod_lt _ (by decide)), u8 _ (Nat.mod_lt _ (by decide)), u8 _ (Nat.mod_lt _ (by decide))]
  simp
def pw (j : Nat) : Nat := 256 ^ j
theorem pw_succ (m j : Nat) : m / pw (j + 1) = m / pw j / 256 := by unfold pw; rw [Nat.pow_succ, Nat.div_div_eq_div_mul]
theorem six_0 (m : Nat) : (sixA m 0).setIfInBounds 5 (.int .u8 ((m / pw 0 % 256 : Nat) : Int)) = sixA m 1 := by simp [sixA, pw]
theorem six_1 (m : Nat) : (sixA m 1).setIfInBounds 4 (.int .u8 ((m / pw 1 % 256 : Nat) : Int)) = sixA m 2 := by simp [sixA, pw]
theorem six_2 (m : Nat) : (sixA m 2).setIfInBounds 3 (.int .u8 ((m / pw 2 % 256 : Nat) : Int)) = sixA m 3 := by simp [sixA, pw]
theorem six_3 (m : Nat) : (sixA m 3).setIfInBounds 2 (.int .u8 ((m / pw 3 % 256 : Nat) : Int)) = sixA m 4 := by simp [sixA, pw]
theorem six_4 (m : Nat) : (sixA m 4).setIfInBounds 1 (.int .u8 ((m / pw 4 % 256 : Nat) : Int)) = sixA m 5 := by simp [sixA, pw]
theorem six_5 (m : Nat) : (sixA m 5).setIfInBounds 0 (.int .u8 ((m / pw 5 % 256 : Nat) : Int)) = sixA m 6 := by simp [sixA, pw]
theorem Fr8.set6 {g : Nat} {v : Value} {n : Nat} {xs : List Value} {cs : Array Value} (h : Fr8 base w w' ∧ w'.ownsRow base 5 1 v n xs) (hg : Blk w' g 108 cs) (hw : w.heap.size ≤ g) (i : Nat) (u : Value) : Fr8 base w (w'.setCell ⟨g, i, none⟩ u) ∧ (w'.setCell ⟨g, i, none⟩ u).ownsRow base 5 1 v n xs :=
  ⟨⟨h.1.os, h.1.tape, h.1.output, by simpa [World.setCell] using h.1.size, fun j hj hc => (Below.heap_setCell _ _ _ _ (by simp only; omega)).trans (h.1.block j hj hc)⟩, own_keep h.2 fun j hj => Below.heap_setCell _ _ _ _ (by
    rintro rfl
    exact own_ne h.2 hg (by decide) hj.symm)⟩
set_option maxRecDepth 100000 in
set_option maxHeartbeats 4000000 in
theorem xnum_any (v : Value) (n : Int) (hn : -1 ≤ n ∧ n ≤ 1099511627776) (h : Own w base v s) (hb : base ≤ w.heap.size) (hl : s.length ≤ 900000000) :
    Calls Try.prog 40 #[v, .int .i64 n] w fun e w' => ∃ v', e = .returned v' ∧ Own w' base v' (s ++ n6 n) ∧ Fr8 base w w' := by
  obtain ⟨i0, hi, hz0, hz1, hz2⟩ := info_three info_u8
  obtain ⟨m, hm⟩ : ∃ m : Nat, n + 1 = (m : Int) := ⟨(n + 1).toNat, by omega⟩
  have hn6 : n6 n = be6 m := by unfold n6; rw [hm]; rfl
  have HN6 := Lib.hid hn6
  have hmu : m ≤ 1099511627777 := by omega
  have H := Lib.hid (World.ownsRow.alloc (show w.ownsRow base 5 1 v s.length (Lib.byteCells s) from h) (.cells (sixA m 0) 108))
  have F0 := Lib.hid ((Fr8.refl (base := base) w).alloc (.cells (sixA m 0) 108))
  have HB := Lib.hid (Blk.new w 108 (sixA m 0))
  have hs : w.heap.size < (w.alloc (.cells (sixA m 0) 108)).heap.size := by simp
  clear h hn6
  go_enter Try.func40, Try.ntmps40
  go_wp2
  have e0 : (m : Int) = ((m / pw 0 : Nat) : Int) := by simp [pw]
  have HM := Lib.hid hm
  have E0 := Lib.hid e0
  clear hm e0 hn
  go_loopw [1, 6] (fun a i wr => ∃ j : Nat, j ≤ 6 ∧ i = .int .i64 (5 - (j : Int)) ∧ a = .int .i64 ((m / pw j : Nat) : Int) ∧ Hid (Blk wr w.heap.size 108 (sixA m j)) ∧ Hid (Fr8 base w wr ∧ wr.ownsRow base 5 1 v s.length (Lib.byteCells s))) (fun _ i _ => (intOf i + 1).toNat)
  case atStart => exact ⟨0, by omega, rfl, by rw [E0.out], HB, Lib.hid ⟨F0.out, H.out⟩⟩
  case round =>
    obtain ⟨j, hj, rfl, rfl, HK, HF⟩ := hrel
    by_cases hlt : j < 6
    · have hcase : j = 0 ∨ j = 1 ∨ j = 2 ∨ j = 3 ∨ j = 4 ∨ j = 5 := by omega
      clear hj hlt
      rcases hcase with rfl | rfl | rfl | rfl | rfl | rfl
      · obtain ⟨q, hq⟩ : ∃ q, q = m / pw 0 := ⟨_, rfl⟩
        rw [← hq]
        have HQ := Lib.hid hq
        have hq2 : q ≤ 1099511627777 := by rw [hq]; exact Nat.le_trans (Nat.div_le_self _ _) hmu
        have k0 := HK.out.cell 5
        have f0 := HK.out.frozen 5
        have l0 := HK.out.lt
        rw [show (5 : Int) - ((0 : Nat) : Int) = 5 from rfl]
        clear hq
        go_wp2
        go_roundw
        case rel =>
          refine ⟨1, by omega, by first | rfl | (congr 1; omega), by rw [pw_succ, ← HQ.out]; first | rfl | (congr 1; omega), ?_, Lib.hid (Fr8.set6 HF.out HK.out (Nat.le_refl _) _ _)⟩
          have h := HK.out.set_ 5 (.int .u8 ((q % 256 : Nat) : Int))
          rw [HQ.out, six_0] at h
          rw [← HQ.out] at h
          exact Lib.hid h
        case measure => simp [intOf]
      · obtain ⟨q, hq⟩ : ∃ q, q = m / pw 1 := ⟨_, rfl⟩
        rw [← hq]
        have HQ := Lib.hid hq
        have hq2 : q ≤ 1099511627777 := by rw [hq]; exact Nat.le_trans (Nat.div_le_self _ _) hmu
        have k1 := HK.out.cell 4
        have f1 := HK.out.frozen 4
        have l1 := HK.out.lt
        rw [show (5 : Int) - ((1 : Nat) : Int) = 4 from rfl]
        clear hq
        go_wp2
        go_roundw
        case rel =>
          refine ⟨2, by omega, by first | rfl | (congr 1; omega), by rw [pw_succ, ← HQ.out]; first | rfl | (congr 1; omega), ?_, Lib.hid (Fr8.set6 HF.out HK.out (Nat.le_refl _) _ _)⟩
          have h := HK.out.set_ 4 (.int .u8 ((q % 256 : Nat) : Int))
          rw [HQ.out, six_1] at h
          rw [← HQ.out] at h
          exact Lib.hid h
        case measure => simp [intOf]
      · obtain ⟨q, hq⟩ : ∃ q, q = m / pw 2 := ⟨_, rfl⟩
        rw [← hq]
        have HQ := Lib.hid hq
        have hq2 : q ≤ 1099511627777 := by rw [hq]; exact Nat.le_trans (Nat.div_le_self _ _) hmu
        have k2 := HK.out.cell 3
        have f2 := HK.out.frozen 3
        have l2 := HK.out.lt
        rw [show (5 : Int) - ((2 : Nat) : Int) = 3 from rfl]
        clear hq
        go_wp2
        go_roundw
        case rel =>
          refine ⟨3, by omega, by first | rfl | (congr 1; omega), by rw [pw_succ, ← HQ.out]; first | rfl | (congr 1; omega), ?_, Lib.hid (Fr8.set6 HF.out HK.out (Nat.le_refl _) _ _)⟩
          have h := HK.out.set_ 3 (.int .u8 ((q % 256 : Nat) : Int))
          rw [HQ.out, six_2] at h
          rw [← HQ.out] at h
          exact Lib.hid h
        case measure => simp [intOf]
      · obtain ⟨q, hq⟩ : ∃ q, q = m / pw 3 := ⟨_, rfl⟩
        rw [← hq]
        have HQ := Lib.hid hq
        have hq2 : q ≤ 1099511627777 := by rw [hq]; exact Nat.le_trans (Nat.div_le_self _ _) hmu
        have k3 := HK.out.cell 2
        have f3 := HK.out.frozen 2
        have l3 := HK.out.lt
        rw [show (5 : Int) - ((3 : Nat) : Int) = 2 from rfl]
        clear hq
        go_wp2
        go_roundw
        case rel =>
          refine ⟨4, by omega, by first | rfl | (congr 1; omega), by rw [pw_succ, ← HQ.out]; first | rfl | (congr 1; omega), ?_, Lib.hid (Fr8.set6 HF.out HK.out (Nat.le_refl _) _ _)⟩
          have h := HK.out.set_ 2 (.int .u8 ((q % 256 : Nat) : Int))
          rw [HQ.out, six_3] at h
          rw [← HQ.out] at h
          exact Lib.hid h
        case measure => simp [intOf]
      · obtain ⟨q, hq⟩ : ∃ q, q = m / pw 4 := ⟨_, rfl⟩
        rw [← hq]
        have HQ := Lib.hid hq
        have hq2 : q ≤ 1099511627777 := by rw [hq]; exact Nat.le_trans (Nat.div_le_self _ _) hmu
        have k4 := HK.out.cell 1
        have f4 := HK.out.frozen 1
        have l4 := HK.out.lt
        rw [show (5 : Int) - ((4 : Nat) : Int) = 1 from rfl]
        clear hq
        go_wp2
        go_roundw
        case rel =>
          refine ⟨5, by omega, by first | rfl | (congr 1; omega), by rw [pw_succ, ← HQ.out]; first | rfl | (congr 1; omega), ?_, Lib.hid (Fr8.set6 HF.out HK.out (Nat.le_refl _) _ _)⟩
          have h := HK.out.set_ 1 (.int .u8 ((q % 256 : Nat) : Int))
          rw [HQ.out, six_4] at h
          rw [← HQ.out] at h
          exact Lib.hid h
        case measure => simp [intOf]
      · obtain ⟨q, hq⟩ : ∃ q, q = m / pw 5 := ⟨_, rfl⟩
        rw [← hq]
        have HQ := Lib.hid hq
        have hq2 : q ≤ 1099511627777 := by rw [hq]; exact Nat.le_trans (Nat.div_le_self _ _) hmu
        have k5 := HK.out.cell 0
        have f5 := HK.out.frozen 0
        have l5 := HK.out.lt
        rw [show (5 : Int) - ((5 : Nat) : Int) = 0 from rfl]
        clear hq
        go_wp2
        go_roundw
        case rel =>
          refine ⟨6, by omega, by first | rfl | (congr 1; omega), by rw [pw_succ, ← HQ.out]; first | rfl | (congr 1; omega), ?_, Lib.hid (Fr8.set6 HF.out HK.out (Nat.le_refl _) _ _)⟩
          have h := HK.out.set_ 0 (.int .u8 ((q % 256 : Nat) : Int))
          rw [HQ.out, six_5] at h
          rw [← HQ.out] at h
          exact Lib.hid h
        case measure => simp [intOf]
    · obtain rfl : j = 6 := by omega
      have hr : Row (w.heap.size + 1) wr (.slice (some ⟨w.heap.size, 0, none⟩) 6 6) (Lib.byteCells (be6 m)) := by
        refine ⟨_, 6, by rw [Lib.byteCells_length]; rfl, by rw [Lib.byteCells_length]; exact Nat.le_refl _, fun _ => ⟨w.heap.size, 0, rfl, by omega, fun i u hu => ?_⟩⟩
        rw [Nat.zero_add, HK.out.cell i, ← Array.getElem?_toList, six_done]
        exact hu
      have HR := Lib.hid hr
      have hsz := HF.out.1.size
      have hb6 : (Lib.byteCells (be6 m)).length = 6 := by rw [Lib.byteCells_length]; rfl
      clear hr
      go_wp2_with (at_builtin
                   refine wpList_append_row _ rfl (.tmp 20) (.tmp 21) 31 rfl base 5 i0 (.int .u8 0) 1 Try.underlying31 hi hz0 hz1 hz2 rfl v s.length (Lib.byteCells s) rfl HF.out.2 (w.heap.size + 1) _ (Lib.byteCells (be6 m)) rfl HR.out (one_bytes _) (by rw [hb6]; unfold maxLen; omega) (by rw [hb6]; omega) (by omega) ?_
                   intro v' w4 hown' hgrow
                   have HO : Hid (Own w4 base v' (s ++ n6 n)) := Lib.hid (by
                     unfold Own
                     rw [HN6.out, List.length_append, Lib.byteCells_append]
                     rw [hb6] at hown'
                     exact hown')
                   have HG := Lib.hid (HF.out.1.trans (Fr8.push HF.out.2 hgrow))
                   clear hown' hgrow)
      go_ret
      exact ⟨_, rfl, HO.out, HG.out⟩
end Go.Proofs.Ytiheeafmplccoaa
