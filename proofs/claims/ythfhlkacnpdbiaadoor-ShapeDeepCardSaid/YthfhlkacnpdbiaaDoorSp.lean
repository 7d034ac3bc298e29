/- ShapeDeep's walk. -/
import Derived.Test.YthfhlkacnpdbiaaDoorSf
import Derived.Test.YthfhlkacnpdbiaaDoorMPf
import Derived.Test.YthfhlkacnpdbiaaDoorMModel
import Derived.Test.YthfhlkacnpdbiaaDoorMUnit
import Derived.Laws.BytesArg
import Derived.Laws.IdiomStrings
namespace Go.Proofs.YthfhlkacnpdbiaaDoor
open Go.RowKit
open Go.Proofs.YthfhlkacnpdbiaaDoor.Cl (Rg)
variable {w w' : World}

open Go.Shelf
theorem deep_eq (l : List Nat) (m : Nat) (X : ByteArray) (h : X = ⟨(deepT l).toArray⟩) : (⟨#[40, 63, 58]⟩ : ByteArray) ++ X ++ (⟨#[41, 123]⟩ : ByteArray) ++ (⟨(dd m).toArray⟩ : ByteArray) ++ (⟨#[125]⟩ : ByteArray) = ⟨(deepT (m :: l)).toArray⟩ := by
  subst h
  apply ByteArray.ext
  simp [ByteArray.data_append, deepT]
theorem deep_verdict (l : List Nat) : verdictN (deepN l) = if 1997 < deepW l then 28 else 0 := by
  obtain ⟨_, h2, _, h4⟩ := deep_widths l
  unfold verdictN
  rw [h2, h4]
  simp only [if_true]
  by_cases c : 1997 < deepW l
  · rw [if_pos c, if_pos (by omega)]
  · rw [if_neg c, if_neg (by omega)]
theorem deep_wf (l : List Nat) (hl : l.length ≤ 25) (hk : ∀ x ∈ l, x ≤ 64) : Wf (deepN l) := parse_wf (parse_deep 1022 l hl hk)

set_option maxRecDepth 100000 in
set_option maxHeartbeats 2000000 in
theorem sdeep_law (v : Value) (xs : List Int) (hT : TabsAt w.heap.size w) (h : Row w.heap.size w v (zs xs)) : Calls Tryd.prog 6 #[v] w fun e w' => e = .returned (.bool true) ∧ Below w.heap.size w w' := by
  have HT := Lib.hid hT
  have HA := Lib.hid (anchor_any hT)
  obtain ⟨A, cap, rfl, hcap, hrow⟩ := h
  have hz : (zs xs).length = xs.length := by simp [zs]
  rw [hz] at hcap ⊢
  have HRow : Hid (∀ (k : Nat) (u : Int), xs[k]? = some u → ∃ b off, A = some ⟨b, off, none⟩ ∧ b < w.heap.size ∧ w.cell? ⟨b, off + k, none⟩ = some (.int .i64 u)) := Lib.hid (fun k u hu => by
    have hne : zs xs ≠ [] := by
      intro e
      have : xs = [] := by simpa [zs] using e
      subst this
      simp at hu
    obtain ⟨b, off, hA, hb, hc⟩ := hrow hne
    exact ⟨b, off, hA, hb, hc k _ (by simp [zs, hu])⟩)
  clear hT hrow hz
  by_cases hlen : 25 < xs.length
  · have hlen' : (25 : Int) < (xs.length : Int) := by omega
    go_enter Tryd.func6, Tryd.ntmps6
    go_wp2_with fail
    refine HA.out.mono ?_
    rintro e w1 ⟨rfl, hb1⟩
    go_wp2
    go_ret
    exact ⟨rfl, hb1⟩
  have hlen' : ¬ (25 : Int) < (xs.length : Int) := by omega
  go_enter Tryd.func6, Tryd.ntmps6
  go_wp2_with fail
  refine HA.out.mono ?_
  rintro e w0 ⟨rfl, hb0⟩
  have HT0 := Lib.hid (tabs_on HT.out hb0 hb0.size)
  go_wp2
  go_loopw [3, 4, 19] (fun s3 s4 s19 wr => ∃ (k : Nat) (X : ByteArray) (wv : Int), k ≤ xs.length ∧ s19 = .int .i64 k ∧ s3 = .string X ∧ s4 = .int .i64 wv ∧ X.size = 1 + 8 * k ∧ 0 ≤ wv ∧ wv ≤ 1048576 ∧ Hid (∃ l : List Nat, l.length = k ∧ (∀ x ∈ l, x ≤ 64) ∧ X = ⟨(deepT l).toArray⟩ ∧ wv = deepW l) ∧ Below w.heap.size w wr) (fun _ _ i _ => xs.length - (intOf i).toNat)
  case atStart => exact ⟨0, ⟨#[97]⟩, 1, Nat.zero_le _, rfl, rfl, rfl, rfl, by omega, by omega, Lib.hid ⟨[], rfl, by simp, rfl, rfl⟩, hb0⟩
  case round =>
    obtain ⟨k, X, wv, hk, rfl, rfl, rfl, hX, hw0, hw1, HE, hbel⟩ := hrel
    have hsz := hbel.size
    by_cases hlt : k < xs.length
    · have hlti : (k : Int) < xs.length := by omega
      obtain ⟨b, off, hA, hb, hc⟩ := HRow.out k _ (List.getElem?_eq_getElem hlt)
      subst hA
      replace hc := (hbel.cell (p := ⟨b, off + k, none⟩) hb).trans hc
      generalize xs[k] = n at hc
      by_cases hn0 : n < 0
      · go_wp2
        go_ret
        exact ⟨rfl, hbel⟩
      by_cases hn1 : 64 < n
      · go_wp2
        go_ret
        exact ⟨rfl, hbel⟩
      obtain ⟨m, rfl⟩ : ∃ m : Nat, n = (m : Int) := ⟨n.toNat, by omega⟩
      have hm0 : (0 : Int) ≤ (m : Int) := by omega
      have hm1 : (m : Int) ≤ 64 := by omega
      have hXs : X.size ≤ 201 := by omega
      have hkk := run_string_bytes (bytes_lit wr #[.int .u8 (48 + (m : Int) / 10), .int .u8 (48 + (m : Int) % 10)] (dd m) (0, 0) 2 rfl (by
        simp [Lib.byteCells, dd]
        omega))
      have hdz : (⟨(dd m).toArray⟩ : ByteArray).size = 2 := rfl
      have q0 : 0 ≤ wv * (m : Int) := Int.mul_nonneg hw0 hm0
      have q1 : wv * (m : Int) ≤ 1048576 * 64 := Int.mul_le_mul hw1 hm1 hm0 (by omega)
      clear hn0 hn1
      go_wp2
      go_roundw
      case rel =>
        refine ⟨k + 1, _, _, by omega, by go_num, rfl, rfl, ?_, by omega, by omega, Lib.hid ?_, hbel.alloc hsz _⟩
        · have e3 : (⟨#[40, 63, 58]⟩ : ByteArray).size = 3 := rfl
          have e2 : (⟨#[41, 123]⟩ : ByteArray).size = 2 := rfl
          have e1 : (⟨#[125]⟩ : ByteArray).size = 1 := rfl
          simp only [ByteArray.size_append, e3, e2, e1, hdz, hX]
          omega
        · obtain ⟨l, h1, h2, h3, h4⟩ := HE.out
          refine ⟨m :: l, by simp [h1], fun x hx => ?_, deep_eq l m X h3, ?_⟩
          · rcases List.mem_cons.1 hx with rfl | hx
            · omega
            · exact h2 x hx
          · rw [h4]; rfl
      case measure => simp [intOf]; omega
    · obtain rfl : k = xs.length := by omega
      obtain ⟨l, hl, hll, hXe, hwe⟩ := HE.out
      have HP := Lib.hid (parse_any (w := wr) (s := deepT l) (1022 + 4 * l.length + 4) (by omega) (by rw [deep_len]; omega) (tabs_on HT.out hbel hsz))
      rw [parse_deep 1022 l (by omega) hll, ← hXe] at HP
      have HW := Lib.hid (deep_wf l (by omega) hll)
      obtain ⟨e1, e2, e3, _⟩ := deep_widths l
      have e4 := deep_verdict l
      rw [← hwe] at e1 e2 e3 e4
      have HWd := Lib.hid (fun W A1 B1 p1 q1 hN => width_any (deepN l) HW.out W A1 B1 p1 q1 hN)
      have HSz := Lib.hid (fun W A1 B1 p1 q1 hN => size_any (deepN l) HW.out W A1 B1 p1 q1 hN)
      have HCk := Lib.hid (fun W A1 B1 p1 q1 hN => check_any (deepN l) HW.out 0 false W A1 B1 p1 q1 hN)
      rw [e1] at HWd
      rw [e2] at HSz
      rw [e4] at HCk
      generalize most (deepN l) = hi at *
      generalize deepN l = n1 at *
      clear e1 e2 e4 HE hXe hwe hll hl HA HRow
      go_wp2_with fail
      refine HP.out.mono ?_
      rintro e w1 ⟨A1, B1, p1, q1, rfl, hN, hb1⟩
      simp only at hN
      unfold pCells
      simp only
      have P1 := Lib.hid (put_new wr w1 #[.int .i64 n1.kind, .int .i64 n1.lo, .int .i64 n1.hi, .int .i64 n1.mode, .int .i64 n1.ref, .slice A1 n1.set.length p1, .slice B1 n1.kids.length q1, .int .i64 0, .bool false] #[.int .i64 0, .int .i64 0] hb1)
      have HN1 := Lib.hid (hN.on (put_on w1 #[.int .i64 n1.kind, .int .i64 n1.lo, .int .i64 n1.hi, .int .i64 n1.mode, .int .i64 n1.ref, .slice A1 n1.set.length p1, .slice B1 n1.kids.length q1, .int .i64 0, .bool false] #[.int .i64 0, .int .i64 0]))
      clear hN HP
      go_upto_region 15 with (fail)
      generalize (w1.alloc (.cells #[.int .i64 n1.kind, .int .i64 n1.lo, .int .i64 n1.hi, .int .i64 n1.mode, .int .i64 n1.ref, .slice A1 n1.set.length p1, .slice B1 n1.kids.length q1, .int .i64 0, .bool false] 29)).alloc (.cells #[.int .i64 0, .int .i64 0] 32) = v1 at *
      have hbv1 := hbel.trans (P1.out.keep.mono hsz)
      have hf1 := P1.out.flt.cell 0
      simp at hf1
      have hc1 := P1.out.node.nine
      go_wp2_with fail
      refine (HWd.out v1 A1 B1 p1 q1 HN1.out).mono ?_
      rintro e w2 ⟨rfl, hb2⟩
      have hbv2 := hbv1.trans (hb2.mono hbv1.size)
      have hc2 := (P1.out.node.on hb2).nine
      clear hc1 hf1
      go_wp2_with fail
      refine (HSz.out w2 A1 B1 p1 q1 (HN1.out.on hb2)).mono ?_
      rintro e w3 ⟨rfl, hb3⟩
      have k3 := hb2.trans (hb3.mono hb2.size)
      have hbv3 := hbv2.trans (hb3.mono hbv2.size)
      have hc3 := (P1.out.node.on k3).nine
      clear hc2
      have HN3 := Lib.hid (HN1.out.on k3)
      by_cases hbig : 1997 < wv
      · rw [if_pos hbig] at HCk
        simp only [Int.cast_ofNat_Int] at HCk
        by_cases hhi : hi = wv
        · subst hhi
          go_wp2_with fail
          refine (HCk.out w3 A1 B1 p1 q1 HN3.out).mono ?_
          rintro e w4 ⟨rfl, hb4⟩
          have hbv4 := hbv3.trans (hb4.mono hbv3.size)
          go_wp2
          go_ret
          exact ⟨rfl, hbv4⟩
        · have hh1 : hi < 0 := by
            rcases e3 with h | h
            · exact absurd h hhi
            · exact h
          have hh2 : (hi == wv) = false := by simp [hhi]
          go_wp2_with fail
          refine (HCk.out w3 A1 B1 p1 q1 HN3.out).mono ?_
          rintro e w4 ⟨rfl, hb4⟩
          have hbv4 := hbv3.trans (hb4.mono hbv3.size)
          go_wp2
          go_ret
          exact ⟨rfl, hbv4⟩
      · rw [if_neg hbig] at HCk
        simp only [Int.cast_ofNat_Int] at HCk
        by_cases hhi : hi = wv
        · subst hhi
          go_wp2_with fail
          refine (HCk.out w3 A1 B1 p1 q1 HN3.out).mono ?_
          rintro e w4 ⟨rfl, hb4⟩
          have hbv4 := hbv3.trans (hb4.mono hbv3.size)
          go_wp2
          go_ret
          exact ⟨by simp [hbig], hbv4⟩
        · have hh1 : hi < 0 := by
            rcases e3 with h | h
            · exact absurd h hhi
            · exact h
          have hh2 : (hi == wv) = false := by simp [hhi]
          go_wp2_with fail
          refine (HCk.out w3 A1 B1 p1 q1 HN3.out).mono ?_
          rintro e w4 ⟨rfl, hb4⟩
          have hbv4 := hbv3.trans (hb4.mono hbv3.size)
          go_wp2
          go_ret
          exact ⟨by simp [hbig], hbv4⟩

theorem shapeDeep_law (v : Value) (xs : List Int) (w : World) (hT : TabsAt w.heap.size w) (h : Row w.heap.size w v (zs xs)) (_ : ∀ n ∈ xs, -9223372036854775808 ≤ n ∧ n ≤ 9223372036854775807) : Calls Tryd.prog 6 #[v] w fun e w' => e = .returned (.bool true) ∧ Below w.heap.size w w' := sdeep_law v xs hT h

end Go.Proofs.YthfhlkacnpdbiaaDoor
