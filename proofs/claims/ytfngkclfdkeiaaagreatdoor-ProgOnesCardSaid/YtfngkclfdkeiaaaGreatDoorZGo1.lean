/- ProgOnes: a class is one instruction, with just its set. -/
import Derived.Test.YtfngkclfdkeiaaaGreatDoorZGq
import Derived.Test.YtfngkclfdkeiaaaGreatDoorZMPg
import Derived.Test.YtfngkclfdkeiaaaGreatDoorZMClasses
import Derived.Test.YtfngkclfdkeiaaaGreatDoorZClSame
namespace Go.Proofs.YtfngkclfdkeiaaaGreatDoor
open Go.RowKit
open Go.Proofs.YtfngkclfdkeiaaaGreatDoor.Cl (Rg SetV SetAt Norm norm_nil not_own same_any sameB sameB_refl GivesO gaps normB normB_true normB_false)
variable {w w' w0 : World} {n₀ : Nat}

def tb (l : List UInt8) : ByteArray := ⟨l.toArray⟩
theorem tb_data (l : List UInt8) : (tb l).data.toList = l := rfl
theorem tb_app (a b : List UInt8) : tb a ++ tb b = tb (a ++ b) := by
  apply ByteArray.ext
  simp [tb, ByteArray.data_append]
theorem tb_size (l : List UInt8) : (tb l).size = l.length := rfl
theorem tb_tail (b : UInt8) (l : List UInt8) : (tb (b :: l)).extract 1 (l.length + 1) = tb l := by
  apply ByteArray.ext
  rw [ByteArray.data_extract]
  apply Array.ext'
  rw [Array.toList_extract]
  simp [tb, List.extract_eq_take_drop]
def digsB : ByteArray := ⟨#[48, 49, 50, 51, 52, 53, 54, 55, 56, 57, 97, 98, 99, 100, 101, 102]⟩
theorem take_more {α : Type} {l : List α} {k : Nat} {r : α} (h : l[k]? = some r) : l.take k ++ [r] = l.take (k + 1) := by
  obtain ⟨hk, rfl⟩ := List.getElem?_eq_some_iff.1 h
  exact (List.take_succ_eq_append_getElem hk).symm
theorem digs_at : ∀ n, n < 16 → digsB.extract n (n + 1) = tb [hx n] := by
  intro n hn
  apply ByteArray.ext
  rw [ByteArray.data_extract]
  revert n
  decide

theorem x_tb (u : Nat) (hu : u < 256) : (⟨#[92, 120]⟩ : ByteArray) ++ digsB.extract (u / 16) (u / 16 + 1) ++ digsB.extract (u % 16) (u % 16 + 1) = tb (xs u) := by
  rw [digs_at (u / 16) (by omega), digs_at (u % 16) (by omega)]
  exact ((congrArg (· ++ tb [hx (u % 16)]) (tb_app [92, 120] [hx (u / 16)])).trans (tb_app _ _))
set_option maxRecDepth 100000 in
set_option maxHeartbeats 1000000 in
theorem x_any (u : Nat) (hu : u < 256) : Calls Tryz.prog 21 #[.int .i64 u] w fun e w' => e = .returned (.string (tb (xs u))) ∧ ∃ m, w' = w.drewN m := by
  have HX := Lib.hid (x_tb u hu)
  unfold digsB at HX
  have q1 : (0 : Int) ≤ (u : Int) / 16 ∧ (u : Int) / 16 ≤ 15 := by omega
  have q2 : (0 : Int) ≤ (u : Int) % 16 ∧ (u : Int) % 16 ≤ 15 := by omega
  obtain ⟨q1a, q1b⟩ := q1
  obtain ⟨q2a, q2b⟩ := q2
  go_enter Tryz.func21, Tryz.ntmps21
  go_wp2
  go_region
  rw [HX.out]
  go_wp2
  go_ret
  exact ⟨rfl, 1, rfl⟩

/-- The text of a class, with ranges as they come. -/
theorem text_more (l : List Rg) (r : Rg) : tb (91 :: encs l) ++ (tb (xs r.1.toNat) ++ (⟨#[45]⟩ : ByteArray) ++ tb (xs r.2.toNat)) = tb (91 :: encs (l ++ [r])) := by
  have e : (⟨#[45]⟩ : ByteArray) = tb [45] := rfl
  rw [e, tb_app, tb_app, tb_app, encs_snoc]
  simp [enc1]
theorem text_a (l : List Rg) : tb (91 :: encs l) ++ (⟨#[93]⟩ : ByteArray) = tb (onesT false l) := by
  have e : (⟨#[93]⟩ : ByteArray) = tb [93] := rfl
  rw [e, tb_app]
  rfl
theorem text_b (l : List Rg) : (⟨#[91, 94]⟩ : ByteArray) ++ (tb (91 :: encs l)).extract 1 (tb (91 :: encs l)).size ++ (⟨#[93]⟩ : ByteArray) = tb (onesT true l) := by
  have e : (⟨#[93]⟩ : ByteArray) = tb [93] := rfl
  have e2 : (⟨#[91, 94]⟩ : ByteArray) = tb [91, 94] := rfl
  have e3 : (tb (91 :: encs l)).extract 1 (tb (91 :: encs l)).size = tb (encs l) := tb_tail 91 (encs l)
  rw [e, e2, e3, tb_app, tb_app]
  rfl
/-- What made gives of the two texts. -/
theorem ones_made (neg : Bool) {l : List Rg} (h : Norm l) (hr : ∀ r ∈ l, r.2 ≤ 255) (hn : l ≠ []) (h5 : l.length ≤ 5) :
    fcT (tb (onesT neg l)) = 0 ∧ vdT (tb (onesT neg l)) = 0 ∧ prT (tb (onesT neg l)) = [saveI 0, ⟨1, 0, 0, 0, 0, if neg then gaps 0 l else l⟩, saveI 1, .i 0 0 0 0 0] := by
  have e := ones_parse neg h hr hn h5
  have e1 : fcT (tb (onesT neg l)) = 0 := by unfold fcT; rw [tb_data, e]; rfl
  have e2 : ndT (tb (onesT neg l)) = setN (if neg then gaps 0 l else l) := by unfold ndT; rw [tb_data, e]; rfl
  have e3 : foT (tb (onesT neg l)) = false := by unfold foT; rw [tb_data, e]; rfl
  refine ⟨e1, ?_, ?_⟩
  · unfold vdT
    rw [if_pos e1, e2, set_verdict]
  · unfold prT
    rw [if_pos ⟨e1, by rw [e2, set_verdict]⟩, e2, e3, ones_whole]

set_option maxRecDepth 100000 in
set_option maxHeartbeats 1000000 in
theorem ones_law (v : Value) (l : List Rg) (hS : SetV w.heap.size w v l) (hT : TabL w.heap.size w) : Calls Tryz.prog 4 #[v] w fun e w' => e = .returned (.bool true) ∧ Below w.heap.size w w' := by
  have HT := Lib.hid hT
  have HA := Lib.hid (anchor5_any hT)
  have HS := Lib.hid hS
  clear hT
  obtain ⟨A, cap, rfl, hcap, hS0⟩ := id hS
  clear hS0 hS
  by_cases h5 : 5 < l.length
  · have h5' : (5 : Int) < (l.length : Int) := by omega
    go_enter Tryz.func4, Tryz.ntmps4
    go_wp2_with fail
    refine HA.out.mono ?_
    rintro e w1 ⟨rfl, hb1⟩
    go_wp2
    go_ret
    exact ⟨rfl, hb1⟩
  have hmax : l.length ≤ 1000000 := by omega
  have h5' : ¬ (5 : Int) < (l.length : Int) := by omega
  by_cases h0 : l.length = 0
  · go_enter Tryz.func4, Tryz.ntmps4
    go_wp2_with fail
    refine HA.out.mono ?_
    rintro e w1 ⟨rfl, hb1⟩
    go_wp2
    go_ret
    exact ⟨rfl, hb1⟩
  have h0' : ((l.length : Int) == 0) = false := beq_false_of_ne (by omega)
  have h5b : decide ((5 : Int) < (l.length : Int)) = false := by simp; omega
  clear h5'
  have HN := Lib.hid (fun (W : World) (hW : Below w.heap.size w W) => Cl.normal_any _ l W hmax ((HS.out.below hW).more hW.size))
  by_cases hno : ¬ Norm l
  · rw [normB_false hno] at HN
    go_enter Tryz.func4, Tryz.ntmps4
    go_wp2_with fail
    refine HA.out.mono ?_
    rintro e w1 ⟨rfl, hb1⟩
    go_wp2_with fail
    refine (HN.out _ hb1).mono ?_
    rintro e w2 ⟨rfl, hb2⟩
    have hbw := hb1.trans (hb2.mono hb1.size)
    go_wp2
    go_ret
    exact ⟨rfl, hbw⟩
  have hno' : Norm l := Classical.not_not.1 hno
  rw [normB_true hno'] at HN
  have HNo := Lib.hid hno'
  have HL : Hid (l.length ≤ 5 ∧ l ≠ []) := Lib.hid ⟨by omega, fun e => h0 (by rw [e]; rfl)⟩
  have HX := Lib.hid (fun (u : Nat) (hu : u < 256) (W : World) => x_any (w := W) u hu)
  clear hno hno'
  go_enter Tryz.func4, Tryz.ntmps4
  go_wp2_with fail
  refine HA.out.mono ?_
  rintro e w1 ⟨rfl, hb1⟩
  go_wp2_with fail
  refine (HN.out _ hb1).mono ?_
  rintro e w2 ⟨rfl, hb2⟩
  have hbw := hb1.trans (hb2.mono hb1.size)
  go_wp2
  go_loopw [3, 31] (fun t i wr => ∃ k : Nat, k ≤ l.length ∧ i = .int .i64 k ∧ t = .string (tb (91 :: encs (l.take k))) ∧ (∀ r ∈ l.take k, r.2 ≤ 255) ∧ Below w.heap.size w wr) (fun _ i _ => l.length - (intOf i).toNat)
  case atStart => exact ⟨0, Nat.zero_le _, rfl, rfl, by simp, hbw⟩
  case round =>
    obtain ⟨k, hk, rfl, rfl, hle, hbel⟩ := hrel
    have HLe := Lib.hid hle
    clear hle hbw hb1 hb2
    by_cases hlt : k < l.length
    · have hlti : (k : Int) < (l.length : Int) := by omega
      have HLt := Lib.hid hlt
      obtain ⟨b, off, lo, hi, rfl, hb, hget, c0, c1⟩ := (HS.out.below hbel).at_ hlt
      have HG := Lib.hid hget
      obtain ⟨r1, r2, r3⟩ := HNo.out.1 _ (List.mem_of_getElem? hget)
      have hb6 := hbel.alloc hbel.size (.cells #[.int .i64 lo, .int .i64 hi] 48)
      have HB := Lib.hid (Blk.new wr 48 #[.int .i64 lo, .int .i64 hi])
      clear hget
      go_upto_region 9 with (fail)
      generalize wr.alloc _ = W at *
      have d0 := HB.out.cell 0
      have d1 := HB.out.cell 1
      simp only [List.getElem?_toArray, List.getElem?_cons_zero, List.getElem?_cons_succ] at d0 d1
      simp only at r1 r2 r3
      by_cases h255 : 255 < hi
      · go_wp2
        go_ret
        exact ⟨rfl, hb6⟩
      · obtain ⟨a, rfl⟩ : ∃ a : Nat, lo = (a : Int) := ⟨lo.toNat, by omega⟩
        obtain ⟨c, rfl⟩ : ∃ c : Nat, hi = (c : Int) := ⟨hi.toNat, by omega⟩
        have HXa := Lib.hid (HX.out a (by omega))
        have HXc := Lib.hid (HX.out c (by omega))
        have HTm : Hid (tb (91 :: encs (l.take k)) ++ (tb (xs a) ++ (⟨#[45]⟩ : ByteArray) ++ tb (xs c)) = tb (91 :: encs (l.take (k + 1)))) := Lib.hid (by
          have e := text_more (l.take k) ((a : Int), (c : Int))
          simp only [Int.toNat_natCast] at e
          rw [e, take_more HG.out])
        have hle' : ∀ r ∈ l.take (k + 1), r.2 ≤ 255 := by
          rw [← take_more HG.out]
          intro r hr
          rcases List.mem_append.1 hr with hr | hr
          · exact HLe.out r hr
          · simp at hr
            rw [hr]
            simp only
            omega
        have HLe' := Lib.hid hle'
        have hs1 : ((tb (xs a)).size : Int) = 4 := rfl
        have hs2 : ((tb (xs c)).size : Int) = 4 := rfl
        have hs3 : ((tb (91 :: encs (l.take k))).size : Int) ≤ 100 := by
          rw [tb_size, List.length_cons, encs_len, List.length_take]
          have := HL.out.1
          omega
        clear hle' c0 c1
        go_wp2
        go_region_with (first | (go_at_call 21; refine (HXa.out _).mono ?_; clear HXa; rintro e w8 ⟨rfl, m8, rfl⟩) | (go_at_call 21; refine (HXc.out _).mono ?_; clear HXc; rintro e w9 ⟨rfl, m9, rfl⟩))
        all_goals
          rw [HTm.out]
          go_wp2
          go_roundw
          case rel => exact ⟨k + 1, HLt.out, by go_num, rfl, HLe'.out, ⟨hb6.os, hb6.tape, hb6.output, hb6.size, hb6.block⟩⟩
          case measure => have := HLt.out; first | (simp [intOf]; done) | (simp [intOf]; omega)
    · obtain rfl : k = l.length := by omega
      have hge : ¬ ((l.length : Nat) : Int) < (l.length : Nat) := by omega
      have HLe2 : Hid (∀ r ∈ l, r.2 ≤ 255) := Lib.hid (by have := HLe.out; rw [List.take_length] at this; exact this)
      rw [List.take_length]
      have hs3 : ((tb (91 :: encs l)).size : Int) ≤ 100 := by
        rw [tb_size, List.length_cons, encs_len]
        have := HL.out.1
        omega
      have hs4 : (1 : Int) ≤ ((tb (91 :: encs l)).size : Int) := by
        rw [tb_size, List.length_cons]
        omega
      have HMa := Lib.hid (ones_made false HNo.out HLe2.out HL.out.2 HL.out.1)
      have HMb := Lib.hid (ones_made true HNo.out HLe2.out HL.out.2 HL.out.1)
      have HTa := Lib.hid (text_a l)
      have HTb := Lib.hid (text_b l)
      have HT1 := Lib.hid (HT.out.on hbel)
      have HM := Lib.hid (fun (neg : Bool) (W : World) (k : TabL W.heap.size W) => made_any (w := W) (tb (onesT neg l)) (by
        rw [tb_size]
        have := HL.out.1
        unfold onesT negL
        cases neg
        · simp [encs_len]; omega
        · simp [encs_len]; omega) k)
      clear HA HN HX HLe
      go_wp2_with fail
      rw [HTa.out]
      refine (HM.out false _ HT1.out).mono ?_
      rintro e w5 ⟨hb5, A1, q1, rfl, hP⟩
      have hbw5 := hbel.trans (hb5.mono hbel.size)
      rw [HMa.out.1, HMa.out.2.1, HMa.out.2.2]
      rw [HMa.out.2.2] at hP
      have HP := Lib.hid hP
      have HT2 := Lib.hid (HT.out.on hbw5)
      clear hP
      go_wp2_with fail
      rw [HTb.out]
      refine (HM.out true _ HT2.out).mono ?_
      rintro e w6 ⟨hb6, A2, q2, rfl, hQ⟩
      have hbw6 := hbw5.trans (hb6.mono hbw5.size)
      rw [HMb.out.1, HMb.out.2.1, HMb.out.2.2]
      rw [HMb.out.2.2] at hQ
      have HNt := Lib.hid (not_own _ l w6 hmax ((HS.out.below hbw6).more hbw6.size) HNo.out)
      have HP6 := Lib.hid (HP.out.on hb6)
      have HQ := Lib.hid hQ
      clear hQ HP
      go_wp2_with fail
      refine HNt.out.mono ?_
      rintro e w7 ⟨v', rfl, hv', hb7⟩
      have hbw7 := hbw6.trans (hb7.mono hbw6.size)
      obtain ⟨Av, cv, rfl⟩ := own_form (l := gaps 0 l) hv'
      obtain ⟨g1, c1, As, cs, hva, hca, hg1, _, hOa, a0, _, _, _, _, a5⟩ := (HP6.out.on hb7).six (i := 1) rfl
      obtain ⟨g2, c2, Bs, ds, hvb, hcb, hg2, _, hOb, b0, _, _, _, _, b5⟩ := (HQ.out.on hb7).six (i := 1) rfl
      have ea := (Value.slice.inj hva).1
      have eb := (Value.slice.inj hvb).1
      have eca := (Value.slice.inj hva).2.2
      have ecb := (Value.slice.inj hvb).2.2
      subst ea eb eca ecb
      clear hva hvb
      have hgl := Cl.gaps_len l 0
      have HS1 := Lib.hid (same_any _ _ l l w7 hmax hmax (Cl.Own.set hOa) ((HS.out.below hbw7).more hbw7.size))
      have HS2 := Lib.hid (fun (W : World) (hW : Below w7.heap.size w7 W) => same_any _ _ (gaps 0 l) (gaps 0 l) W (by have := HL.out.1; omega) (by have := HL.out.1; omega) (Cl.Own.set (Cl.Own.below hOb hW)) (Cl.Own.set (Cl.Own.below hv' hW)))
      rw [sameB_refl] at HS1
      simp only [sameB_refl] at HS2
      simp only [Nat.one_mul, Nat.reduceAdd] at a0 a5 b0 b5
      have HG2 := Lib.hid hg2
      have HB5 := Lib.hid b5
      clear hg1 hg2 hOa hOb hv' b0 hgl HM HMa HMb HTa HTb
      go_wp2_with fail
      refine HS1.out.mono ?_
      rintro e w8 ⟨rfl, hb8⟩
      have b8 := (hb8.cell (p := ⟨g2, 11, none⟩) HG2.out).trans HB5.out
      have hbw8 := hbw7.trans (hb8.mono hbw7.size)
      have HS3 := Lib.hid (HS2.out _ hb8)
      clear b5 hb8
      go_wp2_with fail
      refine HS3.out.mono ?_
      rintro e w9 ⟨rfl, hb9⟩
      have hbw9 := hbw8.trans (hb9.mono hbw8.size)
      go_wp2
      go_ret
      exact ⟨rfl, hbw9⟩

theorem progOnes_law (v : Value) (l : List Rg) (W : World) (hT : TabL W.heap.size W) (hS : SetV W.heap.size W v l) : Calls Tryz.prog 4 #[v] W fun e w' => e = .returned (.bool true) ∧ Below W.heap.size W w' := ones_law v l hS hT

end Go.Proofs.YtfngkclfdkeiaaaGreatDoor
