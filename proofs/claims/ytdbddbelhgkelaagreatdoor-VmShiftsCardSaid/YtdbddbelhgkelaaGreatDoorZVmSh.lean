/- VmShifts. -/
import Derived.Test.YtdbddbelhgkelaaGreatDoorZMWe
import Derived.Test.YtdbddbelhgkelaaGreatDoorZVmAf
import Derived.Test.YtdbddbelhgkelaaGreatDoorZVmAh
import Derived.Test.YtdbddbelhgkelaaGreatDoorZMRf
namespace Go.Proofs.YtdbddbelhgkelaaGreatDoor
open Go.RowKit
open Go.Proofs.YtdbddbelhgkelaaGreatDoor.Cl (Rg SetV SetAt rgCells info_three hasB)
variable {w w' w0 : World}

theorem get_byte (s : ByteArray) (j : Nat) (h : j < s.size) : (s[j]'h).toNat = at_ s.data.toList j := by
  unfold at_
  rw [List.getD_eq_getElem?_getD, List.getElem?_eq_getElem (by simpa using h)]
  rfl
theorem zed_zero (U : List Int) : zed 0 U = U := rfl
theorem zed_succ (n : Nat) (U : List Int) : zed (n + 1) U = 122 :: zed n U := by simp [zed, List.replicate_succ]

theorem str_ne {x : ByteArray} (h : x.toList.isEmpty = false) : ∃ c sw, x.data.toList = c :: sw := by
  obtain ⟨⟨l⟩⟩ := x
  cases l with
  | nil =>
    rw [ByteArray.toList, ByteArray.toList.loop] at h
    simp [ByteArray.size] at h
  | cons c sw => exact ⟨c, sw, rfl⟩
theorem zI_len_ (l : List Int) : (zI l).length = l.length := by simp [zI]
theorem zI_one_ (l : List Int) : ∀ y ∈ zI l, y.oneCell' = true := by
  intro y hy
  obtain ⟨z, _, rfl⟩ := List.mem_map.1 hy
  rfl
theorem own_one_ (w : World) (base : Nat) (z : Int) (h : base ≤ w.heap.size) : (w.alloc (.cells #[.int .i64 z] 3)).ownsRow base 3 1 (.slice (some ⟨w.heap.size, 0, none⟩) 1 1) 1 [.int .i64 z] :=
  ⟨by simp, .inr ⟨w.heap.size, 1, #[.int .i64 z], rfl, h, heap_alloc_new w _, Nat.le_refl _, by unfold maxLen; omega, rfl, by simp⟩⟩
theorem found_no {x : ByteArray} {uv : Value} {X : List In} {U : List Int} (hl : x.size ≤ 1000000) (hT : TabL w.heap.size w) (hx : prT x = X) (hX : PrOk X) (h0 : 0 < X.length) (hU : w.ownsRow 0 3 1 uv U.length (zI U)) (hle : U.length ≤ 2000)
    (hR : (findM X U 20000 4096 (U.length + 1) 0 (startM X)).1 = 0) : Calls Tryz.prog 23 #[.string x, uv] w fun e w' => e = .returned (.tuple #[.int .i64 0, .int .i64 0, .int .i64 0]) ∧ Below w.heap.size w w' := by
  have h := found_any (a := 0) (b := 0) hl hT hx hX h0 hU hle rfl (.inl hR)
  rw [hR] at h
  exact h
theorem found_yes {x : ByteArray} {uv : Value} {X : List In} {U : List Int} {s : Ms} {a b : Int} (hl : x.size ≤ 1000000) (hT : TabL w.heap.size w) (hx : prT x = X) (hX : PrOk X) (h0 : 0 < X.length) (hU : w.ownsRow 0 3 1 uv U.length (zI U)) (hle : U.length ≤ 2000)
    (hR : findM X U 20000 4096 (U.length + 1) 0 (startM X) = (1, s)) (ha : s.sl[0]? = some a) (hb : s.sl[1]? = some b) : Calls Tryz.prog 23 #[.string x, uv] w fun e w' => e = .returned (.tuple #[.int .i64 1, .int .i64 a, .int .i64 b]) ∧ Below w.heap.size w w' :=
  found_any hl hT hx hX h0 hU hle hR (.inr ⟨rfl, ha, hb⟩)

set_option maxRecDepth 100000 in
set_option maxHeartbeats 4000000 in
theorem shiftsL (x : ByteArray) (dv : Value) (sd : List UInt8) (n : Int) (hn : -9223372036854775808 ≤ n ∧ n ≤ 9223372036854775807) (hT : TabL w.heap.size w) (hd : Bytes w.heap.size w dv sd) :
    Calls Tryz.prog 6 #[.string x, dv, .int .i64 n] w fun e w' => e = .returned (.bool true) ∧ Below w.heap.size w w' := by
  have HT := Lib.hid hT
  have HD := Lib.hid hd
  have HA := Lib.hid (anchor6_any hT)
  obtain ⟨D, dcap, rfl, hdcap, _⟩ := hd
  clear hT
  by_cases hl : x.size ≤ 60 ∧ sd.length ≤ 30 ∧ 0 ≤ n ∧ n ≤ 20
  · obtain ⟨hl1, hl2, hl3, hl4⟩ := hl
    have hl1i : (x.size : Int) ≤ 60 := by omega
    have hl2i : (sd.length : Int) ≤ 30 := by omega
    go_enter Tryz.func6, Tryz.ntmps6
    go_wp2_with fail
    refine HA.out.mono ?_
    rintro e w1 ⟨rfl, hb1⟩
    have HB1 := Lib.hid hb1
    clear hb1
    go_wp2
    go_loopw [7, 8] (fun _ _ wr => ∃ p : Nat, wr = w1.iter x p ∧ p ≤ x.size ∧ p ≤ 21 ∧ ∀ j, j < p → 97 ≤ at_ x.data.toList j ∧ at_ x.data.toList j ≤ 121) (fun _ _ wr => x.size - wr.iterPos w1.heap.size)
    case atStart => exact ⟨0, rfl, Nat.zero_le _, by omega, fun j h => absurd h (by omega)⟩
    case round =>
      obtain ⟨p, rfl, hp, hp21, hlo⟩ := hrel
      by_cases hlt : p < x.size
      · by_cases ha : (x[p]'hlt).toNat < 128
        · have hnx : ∀ ty, (Instr.next (.pointer (some ⟨w1.heap.size, 0, none⟩)) true ty).run Tryz.prog (w1.iter x p) = _ := fun ty => run_next_ascii w1 x p ty hlt ha
          have hgb := get_byte x p hlt
          generalize (x[p]'hlt).toNat = c at hnx hgb ha
          have HGb := Lib.hid hgb
          have HLo := Lib.hid hlo
          have HLt := Lib.hid hlt
          clear hgb hlo hlt
          have hbw : Below w.heap.size w (w1.iter x (p + 1)) := HB1.out.alloc HB1.out.size _
          have HBw := Lib.hid hbw
          clear hbw
          by_cases hok : (97 ≤ c ∧ c ≤ 121) ∧ p ≤ 20
          · have h1 : (97 : Int) ≤ (c : Int) := by omega
            have h2 : (c : Int) ≤ 121 := by omega
            have h3 : (p : Int) ≤ 20 := by omega
            go_wp2
            go_roundw
            case rel => exact ⟨p + 1, rfl, HLt.out, by omega, fun j hj => by
              by_cases e : j = p
              · rw [e, ← HGb.out]; exact hok.1
              · exact HLo.out j (by omega)⟩
            case measure => have := HLt.out; simp; omega
          · have h1 : (c : Int) < 97 ∨ 121 < (c : Int) ∨ 20 < (p : Int) := by omega
            go_wp2
            all_goals first | (go_ret; exact ⟨rfl, HBw.out⟩) | skip
        · have hnx : ∀ ty, (Instr.next (.pointer (some ⟨w1.heap.size, 0, none⟩)) true ty).run Tryz.prog (w1.iter x p) = _ := fun ty => run_next_any w1 x p ty hlt
          have hhi := (decode_high x p hlt (by omega)).1
          generalize Utf8.decode x p = dd at hnx hhi
          obtain ⟨c, wd⟩ := dd
          simp only at hnx hhi
          have hci : 121 < (c : Int) := by omega
          have hbw : Below w.heap.size w (w1.iter x (p + wd)) := HB1.out.alloc HB1.out.size _
          have HBw := Lib.hid hbw
          clear hbw hlo
          go_wp2
          all_goals first | (go_ret; exact ⟨rfl, HBw.out⟩) | skip
      · obtain rfl : p = x.size := by omega
        have hnx : ∀ ty, (Instr.next (.pointer (some ⟨w1.heap.size, 0, none⟩)) true ty).run Tryz.prog (w1.iter x x.size) = _ := fun ty => run_next_end w1 x x.size ty (by omega)
        have HLow : Hid (∀ c ∈ x.data.toList, 97 ≤ c.toNat ∧ c.toNat ≤ 121) := Lib.hid (fun c hc => by
          obtain ⟨j, hj, rfl⟩ := List.getElem_of_mem hc
          have := hlo j (by simpa using hj)
          have e : at_ x.data.toList j = (x.data.toList[j]).toNat := by simp only [at_, List.getD_eq_getElem?_getD, List.getElem?_eq_getElem hj, Option.getD_some]
          rw [e] at this
          exact this)
        clear hlo hlt
        have hb2 : Below w.heap.size w (w1.iter x x.size) := HB1.out.alloc HB1.out.size _
        have HB2 := Lib.hid hb2
        clear hb2
        go_upto_region 10 with (fail)
        clear hnx
        generalize hwi : w1.iter x x.size = wi at HB2 ⊢
        clear hwi
        obtain ⟨i0, hi, hz0, hz1, hz2⟩ := Cl.info_three Cl.info3
        go_wp2_with fail
        all_goals first | (go_ret; exact ⟨rfl, HB2.out⟩) | skip
        · skip
          refine (split_any D dcap sd (by omega) _ (HT.out.on HB2.out).tabs ((HD.out.below HB2.out).more HB2.out.size)).mono ?_
          rintro e w3 ⟨v, rfl, hU, hb3⟩
          have HB3 := Lib.hid (HB2.out.trans (hb3.mono HB2.out.size))
          obtain ⟨U, hUd⟩ : ∃ U, (un sd).map (fun n : Nat => (n : Int)) = U := ⟨_, rfl⟩
          have hul : (un sd).length = U.length := by rw [← hUd, List.length_map]
          have hui : ints (un sd) = zI U := by rw [← hUd, zI, List.map_map]; rfl
          have hue : U.length ≤ 30 := by rw [← hul]; have := un_len sd; omega
          rw [hul, hui] at hU
          have HU := Lib.hid hU
          obtain ⟨c, sw, hs⟩ := str_ne (x := x) (by assumption)
          have hszl : sw.length + 1 = x.size := by have := congrArg List.length hs; simp at this; omega
          have HS := Lib.hid hs
          have HUe := Lib.hid hue
          have HSz := Lib.hid hszl
          obtain ⟨m, rfl⟩ : ∃ m : Nat, n = m := ⟨n.toNat, by omega⟩
          clear hU hb3 hul hui hUd hs hszl
          go_wp2_with (first
            | (at_builtin
               refine wpList_append_row _ rfl (.tmp 55) (.tmp 56) 48 rfl w3.heap.size 3 i0 (.int .i64 0) 8 Tryz.underlying48 hi hz0 hz1 hz2 rfl _ 0 [] rfl (own_empty _ _ _ (Nat.le_refl _)) _ _ (zI U) rfl (Row.of_own (HU.out.alloc _)) (zI_one_ _) (by rw [zI_len_]; unfold maxLen; omega) (by rw [zI_len_]; omega) (by simp) ?_
               intro v4 w4 o4 g4
               have C4 : Below w3.heap.size w3 w4 := below_append ((Below.refl _ _).alloc (Nat.le_refl _) _) (own_empty _ _ _ (Nat.le_refl _)) (Nat.le_refl _) g4 (by simp)
               rw [List.nil_append, zI_len_, Nat.zero_add] at o4
               clear g4)
            | go_in)
          have HO4 := Lib.hid o4
          have HC4 := Lib.hid C4
          clear o4 C4
          go_wp2
          go_loopw [10, 59] (fun V i wr => ∃ k : Nat, k ≤ m ∧ i = .int .i64 k ∧ wr.ownsRow w3.heap.size 3 1 V (zed k U).length (zI (zed k U)) ∧ Below w3.heap.size w3 wr) (fun _ i _ => m - (intOf i).toNat)
          case atStart => exact ⟨0, Nat.zero_le _, rfl, HO4.out, HC4.out⟩
          case round =>
            obtain ⟨k, hk, rfl, hrow, hbel⟩ := hrel
            have hzl := zed_len (n := k) (U := U)
            by_cases hlt : k < m
            · have hsz := hbel.size
              go_wp2_with (first
                | (at_builtin
                   refine wpList_append_row _ rfl (.tmp 61) (.tmp 62) 48 rfl w3.heap.size 3 i0 (.int .i64 0) 8 Tryz.underlying48 hi hz0 hz1 hz2 rfl _ 1 [.int .i64 122] rfl (own_one_ _ _ _ hsz) _ _ (zI (zed k U)) rfl (Row.of_own (hrow.alloc _)) (zI_one_ _) (by rw [zI_len_]; unfold maxLen; omega) (by rw [zI_len_]; omega) (by simp; omega) ?_
                   intro v5 w5 o5 g5
                   have C5 : Below w3.heap.size w3 w5 := below_append (hbel.alloc hsz _) (own_one_ _ _ _ hsz) (Nat.le_refl _) g5 (by simp; omega)
                   have O5 : w5.ownsRow w3.heap.size 3 1 v5 (zed (k + 1) U).length (zI (zed (k + 1) U)) := by
                     rw [zI_len_, Nat.add_comm] at o5
                     rw [zed_succ]
                     exact o5
                   clear g5 o5)
                | go_in)
              have HO5 := Lib.hid O5
              have HC5 := Lib.hid C5
              clear O5 C5
              go_roundw
              case rel => exact ⟨k + 1, by omega, by go_num, HO5.out, HC5.out⟩
              case measure => simp [intOf]; omega
            · obtain rfl : k = m := by omega
              have HB6 := Lib.hid (HB3.out.trans (hbel.mono HB3.out.size))
              have HU6 : Hid (wr.ownsRow 0 3 1 v U.length (zI U)) := Lib.hid (own_kept (HU.out.mono (Nat.zero_le _)) fun i hi _ _ => hbel.block i hi)
              have hlow : Low x.data.toList := fun c hc => ⟨(HLow.out c hc).1, by have := (HLow.out c hc).2; omega⟩
              have hprt := prT_low (x := x) (s := x.data.toList) rfl hlow (by simp; omega)
              have hc121 : c.toNat ≤ 121 := (HLow.out c (by rw [HS.out]; simp)).2
              rw [HS.out] at hprt
              have hshift := shifts (U := U) (n := k) (stack := 4096) hc121 (w := sw) (by have := HSz.out; omega) HUe.out (by omega)
              have hok := plain_ok (c :: sw) (by have := HSz.out; simp; omega)
              have h0 : 0 < (plainC (c :: sw)).length := by simp [plainC]
              have hV0 : wr.ownsRow 0 3 1 u10 (zed k U).length (zI (zed k U)) := hrow.mono (Nat.zero_le _)
              have HV0 := Lib.hid hV0
              have HZ := Lib.hid hzl
              clear hlow hrow hbel hV0 hzl hlt hk
              rcases hshift with ⟨e1, e2⟩ | ⟨q, s1, s2, e, e1, e2, a1, b1, a2, b2, hq, he⟩
              · have F1 := Lib.hid (fun (w : World) (hT : TabL w.heap.size w) (hU : w.ownsRow 0 3 1 v U.length (zI U)) => found_no (x := x) (by omega) hT hprt hok h0 hU (by have := HUe.out; omega) e1)
                have F2 := Lib.hid (fun (w : World) (hT : TabL w.heap.size w) (hU : w.ownsRow 0 3 1 u10 (zed k U).length (zI (zed k U))) => found_no (x := x) (by omega) hT hprt hok h0 hU (by have := HUe.out; have := HZ.out; omega) e2)
                clear e1 e2 hprt hok h0
                go_wp2_with fail
                refine (F1.out wr (HT.out.on HB6.out) HU6.out).mono ?_
                rintro e w7 ⟨rfl, hb7⟩
                have HB7 := Lib.hid (HB6.out.trans (hb7.mono HB6.out.size))
                have HV7 : Hid (w7.ownsRow 0 3 1 u10 (zed k U).length (zI (zed k U))) := Lib.hid (own_kept HV0.out fun i hi _ _ => hb7.block i hi)
                clear hb7
                go_wp2_with fail
                refine (F2.out w7 (HT.out.on HB7.out) HV7.out).mono ?_
                rintro e w8 ⟨rfl, hb8⟩
                have HB8 := Lib.hid (HB7.out.trans (hb8.mono HB7.out.size))
                clear hb8
                go_wp2
                go_ret
                exact ⟨rfl, HB8.out⟩
              · have F1 := Lib.hid (fun (w : World) (hT : TabL w.heap.size w) (hU : w.ownsRow 0 3 1 v U.length (zI U)) => found_yes (x := x) (by omega) hT hprt hok h0 hU (by have := HUe.out; omega) e1 a1 b1)
                have F2 := Lib.hid (fun (w : World) (hT : TabL w.heap.size w) (hU : w.ownsRow 0 3 1 u10 (zed k U).length (zI (zed k U))) => found_yes (x := x) (by omega) hT hprt hok h0 hU (by have := HUe.out; have := HZ.out; omega) e2 a2 b2)
                rw [Int.natCast_add, Int.natCast_add] at F2
                clear e1 e2 hprt hok h0 a1 a2 b1 b2
                go_wp2_with fail
                refine (F1.out wr (HT.out.on HB6.out) HU6.out).mono ?_
                rintro e w7 ⟨rfl, hb7⟩
                have HB7 := Lib.hid (HB6.out.trans (hb7.mono HB6.out.size))
                have HV7 : Hid (w7.ownsRow 0 3 1 u10 (zed k U).length (zI (zed k U))) := Lib.hid (own_kept HV0.out fun i hi _ _ => hb7.block i hi)
                clear hb7
                go_wp2_with fail
                refine (F2.out w7 (HT.out.on HB7.out) HV7.out).mono ?_
                rintro e w8 ⟨rfl, hb8⟩
                have HB8 := Lib.hid (HB7.out.trans (hb8.mono HB7.out.size))
                clear hb8
                go_wp2
                go_ret
                exact ⟨rfl, HB8.out⟩
  · have hor : 60 < (x.size : Int) ∨ 30 < (sd.length : Int) ∨ n < 0 ∨ 20 < n := by omega
    go_enter Tryz.func6, Tryz.ntmps6
    go_wp2_with fail
    refine HA.out.mono ?_
    rintro e w1 ⟨rfl, hb1⟩
    go_wp2
    all_goals first | (go_ret; exact ⟨rfl, hb1⟩) | skip
theorem vmShifts_law (x : ByteArray) (dv : Value) (sd : List UInt8) (n : Int) (w : World) (hT : TabL w.heap.size w) (hd : Bytes w.heap.size w dv sd) (hn : -9223372036854775808 ≤ n ∧ n ≤ 9223372036854775807) :
    Calls Tryz.prog 6 #[.string x, dv, .int .i64 n] w fun e w' => e = .returned (.bool true) ∧ Below w.heap.size w w' := shiftsL x dv sd n hn hT hd

end Go.Proofs.YtdbddbelhgkelaaGreatDoor
