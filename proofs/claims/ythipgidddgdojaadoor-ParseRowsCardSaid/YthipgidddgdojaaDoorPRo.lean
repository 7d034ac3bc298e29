/- ParseRows' walk. -/
import Derived.Test.YthipgidddgdojaaDoorPWr
import Derived.Test.YthipgidddgdojaaDoorPNine
namespace Go.Proofs.YthipgidddgdojaaDoor
open Go.RowKit
variable {w w' : World}

theorem catN_kind (l : List Nd) : (catN l).kind = 2 := rfl
theorem catN_lo (l : List Nd) : (catN l).lo = 0 := rfl
theorem catN_hi (l : List Nd) : (catN l).hi = 0 := rfl
theorem catN_mode (l : List Nd) : (catN l).mode = 0 := rfl
theorem catN_ref (l : List Nd) : (catN l).ref = 0 := rfl
theorem catN_set (l : List Nd) : (catN l).set.length = 0 := rfl
theorem catN_kids (a b : Nd) : (catN [a, b]).kids.length = 2 := rfl
theorem altN_kind (l : List Nd) : (altN l).kind = 3 := rfl
theorem altN_lo (l : List Nd) : (altN l).lo = 0 := rfl
theorem altN_hi (l : List Nd) : (altN l).hi = 0 := rfl
theorem altN_mode (l : List Nd) : (altN l).mode = 0 := rfl
theorem altN_ref (l : List Nd) : (altN l).ref = 0 := rfl
theorem altN_set (l : List Nd) : (altN l).set.length = 0 := rfl
theorem altN_kids (a b : Nd) : (altN [a, b]).kids.length = 2 := rfl
theorem rows_eq0 (x y : ByteArray) : (⟨#[40, 63, 58]⟩ : ByteArray) ++ x ++ (⟨#[41]⟩ : ByteArray) ++ (⟨#[]⟩ : ByteArray) ++ (⟨#[40, 63, 58]⟩ : ByteArray) ++ y ++ (⟨#[41]⟩ : ByteArray) = ⟨(40 :: 63 :: 58 :: (x.data.toList ++ 41 :: 40 :: 63 :: 58 :: (y.data.toList ++ [41]))).toArray⟩ := by
  apply ByteArray.ext
  simp [ByteArray.data_append]
theorem rows_eq1 (x y : ByteArray) : (⟨#[40, 63, 58]⟩ : ByteArray) ++ x ++ (⟨#[41]⟩ : ByteArray) ++ (⟨#[124]⟩ : ByteArray) ++ (⟨#[40, 63, 58]⟩ : ByteArray) ++ y ++ (⟨#[41]⟩ : ByteArray) = ⟨(40 :: 63 :: 58 :: (x.data.toList ++ 41 :: 124 :: 40 :: 63 :: 58 :: (y.data.toList ++ [41]))).toArray⟩ := by
  apply ByteArray.ext
  simp [ByteArray.data_append]
theorem ok_of {N : Nat} {s : List UInt8} {r : Except Flt (Nd × Nat × Bool)} (hN : 1026 ≤ N) (h : r = parse N s) (h0 : (fOf r).1 = 0) : parse N s = .ok (ndOf r, gOf r, foOf r) := by
  cases r with
  | ok z => rw [← h]; rfl
  | error f => exact absurd h0 (parse_code hN h.symm)
theorem gOf_nine {N : Nat} {s : List UInt8} {r : Except Flt (Nd × Nat × Bool)} (h : r = parse N s) : gOf r ≤ 9 := by
  cases r with
  | ok z => obtain ⟨nd, g, fo⟩ := z; exact parse_nine h.symm
  | error f => exact Nat.zero_le _

set_option maxRecDepth 100000 in
set_option maxHeartbeats 2000000 in
theorem rows_law (x y : ByteArray) (hT : TabsAt w.heap.size w) : Calls Tryd.prog 6 #[.string x, .string y] w fun e w' => e = .returned (.bool true) ∧ Below w.heap.size w w' := by
  have HT := Lib.hid hT
  have HA := Lib.hid (anchor_any hT)
  clear hT
  by_cases hx : 100 < x.size
  · have hx' : (100 : Int) < (x.size : Int) := by omega
    go_enter Tryd.func6, Tryd.ntmps6
    go_wp2_with fail
    refine HA.out.mono ?_
    rintro e w1 ⟨rfl, hb1⟩
    go_wp2
    go_ret
    exact ⟨rfl, hb1⟩
  have hx' : ¬ (100 : Int) < (x.size : Int) := by omega
  by_cases hy : 100 < y.size
  · have hy' : (100 : Int) < (y.size : Int) := by omega
    go_enter Tryd.func6, Tryd.ntmps6
    go_wp2_with fail
    refine HA.out.mono ?_
    rintro e w1 ⟨rfl, hb1⟩
    go_wp2
    go_ret
    exact ⟨rfl, hb1⟩
  have hy' : ¬ (100 : Int) < (y.size : Int) := by omega
  have hxl : x.data.toList.length ≤ 100 := by have : x.data.toList.length = x.size := rfl; omega
  have hyl : y.data.toList.length ≤ 100 := by have : y.data.toList.length = y.size := rfl; omega
  have HPx : Hid (∀ W : World, TabsAt W.heap.size W → Calls Tryd.prog 10 #[.string x] W (ParsePost W (parse 1027 x.data.toList))) := Lib.hid (fun W hW => parse_any (s := x.data.toList) 1027 (by omega) (by omega) hW)
  have HPy : Hid (∀ W : World, TabsAt W.heap.size W → Calls Tryd.prog 10 #[.string y] W (ParsePost W (parse 1026 y.data.toList))) := Lib.hid (fun W hW => parse_any (s := y.data.toList) 1026 (by omega) (by omega) hW)
  obtain ⟨rx, hrx⟩ : ∃ rx, rx = parse 1027 x.data.toList := ⟨_, rfl⟩
  obtain ⟨ry, hry⟩ : ∃ ry, ry = parse 1026 y.data.toList := ⟨_, rfl⟩
  rw [← hrx] at HPx
  rw [← hry] at HPy
  have HRx := Lib.hid (ok_of (by omega) hrx)
  have HRy := Lib.hid (ok_of (by omega) hry)
  have HGx := Lib.hid (gOf_nine hrx)
  have HGy := Lib.hid (gOf_nine hry)
  clear hrx hry
  go_enter Tryd.func6, Tryd.ntmps6
  go_wp2_with fail
  refine HA.out.mono ?_
  rintro e w0 ⟨rfl, hb0⟩
  have HT0 := Lib.hid (tabs_on HT.out hb0 hb0.size)
  go_wp2_with fail
  refine (HPx.out _ HT0.out).mono ?_
  intro e w1 hp
  obtain ⟨A1, A2, p1, p2, rfl, hN, hb1⟩ := hp.uni
  generalize ndOf rx = nx at hN HRx ⊢
  generalize gOf rx = g1 at HRx HGx ⊢
  generalize foOf rx = fo1 at HRx ⊢
  generalize (fOf rx).1 = fc1 at HRx ⊢
  generalize (fOf rx).2 = fp1
  unfold pCells
  have P1 := Lib.hid (put_new w0 w1 #[.int .i64 nx.kind, .int .i64 nx.lo, .int .i64 nx.hi, .int .i64 nx.mode, .int .i64 nx.ref, .slice A1 nx.set.length p1, .slice A2 nx.kids.length p2, .int .i64 (g1 : Nat), .bool fo1] #[.int .i64 (fc1 : Nat), .int .i64 (fp1 : Nat)] hb1)
  have HN1 := Lib.hid (hN.on (put_on w1 #[.int .i64 nx.kind, .int .i64 nx.lo, .int .i64 nx.hi, .int .i64 nx.mode, .int .i64 nx.ref, .slice A1 nx.set.length p1, .slice A2 nx.kids.length p2, .int .i64 (g1 : Nat), .bool fo1] #[.int .i64 (fc1 : Nat), .int .i64 (fp1 : Nat)]))
  clear hN hp HPx
  go_upto_region 6 with (fail)
  generalize (w1.alloc (.cells #[.int .i64 nx.kind, .int .i64 nx.lo, .int .i64 nx.hi, .int .i64 nx.mode, .int .i64 nx.ref, .slice A1 nx.set.length p1, .slice A2 nx.kids.length p2, .int .i64 (g1 : Nat), .bool fo1] 29)).alloc (.cells #[.int .i64 (fc1 : Nat), .int .i64 (fp1 : Nat)] 32) = v1 at *
  have hbv1 := hb0.trans (P1.out.keep.mono hb0.size)
  have HT1 := Lib.hid (tabs_on HT.out hbv1 hbv1.size)
  go_wp2_with fail
  refine (HPy.out _ HT1.out).mono ?_
  intro e w2 hp
  obtain ⟨B1, B2, q1, q2, rfl, hN, hb2⟩ := hp.uni
  generalize ndOf ry = ny at hN HRy ⊢
  generalize gOf ry = g2 at HRy HGy ⊢
  generalize foOf ry = fo2 at HRy ⊢
  generalize (fOf ry).1 = fc2 at HRy ⊢
  generalize (fOf ry).2 = fp2
  unfold pCells
  have P2 := Lib.hid (put_new v1 w2 #[.int .i64 ny.kind, .int .i64 ny.lo, .int .i64 ny.hi, .int .i64 ny.mode, .int .i64 ny.ref, .slice B1 ny.set.length q1, .slice B2 ny.kids.length q2, .int .i64 (g2 : Nat), .bool fo2] #[.int .i64 (fc2 : Nat), .int .i64 (fp2 : Nat)] hb2)
  have HN2 := Lib.hid (hN.on (put_on w2 #[.int .i64 ny.kind, .int .i64 ny.lo, .int .i64 ny.hi, .int .i64 ny.mode, .int .i64 ny.ref, .slice B1 ny.set.length q1, .slice B2 ny.kids.length q2, .int .i64 (g2 : Nat), .bool fo2] #[.int .i64 (fc2 : Nat), .int .i64 (fp2 : Nat)]))
  clear hN hp HPy
  go_upto_region 7 with (fail)
  generalize (w2.alloc (.cells #[.int .i64 ny.kind, .int .i64 ny.lo, .int .i64 ny.hi, .int .i64 ny.mode, .int .i64 ny.ref, .slice B1 ny.set.length q1, .slice B2 ny.kids.length q2, .int .i64 (g2 : Nat), .bool fo2] 29)).alloc (.cells #[.int .i64 (fc2 : Nat), .int .i64 (fp2 : Nat)] 32) = v2 at *
  have hbv := hbv1.trans (P2.out.keep.mono hbv1.size)
  have hc1 := (P1.out.node.on P2.out.keep).nine
  have hc2 := P2.out.node.nine
  have hf1a := (P1.out.flt.on P2.out.keep).cell 0
  have hf2a := P2.out.flt.cell 0
  simp at hf1a hf2a
  by_cases h1 : ¬ fc1 = 0
  · have h1' := off_zero h1
    go_wp2
    go_ret
    exact ⟨rfl, hbv⟩
  obtain rfl : fc1 = 0 := by omega
  simp only [Int.cast_ofNat_Int] at hf1a
  by_cases h2 : ¬ fc2 = 0
  · have h2' := off_zero h2
    go_wp2
    go_ret
    exact ⟨rfl, hbv⟩
  obtain rfl : fc2 = 0 := by omega
  simp only [Int.cast_ofNat_Int] at hf2a
  by_cases h3 : fo1 = true
  · subst h3
    go_wp2
    go_ret
    exact ⟨rfl, hbv⟩
  obtain rfl : fo1 = false := by simpa using h3
  by_cases h4 : fo2 = true
  · subst h4
    go_wp2
    go_ret
    exact ⟨rfl, hbv⟩
  obtain rfl : fo2 = false := by simpa using h4
  by_cases h5 : 0 < g1 + g2
  · have h5' : (0 : Int) < (g1 : Int) + (g2 : Int) := by omega
    have h6 : (g1 : Int) ≤ 9 := by have := HGx.out; omega
    have h7 : (g2 : Int) ≤ 9 := by have := HGy.out; omega
    go_wp2
    go_ret
    exact ⟨rfl, hbv⟩
  obtain rfl : g1 = 0 := by omega
  obtain rfl : g2 = 0 := by omega
  clear h1 h2 h3 h4 h5
  simp only [Int.cast_ofNat_Int] at P1 P2 hc1 hc2 ⊢
  have HRx' := Lib.hid (HRx.out rfl)
  have HRy' := Lib.hid (HRy.out rfl)
  clear HRx HRy
  have HRx := HRx'
  have HRy := HRy'
  have hal := (Below.refl v2.heap.size v2).alloc (Nat.le_refl _) (.cells #[.string ⟨#[]⟩, .string ⟨#[124]⟩] 9)
  have k12 := P2.out.keep
  have HW := Lib.hid (Blk.new v2 9 #[.string ⟨#[]⟩, .string ⟨#[124]⟩])
  have HG1 := Lib.hid ((P1.out.node.on k12).on hal)
  have HG2 := Lib.hid (P2.out.node.on hal)
  have HX := Lib.hid ((HN1.out.on k12).on hal)
  have HY := Lib.hid (HN2.out.on hal)
  have hbvr := hbv.trans (hal.mono hbv.size)
  go_upto_region 10 with (fail)
  clear P1 P2 HN1 HN2 hc1 hc2 hf1a hf2a HT0 HT1 k12
  obtain ⟨vr, hvr⟩ : ∃ vr, vr = v2.alloc (.cells #[.string ⟨#[]⟩, .string ⟨#[124]⟩] 9) := ⟨_, rfl⟩
  rw [← hvr] at HW HG1 HG2 HX HY hbvr ⊢
  clear hal hvr
  go_loopw [59] (fun i wr => ∃ k : Nat, k ≤ 2 ∧ i = .int .i64 k ∧ Below vr.heap.size vr wr) (fun i _ => 2 - (intOf i).toNat)
  case atStart => exact ⟨0, by omega, rfl, Below.refl _ _⟩
  case round =>
    obtain ⟨k, hk, rfl, hbel⟩ := hrel
    have hbr := hbvr.trans (hbel.mono hbvr.size)
    have HTr := Lib.hid (tabs_on HT.out hbr hbr.size)
    have hw0 := (HW.out.on hbel).cell 0
    have hw1 := (HW.out.on hbel).cell 1
    simp at hw0 hw1
    obtain rfl | rfl | rfl : k = 0 ∨ k = 1 ∨ k = 2 := by omega
    · have HP3 : Hid (∀ W : World, TabsAt W.heap.size W → Calls Tryd.prog 10 #[.string ((⟨#[40, 63, 58]⟩ : ByteArray) ++ x ++ (⟨#[41]⟩ : ByteArray) ++ (⟨#[]⟩ : ByteArray) ++ (⟨#[40, 63, 58]⟩ : ByteArray) ++ y ++ (⟨#[41]⟩ : ByteArray))] W (ParsePost W (parse 1031 ((40 :: 63 :: 58 :: (x.data.toList ++ 41 :: 40 :: 63 :: 58 :: (y.data.toList ++ [41]))))))) := Lib.hid (fun W hW => by
        rw [rows_eq0]
        exact parse_any (s := (40 :: 63 :: 58 :: (x.data.toList ++ 41 :: 40 :: 63 :: 58 :: (y.data.toList ++ [41])))) 1031 (by omega) (by have : x.data.toList.length = x.size := rfl; have : y.data.toList.length = y.size := rfl; simp; omega) hW)
      rcases parse_cat (N := 1026) HRx.out HRy.out hxl hyl with h2 | ⟨p, h2⟩
      · rw [h2] at HP3
        clear h2
        go_wp2_with fail
        refine (HP3.out _ HTr.out).mono ?_
        rintro e w3 ⟨E1, E2, t1, t2, rfl, hN, hb3⟩
        obtain ⟨_, _, b, off, he, -, -, -, -, hk⟩ := hN.parts
        obtain ⟨rfl, -, rfl⟩ := Value.slice.inj he
        obtain ⟨hA, hbk, D1, D2, s1, s2, hND, hC⟩ := hk 0 nx rfl
        obtain ⟨-, -, F1, F2, u1, u2, hND', hC'⟩ := hk 1 ny rfl
        subst hA
        rw [Nat.zero_mul, Nat.add_zero] at hC
        rw [Nat.one_mul] at hC'
        have HK2 : Hid (NodeV (fun b => b < w3.heap.size) w3 nx (.slice D1 nx.set.length s1) (.slice D2 nx.kids.length s2) ∧ NodeV (fun b => b < w3.heap.size) w3 ny (.slice F1 ny.set.length u1) (.slice F2 ny.kids.length u2) ∧ NCells w3 b off nx (.slice D1 nx.set.length s1) (.slice D2 nx.kids.length s2) ∧ NCells w3 b (off + 7) ny (.slice F1 ny.set.length u1) (.slice F2 ny.kids.length u2) ∧ b < w3.heap.size) := Lib.hid ⟨hND, hND', hC, hC', hbk⟩
        clear hN hND hND' hk hC hC' he
        unfold pCells
        simp only [catN_kind, catN_lo, catN_hi, catN_mode, catN_ref, catN_set, catN_kids]
        have P3 := Lib.hid (put_new wr w3 #[.int .i64 2, .int .i64 0, .int .i64 0, .int .i64 0, .int .i64 0, .slice E1 0 t1, .slice (some ⟨b, off, none⟩) 2 t2, .int .i64 0, .bool false] #[.int .i64 0, .int .i64 0] hb3)
        have hk2 := put_on w3 #[.int .i64 2, .int .i64 0, .int .i64 0, .int .i64 0, .int .i64 0, .slice E1 0 t1, .slice (some ⟨b, off, none⟩) 2 t2, .int .i64 0, .bool false] #[.int .i64 0, .int .i64 0]
        go_upto_region 13 with (fail)
        generalize (w3.alloc (.cells #[.int .i64 2, .int .i64 0, .int .i64 0, .int .i64 0, .int .i64 0, .slice E1 0 t1, .slice (some ⟨b, off, none⟩) 2 t2, .int .i64 0, .bool false] 29)).alloc (.cells #[.int .i64 0, .int .i64 0] 32) = v3 at *
        have hf3a := P3.out.flt.cell 0
        simp at hf3a
        have HK3 := Lib.hid (And.intro (HK2.out.1.on hk2) (And.intro (HK2.out.2.1.on hk2) (And.intro (HK2.out.2.2.1.on (hk2.block b HK2.out.2.2.2.2)) (And.intro (HK2.out.2.2.2.1.on (hk2.block b HK2.out.2.2.2.2)) (Nat.lt_of_lt_of_le HK2.out.2.2.2.2 hk2.size)))))
        have hb13 := hbel.trans (P3.out.keep.mono hbel.size)
        have HSS : Hid ((fun W => Blk W w3.heap.size 29 #[.int .i64 2, .int .i64 0, .int .i64 0, .int .i64 0, .int .i64 0, .slice E1 0 t1, .slice (some ⟨b, off, none⟩) 2 t2, .int .i64 0, .bool false] ∧ Blk W w1.heap.size 29 #[.int .i64 nx.kind, .int .i64 nx.lo, .int .i64 nx.hi, .int .i64 nx.mode, .int .i64 nx.ref, .slice A1 nx.set.length p1, .slice A2 nx.kids.length p2, .int .i64 0, .bool false] ∧ Blk W w2.heap.size 29 #[.int .i64 ny.kind, .int .i64 ny.lo, .int .i64 ny.hi, .int .i64 ny.mode, .int .i64 ny.ref, .slice B1 ny.set.length q1, .slice B2 ny.kids.length q2, .int .i64 0, .bool false] ∧ NCells W b off nx (.slice D1 nx.set.length s1) (.slice D2 nx.kids.length s2) ∧ NCells W b (off + 7) ny (.slice F1 ny.set.length u1) (.slice F2 ny.kids.length u2)) v3) := Lib.hid ⟨P3.out.node, HG1.out.on hb13, HG2.out.on hb13, HK3.out.2.2.1, HK3.out.2.2.2.1⟩
        have HX3 := Lib.hid (HX.out.on hb13)
        have HY3 := Lib.hid (HY.out.on hb13)
        have hbv3 := hbr.trans (P3.out.keep.mono hbr.size)
        clear HK2 hk2 P3 HP3
        go_upto_region 16 with (fail)
        refine wp_region_held_drew (S := (fun W => Blk W w3.heap.size 29 #[.int .i64 2, .int .i64 0, .int .i64 0, .int .i64 0, .int .i64 0, .slice E1 0 t1, .slice (some ⟨b, off, none⟩) 2 t2, .int .i64 0, .bool false] ∧ Blk W w1.heap.size 29 #[.int .i64 nx.kind, .int .i64 nx.lo, .int .i64 nx.hi, .int .i64 nx.mode, .int .i64 nx.ref, .slice A1 nx.set.length p1, .slice A2 nx.kids.length p2, .int .i64 0, .bool false] ∧ Blk W w2.heap.size 29 #[.int .i64 ny.kind, .int .i64 ny.lo, .int .i64 ny.hi, .int .i64 ny.mode, .int .i64 ny.ref, .slice B1 ny.set.length q1, .slice B2 ny.kids.length q2, .int .i64 0, .bool false] ∧ NCells W b off nx (.slice D1 nx.set.length s1) (.slice D2 nx.kids.length s2) ∧ NCells W b (off + 7) ny (.slice F1 ny.set.length u1) (.slice F2 ny.kids.length u2))) (by kernel_rfl) HSS.out (fun hHeld => ?_)
        have hb5 := hbv3.drew
        have hc5 := hb13.drew
        have HNX : Hid (NodeV (fun b => b < v3.drew.heap.size) v3.drew nx (.slice A1 nx.set.length p1) (.slice A2 nx.kids.length p2)) := Lib.hid (HX3.out.on (Below.refl _ v3).drew)
        have HNY : Hid (NodeV (fun b => b < v3.drew.heap.size) v3.drew ny (.slice B1 ny.set.length q1) (.slice B2 ny.kids.length q2)) := Lib.hid (HY3.out.on (Below.refl _ v3).drew)
        have HKX : Hid (NodeV (fun b => b < v3.drew.heap.size) v3.drew nx (.slice D1 nx.set.length s1) (.slice D2 nx.kids.length s2)) := Lib.hid (HK3.out.1.on (Below.refl _ v3).drew)
        have HKY : Hid (NodeV (fun b => b < v3.drew.heap.size) v3.drew ny (.slice F1 ny.set.length u1) (.slice F2 ny.kids.length u2)) := Lib.hid (HK3.out.2.1.on (Below.refl _ v3).drew)
        have HB5 : Hid (b < v3.drew.heap.size) := Lib.hid HK3.out.2.2.2.2
        clear HSS HX3 HY3 HK3
        generalize v3.drew = W5 at *
        refine take_d 0 83 (.pointer (some ⟨w3.heap.size, 0, none⟩)) _ rfl rfl (by kernel_rfl) (by kernel_rfl) (by kernel_rfl) (fun _ _ _ h => h) (Or.inl ⟨by rfl, fun w' hSw => ?_⟩) hHeld ?_
        · go_simp
        simp only [List.setIfInBounds_toArray, List.set_cons_zero, List.set_cons_succ]
        refine take_d 1 84 (.pointer (some ⟨w3.heap.size, 0, none⟩)) _ rfl rfl (by kernel_rfl) (by kernel_rfl) (by kernel_rfl) (fun _ _ _ h => h) (Or.inl ⟨by rfl, fun w' hSw => ?_⟩) hHeld ?_
        · go_simp
        simp only [List.setIfInBounds_toArray, List.set_cons_zero, List.set_cons_succ]
        refine take_d 2 85 (.int .i64 2) _ rfl rfl (by kernel_rfl) (by kernel_rfl) (by kernel_rfl) (fun _ _ _ h => h) (Or.inl ⟨by rfl, fun w' hSw => ?_⟩) hHeld ?_
        · have hS9 := hSw.1.nine
          clear hSw
          go_simp
        simp only [List.setIfInBounds_toArray, List.set_cons_zero, List.set_cons_succ]
        refine take_d 4 87 (.int .i64 0) _ rfl rfl (by kernel_rfl) (by kernel_rfl) (by kernel_rfl) (fun _ _ _ h => h) (Or.inl ⟨by rfl, fun w' hSw => ?_⟩) hHeld ?_
        · go_simp
        simp only [List.setIfInBounds_toArray, List.set_cons_zero, List.set_cons_succ]
        refine wpAnyH_ready (rs := [3]) (by kernel_rfl) (by simp) ?_
        refine AllReadyH.cons rfl (fun K hK => ?_) AllReadyH.nil
        go_simp
        have hal := (Below.refl W5.heap.size W5).alloc (Nat.le_refl _) (.cells #[.int .i64 2, .int .i64 3] 3)
        refine hK.out _ _ ⟨hHeld.1.on hal, hHeld.2.1.on hal, hHeld.2.2.1.on hal, hHeld.2.2.2.1.on (hal.block b HB5.out), hHeld.2.2.2.2.on (hal.block b HB5.out)⟩ (fun hHeld => ?_)
        clear hK K
        have hrow : (W5.alloc (.cells #[.int .i64 2, .int .i64 3] 3)).cell? ⟨W5.heap.size, 0, none⟩ = some (.int .i64 2) := (Blk.new W5 3 #[.int .i64 2, .int .i64 3]).cell 0
        have hc6 := hc5.trans (hal.mono hc5.size)
        have HNX6 := Lib.hid (HNX.out.on hal)
        have HNY6 := Lib.hid (HNY.out.on hal)
        have HKX6 := Lib.hid (HKX.out.on hal)
        have HKY6 := Lib.hid (HKY.out.on hal)
        have HB6 := Lib.hid (Nat.lt_of_lt_of_le HB5.out hal.size)
        clear HNX HNY HKX HKY HB5 hal
        obtain ⟨nb, hnb⟩ : ∃ nb, nb = W5.heap.size := ⟨_, rfl⟩
        generalize W5.alloc (.cells #[.int .i64 2, .int .i64 3] 3) = W6 at *
        rw [← hnb] at hrow ⊢
        clear hnb
        refine take_d 5 88 (.pointer (some ⟨nb, 0, none⟩)) _ rfl rfl (by kernel_rfl) (by kernel_rfl) (by kernel_rfl) (fun _ _ _ h => h) (Or.inl ⟨by rfl, fun w' hSw => ?_⟩) hHeld ?_
        · go_simp
        simp only [List.setIfInBounds_toArray, List.set_cons_zero, List.set_cons_succ]
        refine wpAnyH_ready (rs := [6]) (by kernel_rfl) (by simp) ?_
        refine AllReadyH.cons rfl (fun K hK => ?_) AllReadyH.nil
        go_simp
        refine hK.out _ _ hHeld (fun hHeld => ?_)
        clear hK K
        refine take_d 7 90 (.bool false) _ rfl rfl (by kernel_rfl) (by kernel_rfl) (by kernel_rfl) (fun _ _ _ h => h) (Or.inl ⟨by rfl, fun w' hSw => ?_⟩) hHeld ?_
        · go_simp
        simp only [List.setIfInBounds_toArray, List.set_cons_zero, List.set_cons_succ]
        refine take_d 8 91 (.bool false) _ rfl rfl (by kernel_rfl) (by kernel_rfl) (by kernel_rfl) (fun _ _ _ h => h) (Or.inl ⟨by rfl, fun w' hSw => ?_⟩) hHeld ?_
        · go_simp
        simp only [List.setIfInBounds_toArray, List.set_cons_zero, List.set_cons_succ]
        refine take_d 9 92 (.pointer (some ⟨w3.heap.size, 0, none⟩)) _ rfl rfl (by kernel_rfl) (by kernel_rfl) (by kernel_rfl) (fun _ _ _ h => h) (Or.inl ⟨by rfl, fun w' hSw => ?_⟩) hHeld ?_
        · go_simp
        simp only [List.setIfInBounds_toArray, List.set_cons_zero, List.set_cons_succ]
        refine take_d 10 93 (.pointer (some ⟨w3.heap.size, 6, none⟩)) _ rfl rfl (by kernel_rfl) (by kernel_rfl) (by kernel_rfl) (fun _ _ _ h => h) (Or.inl ⟨by rfl, fun w' hSw => ?_⟩) hHeld ?_
        · go_simp
        simp only [List.setIfInBounds_toArray, List.set_cons_zero, List.set_cons_succ]
        refine take_d 11 94 (.slice (some ⟨b, off, none⟩) 2 t2) _ rfl rfl (by kernel_rfl) (by kernel_rfl) (by kernel_rfl) (fun _ _ _ h => h) (Or.inl ⟨by rfl, fun w' hSw => ?_⟩) hHeld ?_
        · have hS9 := hSw.1.nine
          clear hSw
          go_simp
        simp only [List.setIfInBounds_toArray, List.set_cons_zero, List.set_cons_succ]
        refine take_d 12 95 (.int .i64 2) _ rfl rfl (by kernel_rfl) (by kernel_rfl) (by kernel_rfl) (fun _ _ _ h => h) (Or.inl ⟨by rfl, fun w' hSw => ?_⟩) hHeld ?_
        · go_simp
        simp only [List.setIfInBounds_toArray, List.set_cons_zero, List.set_cons_succ]
        refine take_d 13 96 (.bool false) _ rfl rfl (by kernel_rfl) (by kernel_rfl) (by kernel_rfl) (fun _ _ _ h => h) (Or.inl ⟨by rfl, fun w' hSw => ?_⟩) hHeld ?_
        · go_simp
        simp only [List.setIfInBounds_toArray, List.set_cons_zero, List.set_cons_succ]
        refine take_d 14 97 (.bool false) _ rfl rfl (by kernel_rfl) (by kernel_rfl) (by kernel_rfl) (fun _ _ _ h => h) (Or.inl ⟨by rfl, fun w' hSw => ?_⟩) hHeld ?_
        · go_simp
        simp only [List.setIfInBounds_toArray, List.set_cons_zero, List.set_cons_succ]
        refine take_d 15 98 (.bool false) _ rfl rfl (by kernel_rfl) (by kernel_rfl) (by kernel_rfl) (fun _ _ _ h => h) (Or.inl ⟨by rfl, fun w' hSw => ?_⟩) hHeld ?_
        · go_simp
        simp only [List.setIfInBounds_toArray, List.set_cons_zero, List.set_cons_succ]
        refine take_d 16 99 (.pointer (some ⟨w3.heap.size, 0, none⟩)) _ rfl rfl (by kernel_rfl) (by kernel_rfl) (by kernel_rfl) (fun _ _ _ h => h) (Or.inl ⟨by rfl, fun w' hSw => ?_⟩) hHeld ?_
        · go_simp
        simp only [List.setIfInBounds_toArray, List.set_cons_zero, List.set_cons_succ]
        refine take_d 17 100 (.pointer (some ⟨w3.heap.size, 6, none⟩)) _ rfl rfl (by kernel_rfl) (by kernel_rfl) (by kernel_rfl) (fun _ _ _ h => h) (Or.inl ⟨by rfl, fun w' hSw => ?_⟩) hHeld ?_
        · go_simp
        simp only [List.setIfInBounds_toArray, List.set_cons_zero, List.set_cons_succ]
        refine take_d 18 101 (.slice (some ⟨b, off, none⟩) 2 t2) _ rfl rfl (by kernel_rfl) (by kernel_rfl) (by kernel_rfl) (fun _ _ _ h => h) (Or.inl ⟨by rfl, fun w' hSw => ?_⟩) hHeld ?_
        · have hS9 := hSw.1.nine
          clear hSw
          go_simp
        simp only [List.setIfInBounds_toArray, List.set_cons_zero, List.set_cons_succ]
        refine take_d 19 102 (.pointer (some ⟨b, off, none⟩)) _ rfl rfl (by kernel_rfl) (by kernel_rfl) (by kernel_rfl) (fun _ _ _ h => h) (Or.inl ⟨by rfl, fun w' hSw => ?_⟩) hHeld ?_
        · go_simp
        simp only [List.setIfInBounds_toArray, List.set_cons_zero, List.set_cons_succ]
        refine take_d 20 103 (.agg #[.int .i64 nx.kind, .int .i64 nx.lo, .int .i64 nx.hi, .int .i64 nx.mode, .int .i64 nx.ref, .slice D1 nx.set.length s1, .slice D2 nx.kids.length s2]) _ rfl rfl (by kernel_rfl) (by kernel_rfl) (by kernel_rfl) (fun _ _ _ h => h) (Or.inl ⟨by rfl, fun w' hSw => ?_⟩) hHeld ?_
        · have hS7 := hSw.2.2.2.1.seven_
          clear hSw
          go_simp
        simp only [List.setIfInBounds_toArray, List.set_cons_zero, List.set_cons_succ]
        refine take_d 21 104 (.pointer (some ⟨w1.heap.size, 0, none⟩)) _ rfl rfl (by kernel_rfl) (by kernel_rfl) (by kernel_rfl) (fun _ _ _ h => h) (Or.inl ⟨by rfl, fun w' hSw => ?_⟩) hHeld ?_
        · go_simp
        simp only [List.setIfInBounds_toArray, List.set_cons_zero, List.set_cons_succ]
        refine take_d 22 105 (.agg #[.int .i64 nx.kind, .int .i64 nx.lo, .int .i64 nx.hi, .int .i64 nx.mode, .int .i64 nx.ref, .slice A1 nx.set.length p1, .slice A2 nx.kids.length p2]) _ rfl rfl (by kernel_rfl) (by kernel_rfl) (by kernel_rfl) (fun _ _ _ h => h) (Or.inl ⟨by rfl, fun w' hSw => ?_⟩) hHeld ?_
        · have hS9 := hSw.2.1.nine
          clear hSw
          go_simp
        simp only [List.setIfInBounds_toArray, List.set_cons_zero, List.set_cons_succ]
        refine wpAnyH_ready (rs := [23]) (by kernel_rfl) (by simp) ?_
        refine AllReadyH.cons rfl (fun K hK => ?_) AllReadyH.nil
        go_simp
        refine (same_nodes nx W6 D1 D2 A1 A2 s1 s2 p1 p2 HKX6.out HNX6.out).mono ?_
        rintro e w7 ⟨rfl, hb7⟩
        refine hK.out _ _ ⟨hHeld.1.on hb7, hHeld.2.1.on hb7, hHeld.2.2.1.on hb7, hHeld.2.2.2.1.on (hb7.block b HB6.out), hHeld.2.2.2.2.on (hb7.block b HB6.out)⟩ (fun hHeld => ?_)
        clear hK K
        have hc7 := hc6.trans (hb7.mono hc6.size)
        have HNY7 := Lib.hid (HNY6.out.on hb7)
        have HKY7 := Lib.hid (HKY6.out.on hb7)
        have HB7 := Lib.hid (Nat.lt_of_lt_of_le HB6.out hb7.size)
        clear HNX6 HNY6 HKX6 HKY6 HB6 hb7 hrow
        refine take_d 24 107 (.bool false) _ rfl rfl (by kernel_rfl) (by kernel_rfl) (by kernel_rfl) (fun _ _ _ h => h) (Or.inl ⟨by rfl, fun w' hSw => ?_⟩) hHeld ?_
        · go_simp
        simp only [List.setIfInBounds_toArray, List.set_cons_zero, List.set_cons_succ]
        refine take_d 25 108 (.bool false) _ rfl rfl (by kernel_rfl) (by kernel_rfl) (by kernel_rfl) (fun _ _ _ h => h) (Or.inl ⟨by rfl, fun w' hSw => ?_⟩) hHeld ?_
        · go_simp
        simp only [List.setIfInBounds_toArray, List.set_cons_zero, List.set_cons_succ]
        refine take_d 26 109 (.bool false) _ rfl rfl (by kernel_rfl) (by kernel_rfl) (by kernel_rfl) (fun _ _ _ h => h) (Or.inl ⟨by rfl, fun w' hSw => ?_⟩) hHeld ?_
        · go_simp
        simp only [List.setIfInBounds_toArray, List.set_cons_zero, List.set_cons_succ]
        refine take_d 27 110 (.pointer (some ⟨w3.heap.size, 0, none⟩)) _ rfl rfl (by kernel_rfl) (by kernel_rfl) (by kernel_rfl) (fun _ _ _ h => h) (Or.inl ⟨by rfl, fun w' hSw => ?_⟩) hHeld ?_
        · go_simp
        simp only [List.setIfInBounds_toArray, List.set_cons_zero, List.set_cons_succ]
        refine take_d 28 111 (.pointer (some ⟨w3.heap.size, 6, none⟩)) _ rfl rfl (by kernel_rfl) (by kernel_rfl) (by kernel_rfl) (fun _ _ _ h => h) (Or.inl ⟨by rfl, fun w' hSw => ?_⟩) hHeld ?_
        · go_simp
        simp only [List.setIfInBounds_toArray, List.set_cons_zero, List.set_cons_succ]
        refine take_d 29 112 (.slice (some ⟨b, off, none⟩) 2 t2) _ rfl rfl (by kernel_rfl) (by kernel_rfl) (by kernel_rfl) (fun _ _ _ h => h) (Or.inl ⟨by rfl, fun w' hSw => ?_⟩) hHeld ?_
        · have hS9 := hSw.1.nine
          clear hSw
          go_simp
        simp only [List.setIfInBounds_toArray, List.set_cons_zero, List.set_cons_succ]
        refine take_d 30 113 (.pointer (some ⟨b, off + 7, none⟩)) _ rfl rfl (by kernel_rfl) (by kernel_rfl) (by kernel_rfl) (fun _ _ _ h => h) (Or.inl ⟨by rfl, fun w' hSw => ?_⟩) hHeld ?_
        · go_simp
        simp only [List.setIfInBounds_toArray, List.set_cons_zero, List.set_cons_succ]
        refine take_d 31 114 (.agg #[.int .i64 ny.kind, .int .i64 ny.lo, .int .i64 ny.hi, .int .i64 ny.mode, .int .i64 ny.ref, .slice F1 ny.set.length u1, .slice F2 ny.kids.length u2]) _ rfl rfl (by kernel_rfl) (by kernel_rfl) (by kernel_rfl) (fun _ _ _ h => h) (Or.inl ⟨by rfl, fun w' hSw => ?_⟩) hHeld ?_
        · have hS7 := hSw.2.2.2.2.seven_
          clear hSw
          go_simp
        simp only [List.setIfInBounds_toArray, List.set_cons_zero, List.set_cons_succ]
        refine take_d 32 115 (.pointer (some ⟨w2.heap.size, 0, none⟩)) _ rfl rfl (by kernel_rfl) (by kernel_rfl) (by kernel_rfl) (fun _ _ _ h => h) (Or.inl ⟨by rfl, fun w' hSw => ?_⟩) hHeld ?_
        · go_simp
        simp only [List.setIfInBounds_toArray, List.set_cons_zero, List.set_cons_succ]
        refine take_d 33 116 (.agg #[.int .i64 ny.kind, .int .i64 ny.lo, .int .i64 ny.hi, .int .i64 ny.mode, .int .i64 ny.ref, .slice B1 ny.set.length q1, .slice B2 ny.kids.length q2]) _ rfl rfl (by kernel_rfl) (by kernel_rfl) (by kernel_rfl) (fun _ _ _ h => h) (Or.inl ⟨by rfl, fun w' hSw => ?_⟩) hHeld ?_
        · have hS9 := hSw.2.2.1.nine
          clear hSw
          go_simp
        simp only [List.setIfInBounds_toArray, List.set_cons_zero, List.set_cons_succ]
        refine wpAnyH_ready (rs := [34]) (by kernel_rfl) (by simp) ?_
        refine AllReadyH.cons rfl (fun K hK => ?_) AllReadyH.nil
        go_simp
        refine (same_nodes ny w7 F1 F2 B1 B2 u1 u2 q1 q2 HKY7.out HNY7.out).mono ?_
        rintro e w8 ⟨rfl, hb8⟩
        refine hK.out _ _ ⟨hHeld.1.on hb8, hHeld.2.1.on hb8, hHeld.2.2.1.on hb8, hHeld.2.2.2.1.on (hb8.block b HB7.out), hHeld.2.2.2.2.on (hb8.block b HB7.out)⟩ (fun hHeld => ?_)
        clear hK K
        have hc8 := hc7.trans (hb8.mono hc7.size)
        refine take_d 35 118 (.bool false) _ rfl rfl (by kernel_rfl) (by kernel_rfl) (by kernel_rfl) (fun _ _ _ h => h) (Or.inl ⟨by rfl, fun w' hSw => ?_⟩) hHeld ?_
        · go_simp
        simp only [List.setIfInBounds_toArray, List.set_cons_zero, List.set_cons_succ]
        refine take_d 36 119 (.bool false) _ rfl rfl (by kernel_rfl) (by kernel_rfl) (by kernel_rfl) (fun _ _ _ h => h) (Or.inl ⟨by rfl, fun w' hSw => ?_⟩) hHeld ?_
        · go_simp
        simp only [List.setIfInBounds_toArray, List.set_cons_zero, List.set_cons_succ]
        refine wpAnyH_done (by kernel_rfl) ?_ _
        clear hHeld
        go_wp2
        go_roundw
        case rel => exact ⟨1, by omega, rfl, hc8⟩
        case measure => simp [intOf]
      · rw [h2] at HP3
        clear h2
        go_wp2_with fail
        refine (HP3.out _ HTr.out).mono ?_
        rintro e w3 ⟨rfl, hb3⟩
        unfold zero9
        have P3 := Lib.hid (put_new wr w3 #[.int .i64 0, .int .i64 0, .int .i64 0, .int .i64 0, .int .i64 0, .slice none 0 0, .slice none 0 0, .int .i64 0, .bool false] #[.int .i64 25, .int .i64 (p : Nat)] hb3)
        go_upto_region 13 with (fail)
        generalize (w3.alloc (.cells #[.int .i64 0, .int .i64 0, .int .i64 0, .int .i64 0, .int .i64 0, .slice none 0 0, .slice none 0 0, .int .i64 0, .bool false] 29)).alloc (.cells #[.int .i64 25, .int .i64 (p : Nat)] 32) = v3 at *
        have hf3a := P3.out.flt.cell 0
        simp at hf3a
        have hb13 := hbel.trans (P3.out.keep.mono hbel.size)
        go_wp2
        go_roundw
        case rel => exact ⟨1, by omega, rfl, hb13⟩
        case measure => simp [intOf]
    · have HP3 : Hid (∀ W : World, TabsAt W.heap.size W → Calls Tryd.prog 10 #[.string ((⟨#[40, 63, 58]⟩ : ByteArray) ++ x ++ (⟨#[41]⟩ : ByteArray) ++ (⟨#[124]⟩ : ByteArray) ++ (⟨#[40, 63, 58]⟩ : ByteArray) ++ y ++ (⟨#[41]⟩ : ByteArray))] W (ParsePost W (parse 1031 ((40 :: 63 :: 58 :: (x.data.toList ++ 41 :: 124 :: 40 :: 63 :: 58 :: (y.data.toList ++ [41]))))))) := Lib.hid (fun W hW => by
        rw [rows_eq1]
        exact parse_any (s := (40 :: 63 :: 58 :: (x.data.toList ++ 41 :: 124 :: 40 :: 63 :: 58 :: (y.data.toList ++ [41])))) 1031 (by omega) (by have : x.data.toList.length = x.size := rfl; have : y.data.toList.length = y.size := rfl; simp; omega) hW)
      rcases parse_alt (N := 1026) HRx.out HRy.out hxl hyl with h2 | ⟨p, h2⟩
      · rw [h2] at HP3
        clear h2
        go_wp2_with fail
        refine (HP3.out _ HTr.out).mono ?_
        rintro e w3 ⟨E1, E2, t1, t2, rfl, hN, hb3⟩
        obtain ⟨_, _, b, off, he, -, -, -, -, hk⟩ := hN.parts
        obtain ⟨rfl, -, rfl⟩ := Value.slice.inj he
        obtain ⟨hA, hbk, D1, D2, s1, s2, hND, hC⟩ := hk 0 nx rfl
        obtain ⟨-, -, F1, F2, u1, u2, hND', hC'⟩ := hk 1 ny rfl
        subst hA
        rw [Nat.zero_mul, Nat.add_zero] at hC
        rw [Nat.one_mul] at hC'
        have HK2 : Hid (NodeV (fun b => b < w3.heap.size) w3 nx (.slice D1 nx.set.length s1) (.slice D2 nx.kids.length s2) ∧ NodeV (fun b => b < w3.heap.size) w3 ny (.slice F1 ny.set.length u1) (.slice F2 ny.kids.length u2) ∧ NCells w3 b off nx (.slice D1 nx.set.length s1) (.slice D2 nx.kids.length s2) ∧ NCells w3 b (off + 7) ny (.slice F1 ny.set.length u1) (.slice F2 ny.kids.length u2) ∧ b < w3.heap.size) := Lib.hid ⟨hND, hND', hC, hC', hbk⟩
        clear hN hND hND' hk hC hC' he
        unfold pCells
        simp only [altN_kind, altN_lo, altN_hi, altN_mode, altN_ref, altN_set, altN_kids]
        have P3 := Lib.hid (put_new wr w3 #[.int .i64 3, .int .i64 0, .int .i64 0, .int .i64 0, .int .i64 0, .slice E1 0 t1, .slice (some ⟨b, off, none⟩) 2 t2, .int .i64 0, .bool false] #[.int .i64 0, .int .i64 0] hb3)
        have hk2 := put_on w3 #[.int .i64 3, .int .i64 0, .int .i64 0, .int .i64 0, .int .i64 0, .slice E1 0 t1, .slice (some ⟨b, off, none⟩) 2 t2, .int .i64 0, .bool false] #[.int .i64 0, .int .i64 0]
        go_upto_region 13 with (fail)
        generalize (w3.alloc (.cells #[.int .i64 3, .int .i64 0, .int .i64 0, .int .i64 0, .int .i64 0, .slice E1 0 t1, .slice (some ⟨b, off, none⟩) 2 t2, .int .i64 0, .bool false] 29)).alloc (.cells #[.int .i64 0, .int .i64 0] 32) = v3 at *
        have hf3a := P3.out.flt.cell 0
        simp at hf3a
        have HK3 := Lib.hid (And.intro (HK2.out.1.on hk2) (And.intro (HK2.out.2.1.on hk2) (And.intro (HK2.out.2.2.1.on (hk2.block b HK2.out.2.2.2.2)) (And.intro (HK2.out.2.2.2.1.on (hk2.block b HK2.out.2.2.2.2)) (Nat.lt_of_lt_of_le HK2.out.2.2.2.2 hk2.size)))))
        have hb13 := hbel.trans (P3.out.keep.mono hbel.size)
        have HSS : Hid ((fun W => Blk W w3.heap.size 29 #[.int .i64 3, .int .i64 0, .int .i64 0, .int .i64 0, .int .i64 0, .slice E1 0 t1, .slice (some ⟨b, off, none⟩) 2 t2, .int .i64 0, .bool false] ∧ Blk W w1.heap.size 29 #[.int .i64 nx.kind, .int .i64 nx.lo, .int .i64 nx.hi, .int .i64 nx.mode, .int .i64 nx.ref, .slice A1 nx.set.length p1, .slice A2 nx.kids.length p2, .int .i64 0, .bool false] ∧ Blk W w2.heap.size 29 #[.int .i64 ny.kind, .int .i64 ny.lo, .int .i64 ny.hi, .int .i64 ny.mode, .int .i64 ny.ref, .slice B1 ny.set.length q1, .slice B2 ny.kids.length q2, .int .i64 0, .bool false] ∧ NCells W b off nx (.slice D1 nx.set.length s1) (.slice D2 nx.kids.length s2) ∧ NCells W b (off + 7) ny (.slice F1 ny.set.length u1) (.slice F2 ny.kids.length u2)) v3) := Lib.hid ⟨P3.out.node, HG1.out.on hb13, HG2.out.on hb13, HK3.out.2.2.1, HK3.out.2.2.2.1⟩
        have HX3 := Lib.hid (HX.out.on hb13)
        have HY3 := Lib.hid (HY.out.on hb13)
        have hbv3 := hbr.trans (P3.out.keep.mono hbr.size)
        clear HK2 hk2 P3 HP3
        go_upto_region 16 with (fail)
        refine wp_region_held_drew (S := (fun W => Blk W w3.heap.size 29 #[.int .i64 3, .int .i64 0, .int .i64 0, .int .i64 0, .int .i64 0, .slice E1 0 t1, .slice (some ⟨b, off, none⟩) 2 t2, .int .i64 0, .bool false] ∧ Blk W w1.heap.size 29 #[.int .i64 nx.kind, .int .i64 nx.lo, .int .i64 nx.hi, .int .i64 nx.mode, .int .i64 nx.ref, .slice A1 nx.set.length p1, .slice A2 nx.kids.length p2, .int .i64 0, .bool false] ∧ Blk W w2.heap.size 29 #[.int .i64 ny.kind, .int .i64 ny.lo, .int .i64 ny.hi, .int .i64 ny.mode, .int .i64 ny.ref, .slice B1 ny.set.length q1, .slice B2 ny.kids.length q2, .int .i64 0, .bool false] ∧ NCells W b off nx (.slice D1 nx.set.length s1) (.slice D2 nx.kids.length s2) ∧ NCells W b (off + 7) ny (.slice F1 ny.set.length u1) (.slice F2 ny.kids.length u2))) (by kernel_rfl) HSS.out (fun hHeld => ?_)
        have hb5 := hbv3.drew
        have hc5 := hb13.drew
        have HNX : Hid (NodeV (fun b => b < v3.drew.heap.size) v3.drew nx (.slice A1 nx.set.length p1) (.slice A2 nx.kids.length p2)) := Lib.hid (HX3.out.on (Below.refl _ v3).drew)
        have HNY : Hid (NodeV (fun b => b < v3.drew.heap.size) v3.drew ny (.slice B1 ny.set.length q1) (.slice B2 ny.kids.length q2)) := Lib.hid (HY3.out.on (Below.refl _ v3).drew)
        have HKX : Hid (NodeV (fun b => b < v3.drew.heap.size) v3.drew nx (.slice D1 nx.set.length s1) (.slice D2 nx.kids.length s2)) := Lib.hid (HK3.out.1.on (Below.refl _ v3).drew)
        have HKY : Hid (NodeV (fun b => b < v3.drew.heap.size) v3.drew ny (.slice F1 ny.set.length u1) (.slice F2 ny.kids.length u2)) := Lib.hid (HK3.out.2.1.on (Below.refl _ v3).drew)
        have HB5 : Hid (b < v3.drew.heap.size) := Lib.hid HK3.out.2.2.2.2
        clear HSS HX3 HY3 HK3
        generalize v3.drew = W5 at *
        refine take_d 0 83 (.pointer (some ⟨w3.heap.size, 0, none⟩)) _ rfl rfl (by kernel_rfl) (by kernel_rfl) (by kernel_rfl) (fun _ _ _ h => h) (Or.inl ⟨by rfl, fun w' hSw => ?_⟩) hHeld ?_
        · go_simp
        simp only [List.setIfInBounds_toArray, List.set_cons_zero, List.set_cons_succ]
        refine take_d 1 84 (.pointer (some ⟨w3.heap.size, 0, none⟩)) _ rfl rfl (by kernel_rfl) (by kernel_rfl) (by kernel_rfl) (fun _ _ _ h => h) (Or.inl ⟨by rfl, fun w' hSw => ?_⟩) hHeld ?_
        · go_simp
        simp only [List.setIfInBounds_toArray, List.set_cons_zero, List.set_cons_succ]
        refine take_d 2 85 (.int .i64 3) _ rfl rfl (by kernel_rfl) (by kernel_rfl) (by kernel_rfl) (fun _ _ _ h => h) (Or.inl ⟨by rfl, fun w' hSw => ?_⟩) hHeld ?_
        · have hS9 := hSw.1.nine
          clear hSw
          go_simp
        simp only [List.setIfInBounds_toArray, List.set_cons_zero, List.set_cons_succ]
        refine take_d 4 87 (.int .i64 1) _ rfl rfl (by kernel_rfl) (by kernel_rfl) (by kernel_rfl) (fun _ _ _ h => h) (Or.inl ⟨by rfl, fun w' hSw => ?_⟩) hHeld ?_
        · go_simp
        simp only [List.setIfInBounds_toArray, List.set_cons_zero, List.set_cons_succ]
        refine wpAnyH_ready (rs := [3]) (by kernel_rfl) (by simp) ?_
        refine AllReadyH.cons rfl (fun K hK => ?_) AllReadyH.nil
        go_simp
        have hal := (Below.refl W5.heap.size W5).alloc (Nat.le_refl _) (.cells #[.int .i64 2, .int .i64 3] 3)
        refine hK.out _ _ ⟨hHeld.1.on hal, hHeld.2.1.on hal, hHeld.2.2.1.on hal, hHeld.2.2.2.1.on (hal.block b HB5.out), hHeld.2.2.2.2.on (hal.block b HB5.out)⟩ (fun hHeld => ?_)
        clear hK K
        have hrow : (W5.alloc (.cells #[.int .i64 2, .int .i64 3] 3)).cell? ⟨W5.heap.size, 1, none⟩ = some (.int .i64 3) := (Blk.new W5 3 #[.int .i64 2, .int .i64 3]).cell 1
        have hc6 := hc5.trans (hal.mono hc5.size)
        have HNX6 := Lib.hid (HNX.out.on hal)
        have HNY6 := Lib.hid (HNY.out.on hal)
        have HKX6 := Lib.hid (HKX.out.on hal)
        have HKY6 := Lib.hid (HKY.out.on hal)
        have HB6 := Lib.hid (Nat.lt_of_lt_of_le HB5.out hal.size)
        clear HNX HNY HKX HKY HB5 hal
        obtain ⟨nb, hnb⟩ : ∃ nb, nb = W5.heap.size := ⟨_, rfl⟩
        generalize W5.alloc (.cells #[.int .i64 2, .int .i64 3] 3) = W6 at *
        rw [← hnb] at hrow ⊢
        clear hnb
        refine take_d 5 88 (.pointer (some ⟨nb, 1, none⟩)) _ rfl rfl (by kernel_rfl) (by kernel_rfl) (by kernel_rfl) (fun _ _ _ h => h) (Or.inl ⟨by rfl, fun w' hSw => ?_⟩) hHeld ?_
        · go_simp
        simp only [List.setIfInBounds_toArray, List.set_cons_zero, List.set_cons_succ]
        refine wpAnyH_ready (rs := [6]) (by kernel_rfl) (by simp) ?_
        refine AllReadyH.cons rfl (fun K hK => ?_) AllReadyH.nil
        go_simp
        refine hK.out _ _ hHeld (fun hHeld => ?_)
        clear hK K
        refine take_d 7 90 (.bool false) _ rfl rfl (by kernel_rfl) (by kernel_rfl) (by kernel_rfl) (fun _ _ _ h => h) (Or.inl ⟨by rfl, fun w' hSw => ?_⟩) hHeld ?_
        · go_simp
        simp only [List.setIfInBounds_toArray, List.set_cons_zero, List.set_cons_succ]
        refine take_d 8 91 (.bool false) _ rfl rfl (by kernel_rfl) (by kernel_rfl) (by kernel_rfl) (fun _ _ _ h => h) (Or.inl ⟨by rfl, fun w' hSw => ?_⟩) hHeld ?_
        · go_simp
        simp only [List.setIfInBounds_toArray, List.set_cons_zero, List.set_cons_succ]
        refine take_d 9 92 (.pointer (some ⟨w3.heap.size, 0, none⟩)) _ rfl rfl (by kernel_rfl) (by kernel_rfl) (by kernel_rfl) (fun _ _ _ h => h) (Or.inl ⟨by rfl, fun w' hSw => ?_⟩) hHeld ?_
        · go_simp
        simp only [List.setIfInBounds_toArray, List.set_cons_zero, List.set_cons_succ]
        refine take_d 10 93 (.pointer (some ⟨w3.heap.size, 6, none⟩)) _ rfl rfl (by kernel_rfl) (by kernel_rfl) (by kernel_rfl) (fun _ _ _ h => h) (Or.inl ⟨by rfl, fun w' hSw => ?_⟩) hHeld ?_
        · go_simp
        simp only [List.setIfInBounds_toArray, List.set_cons_zero, List.set_cons_succ]
        refine take_d 11 94 (.slice (some ⟨b, off, none⟩) 2 t2) _ rfl rfl (by kernel_rfl) (by kernel_rfl) (by kernel_rfl) (fun _ _ _ h => h) (Or.inl ⟨by rfl, fun w' hSw => ?_⟩) hHeld ?_
        · have hS9 := hSw.1.nine
          clear hSw
          go_simp
        simp only [List.setIfInBounds_toArray, List.set_cons_zero, List.set_cons_succ]
        refine take_d 12 95 (.int .i64 2) _ rfl rfl (by kernel_rfl) (by kernel_rfl) (by kernel_rfl) (fun _ _ _ h => h) (Or.inl ⟨by rfl, fun w' hSw => ?_⟩) hHeld ?_
        · go_simp
        simp only [List.setIfInBounds_toArray, List.set_cons_zero, List.set_cons_succ]
        refine take_d 13 96 (.bool false) _ rfl rfl (by kernel_rfl) (by kernel_rfl) (by kernel_rfl) (fun _ _ _ h => h) (Or.inl ⟨by rfl, fun w' hSw => ?_⟩) hHeld ?_
        · go_simp
        simp only [List.setIfInBounds_toArray, List.set_cons_zero, List.set_cons_succ]
        refine take_d 14 97 (.bool false) _ rfl rfl (by kernel_rfl) (by kernel_rfl) (by kernel_rfl) (fun _ _ _ h => h) (Or.inl ⟨by rfl, fun w' hSw => ?_⟩) hHeld ?_
        · go_simp
        simp only [List.setIfInBounds_toArray, List.set_cons_zero, List.set_cons_succ]
        refine take_d 15 98 (.bool false) _ rfl rfl (by kernel_rfl) (by kernel_rfl) (by kernel_rfl) (fun _ _ _ h => h) (Or.inl ⟨by rfl, fun w' hSw => ?_⟩) hHeld ?_
        · go_simp
        simp only [List.setIfInBounds_toArray, List.set_cons_zero, List.set_cons_succ]
        refine take_d 16 99 (.pointer (some ⟨w3.heap.size, 0, none⟩)) _ rfl rfl (by kernel_rfl) (by kernel_rfl) (by kernel_rfl) (fun _ _ _ h => h) (Or.inl ⟨by rfl, fun w' hSw => ?_⟩) hHeld ?_
        · go_simp
        simp only [List.setIfInBounds_toArray, List.set_cons_zero, List.set_cons_succ]
        refine take_d 17 100 (.pointer (some ⟨w3.heap.size, 6, none⟩)) _ rfl rfl (by kernel_rfl) (by kernel_rfl) (by kernel_rfl) (fun _ _ _ h => h) (Or.inl ⟨by rfl, fun w' hSw => ?_⟩) hHeld ?_
        · go_simp
        simp only [List.setIfInBounds_toArray, List.set_cons_zero, List.set_cons_succ]
        refine take_d 18 101 (.slice (some ⟨b, off, none⟩) 2 t2) _ rfl rfl (by kernel_rfl) (by kernel_rfl) (by kernel_rfl) (fun _ _ _ h => h) (Or.inl ⟨by rfl, fun w' hSw => ?_⟩) hHeld ?_
        · have hS9 := hSw.1.nine
          clear hSw
          go_simp
        simp only [List.setIfInBounds_toArray, List.set_cons_zero, List.set_cons_succ]
        refine take_d 19 102 (.pointer (some ⟨b, off, none⟩)) _ rfl rfl (by kernel_rfl) (by kernel_rfl) (by kernel_rfl) (fun _ _ _ h => h) (Or.inl ⟨by rfl, fun w' hSw => ?_⟩) hHeld ?_
        · go_simp
        simp only [List.setIfInBounds_toArray, List.set_cons_zero, List.set_cons_succ]
        refine take_d 20 103 (.agg #[.int .i64 nx.kind, .int .i64 nx.lo, .int .i64 nx.hi, .int .i64 nx.mode, .int .i64 nx.ref, .slice D1 nx.set.length s1, .slice D2 nx.kids.length s2]) _ rfl rfl (by kernel_rfl) (by kernel_rfl) (by kernel_rfl) (fun _ _ _ h => h) (Or.inl ⟨by rfl, fun w' hSw => ?_⟩) hHeld ?_
        · have hS7 := hSw.2.2.2.1.seven_
          clear hSw
          go_simp
        simp only [List.setIfInBounds_toArray, List.set_cons_zero, List.set_cons_succ]
        refine take_d 21 104 (.pointer (some ⟨w1.heap.size, 0, none⟩)) _ rfl rfl (by kernel_rfl) (by kernel_rfl) (by kernel_rfl) (fun _ _ _ h => h) (Or.inl ⟨by rfl, fun w' hSw => ?_⟩) hHeld ?_
        · go_simp
        simp only [List.setIfInBounds_toArray, List.set_cons_zero, List.set_cons_succ]
        refine take_d 22 105 (.agg #[.int .i64 nx.kind, .int .i64 nx.lo, .int .i64 nx.hi, .int .i64 nx.mode, .int .i64 nx.ref, .slice A1 nx.set.length p1, .slice A2 nx.kids.length p2]) _ rfl rfl (by kernel_rfl) (by kernel_rfl) (by kernel_rfl) (fun _ _ _ h => h) (Or.inl ⟨by rfl, fun w' hSw => ?_⟩) hHeld ?_
        · have hS9 := hSw.2.1.nine
          clear hSw
          go_simp
        simp only [List.setIfInBounds_toArray, List.set_cons_zero, List.set_cons_succ]
        refine wpAnyH_ready (rs := [23]) (by kernel_rfl) (by simp) ?_
        refine AllReadyH.cons rfl (fun K hK => ?_) AllReadyH.nil
        go_simp
        refine (same_nodes nx W6 D1 D2 A1 A2 s1 s2 p1 p2 HKX6.out HNX6.out).mono ?_
        rintro e w7 ⟨rfl, hb7⟩
        refine hK.out _ _ ⟨hHeld.1.on hb7, hHeld.2.1.on hb7, hHeld.2.2.1.on hb7, hHeld.2.2.2.1.on (hb7.block b HB6.out), hHeld.2.2.2.2.on (hb7.block b HB6.out)⟩ (fun hHeld => ?_)
        clear hK K
        have hc7 := hc6.trans (hb7.mono hc6.size)
        have HNY7 := Lib.hid (HNY6.out.on hb7)
        have HKY7 := Lib.hid (HKY6.out.on hb7)
        have HB7 := Lib.hid (Nat.lt_of_lt_of_le HB6.out hb7.size)
        clear HNX6 HNY6 HKX6 HKY6 HB6 hb7 hrow
        refine take_d 24 107 (.bool false) _ rfl rfl (by kernel_rfl) (by kernel_rfl) (by kernel_rfl) (fun _ _ _ h => h) (Or.inl ⟨by rfl, fun w' hSw => ?_⟩) hHeld ?_
        · go_simp
        simp only [List.setIfInBounds_toArray, List.set_cons_zero, List.set_cons_succ]
        refine take_d 25 108 (.bool false) _ rfl rfl (by kernel_rfl) (by kernel_rfl) (by kernel_rfl) (fun _ _ _ h => h) (Or.inl ⟨by rfl, fun w' hSw => ?_⟩) hHeld ?_
        · go_simp
        simp only [List.setIfInBounds_toArray, List.set_cons_zero, List.set_cons_succ]
        refine take_d 26 109 (.bool false) _ rfl rfl (by kernel_rfl) (by kernel_rfl) (by kernel_rfl) (fun _ _ _ h => h) (Or.inl ⟨by rfl, fun w' hSw => ?_⟩) hHeld ?_
        · go_simp
        simp only [List.setIfInBounds_toArray, List.set_cons_zero, List.set_cons_succ]
        refine take_d 27 110 (.pointer (some ⟨w3.heap.size, 0, none⟩)) _ rfl rfl (by kernel_rfl) (by kernel_rfl) (by kernel_rfl) (fun _ _ _ h => h) (Or.inl ⟨by rfl, fun w' hSw => ?_⟩) hHeld ?_
        · go_simp
        simp only [List.setIfInBounds_toArray, List.set_cons_zero, List.set_cons_succ]
        refine take_d 28 111 (.pointer (some ⟨w3.heap.size, 6, none⟩)) _ rfl rfl (by kernel_rfl) (by kernel_rfl) (by kernel_rfl) (fun _ _ _ h => h) (Or.inl ⟨by rfl, fun w' hSw => ?_⟩) hHeld ?_
        · go_simp
        simp only [List.setIfInBounds_toArray, List.set_cons_zero, List.set_cons_succ]
        refine take_d 29 112 (.slice (some ⟨b, off, none⟩) 2 t2) _ rfl rfl (by kernel_rfl) (by kernel_rfl) (by kernel_rfl) (fun _ _ _ h => h) (Or.inl ⟨by rfl, fun w' hSw => ?_⟩) hHeld ?_
        · have hS9 := hSw.1.nine
          clear hSw
          go_simp
        simp only [List.setIfInBounds_toArray, List.set_cons_zero, List.set_cons_succ]
        refine take_d 30 113 (.pointer (some ⟨b, off + 7, none⟩)) _ rfl rfl (by kernel_rfl) (by kernel_rfl) (by kernel_rfl) (fun _ _ _ h => h) (Or.inl ⟨by rfl, fun w' hSw => ?_⟩) hHeld ?_
        · go_simp
        simp only [List.setIfInBounds_toArray, List.set_cons_zero, List.set_cons_succ]
        refine take_d 31 114 (.agg #[.int .i64 ny.kind, .int .i64 ny.lo, .int .i64 ny.hi, .int .i64 ny.mode, .int .i64 ny.ref, .slice F1 ny.set.length u1, .slice F2 ny.kids.length u2]) _ rfl rfl (by kernel_rfl) (by kernel_rfl) (by kernel_rfl) (fun _ _ _ h => h) (Or.inl ⟨by rfl, fun w' hSw => ?_⟩) hHeld ?_
        · have hS7 := hSw.2.2.2.2.seven_
          clear hSw
          go_simp
        simp only [List.setIfInBounds_toArray, List.set_cons_zero, List.set_cons_succ]
        refine take_d 32 115 (.pointer (some ⟨w2.heap.size, 0, none⟩)) _ rfl rfl (by kernel_rfl) (by kernel_rfl) (by kernel_rfl) (fun _ _ _ h => h) (Or.inl ⟨by rfl, fun w' hSw => ?_⟩) hHeld ?_
        · go_simp
        simp only [List.setIfInBounds_toArray, List.set_cons_zero, List.set_cons_succ]
        refine take_d 33 116 (.agg #[.int .i64 ny.kind, .int .i64 ny.lo, .int .i64 ny.hi, .int .i64 ny.mode, .int .i64 ny.ref, .slice B1 ny.set.length q1, .slice B2 ny.kids.length q2]) _ rfl rfl (by kernel_rfl) (by kernel_rfl) (by kernel_rfl) (fun _ _ _ h => h) (Or.inl ⟨by rfl, fun w' hSw => ?_⟩) hHeld ?_
        · have hS9 := hSw.2.2.1.nine
          clear hSw
          go_simp
        simp only [List.setIfInBounds_toArray, List.set_cons_zero, List.set_cons_succ]
        refine wpAnyH_ready (rs := [34]) (by kernel_rfl) (by simp) ?_
        refine AllReadyH.cons rfl (fun K hK => ?_) AllReadyH.nil
        go_simp
        refine (same_nodes ny w7 F1 F2 B1 B2 u1 u2 q1 q2 HKY7.out HNY7.out).mono ?_
        rintro e w8 ⟨rfl, hb8⟩
        refine hK.out _ _ ⟨hHeld.1.on hb8, hHeld.2.1.on hb8, hHeld.2.2.1.on hb8, hHeld.2.2.2.1.on (hb8.block b HB7.out), hHeld.2.2.2.2.on (hb8.block b HB7.out)⟩ (fun hHeld => ?_)
        clear hK K
        have hc8 := hc7.trans (hb8.mono hc7.size)
        refine take_d 35 118 (.bool false) _ rfl rfl (by kernel_rfl) (by kernel_rfl) (by kernel_rfl) (fun _ _ _ h => h) (Or.inl ⟨by rfl, fun w' hSw => ?_⟩) hHeld ?_
        · go_simp
        simp only [List.setIfInBounds_toArray, List.set_cons_zero, List.set_cons_succ]
        refine take_d 36 119 (.bool false) _ rfl rfl (by kernel_rfl) (by kernel_rfl) (by kernel_rfl) (fun _ _ _ h => h) (Or.inl ⟨by rfl, fun w' hSw => ?_⟩) hHeld ?_
        · go_simp
        simp only [List.setIfInBounds_toArray, List.set_cons_zero, List.set_cons_succ]
        refine wpAnyH_done (by kernel_rfl) ?_ _
        clear hHeld
        go_wp2
        go_roundw
        case rel => exact ⟨2, by omega, rfl, hc8⟩
        case measure => simp [intOf]
      · rw [h2] at HP3
        clear h2
        go_wp2_with fail
        refine (HP3.out _ HTr.out).mono ?_
        rintro e w3 ⟨rfl, hb3⟩
        unfold zero9
        have P3 := Lib.hid (put_new wr w3 #[.int .i64 0, .int .i64 0, .int .i64 0, .int .i64 0, .int .i64 0, .slice none 0 0, .slice none 0 0, .int .i64 0, .bool false] #[.int .i64 25, .int .i64 (p : Nat)] hb3)
        go_upto_region 13 with (fail)
        generalize (w3.alloc (.cells #[.int .i64 0, .int .i64 0, .int .i64 0, .int .i64 0, .int .i64 0, .slice none 0 0, .slice none 0 0, .int .i64 0, .bool false] 29)).alloc (.cells #[.int .i64 25, .int .i64 (p : Nat)] 32) = v3 at *
        have hf3a := P3.out.flt.cell 0
        simp at hf3a
        have hb13 := hbel.trans (P3.out.keep.mono hbel.size)
        go_wp2
        go_roundw
        case rel => exact ⟨2, by omega, rfl, hb13⟩
        case measure => simp [intOf]
    · go_wp2
      go_ret
      exact ⟨rfl, hbr⟩

theorem parseRows_law (x y : ByteArray) (w : World) (hT : TabsAt w.heap.size w) : Calls Tryd.prog 6 #[.string x, .string y] w fun e w' => e = .returned (.bool true) ∧ Below w.heap.size w w' := rows_law x y hT

end Go.Proofs.YthipgidddgdojaaDoor
