/- Joined: Qzc, Qzd. -/
import Derived.Test.YtpginkdkblmnbaaGreatDoorYMQy
import Derived.Test.YtpginkdkblmnbaaGreatDoorYMModel
/- The document's own sizes over its own nodes: Size. -/
namespace Go.Proofs.YtpginkdkblmnbaaGreatDoor
open Go.RowKit
open Go.Proofs.YtpginkdkblmnbaaGreatDoor.Cl (Rg SetV SetAt rgCells)
variable {w w' : World}

theorem capF_two (a b : Int) (_ha : 0 ≤ a) (hb : 0 ≤ b) : capF (capF a + b) = capF (a + b) := by
  unfold capF far; split <;> split <;> (try split) <;> omega
abbrev SizeQ := QC 14 (fun nd => .int .i64 (ndSize nd))
set_option maxRecDepth 100000 in
set_option maxHeartbeats 16000000 in
theorem sizeQ_step (n : Nat) (ih : SizeQ n) : SizeQ (n + 1) := by
  intro nd hsz hw w A1 A2 n1 p1 p2 nb hN
  show Calls _ _ _ w fun e w' => e = .returned (.int .i64 (ndSize nd)) ∧ Below w.heap.size w w'
  obtain ⟨b, off, hkv, hm⟩ := hN.kidsQ
  have HW := Lib.hid hw
  have HO := Lib.hid (kids_ok hw hsz)
  have HI := Lib.hid ih
  have hkd := kinds_of hw.shape
  obtain ⟨k, hk⟩ : ∃ k, k = nd.kind := ⟨_, rfl⟩
  rw [← hk] at hkd ⊢
  have hk' := hk.symm
  have HB0 := Lib.hid (Blk.new w 38 #[.int .i64 k, .int .i64 nd.lo, .int .i64 nd.hi, .int .i64 nd.mode, .int .i64 nd.ref, .slice A1 n1 p1, .bool nb, .slice A2 nd.kids.length p2])
  have hb0 := new_blkQ w #[.int .i64 k, .int .i64 nd.lo, .int .i64 nd.hi, .int .i64 nd.mode, .int .i64 nd.ref, .slice A1 n1 p1, .bool nb, .slice A2 nd.kids.length p2]
  have HV := Lib.hid (hkv.on hb0)
  have hall := qsum_le nd.kids (fun x hx => (HO.out x hx).1) ndSize (fun x hx => by have := ndSize_range hx; unfold far at this; exact this)
  obtain ⟨z, hz⟩ : ∃ z, z = ndSize nd := ⟨_, rfl⟩
  rw [← hz]
  obtain ⟨c, hc⟩ : ∃ c, c = (nd.kids.map ndSize).sum := ⟨_, rfl⟩
  rw [← hc] at hall
  have hcc : szSum nd.kids = capF c := by rw [hc]; rfl
  have HCC := Lib.hid hc
  have hl0 : (nd.kids.length : Int) ≤ 1000000 := by omega
  obtain ⟨hc1, hc2⟩ := hall
  have hc3 : c ≤ 1048576000000 := by omega
  clear hkv hN ih hw hsz hk hc
  have goal : Calls Tryz.prog 14 #[.agg #[.int .i64 k, .int .i64 nd.lo, .int .i64 nd.hi, .int .i64 nd.mode, .int .i64 nd.ref, .slice A1 n1 p1, .bool nb, .slice A2 nd.kids.length p2]] w fun e w' => e = .returned (.int .i64 z) ∧ Below w.heap.size w w' := by
    rcases hkd with h | rfl | rfl | h | rfl | rfl
    · rcases h with rfl | rfl | rfl
      · have HZ0 : Hid (z = 0) := Lib.hid (by rw [hz]; exact size_none (nd := nd) (by omega) (by omega) (by omega) (by omega) (by omega) (by omega) (by omega) (by omega) (by omega))
        have e : z = c := by have hs := HW.out.shape; rw [hk'] at hs; have : nd.kids = [] := List.eq_nil_of_length_eq_zero (by unfold shapeOk at hs; omega); rw [hz, size_none (nd := nd) (by omega) (by omega) (by omega) (by omega) (by omega) (by omega) (by omega) (by omega) (by omega), HCC.out, this]; rfl
        have E := Lib.hid e
        have HK' := Lib.hid hk'
        clear e hz hcc hk'
        go_enter Tryz.func14, Tryz.ntmps14
        go_upto_region 1 with (fail)
        have h8 := HB0.out.c8
        generalize w.alloc (.cells #[.int .i64 0, .int .i64 nd.lo, .int .i64 nd.hi, .int .i64 nd.mode, .int .i64 nd.ref, .slice A1 n1 p1, .bool nb, .slice A2 nd.kids.length p2] 38) = W at *
        go_wp2
        go_loopw [3, 4] (fun a i wr => ∃ (j : Nat) (l0 : Int), j ≤ nd.kids.length ∧ i = .int .i64 j ∧ a = .int .i64 l0 ∧ 0 ≤ l0 ∧ l0 ≤ 1048576000000 ∧ Hid (l0 = ((nd.kids.take j).map ndSize).sum) ∧ Below W.heap.size W wr) (fun _ i _ => nd.kids.length - (intOf i).toNat)
        case atStart => exact ⟨0, 0, Nat.zero_le _, rfl, rfl, by omega, by omega, Lib.hid rfl, Below.refl _ _⟩
        case round =>
          obtain ⟨j, l0, hj, rfl, rfl, hs1, hs2, HE, hbel⟩ := hrel
          have hbr := HB0.out.on hbel
          have c7 := hbr.c8
          clear hbr
          by_cases hlt : j < nd.kids.length
          · obtain ⟨x, hx⟩ : ∃ x, nd.kids[j]? = some x := ⟨_, List.getElem?_eq_getElem hlt⟩
            obtain ⟨hA, hb, k0, k1, k2, k3, k4, B1, B2, m1, q1, m2, q2, nb2, KQ⟩ := kid_call HI.out HV.out HO.out hx
            subst hA
            have HX := Lib.hid hx
            obtain ⟨l1, hl1⟩ : ∃ l1, l1 = ndSize x := ⟨_, rfl⟩
            rw [← hl1] at KQ
            have HN1 : Hid (l0 + l1 = ((nd.kids.take (j + 1)).map ndSize).sum) := Lib.hid (by rw [take_snocN HX.out, List.map_append, List.sum_append, ← HE.out, hl1]; simp)
            have hs3 := qsum_le (nd.kids.take (j + 1)) (fun x hx => (HO.out x (List.mem_of_mem_take hx)).1) ndSize (fun x hx => by have := ndSize_range hx; unfold far at this; exact this)
            rw [← HN1.out] at hs3
            have hlen : (nd.kids.take (j + 1)).length ≤ nd.kids.length := by simp; omega
            have hs4 : 0 ≤ l0 + l1 ∧ l0 + l1 ≤ 1048576000000 := by omega
            obtain ⟨hs5, hs6⟩ := hs4
            have KQ' := Lib.hid KQ
            have hc8 := KQ.cells wr hbel
            have hlti : (j : Int) < nd.kids.length := by omega
            clear hx hl1 KQ hs3 hlen
            go_wp2_with fail
            refine (KQ'.out.call wr hbel).mono ?_
            rintro e w1 ⟨rfl, hb1⟩
            have hbw := hbel.trans (hb1.mono hbel.size)
            clear hc8 c7
            go_wp2
            go_roundw
            case rel => exact ⟨j + 1, _, by omega, by go_num, rfl, by omega, by omega, HN1.out, hbw⟩
            case measure => simp [intOf]; omega
          · have hjl : j = nd.kids.length := by omega
            have hlc : l0 = c := by rw [HE.out, hjl, List.take_length, HCC.out]
            subst hjl hlc
            clear HE hlt
            have hnf : ¬ (1048576 : Int) < l0 := by have h1 := E.out; have h2 := HZ0.out; omega
            go_wp2
            go_ret
            exact ⟨qret_int E.out.symm, hb0.trans (hbel.mono hb0.size)⟩
      · have e : z = capF (c + 2) := by rw [hz, size_wrap HW.out (by omega), hcc, capF_two _ _ hc1 (by omega)]
        have HZ := Lib.hid e
        have HK' := Lib.hid hk'
        clear e hz hcc hk'
        go_enter Tryz.func14, Tryz.ntmps14
        go_upto_region 1 with (fail)
        have h8 := HB0.out.c8
        generalize w.alloc (.cells #[.int .i64 7, .int .i64 nd.lo, .int .i64 nd.hi, .int .i64 nd.mode, .int .i64 nd.ref, .slice A1 n1 p1, .bool nb, .slice A2 nd.kids.length p2] 38) = W at *
        go_wp2
        go_loopw [3, 4] (fun a i wr => ∃ (j : Nat) (l0 : Int), j ≤ nd.kids.length ∧ i = .int .i64 j ∧ a = .int .i64 l0 ∧ 0 ≤ l0 ∧ l0 ≤ 1048576000000 ∧ Hid (l0 = ((nd.kids.take j).map ndSize).sum) ∧ Below W.heap.size W wr) (fun _ i _ => nd.kids.length - (intOf i).toNat)
        case atStart => exact ⟨0, 0, Nat.zero_le _, rfl, rfl, by omega, by omega, Lib.hid rfl, Below.refl _ _⟩
        case round =>
          obtain ⟨j, l0, hj, rfl, rfl, hs1, hs2, HE, hbel⟩ := hrel
          have hbr := HB0.out.on hbel
          have c7 := hbr.c8
          clear hbr
          by_cases hlt : j < nd.kids.length
          · obtain ⟨x, hx⟩ : ∃ x, nd.kids[j]? = some x := ⟨_, List.getElem?_eq_getElem hlt⟩
            obtain ⟨hA, hb, k0, k1, k2, k3, k4, B1, B2, m1, q1, m2, q2, nb2, KQ⟩ := kid_call HI.out HV.out HO.out hx
            subst hA
            have HX := Lib.hid hx
            obtain ⟨l1, hl1⟩ : ∃ l1, l1 = ndSize x := ⟨_, rfl⟩
            rw [← hl1] at KQ
            have HN1 : Hid (l0 + l1 = ((nd.kids.take (j + 1)).map ndSize).sum) := Lib.hid (by rw [take_snocN HX.out, List.map_append, List.sum_append, ← HE.out, hl1]; simp)
            have hs3 := qsum_le (nd.kids.take (j + 1)) (fun x hx => (HO.out x (List.mem_of_mem_take hx)).1) ndSize (fun x hx => by have := ndSize_range hx; unfold far at this; exact this)
            rw [← HN1.out] at hs3
            have hlen : (nd.kids.take (j + 1)).length ≤ nd.kids.length := by simp; omega
            have hs4 : 0 ≤ l0 + l1 ∧ l0 + l1 ≤ 1048576000000 := by omega
            obtain ⟨hs5, hs6⟩ := hs4
            have KQ' := Lib.hid KQ
            have hc8 := KQ.cells wr hbel
            have hlti : (j : Int) < nd.kids.length := by omega
            clear hx hl1 KQ hs3 hlen
            go_wp2_with fail
            refine (KQ'.out.call wr hbel).mono ?_
            rintro e w1 ⟨rfl, hb1⟩
            have hbw := hbel.trans (hb1.mono hbel.size)
            clear hc8 c7
            go_wp2
            go_roundw
            case rel => exact ⟨j + 1, _, by omega, by go_num, rfl, by omega, by omega, HN1.out, hbw⟩
            case measure => simp [intOf]; omega
          · have hjl : j = nd.kids.length := by omega
            have hlc : l0 = c := by rw [HE.out, hjl, List.take_length, HCC.out]
            subst hjl hlc
            clear HE hlt
            by_cases hbig : (1048576 : Int) < l0 + 2
            · have e : z = 1048576 := by rw [HZ.out]; unfold capF far; rw [if_pos (by omega)]
              have E := Lib.hid e
              clear e
              go_wp2
              go_ret
              exact ⟨qret_int E.out.symm, hb0.trans (hbel.mono hb0.size)⟩
            · have e : z = l0 + 2 := by have h := HZ.out; unfold capF far at h; rw [if_neg (by omega)] at h; omega
              have E := Lib.hid e
              clear e
              go_wp2
              go_ret
              exact ⟨qret_int E.out.symm, hb0.trans (hbel.mono hb0.size)⟩
      · have e : z = 1 := by rw [hz]; exact size_one (by omega)
        have E := Lib.hid e
        have HK' := Lib.hid hk'
        clear e hz hcc hk'
        go_enter Tryz.func14, Tryz.ntmps14
        go_upto_region 1 with (fail)
        have h8 := HB0.out.c8
        generalize w.alloc (.cells #[.int .i64 9, .int .i64 nd.lo, .int .i64 nd.hi, .int .i64 nd.mode, .int .i64 nd.ref, .slice A1 n1 p1, .bool nb, .slice A2 nd.kids.length p2] 38) = W at *
        go_wp2
        go_loopw [3, 4] (fun a i wr => ∃ (j : Nat) (l0 : Int), j ≤ nd.kids.length ∧ i = .int .i64 j ∧ a = .int .i64 l0 ∧ 0 ≤ l0 ∧ l0 ≤ 1048576000000 ∧ Hid (l0 = ((nd.kids.take j).map ndSize).sum) ∧ Below W.heap.size W wr) (fun _ i _ => nd.kids.length - (intOf i).toNat)
        case atStart => exact ⟨0, 0, Nat.zero_le _, rfl, rfl, by omega, by omega, Lib.hid rfl, Below.refl _ _⟩
        case round =>
          obtain ⟨j, l0, hj, rfl, rfl, hs1, hs2, HE, hbel⟩ := hrel
          have hbr := HB0.out.on hbel
          have c7 := hbr.c8
          clear hbr
          by_cases hlt : j < nd.kids.length
          · obtain ⟨x, hx⟩ : ∃ x, nd.kids[j]? = some x := ⟨_, List.getElem?_eq_getElem hlt⟩
            obtain ⟨hA, hb, k0, k1, k2, k3, k4, B1, B2, m1, q1, m2, q2, nb2, KQ⟩ := kid_call HI.out HV.out HO.out hx
            subst hA
            have HX := Lib.hid hx
            obtain ⟨l1, hl1⟩ : ∃ l1, l1 = ndSize x := ⟨_, rfl⟩
            rw [← hl1] at KQ
            have HN1 : Hid (l0 + l1 = ((nd.kids.take (j + 1)).map ndSize).sum) := Lib.hid (by rw [take_snocN HX.out, List.map_append, List.sum_append, ← HE.out, hl1]; simp)
            have hs3 := qsum_le (nd.kids.take (j + 1)) (fun x hx => (HO.out x (List.mem_of_mem_take hx)).1) ndSize (fun x hx => by have := ndSize_range hx; unfold far at this; exact this)
            rw [← HN1.out] at hs3
            have hlen : (nd.kids.take (j + 1)).length ≤ nd.kids.length := by simp; omega
            have hs4 : 0 ≤ l0 + l1 ∧ l0 + l1 ≤ 1048576000000 := by omega
            obtain ⟨hs5, hs6⟩ := hs4
            have KQ' := Lib.hid KQ
            have hc8 := KQ.cells wr hbel
            have hlti : (j : Int) < nd.kids.length := by omega
            clear hx hl1 KQ hs3 hlen
            go_wp2_with fail
            refine (KQ'.out.call wr hbel).mono ?_
            rintro e w1 ⟨rfl, hb1⟩
            have hbw := hbel.trans (hb1.mono hbel.size)
            clear hc8 c7
            go_wp2
            go_roundw
            case rel => exact ⟨j + 1, _, by omega, by go_num, rfl, by omega, by omega, HN1.out, hbw⟩
            case measure => simp [intOf]; omega
          · have hjl : j = nd.kids.length := by omega
            have hlc : l0 = c := by rw [HE.out, hjl, List.take_length, HCC.out]
            subst hjl hlc
            clear HE hlt
            go_wp2
            go_ret
            exact ⟨qret_int E.out.symm, hb0.trans (hbel.mono hb0.size)⟩
    · have e : z = 1 := by rw [hz]; exact size_one (by omega)
      have E := Lib.hid e
      have HK' := Lib.hid hk'
      clear e hz hcc hk'
      go_enter Tryz.func14, Tryz.ntmps14
      go_upto_region 1 with (fail)
      have h8 := HB0.out.c8
      generalize w.alloc (.cells #[.int .i64 1, .int .i64 nd.lo, .int .i64 nd.hi, .int .i64 nd.mode, .int .i64 nd.ref, .slice A1 n1 p1, .bool nb, .slice A2 nd.kids.length p2] 38) = W at *
      go_wp2
      go_loopw [3, 4] (fun a i wr => ∃ (j : Nat) (l0 : Int), j ≤ nd.kids.length ∧ i = .int .i64 j ∧ a = .int .i64 l0 ∧ 0 ≤ l0 ∧ l0 ≤ 1048576000000 ∧ Hid (l0 = ((nd.kids.take j).map ndSize).sum) ∧ Below W.heap.size W wr) (fun _ i _ => nd.kids.length - (intOf i).toNat)
      case atStart => exact ⟨0, 0, Nat.zero_le _, rfl, rfl, by omega, by omega, Lib.hid rfl, Below.refl _ _⟩
      case round =>
        obtain ⟨j, l0, hj, rfl, rfl, hs1, hs2, HE, hbel⟩ := hrel
        have hbr := HB0.out.on hbel
        have c7 := hbr.c8
        clear hbr
        by_cases hlt : j < nd.kids.length
        · obtain ⟨x, hx⟩ : ∃ x, nd.kids[j]? = some x := ⟨_, List.getElem?_eq_getElem hlt⟩
          obtain ⟨hA, hb, k0, k1, k2, k3, k4, B1, B2, m1, q1, m2, q2, nb2, KQ⟩ := kid_call HI.out HV.out HO.out hx
          subst hA
          have HX := Lib.hid hx
          obtain ⟨l1, hl1⟩ : ∃ l1, l1 = ndSize x := ⟨_, rfl⟩
          rw [← hl1] at KQ
          have HN1 : Hid (l0 + l1 = ((nd.kids.take (j + 1)).map ndSize).sum) := Lib.hid (by rw [take_snocN HX.out, List.map_append, List.sum_append, ← HE.out, hl1]; simp)
          have hs3 := qsum_le (nd.kids.take (j + 1)) (fun x hx => (HO.out x (List.mem_of_mem_take hx)).1) ndSize (fun x hx => by have := ndSize_range hx; unfold far at this; exact this)
          rw [← HN1.out] at hs3
          have hlen : (nd.kids.take (j + 1)).length ≤ nd.kids.length := by simp; omega
          have hs4 : 0 ≤ l0 + l1 ∧ l0 + l1 ≤ 1048576000000 := by omega
          obtain ⟨hs5, hs6⟩ := hs4
          have KQ' := Lib.hid KQ
          have hc8 := KQ.cells wr hbel
          have hlti : (j : Int) < nd.kids.length := by omega
          clear hx hl1 KQ hs3 hlen
          go_wp2_with fail
          refine (KQ'.out.call wr hbel).mono ?_
          rintro e w1 ⟨rfl, hb1⟩
          have hbw := hbel.trans (hb1.mono hbel.size)
          clear hc8 c7
          go_wp2
          go_roundw
          case rel => exact ⟨j + 1, _, by omega, by go_num, rfl, by omega, by omega, HN1.out, hbw⟩
          case measure => simp [intOf]; omega
        · have hjl : j = nd.kids.length := by omega
          have hlc : l0 = c := by rw [HE.out, hjl, List.take_length, HCC.out]
          subst hjl hlc
          clear HE hlt
          go_wp2
          go_ret
          exact ⟨qret_int E.out.symm, hb0.trans (hbel.mono hb0.size)⟩
    · have e : z = 1 := by rw [hz]; exact size_one (by omega)
      have E := Lib.hid e
      have HK' := Lib.hid hk'
      clear e hz hcc hk'
      go_enter Tryz.func14, Tryz.ntmps14
      go_upto_region 1 with (fail)
      have h8 := HB0.out.c8
      generalize w.alloc (.cells #[.int .i64 6, .int .i64 nd.lo, .int .i64 nd.hi, .int .i64 nd.mode, .int .i64 nd.ref, .slice A1 n1 p1, .bool nb, .slice A2 nd.kids.length p2] 38) = W at *
      go_wp2
      go_loopw [3, 4] (fun a i wr => ∃ (j : Nat) (l0 : Int), j ≤ nd.kids.length ∧ i = .int .i64 j ∧ a = .int .i64 l0 ∧ 0 ≤ l0 ∧ l0 ≤ 1048576000000 ∧ Hid (l0 = ((nd.kids.take j).map ndSize).sum) ∧ Below W.heap.size W wr) (fun _ i _ => nd.kids.length - (intOf i).toNat)
      case atStart => exact ⟨0, 0, Nat.zero_le _, rfl, rfl, by omega, by omega, Lib.hid rfl, Below.refl _ _⟩
      case round =>
        obtain ⟨j, l0, hj, rfl, rfl, hs1, hs2, HE, hbel⟩ := hrel
        have hbr := HB0.out.on hbel
        have c7 := hbr.c8
        clear hbr
        by_cases hlt : j < nd.kids.length
        · obtain ⟨x, hx⟩ : ∃ x, nd.kids[j]? = some x := ⟨_, List.getElem?_eq_getElem hlt⟩
          obtain ⟨hA, hb, k0, k1, k2, k3, k4, B1, B2, m1, q1, m2, q2, nb2, KQ⟩ := kid_call HI.out HV.out HO.out hx
          subst hA
          have HX := Lib.hid hx
          obtain ⟨l1, hl1⟩ : ∃ l1, l1 = ndSize x := ⟨_, rfl⟩
          rw [← hl1] at KQ
          have HN1 : Hid (l0 + l1 = ((nd.kids.take (j + 1)).map ndSize).sum) := Lib.hid (by rw [take_snocN HX.out, List.map_append, List.sum_append, ← HE.out, hl1]; simp)
          have hs3 := qsum_le (nd.kids.take (j + 1)) (fun x hx => (HO.out x (List.mem_of_mem_take hx)).1) ndSize (fun x hx => by have := ndSize_range hx; unfold far at this; exact this)
          rw [← HN1.out] at hs3
          have hlen : (nd.kids.take (j + 1)).length ≤ nd.kids.length := by simp; omega
          have hs4 : 0 ≤ l0 + l1 ∧ l0 + l1 ≤ 1048576000000 := by omega
          obtain ⟨hs5, hs6⟩ := hs4
          have KQ' := Lib.hid KQ
          have hc8 := KQ.cells wr hbel
          have hlti : (j : Int) < nd.kids.length := by omega
          clear hx hl1 KQ hs3 hlen
          go_wp2_with fail
          refine (KQ'.out.call wr hbel).mono ?_
          rintro e w1 ⟨rfl, hb1⟩
          have hbw := hbel.trans (hb1.mono hbel.size)
          clear hc8 c7
          go_wp2
          go_roundw
          case rel => exact ⟨j + 1, _, by omega, by go_num, rfl, by omega, by omega, HN1.out, hbw⟩
          case measure => simp [intOf]; omega
        · have hjl : j = nd.kids.length := by omega
          have hlc : l0 = c := by rw [HE.out, hjl, List.take_length, HCC.out]
          subst hjl hlc
          clear HE hlt
          go_wp2
          go_ret
          exact ⟨qret_int E.out.symm, hb0.trans (hbel.mono hb0.size)⟩
    · rcases h with rfl | rfl | rfl
      · have e : z = capF c := by rw [hz, size_row (by omega), hcc]
        have HZ := Lib.hid e
        have HK' := Lib.hid hk'
        clear e hz hcc hk'
        go_enter Tryz.func14, Tryz.ntmps14
        go_upto_region 1 with (fail)
        have h8 := HB0.out.c8
        generalize w.alloc (.cells #[.int .i64 2, .int .i64 nd.lo, .int .i64 nd.hi, .int .i64 nd.mode, .int .i64 nd.ref, .slice A1 n1 p1, .bool nb, .slice A2 nd.kids.length p2] 38) = W at *
        go_wp2
        go_loopw [3, 4] (fun a i wr => ∃ (j : Nat) (l0 : Int), j ≤ nd.kids.length ∧ i = .int .i64 j ∧ a = .int .i64 l0 ∧ 0 ≤ l0 ∧ l0 ≤ 1048576000000 ∧ Hid (l0 = ((nd.kids.take j).map ndSize).sum) ∧ Below W.heap.size W wr) (fun _ i _ => nd.kids.length - (intOf i).toNat)
        case atStart => exact ⟨0, 0, Nat.zero_le _, rfl, rfl, by omega, by omega, Lib.hid rfl, Below.refl _ _⟩
        case round =>
          obtain ⟨j, l0, hj, rfl, rfl, hs1, hs2, HE, hbel⟩ := hrel
          have hbr := HB0.out.on hbel
          have c7 := hbr.c8
          clear hbr
          by_cases hlt : j < nd.kids.length
          · obtain ⟨x, hx⟩ : ∃ x, nd.kids[j]? = some x := ⟨_, List.getElem?_eq_getElem hlt⟩
            obtain ⟨hA, hb, k0, k1, k2, k3, k4, B1, B2, m1, q1, m2, q2, nb2, KQ⟩ := kid_call HI.out HV.out HO.out hx
            subst hA
            have HX := Lib.hid hx
            obtain ⟨l1, hl1⟩ : ∃ l1, l1 = ndSize x := ⟨_, rfl⟩
            rw [← hl1] at KQ
            have HN1 : Hid (l0 + l1 = ((nd.kids.take (j + 1)).map ndSize).sum) := Lib.hid (by rw [take_snocN HX.out, List.map_append, List.sum_append, ← HE.out, hl1]; simp)
            have hs3 := qsum_le (nd.kids.take (j + 1)) (fun x hx => (HO.out x (List.mem_of_mem_take hx)).1) ndSize (fun x hx => by have := ndSize_range hx; unfold far at this; exact this)
            rw [← HN1.out] at hs3
            have hlen : (nd.kids.take (j + 1)).length ≤ nd.kids.length := by simp; omega
            have hs4 : 0 ≤ l0 + l1 ∧ l0 + l1 ≤ 1048576000000 := by omega
            obtain ⟨hs5, hs6⟩ := hs4
            have KQ' := Lib.hid KQ
            have hc8 := KQ.cells wr hbel
            have hlti : (j : Int) < nd.kids.length := by omega
            clear hx hl1 KQ hs3 hlen
            go_wp2_with fail
            refine (KQ'.out.call wr hbel).mono ?_
            rintro e w1 ⟨rfl, hb1⟩
            have hbw := hbel.trans (hb1.mono hbel.size)
            clear hc8 c7
            go_wp2
            go_roundw
            case rel => exact ⟨j + 1, _, by omega, by go_num, rfl, by omega, by omega, HN1.out, hbw⟩
            case measure => simp [intOf]; omega
          · have hjl : j = nd.kids.length := by omega
            have hlc : l0 = c := by rw [HE.out, hjl, List.take_length, HCC.out]
            subst hjl hlc
            clear HE hlt
            by_cases hbig : (1048576 : Int) < l0
            · have e : z = 1048576 := by rw [HZ.out]; unfold capF far; rw [if_pos (by omega)]
              have E := Lib.hid e
              clear e
              go_wp2
              go_ret
              exact ⟨qret_int E.out.symm, hb0.trans (hbel.mono hb0.size)⟩
            · have e : z = l0 := by have h := HZ.out; unfold capF far at h; rw [if_neg (by omega)] at h; omega
              have E := Lib.hid e
              clear e
              go_wp2
              go_ret
              exact ⟨qret_int E.out.symm, hb0.trans (hbel.mono hb0.size)⟩
      · have e : z = capF (c + 2) := by rw [hz, size_wrap HW.out (by omega), hcc, capF_two _ _ hc1 (by omega)]
        have HZ := Lib.hid e
        have HK' := Lib.hid hk'
        clear e hz hcc hk'
        go_enter Tryz.func14, Tryz.ntmps14
        go_upto_region 1 with (fail)
        have h8 := HB0.out.c8
        generalize w.alloc (.cells #[.int .i64 5, .int .i64 nd.lo, .int .i64 nd.hi, .int .i64 nd.mode, .int .i64 nd.ref, .slice A1 n1 p1, .bool nb, .slice A2 nd.kids.length p2] 38) = W at *
        go_wp2
        go_loopw [3, 4] (fun a i wr => ∃ (j : Nat) (l0 : Int), j ≤ nd.kids.length ∧ i = .int .i64 j ∧ a = .int .i64 l0 ∧ 0 ≤ l0 ∧ l0 ≤ 1048576000000 ∧ Hid (l0 = ((nd.kids.take j).map ndSize).sum) ∧ Below W.heap.size W wr) (fun _ i _ => nd.kids.length - (intOf i).toNat)
        case atStart => exact ⟨0, 0, Nat.zero_le _, rfl, rfl, by omega, by omega, Lib.hid rfl, Below.refl _ _⟩
        case round =>
          obtain ⟨j, l0, hj, rfl, rfl, hs1, hs2, HE, hbel⟩ := hrel
          have hbr := HB0.out.on hbel
          have c7 := hbr.c8
          clear hbr
          by_cases hlt : j < nd.kids.length
          · obtain ⟨x, hx⟩ : ∃ x, nd.kids[j]? = some x := ⟨_, List.getElem?_eq_getElem hlt⟩
            obtain ⟨hA, hb, k0, k1, k2, k3, k4, B1, B2, m1, q1, m2, q2, nb2, KQ⟩ := kid_call HI.out HV.out HO.out hx
            subst hA
            have HX := Lib.hid hx
            obtain ⟨l1, hl1⟩ : ∃ l1, l1 = ndSize x := ⟨_, rfl⟩
            rw [← hl1] at KQ
            have HN1 : Hid (l0 + l1 = ((nd.kids.take (j + 1)).map ndSize).sum) := Lib.hid (by rw [take_snocN HX.out, List.map_append, List.sum_append, ← HE.out, hl1]; simp)
            have hs3 := qsum_le (nd.kids.take (j + 1)) (fun x hx => (HO.out x (List.mem_of_mem_take hx)).1) ndSize (fun x hx => by have := ndSize_range hx; unfold far at this; exact this)
            rw [← HN1.out] at hs3
            have hlen : (nd.kids.take (j + 1)).length ≤ nd.kids.length := by simp; omega
            have hs4 : 0 ≤ l0 + l1 ∧ l0 + l1 ≤ 1048576000000 := by omega
            obtain ⟨hs5, hs6⟩ := hs4
            have KQ' := Lib.hid KQ
            have hc8 := KQ.cells wr hbel
            have hlti : (j : Int) < nd.kids.length := by omega
            clear hx hl1 KQ hs3 hlen
            go_wp2_with fail
            refine (KQ'.out.call wr hbel).mono ?_
            rintro e w1 ⟨rfl, hb1⟩
            have hbw := hbel.trans (hb1.mono hbel.size)
            clear hc8 c7
            go_wp2
            go_roundw
            case rel => exact ⟨j + 1, _, by omega, by go_num, rfl, by omega, by omega, HN1.out, hbw⟩
            case measure => simp [intOf]; omega
          · have hjl : j = nd.kids.length := by omega
            have hlc : l0 = c := by rw [HE.out, hjl, List.take_length, HCC.out]
            subst hjl hlc
            clear HE hlt
            by_cases hbig : (1048576 : Int) < l0 + 2
            · have e : z = 1048576 := by rw [HZ.out]; unfold capF far; rw [if_pos (by omega)]
              have E := Lib.hid e
              clear e
              go_wp2
              go_ret
              exact ⟨qret_int E.out.symm, hb0.trans (hbel.mono hb0.size)⟩
            · have e : z = l0 + 2 := by have h := HZ.out; unfold capF far at h; rw [if_neg (by omega)] at h; omega
              have E := Lib.hid e
              clear e
              go_wp2
              go_ret
              exact ⟨qret_int E.out.symm, hb0.trans (hbel.mono hb0.size)⟩
      · have e : z = capF (c + 2) := by rw [hz, size_wrap HW.out (by omega), hcc, capF_two _ _ hc1 (by omega)]
        have HZ := Lib.hid e
        have HK' := Lib.hid hk'
        clear e hz hcc hk'
        go_enter Tryz.func14, Tryz.ntmps14
        go_upto_region 1 with (fail)
        have h8 := HB0.out.c8
        generalize w.alloc (.cells #[.int .i64 8, .int .i64 nd.lo, .int .i64 nd.hi, .int .i64 nd.mode, .int .i64 nd.ref, .slice A1 n1 p1, .bool nb, .slice A2 nd.kids.length p2] 38) = W at *
        go_wp2
        go_loopw [3, 4] (fun a i wr => ∃ (j : Nat) (l0 : Int), j ≤ nd.kids.length ∧ i = .int .i64 j ∧ a = .int .i64 l0 ∧ 0 ≤ l0 ∧ l0 ≤ 1048576000000 ∧ Hid (l0 = ((nd.kids.take j).map ndSize).sum) ∧ Below W.heap.size W wr) (fun _ i _ => nd.kids.length - (intOf i).toNat)
        case atStart => exact ⟨0, 0, Nat.zero_le _, rfl, rfl, by omega, by omega, Lib.hid rfl, Below.refl _ _⟩
        case round =>
          obtain ⟨j, l0, hj, rfl, rfl, hs1, hs2, HE, hbel⟩ := hrel
          have hbr := HB0.out.on hbel
          have c7 := hbr.c8
          clear hbr
          by_cases hlt : j < nd.kids.length
          · obtain ⟨x, hx⟩ : ∃ x, nd.kids[j]? = some x := ⟨_, List.getElem?_eq_getElem hlt⟩
            obtain ⟨hA, hb, k0, k1, k2, k3, k4, B1, B2, m1, q1, m2, q2, nb2, KQ⟩ := kid_call HI.out HV.out HO.out hx
            subst hA
            have HX := Lib.hid hx
            obtain ⟨l1, hl1⟩ : ∃ l1, l1 = ndSize x := ⟨_, rfl⟩
            rw [← hl1] at KQ
            have HN1 : Hid (l0 + l1 = ((nd.kids.take (j + 1)).map ndSize).sum) := Lib.hid (by rw [take_snocN HX.out, List.map_append, List.sum_append, ← HE.out, hl1]; simp)
            have hs3 := qsum_le (nd.kids.take (j + 1)) (fun x hx => (HO.out x (List.mem_of_mem_take hx)).1) ndSize (fun x hx => by have := ndSize_range hx; unfold far at this; exact this)
            rw [← HN1.out] at hs3
            have hlen : (nd.kids.take (j + 1)).length ≤ nd.kids.length := by simp; omega
            have hs4 : 0 ≤ l0 + l1 ∧ l0 + l1 ≤ 1048576000000 := by omega
            obtain ⟨hs5, hs6⟩ := hs4
            have KQ' := Lib.hid KQ
            have hc8 := KQ.cells wr hbel
            have hlti : (j : Int) < nd.kids.length := by omega
            clear hx hl1 KQ hs3 hlen
            go_wp2_with fail
            refine (KQ'.out.call wr hbel).mono ?_
            rintro e w1 ⟨rfl, hb1⟩
            have hbw := hbel.trans (hb1.mono hbel.size)
            clear hc8 c7
            go_wp2
            go_roundw
            case rel => exact ⟨j + 1, _, by omega, by go_num, rfl, by omega, by omega, HN1.out, hbw⟩
            case measure => simp [intOf]; omega
          · have hjl : j = nd.kids.length := by omega
            have hlc : l0 = c := by rw [HE.out, hjl, List.take_length, HCC.out]
            subst hjl hlc
            clear HE hlt
            by_cases hbig : (1048576 : Int) < l0 + 2
            · have e : z = 1048576 := by rw [HZ.out]; unfold capF far; rw [if_pos (by omega)]
              have E := Lib.hid e
              clear e
              go_wp2
              go_ret
              exact ⟨qret_int E.out.symm, hb0.trans (hbel.mono hb0.size)⟩
            · have e : z = l0 + 2 := by have h := HZ.out; unfold capF far at h; rw [if_neg (by omega)] at h; omega
              have E := Lib.hid e
              clear e
              go_wp2
              go_ret
              exact ⟨qret_int E.out.symm, hb0.trans (hbel.mono hb0.size)⟩
    · have e : z = capF (c + 2 * (nd.kids.length : Int) - 2) := by
        have hs := HW.out.shape
        rw [hk'] at hs
        have h2 : 2 ≤ nd.kids.length := by unfold shapeOk at hs; omega
        have h3 := capF_two c (2 * ((nd.kids.length : Int) - 1)) hc1 (by omega)
        rw [hz, size_alts HW.out hk', hcc, h3]
        congr 1
        omega
      have HZ := Lib.hid e
      have HK' := Lib.hid hk'
      clear e hz hcc hk'
      go_enter Tryz.func14, Tryz.ntmps14
      go_upto_region 1 with (fail)
      have h8 := HB0.out.c8
      generalize w.alloc (.cells #[.int .i64 3, .int .i64 nd.lo, .int .i64 nd.hi, .int .i64 nd.mode, .int .i64 nd.ref, .slice A1 n1 p1, .bool nb, .slice A2 nd.kids.length p2] 38) = W at *
      go_wp2
      go_loopw [3, 4] (fun a i wr => ∃ (j : Nat) (l0 : Int), j ≤ nd.kids.length ∧ i = .int .i64 j ∧ a = .int .i64 l0 ∧ 0 ≤ l0 ∧ l0 ≤ 1048576000000 ∧ Hid (l0 = ((nd.kids.take j).map ndSize).sum) ∧ Below W.heap.size W wr) (fun _ i _ => nd.kids.length - (intOf i).toNat)
      case atStart => exact ⟨0, 0, Nat.zero_le _, rfl, rfl, by omega, by omega, Lib.hid rfl, Below.refl _ _⟩
      case round =>
        obtain ⟨j, l0, hj, rfl, rfl, hs1, hs2, HE, hbel⟩ := hrel
        have hbr := HB0.out.on hbel
        have c7 := hbr.c8
        clear hbr
        by_cases hlt : j < nd.kids.length
        · obtain ⟨x, hx⟩ : ∃ x, nd.kids[j]? = some x := ⟨_, List.getElem?_eq_getElem hlt⟩
          obtain ⟨hA, hb, k0, k1, k2, k3, k4, B1, B2, m1, q1, m2, q2, nb2, KQ⟩ := kid_call HI.out HV.out HO.out hx
          subst hA
          have HX := Lib.hid hx
          obtain ⟨l1, hl1⟩ : ∃ l1, l1 = ndSize x := ⟨_, rfl⟩
          rw [← hl1] at KQ
          have HN1 : Hid (l0 + l1 = ((nd.kids.take (j + 1)).map ndSize).sum) := Lib.hid (by rw [take_snocN HX.out, List.map_append, List.sum_append, ← HE.out, hl1]; simp)
          have hs3 := qsum_le (nd.kids.take (j + 1)) (fun x hx => (HO.out x (List.mem_of_mem_take hx)).1) ndSize (fun x hx => by have := ndSize_range hx; unfold far at this; exact this)
          rw [← HN1.out] at hs3
          have hlen : (nd.kids.take (j + 1)).length ≤ nd.kids.length := by simp; omega
          have hs4 : 0 ≤ l0 + l1 ∧ l0 + l1 ≤ 1048576000000 := by omega
          obtain ⟨hs5, hs6⟩ := hs4
          have KQ' := Lib.hid KQ
          have hc8 := KQ.cells wr hbel
          have hlti : (j : Int) < nd.kids.length := by omega
          clear hx hl1 KQ hs3 hlen
          go_wp2_with fail
          refine (KQ'.out.call wr hbel).mono ?_
          rintro e w1 ⟨rfl, hb1⟩
          have hbw := hbel.trans (hb1.mono hbel.size)
          clear hc8 c7
          go_wp2
          go_roundw
          case rel => exact ⟨j + 1, _, by omega, by go_num, rfl, by omega, by omega, HN1.out, hbw⟩
          case measure => simp [intOf]; omega
        · have hjl : j = nd.kids.length := by omega
          have hlc : l0 = c := by rw [HE.out, hjl, List.take_length, HCC.out]
          subst hjl hlc
          clear HE hlt
          by_cases hbig : (1048576 : Int) < l0 + 2 * (nd.kids.length : Int) - 2
          · have e : z = 1048576 := by rw [HZ.out]; unfold capF far; rw [if_pos (by omega)]
            have E := Lib.hid e
            clear e
            go_wp2
            go_ret
            exact ⟨qret_int E.out.symm, hb0.trans (hbel.mono hb0.size)⟩
          · have e : z = l0 + 2 * (nd.kids.length : Int) - 2 := by have h := HZ.out; unfold capF far at h; rw [if_neg (by omega)] at h; omega
            have E := Lib.hid e
            clear e
            go_wp2
            go_ret
            exact ⟨qret_int E.out.symm, hb0.trans (hbel.mono hb0.size)⟩
    · obtain ⟨e, g1, g2, g3, g4, g5⟩ := size_rep HW.out hk'
      have hl1 : nd.kids.length = 1 := by have hs := HW.out.shape; rw [hk'] at hs; unfold shapeOk at hs; omega
      obtain ⟨x, hx⟩ := hd_one hl1
      have hwx : Wf x := HW.out.kids x (by rw [hx]; simp)
      have hxr := ndSize_range hwx
      unfold far at hxr
      have hcx : c = ndSize x := by rw [HCC.out, hx]; simp
      have hcs : szSum nd.kids = c := by rw [hcc, hcx]; unfold capF far; rw [if_neg (by omega)]
      have hc4 : c ≤ 1048576 := by rw [hcx]; exact hxr.2
      rw [hcs, ← hz] at e
      have HZ := Lib.hid e
      have HK' := Lib.hid hk'
      have q0 : 0 ≤ nd.lo * c := Int.mul_nonneg g1 hc1
      have q1 : nd.lo * c ≤ 64 * 1048576 := Int.mul_le_mul g2 hc4 hc1 (by omega)
      have q2 : nd.hi ≠ -1 → 0 ≤ (nd.hi - nd.lo) * (c + 1) := fun h => by
        have := g5 h
        exact Int.mul_nonneg (by omega) (by omega)
      have q3 : (nd.hi - nd.lo) * (c + 1) ≤ 64 * 1048577 := by
        by_cases h : nd.hi - nd.lo < 0
        · have : (nd.hi - nd.lo) * (c + 1) ≤ 0 := Int.mul_nonpos_of_nonpos_of_nonneg (by omega) (by omega)
          omega
        · exact Int.mul_le_mul (by omega) (by omega) (by omega) (by omega)
      have q4 : -(65 * 1048577) ≤ (nd.hi - nd.lo) * (c + 1) := by
        have h1 : (nd.lo - nd.hi) * (c + 1) ≤ 65 * 1048577 := by
          by_cases h : nd.lo - nd.hi < 0
          · have : (nd.lo - nd.hi) * (c + 1) ≤ 0 := Int.mul_nonpos_of_nonpos_of_nonneg (by omega) (by omega)
            omega
          · exact Int.mul_le_mul (by omega) (by omega) (by omega) (by omega)
        have h2 : (nd.hi - nd.lo) * (c + 1) = -((nd.lo - nd.hi) * (c + 1)) := by rw [← Int.neg_mul]; congr 1; omega
        omega
      have Q2 := Lib.hid q2
      have HG5 := Lib.hid g5
      clear e hz hcc hk' hl1 hx hwx hxr hcx hcs q2 g5
      go_enter Tryz.func14, Tryz.ntmps14
      go_upto_region 1 with (fail)
      have h8 := HB0.out.c8
      generalize w.alloc (.cells #[.int .i64 4, .int .i64 nd.lo, .int .i64 nd.hi, .int .i64 nd.mode, .int .i64 nd.ref, .slice A1 n1 p1, .bool nb, .slice A2 nd.kids.length p2] 38) = W at *
      go_wp2
      go_loopw [3, 4] (fun a i wr => ∃ (j : Nat) (l0 : Int), j ≤ nd.kids.length ∧ i = .int .i64 j ∧ a = .int .i64 l0 ∧ 0 ≤ l0 ∧ l0 ≤ 1048576000000 ∧ Hid (l0 = ((nd.kids.take j).map ndSize).sum) ∧ Below W.heap.size W wr) (fun _ i _ => nd.kids.length - (intOf i).toNat)
      case atStart => exact ⟨0, 0, Nat.zero_le _, rfl, rfl, by omega, by omega, Lib.hid rfl, Below.refl _ _⟩
      case round =>
        obtain ⟨j, l0, hj, rfl, rfl, hs1, hs2, HE, hbel⟩ := hrel
        have hbr := HB0.out.on hbel
        have c7 := hbr.c8
        clear hbr
        by_cases hlt : j < nd.kids.length
        · obtain ⟨x, hx⟩ : ∃ x, nd.kids[j]? = some x := ⟨_, List.getElem?_eq_getElem hlt⟩
          obtain ⟨hA, hb, k0, k1, k2, k3, k4, B1, B2, m1, q1, m2, q2, nb2, KQ⟩ := kid_call HI.out HV.out HO.out hx
          subst hA
          have HX := Lib.hid hx
          obtain ⟨l1, hl1⟩ : ∃ l1, l1 = ndSize x := ⟨_, rfl⟩
          rw [← hl1] at KQ
          have HN1 : Hid (l0 + l1 = ((nd.kids.take (j + 1)).map ndSize).sum) := Lib.hid (by rw [take_snocN HX.out, List.map_append, List.sum_append, ← HE.out, hl1]; simp)
          have hs3 := qsum_le (nd.kids.take (j + 1)) (fun x hx => (HO.out x (List.mem_of_mem_take hx)).1) ndSize (fun x hx => by have := ndSize_range hx; unfold far at this; exact this)
          rw [← HN1.out] at hs3
          have hlen : (nd.kids.take (j + 1)).length ≤ nd.kids.length := by simp; omega
          have hs4 : 0 ≤ l0 + l1 ∧ l0 + l1 ≤ 1048576000000 := by omega
          obtain ⟨hs5, hs6⟩ := hs4
          have KQ' := Lib.hid KQ
          have hc8 := KQ.cells wr hbel
          have hlti : (j : Int) < nd.kids.length := by omega
          clear hx hl1 KQ hs3 hlen
          go_wp2_with fail
          refine (KQ'.out.call wr hbel).mono ?_
          rintro e w1 ⟨rfl, hb1⟩
          have hbw := hbel.trans (hb1.mono hbel.size)
          clear hc8 c7
          go_wp2
          go_roundw
          case rel => exact ⟨j + 1, _, by omega, by go_num, rfl, by omega, by omega, HN1.out, hbw⟩
          case measure => simp [intOf]; omega
        · have hjl : j = nd.kids.length := by omega
          have hlc : l0 = c := by rw [HE.out, hjl, List.take_length, HCC.out]
          subst hjl hlc
          clear HE hlt
          generalize hU : nd.lo * l0 = U at *
          generalize hV2 : (nd.hi - nd.lo) * (l0 + 1) = V at *
          by_cases hh : nd.hi < 0
          · have hh1 : nd.hi = -1 := by omega
            by_cases hm2 : nd.mode = 2
            · have hm2' : (nd.mode == 2) = true := by simp [hm2]
              have HZ2 : Hid (z = capF (U + (l0 + 4) + 2)) := Lib.hid (by rw [HZ.out, if_pos hh1, if_pos hm2])
              clear hh1 hm2
              by_cases hbig : (1048576 : Int) < U + l0 + 4 + 2
              · have e : z = 1048576 := by rw [HZ2.out]; unfold capF far; rw [if_pos (by omega)]
                have E := Lib.hid e
                clear e
                go_wp2
                go_ret
                exact ⟨qret_int E.out.symm, hb0.trans (hbel.mono hb0.size)⟩
              · have e : z = U + l0 + 4 + 2 := by have h := HZ2.out; unfold capF far at h; rw [if_neg (by omega)] at h; omega
                have E := Lib.hid e
                clear e
                go_wp2
                go_ret
                exact ⟨qret_int E.out.symm, hb0.trans (hbel.mono hb0.size)⟩
            · have hm2' : (nd.mode == 2) = false := by simp [hm2]
              have HZ2 : Hid (z = capF (U + (l0 + 4))) := Lib.hid (by rw [HZ.out, if_pos hh1, if_neg hm2, Int.add_zero])
              clear hh1 hm2
              by_cases hbig : (1048576 : Int) < U + l0 + 4
              · have e : z = 1048576 := by rw [HZ2.out]; unfold capF far; rw [if_pos (by omega)]
                have E := Lib.hid e
                clear e
                go_wp2
                go_ret
                exact ⟨qret_int E.out.symm, hb0.trans (hbel.mono hb0.size)⟩
              · have e : z = U + l0 + 4 := by have h := HZ2.out; unfold capF far at h; rw [if_neg (by omega)] at h; omega
                have E := Lib.hid e
                clear e
                go_wp2
                go_ret
                exact ⟨qret_int E.out.symm, hb0.trans (hbel.mono hb0.size)⟩
          · have hh1 : ¬ nd.hi = -1 := by omega
            have hV0 : 0 ≤ V := Q2.out hh1
            by_cases hm2 : nd.mode = 2
            · have hm2' : (nd.mode == 2) = true := by simp [hm2]
              have HZ2 : Hid (z = capF (U + V + 2)) := Lib.hid (by rw [HZ.out, if_neg hh1, if_pos hm2])
              clear hh1 hm2
              by_cases hbig : (1048576 : Int) < U + V + 2
              · have e : z = 1048576 := by rw [HZ2.out]; unfold capF far; rw [if_pos (by omega)]
                have E := Lib.hid e
                clear e
                go_wp2
                go_ret
                exact ⟨qret_int E.out.symm, hb0.trans (hbel.mono hb0.size)⟩
              · have e : z = U + V + 2 := by have h := HZ2.out; unfold capF far at h; rw [if_neg (by omega)] at h; omega
                have E := Lib.hid e
                clear e
                go_wp2
                go_ret
                exact ⟨qret_int E.out.symm, hb0.trans (hbel.mono hb0.size)⟩
            · have hm2' : (nd.mode == 2) = false := by simp [hm2]
              have HZ2 : Hid (z = capF (U + V)) := Lib.hid (by rw [HZ.out, if_neg hh1, if_neg hm2, Int.add_zero])
              clear hh1 hm2
              by_cases hbig : (1048576 : Int) < U + V
              · have e : z = 1048576 := by rw [HZ2.out]; unfold capF far; rw [if_pos (by omega)]
                have E := Lib.hid e
                clear e
                go_wp2
                go_ret
                exact ⟨qret_int E.out.symm, hb0.trans (hbel.mono hb0.size)⟩
              · have e : z = U + V := by have h := HZ2.out; unfold capF far at h; rw [if_neg (by omega)] at h; omega
                have E := Lib.hid e
                clear e
                go_wp2
                go_ret
                exact ⟨qret_int E.out.symm, hb0.trans (hbel.mono hb0.size)⟩
  exact goal
theorem size_allQ (n : Nat) : SizeQ n := by
  induction n with
  | zero =>
    intro nd h
    cases nd with
    | mk a b c d e f g => simp only [Nd.mk.sizeOf_spec] at h; omega
  | succ n ih => exact sizeQ_step n ih
end Go.Proofs.YtpginkdkblmnbaaGreatDoor

/- The document's own verdict over its own nodes: Bounded, Check. -/
namespace Go.Proofs.YtpginkdkblmnbaaGreatDoor
open Go.RowKit
open Go.Proofs.YtpginkdkblmnbaaGreatDoor.Cl (Rg SetV SetAt rgCells)
variable {w w' : World}

theorem qret_bool {a b : Bool} (h : a = b) : Ending.returned (.bool a) = .returned (.bool b) := by rw [h]
abbrev BoundQ := QC 44 (fun nd => .bool (bounded nd))
set_option maxRecDepth 100000 in
set_option maxHeartbeats 8000000 in
theorem boundQ_step (n : Nat) (ih : BoundQ n) : BoundQ (n + 1) := by
  intro nd hsz hw w A1 A2 n1 p1 p2 nb hN
  show Calls _ _ _ w fun e w' => e = .returned (.bool (bounded nd)) ∧ Below w.heap.size w w'
  obtain ⟨b, off, hkv, hm⟩ := hN.kidsQ
  have HW := Lib.hid hw
  have HO := Lib.hid (kids_ok hw hsz)
  have HI := Lib.hid ih
  have hnb := nd_bounded nd
  have HB0 := Lib.hid (Blk.new w 38 #[.int .i64 nd.kind, .int .i64 nd.lo, .int .i64 nd.hi, .int .i64 nd.mode, .int .i64 nd.ref, .slice A1 n1 p1, .bool nb, .slice A2 nd.kids.length p2])
  have hb0 := new_blkQ w #[.int .i64 nd.kind, .int .i64 nd.lo, .int .i64 nd.hi, .int .i64 nd.mode, .int .i64 nd.ref, .slice A1 n1 p1, .bool nb, .slice A2 nd.kids.length p2]
  have HV := Lib.hid (hkv.on hb0)
  clear hkv hN ih hw hsz
  obtain ⟨bv, hbv⟩ : ∃ bv, bv = bounded nd := ⟨_, rfl⟩
  rw [← hbv]
  rw [← hbv] at hnb
  clear hbv
  obtain ⟨k, hk⟩ : ∃ k, k = nd.kind := ⟨_, rfl⟩
  rw [← hk] at hnb HB0 hb0 HV ⊢
  have HK0 := Lib.hid hk
  by_cases hl : k = 7 ∧ 2 ≤ nd.mode
  · obtain ⟨h7, hmo⟩ := hl
    have hl1 : nd.kids.length = 1 := by have hs := HW.out.shape; rw [← hk, h7] at hs; unfold shapeOk at hs; omega
    obtain ⟨x, hx⟩ := hd_one hl1
    have hx0 : nd.kids[0]? = some x := by rw [hx]; rfl
    have hwx : Wf x := HW.out.kids x (by rw [hx]; simp)
    have hpos : (0 : Int) < (nd.kids.length : Int) := by omega
    have hbf : boundF k nd.mode (nd.kids.map most) = !decide (most x < 0 ∨ 32 < most x) := by
      rw [hx]; unfold boundF; simp [h7, hmo, hd]
    rw [hbf] at hnb
    obtain ⟨hA, hb, k0, k1, k2, k3, k4, B1, B2, m1, q1, m2, q2, nb2, KQ⟩ := kid_call (most_all n) HV.out HO.out hx0
    have KQ' : Hid (KidQ 12 (.int .i64 (most x)) _ b off (.int .i64 k0) (.int .i64 k1) (.int .i64 k2) (.int .i64 k3) (.int .i64 k4) (.slice B1 m1 q1) (.bool nb2) (.slice B2 m2 q2)) := Lib.hid (by rw [Nat.zero_mul, Nat.add_zero] at KQ; exact KQ)
    subst h7 hA
    clear hx hl1 hx0 hwx KQ hbf hk
    generalize most x = l1 at *
    by_cases hf : l1 < 0 ∨ 32 < l1
    · have E : Hid (bv = false) := Lib.hid (by rw [hnb]; simp [hf])
      clear hnb
      by_cases h1 : l1 < 0
      · clear hf
        go_enter Tryz.func44, Tryz.ntmps44
        go_upto_region 1 with (fail)
        have h8 := HB0.out.c8
        generalize w.alloc (.cells #[.int .i64 7, .int .i64 nd.lo, .int .i64 nd.hi, .int .i64 nd.mode, .int .i64 nd.ref, .slice A1 n1 p1, .bool nb, .slice (some ⟨b, off, none⟩) nd.kids.length p2] 38) = W at *
        have hc8 := KQ'.out.cells W (Below.refl _ _)
        go_wp2_with fail
        refine (KQ'.out.call W (Below.refl _ _)).mono ?_
        rintro e w1 ⟨rfl, hb1⟩
        have hbw := hb0.trans (hb1.mono hb0.size)
        go_wp2
        go_ret
        exact ⟨qret_bool E.out.symm, hbw⟩
      · have h2 : 32 < l1 := by omega
        clear hf
        go_enter Tryz.func44, Tryz.ntmps44
        go_upto_region 1 with (fail)
        have h8 := HB0.out.c8
        generalize w.alloc (.cells #[.int .i64 7, .int .i64 nd.lo, .int .i64 nd.hi, .int .i64 nd.mode, .int .i64 nd.ref, .slice A1 n1 p1, .bool nb, .slice (some ⟨b, off, none⟩) nd.kids.length p2] 38) = W at *
        have hc8 := KQ'.out.cells W (Below.refl _ _)
        go_wp2_with fail
        refine (KQ'.out.call W (Below.refl _ _)).mono ?_
        rintro e w1 ⟨rfl, hb1⟩
        have hbw := hb0.trans (hb1.mono hb0.size)
        go_wp2
        go_ret
        exact ⟨qret_bool E.out.symm, hbw⟩
    · have HNB : Hid (bv = nd.kids.all bounded) := Lib.hid (by rw [hnb]; simp [hf])
      have h1 : ¬ l1 < 0 := by omega
      have h2 : ¬ 32 < l1 := by omega
      clear hnb hf
      go_enter Tryz.func44, Tryz.ntmps44
      go_upto_region 1 with (fail)
      have h8 := HB0.out.c8
      generalize w.alloc (.cells #[.int .i64 7, .int .i64 nd.lo, .int .i64 nd.hi, .int .i64 nd.mode, .int .i64 nd.ref, .slice A1 n1 p1, .bool nb, .slice (some ⟨b, off, none⟩) nd.kids.length p2] 38) = W at *
      have hc8 := KQ'.out.cells W (Below.refl _ _)
      go_wp2_with fail
      refine (KQ'.out.call W (Below.refl _ _)).mono ?_
      rintro e w1 ⟨rfl, hb1⟩
      have HBS := Lib.hid hb1
      have h88 := (HB0.out.on hb1).c8
      clear hc8 h8 hb1 KQ'
      go_wp2
      go_loopw [4] (fun i wr => ∃ (j : Nat), j ≤ nd.kids.length ∧ i = .int .i64 j ∧ Hid ((nd.kids.take j).all bounded = true) ∧ Below W.heap.size W wr) (fun i _ => nd.kids.length - (intOf i).toNat)
      case atStart => exact ⟨0, Nat.zero_le _, rfl, Lib.hid rfl, HBS.out⟩
      case round =>
        obtain ⟨j, hj, rfl, HE, hbel⟩ := hrel
        have hbr := HB0.out.on hbel
        have c7 := hbr.c8.2.2.2.2.2.2.2
        clear hbr
        by_cases hlt : j < nd.kids.length
        · obtain ⟨x, hx⟩ : ∃ x, nd.kids[j]? = some x := ⟨_, List.getElem?_eq_getElem hlt⟩
          obtain ⟨hA, hb, k0, k1, k2, k3, k4, B1, B2, m1, q1, m2, q2, nb2, KQ⟩ := kid_call HI.out HV.out HO.out hx
          clear hA
          have HX := Lib.hid hx
          obtain ⟨bx, hbx⟩ : ∃ bx, bx = bounded x := ⟨_, rfl⟩
          have KQ2 : KidQ 44 (.bool bx) W b (off + j * 8) (.int .i64 k0) (.int .i64 k1) (.int .i64 k2) (.int .i64 k3) (.int .i64 k4) (.slice B1 m1 q1) (.bool nb2) (.slice B2 m2 q2) := by rw [hbx]; exact KQ
          have HBX := Lib.hid hbx
          have KQ' := Lib.hid KQ2
          have hc8 := KQ.cells wr hbel
          have hlti : (j : Int) < nd.kids.length := by omega
          clear hx hbx KQ KQ2
          cases bx with
          | true =>
            have hf : Hid ((nd.kids.take (j + 1)).all bounded = true) := Lib.hid (by rw [take_snocN HX.out, List.all_append, HE.out]; simp [← HBX.out])
            go_wp2_with fail
            refine (KQ'.out.call wr hbel).mono ?_
            rintro e w1 ⟨rfl, hb1⟩
            have hbw := hbel.trans (hb1.mono hbel.size)
            clear hc8 c7
            go_wp2
            go_roundw
            case rel => exact ⟨j + 1, by omega, by go_num, hf, hbw⟩
            case measure => simp [intOf]; omega
          | false =>
            have E : Hid (bv = false) := Lib.hid (by rw [HNB.out, List.all_eq_false]; exact ⟨x, List.mem_of_getElem? HX.out, by rw [← HBX.out]; simp⟩)
            go_wp2_with fail
            refine (KQ'.out.call wr hbel).mono ?_
            rintro e w1 ⟨rfl, hb1⟩
            have hbw := hbel.trans (hb1.mono hbel.size)
            clear hc8 c7
            go_wp2
            go_ret
            exact ⟨qret_bool E.out.symm, hb0.trans (hbw.mono hb0.size)⟩
        · have hjl : j = nd.kids.length := by omega
          have E : Hid (bv = true) := Lib.hid (by rw [HNB.out]; have := HE.out; rwa [hjl, List.take_length] at this)
          subst hjl
          clear HE hlt
          go_wp2
          go_ret
          exact ⟨qret_bool E.out.symm, hb0.trans (hbel.mono hb0.size)⟩

  · have HNB : Hid (bv = nd.kids.all bounded) := Lib.hid (by rw [hnb]; unfold boundF; simp [hl])
    clear hnb
    by_cases h7 : k = 7
    · have hmo : ¬ 2 ≤ nd.mode := fun h => hl ⟨h7, h⟩
      subst h7
      clear hl hk
      go_enter Tryz.func44, Tryz.ntmps44
      go_upto_region 1 with (fail)
      have h8 := HB0.out.c8
      generalize w.alloc (.cells #[.int .i64 7, .int .i64 nd.lo, .int .i64 nd.hi, .int .i64 nd.mode, .int .i64 nd.ref, .slice A1 n1 p1, .bool nb, .slice A2 nd.kids.length p2] 38) = W at *
      have HBS := Lib.hid (Below.refl W.heap.size W)
      go_wp2
      go_loopw [4] (fun i wr => ∃ (j : Nat), j ≤ nd.kids.length ∧ i = .int .i64 j ∧ Hid ((nd.kids.take j).all bounded = true) ∧ Below W.heap.size W wr) (fun i _ => nd.kids.length - (intOf i).toNat)
      case atStart => exact ⟨0, Nat.zero_le _, rfl, Lib.hid rfl, HBS.out⟩
      case round =>
        obtain ⟨j, hj, rfl, HE, hbel⟩ := hrel
        have hbr := HB0.out.on hbel
        have c7 := hbr.c8.2.2.2.2.2.2.2
        clear hbr
        by_cases hlt : j < nd.kids.length
        · obtain ⟨x, hx⟩ : ∃ x, nd.kids[j]? = some x := ⟨_, List.getElem?_eq_getElem hlt⟩
          obtain ⟨hA, hb, k0, k1, k2, k3, k4, B1, B2, m1, q1, m2, q2, nb2, KQ⟩ := kid_call HI.out HV.out HO.out hx
          subst hA
          have HX := Lib.hid hx
          obtain ⟨bx, hbx⟩ : ∃ bx, bx = bounded x := ⟨_, rfl⟩
          have KQ2 : KidQ 44 (.bool bx) W b (off + j * 8) (.int .i64 k0) (.int .i64 k1) (.int .i64 k2) (.int .i64 k3) (.int .i64 k4) (.slice B1 m1 q1) (.bool nb2) (.slice B2 m2 q2) := by rw [hbx]; exact KQ
          have HBX := Lib.hid hbx
          have KQ' := Lib.hid KQ2
          have hc8 := KQ.cells wr hbel
          have hlti : (j : Int) < nd.kids.length := by omega
          clear hx hbx KQ KQ2
          cases bx with
          | true =>
            have hf : Hid ((nd.kids.take (j + 1)).all bounded = true) := Lib.hid (by rw [take_snocN HX.out, List.all_append, HE.out]; simp [← HBX.out])
            go_wp2_with fail
            refine (KQ'.out.call wr hbel).mono ?_
            rintro e w1 ⟨rfl, hb1⟩
            have hbw := hbel.trans (hb1.mono hbel.size)
            clear hc8 c7
            go_wp2
            go_roundw
            case rel => exact ⟨j + 1, by omega, by go_num, hf, hbw⟩
            case measure => simp [intOf]; omega
          | false =>
            have E : Hid (bv = false) := Lib.hid (by rw [HNB.out, List.all_eq_false]; exact ⟨x, List.mem_of_getElem? HX.out, by rw [← HBX.out]; simp⟩)
            go_wp2_with fail
            refine (KQ'.out.call wr hbel).mono ?_
            rintro e w1 ⟨rfl, hb1⟩
            have hbw := hbel.trans (hb1.mono hbel.size)
            clear hc8 c7
            go_wp2
            go_ret
            exact ⟨qret_bool E.out.symm, hb0.trans (hbw.mono hb0.size)⟩
        · have hjl : j = nd.kids.length := by omega
          have E : Hid (bv = true) := Lib.hid (by rw [HNB.out]; have := HE.out; rwa [hjl, List.take_length] at this)
          subst hjl
          clear HE hlt
          go_wp2
          go_ret
          exact ⟨qret_bool E.out.symm, hb0.trans (hbel.mono hb0.size)⟩
    · have h7' : (k == 7) = false := by simp [h7]
      clear hl hk h7
      go_enter Tryz.func44, Tryz.ntmps44
      go_upto_region 1 with (fail)
      have h8 := HB0.out.c8
      generalize w.alloc (.cells #[.int .i64 k, .int .i64 nd.lo, .int .i64 nd.hi, .int .i64 nd.mode, .int .i64 nd.ref, .slice A1 n1 p1, .bool nb, .slice A2 nd.kids.length p2] 38) = W at *
      have HBS := Lib.hid (Below.refl W.heap.size W)
      go_wp2
      go_loopw [4] (fun i wr => ∃ (j : Nat), j ≤ nd.kids.length ∧ i = .int .i64 j ∧ Hid ((nd.kids.take j).all bounded = true) ∧ Below W.heap.size W wr) (fun i _ => nd.kids.length - (intOf i).toNat)
      case atStart => exact ⟨0, Nat.zero_le _, rfl, Lib.hid rfl, HBS.out⟩
      case round =>
        obtain ⟨j, hj, rfl, HE, hbel⟩ := hrel
        have hbr := HB0.out.on hbel
        have c7 := hbr.c8.2.2.2.2.2.2.2
        clear hbr
        by_cases hlt : j < nd.kids.length
        · obtain ⟨x, hx⟩ : ∃ x, nd.kids[j]? = some x := ⟨_, List.getElem?_eq_getElem hlt⟩
          obtain ⟨hA, hb, k0, k1, k2, k3, k4, B1, B2, m1, q1, m2, q2, nb2, KQ⟩ := kid_call HI.out HV.out HO.out hx
          subst hA
          have HX := Lib.hid hx
          obtain ⟨bx, hbx⟩ : ∃ bx, bx = bounded x := ⟨_, rfl⟩
          have KQ2 : KidQ 44 (.bool bx) W b (off + j * 8) (.int .i64 k0) (.int .i64 k1) (.int .i64 k2) (.int .i64 k3) (.int .i64 k4) (.slice B1 m1 q1) (.bool nb2) (.slice B2 m2 q2) := by rw [hbx]; exact KQ
          have HBX := Lib.hid hbx
          have KQ' := Lib.hid KQ2
          have hc8 := KQ.cells wr hbel
          have hlti : (j : Int) < nd.kids.length := by omega
          clear hx hbx KQ KQ2
          cases bx with
          | true =>
            have hf : Hid ((nd.kids.take (j + 1)).all bounded = true) := Lib.hid (by rw [take_snocN HX.out, List.all_append, HE.out]; simp [← HBX.out])
            go_wp2_with fail
            refine (KQ'.out.call wr hbel).mono ?_
            rintro e w1 ⟨rfl, hb1⟩
            have hbw := hbel.trans (hb1.mono hbel.size)
            clear hc8 c7
            go_wp2
            go_roundw
            case rel => exact ⟨j + 1, by omega, by go_num, hf, hbw⟩
            case measure => simp [intOf]; omega
          | false =>
            have E : Hid (bv = false) := Lib.hid (by rw [HNB.out, List.all_eq_false]; exact ⟨x, List.mem_of_getElem? HX.out, by rw [← HBX.out]; simp⟩)
            go_wp2_with fail
            refine (KQ'.out.call wr hbel).mono ?_
            rintro e w1 ⟨rfl, hb1⟩
            have hbw := hbel.trans (hb1.mono hbel.size)
            clear hc8 c7
            go_wp2
            go_ret
            exact ⟨qret_bool E.out.symm, hb0.trans (hbw.mono hb0.size)⟩
        · have hjl : j = nd.kids.length := by omega
          have E : Hid (bv = true) := Lib.hid (by rw [HNB.out]; have := HE.out; rwa [hjl, List.take_length] at this)
          subst hjl
          clear HE hlt
          go_wp2
          go_ret
          exact ⟨qret_bool E.out.symm, hb0.trans (hbel.mono hb0.size)⟩
theorem bound_all (n : Nat) : BoundQ n := by
  induction n with
  | zero =>
    intro nd h
    cases nd with
    | mk a b c d e f g => simp only [Nd.mk.sizeOf_spec] at h; omega
  | succ n ih => exact boundQ_step n ih
set_option maxRecDepth 100000 in
set_option maxHeartbeats 8000000 in
theorem checkQ_any (nd : Nd) (hw : Wf nd) (w : World) (A1 A2 : Option Addr) (n1 p1 p2 : Nat) (nb : Bool) (hN : NodeQ (fun b => b < w.heap.size) w nd (.slice A1 n1 p1) nb (.slice A2 nd.kids.length p2)) :
    Calls Tryz.prog 16 #[.agg #[.int .i64 nd.kind, .int .i64 nd.lo, .int .i64 nd.hi, .int .i64 nd.mode, .int .i64 nd.ref, .slice A1 n1 p1, .bool nb, .slice A2 nd.kids.length p2]] w fun e w' => e = .returned (.int .i64 ((verdictN nd : Nat) : Int)) ∧ Below w.heap.size w w' := by
  have HB0 := Lib.hid (Blk.new w 38 #[.int .i64 nd.kind, .int .i64 nd.lo, .int .i64 nd.hi, .int .i64 nd.mode, .int .i64 nd.ref, .slice A1 n1 p1, .bool nb, .slice A2 nd.kids.length p2])
  have hb0 := new_blkQ w #[.int .i64 nd.kind, .int .i64 nd.lo, .int .i64 nd.hi, .int .i64 nd.mode, .int .i64 nd.ref, .slice A1 n1 p1, .bool nb, .slice A2 nd.kids.length p2]
  have HN := Lib.hid (hN.on_ hb0)
  have HBd : Hid (∀ W : World, NodeQ (fun b => b < W.heap.size) W nd (.slice A1 n1 p1) nb (.slice A2 nd.kids.length p2) → Calls Tryz.prog 44 #[.agg #[.int .i64 nd.kind, .int .i64 nd.lo, .int .i64 nd.hi, .int .i64 nd.mode, .int .i64 nd.ref, .slice A1 n1 p1, .bool nb, .slice A2 nd.kids.length p2]] W fun e w' => e = .returned (.bool (bounded nd)) ∧ Below W.heap.size W w') := Lib.hid (fun W h => bound_all _ nd (Nat.le_refl _) hw W A1 A2 n1 p1 p2 nb h)
  have HSz : Hid (∀ W : World, NodeQ (fun b => b < W.heap.size) W nd (.slice A1 n1 p1) nb (.slice A2 nd.kids.length p2) → Calls Tryz.prog 14 #[.agg #[.int .i64 nd.kind, .int .i64 nd.lo, .int .i64 nd.hi, .int .i64 nd.mode, .int .i64 nd.ref, .slice A1 n1 p1, .bool nb, .slice A2 nd.kids.length p2]] W fun e w' => e = .returned (.int .i64 (ndSize nd)) ∧ Below W.heap.size W w') := Lib.hid (fun W h => size_allQ _ nd (Nat.le_refl _) hw W A1 A2 n1 p1 p2 nb h)
  have hr := ndSize_range hw
  unfold far at hr
  obtain ⟨r1, r2⟩ := hr
  have hv : verdictN nd = if bounded nd then (if 2000 < ndSize nd + 3 then 28 else 0) else 27 := rfl
  rw [hv]
  generalize ndSize nd = z at *
  generalize bounded nd = bd at *
  clear hN hw hv
  cases bd with
  | false =>
    simp only [Bool.false_eq_true, if_false]
    go_enter Tryz.func16, Tryz.ntmps16
    go_upto_region 1 with (fail)
    have h8 := HB0.out.c8
    generalize w.alloc (.cells #[.int .i64 nd.kind, .int .i64 nd.lo, .int .i64 nd.hi, .int .i64 nd.mode, .int .i64 nd.ref, .slice A1 n1 p1, .bool nb, .slice A2 nd.kids.length p2] 38) = W at *
    go_wp2_with fail
    refine (HBd.out W HN.out).mono ?_
    rintro e w1 ⟨rfl, hb1⟩
    have hbw := hb0.trans (hb1.mono hb0.size)
    go_wp2
    go_ret
    exact ⟨rfl, hbw⟩
  | true =>
    simp only [if_true]
    by_cases hz : 2000 < z + 3
    · rw [if_pos hz]
      go_enter Tryz.func16, Tryz.ntmps16
      go_upto_region 1 with (fail)
      have h8 := HB0.out.c8
      generalize w.alloc (.cells #[.int .i64 nd.kind, .int .i64 nd.lo, .int .i64 nd.hi, .int .i64 nd.mode, .int .i64 nd.ref, .slice A1 n1 p1, .bool nb, .slice A2 nd.kids.length p2] 38) = W at *
      go_wp2_with fail
      refine (HBd.out W HN.out).mono ?_
      rintro e w1 ⟨rfl, hb1⟩
      have hbw := hb0.trans (hb1.mono hb0.size)
      have h88 := (HB0.out.on hb1).c8
      have HN1 := Lib.hid (HN.out.on_ hb1)
      clear h8
      go_wp2_with fail
      refine (HSz.out w1 HN1.out).mono ?_
      rintro e w2 ⟨rfl, hb2⟩
      have hbw2 := hbw.trans (hb2.mono hbw.size)
      go_wp2
      go_ret
      exact ⟨rfl, hbw2⟩
    · rw [if_neg hz]
      go_enter Tryz.func16, Tryz.ntmps16
      go_upto_region 1 with (fail)
      have h8 := HB0.out.c8
      generalize w.alloc (.cells #[.int .i64 nd.kind, .int .i64 nd.lo, .int .i64 nd.hi, .int .i64 nd.mode, .int .i64 nd.ref, .slice A1 n1 p1, .bool nb, .slice A2 nd.kids.length p2] 38) = W at *
      go_wp2_with fail
      refine (HBd.out W HN.out).mono ?_
      rintro e w1 ⟨rfl, hb1⟩
      have hbw := hb0.trans (hb1.mono hb0.size)
      have h88 := (HB0.out.on hb1).c8
      have HN1 := Lib.hid (HN.out.on_ hb1)
      clear h8
      go_wp2_with fail
      refine (HSz.out w1 HN1.out).mono ?_
      rintro e w2 ⟨rfl, hb2⟩
      have hbw2 := hbw.trans (hb2.mono hbw.size)
      go_wp2
      go_ret
      exact ⟨rfl, hbw2⟩
end Go.Proofs.YtpginkdkblmnbaaGreatDoor

