/- Joined: Sd, Se. -/
import Derived.Test.YtefgobmpleoafaaGreatDoorJSxa
import Derived.Test.YtefgobmpleoafaaGreatDoorJPa
/- Size, of any node of a pattern. -/
namespace Go.Proofs.YtefgobmpleoafaaGreatDoor
open Go.RowKit
open Go.Proofs.YtefgobmpleoafaaGreatDoor.Cl (Rg SetV SetAt rgCells)
variable {w w' : World}

def SizeC (n : Nat) : Prop := ∀ (nd : Nd), SizeOf.sizeOf nd ≤ n → Wf nd → ∀ (w : World) (A1 A2 : Option Addr) (p1 p2 : Nat), NodeV (fun b => b < w.heap.size) w nd (.slice A1 nd.set.length p1) (.slice A2 nd.kids.length p2) →
  Calls Tryz.prog 82 #[.agg #[.int .i64 nd.kind, .int .i64 nd.lo, .int .i64 nd.hi, .int .i64 nd.mode, .int .i64 nd.ref, .slice A1 nd.set.length p1, .slice A2 nd.kids.length p2]] w fun e w' => e = .returned (.int .i64 (ndSize nd)) ∧ Below w.heap.size w w'
def RowSC (n : Nat) : Prop := ∀ (L : List Nd), (∀ x ∈ L, Wf x ∧ SizeOf.sizeOf x ≤ n) → L.length ≤ 1000000 → ∀ (w : World) (A : Option Addr) (p b off : Nat), KidsV w L A b off →
  Calls Tryz.prog 96 #[.slice A L.length p] w fun e w' => e = .returned (.int .i64 (szSum L)) ∧ Below w.heap.size w w'

set_option maxRecDepth 100000 in
set_option maxHeartbeats 2000000 in
theorem rowSize_step (n : Nat) (ih : SizeC n) : RowSC n := by
  intro L hL hm w A p b off hK
  have HK := Lib.hid hK
  have HIH := Lib.hid ih
  have HL := Lib.hid hL
  clear hK ih hL
  go_enter Tryz.func96, Tryz.ntmps96
  go_wp2
  go_loopw [3, 8] (fun lo i wr => ∃ (k : Nat) (l0 : Int), k ≤ L.length ∧ i = .int .i64 k ∧ lo = .int .i64 l0 ∧ Hid (l0 = szSum (L.take k)) ∧ Below w.heap.size w wr) (fun _ i _ => L.length - (intOf i).toNat)
  case atStart => exact ⟨0, 0, Nat.zero_le _, rfl, rfl, Lib.hid rfl, Below.refl _ _⟩
  case round =>
    obtain ⟨k, l0, hk, rfl, rfl, HE, hbel⟩ := hrel
    have hsz := hbel.size
    by_cases hlt : k < L.length
    · have hlti : (k : Int) < L.length := by omega
      obtain ⟨hA, hb, a1, a2, r1, r2, hN, hC⟩ := HK.out k _ (List.getElem?_eq_getElem hlt)
      subst hA
      have HX := Lib.hid (HL.out _ (List.getElem_mem hlt))
      have HT := Lib.hid (take_snoc hlt)
      have HW := Lib.hid (fun x (hx : x ∈ L.take k) => (HL.out x (mem_take hx)).1)
      generalize L[k] = x at hN hC HX HT
      have h7 := (hC.on (hbel.block b hb)).seven_
      have HN := Lib.hid ((hN.on_ hbel).on_ (new_blk wr #[.int .i64 x.kind, .int .i64 x.lo, .int .i64 x.hi, .int .i64 x.mode, .int .i64 x.ref, .slice a1 x.set.length r1, .slice a2 x.kids.length r2]))
      have HB := Lib.hid (Blk.new wr 117 #[.int .i64 x.kind, .int .i64 x.lo, .int .i64 x.hi, .int .i64 x.mode, .int .i64 x.ref, .slice a1 x.set.length r1, .slice a2 x.kids.length r2])
      have hb6 := hbel.alloc hsz (.cells #[.int .i64 x.kind, .int .i64 x.lo, .int .i64 x.hi, .int .i64 x.mode, .int .i64 x.ref, .slice a1 x.set.length r1, .slice a2 x.kids.length r2] 117)
      clear hN hC
      have hr0 : 0 ≤ l0 ∧ l0 ≤ 1048576 := by
        have r1 := szSum_range HW.out
        rw [HE.out]
        unfold far at r1
        omega
      obtain ⟨c1, c2⟩ := hr0
      obtain ⟨l1, hl1⟩ : ∃ l1, l1 = ndSize x := ⟨_, rfl⟩
      have hr1 : 0 ≤ l1 ∧ l1 ≤ 1048576 := by
        have r1 := ndSize_range HX.out.1
        rw [hl1]
        unfold far at r1
        omega
      obtain ⟨d1, d2⟩ := hr1
      have HE1 := Lib.hid hl1
      clear hl1
      go_upto_region 5 with (fail)
      have h77 := HB.out.c7
      generalize wr.alloc (.cells #[.int .i64 x.kind, .int .i64 x.lo, .int .i64 x.hi, .int .i64 x.mode, .int .i64 x.ref, .slice a1 x.set.length r1, .slice a2 x.kids.length r2] 117) = W at *
      go_wp2_with fail
      refine (HIH.out x HX.out.2 HX.out.1 W a1 a2 r1 r2 HN.out).mono ?_
      rw [← HE1.out]
      rintro e w1 ⟨rfl, hb1⟩
      have hbw := hb6.trans (hb1.mono hb6.size)
      clear HN HB h77
      go_wp2_with fail
      refine (bounded_any (l0 + l1)).mono ?_
      rintro e w2 ⟨rfl, rfl⟩
      go_wp2
      go_roundw
      case rel =>
        refine ⟨k + 1, _, by omega, by go_num, rfl, Lib.hid ?_, hbw⟩
        rw [HT.out, szSum_snoc HW.out HX.out.1, ← HE.out, ← HE1.out]
      case measure => simp [intOf]; omega
    · obtain rfl : k = L.length := by omega
      go_wp2
      go_ret
      refine ⟨?_, hbel⟩
      rw [HE.out, List.take_length]
      rfl

/-- A Repeat's size ahead of the bound. -/
def repSz (lo hi m c : Int) : Int := lo * c + (if hi = -1 then c + 4 else (hi - lo) * (c + 1)) + (if m = 2 then 2 else 0)
set_option maxRecDepth 100000 in
set_option maxHeartbeats 2000000 in
theorem repeatSize_any (n : Nat) (ihr : RowSC n) (nd : Nd) (hsz : SizeOf.sizeOf nd ≤ n + 1) (hw : Wf nd) (hk : nd.kind = 4) (w : World) (A1 A2 : Option Addr) (p1 p2 : Nat) (hN : NodeV (fun b => b < w.heap.size) w nd (.slice A1 nd.set.length p1) (.slice A2 nd.kids.length p2)) :
    Calls Tryz.prog 97 #[.agg #[.int .i64 4, .int .i64 nd.lo, .int .i64 nd.hi, .int .i64 nd.mode, .int .i64 nd.ref, .slice A1 nd.set.length p1, .slice A2 nd.kids.length p2]] w fun e w' => e = .returned (.int .i64 (repSz nd.lo nd.hi nd.mode (szSum nd.kids))) ∧ Below w.heap.size w w' := by
  obtain ⟨b, off, hkv, hm⟩ := hN.kidsV
  obtain ⟨_, g1, g2, g3, g4, g5⟩ := size_rep hw hk
  have hr1 := szSum_range hw.kids
  unfold far at hr1
  obtain ⟨r1, r2⟩ := hr1
  have HO := Lib.hid (kids_ok hw hsz)
  have HRow := Lib.hid (fun W (hW : KidsV W nd.kids A2 b off) => ihr nd.kids HO.out hm W A2 p2 b off hW)
  have HB0 := Lib.hid (Blk.new w 117 #[.int .i64 4, .int .i64 nd.lo, .int .i64 nd.hi, .int .i64 nd.mode, .int .i64 nd.ref, .slice A1 nd.set.length p1, .slice A2 nd.kids.length p2])
  have hb0 := new_blk w #[.int .i64 4, .int .i64 nd.lo, .int .i64 nd.hi, .int .i64 nd.mode, .int .i64 nd.ref, .slice A1 nd.set.length p1, .slice A2 nd.kids.length p2]
  have HV := Lib.hid (hkv.on hb0)
  have q0 : 0 ≤ nd.lo * szSum nd.kids := Int.mul_nonneg g1 r1
  have q1 : nd.lo * szSum nd.kids ≤ 64 * 1048576 := Int.mul_le_mul g2 r2 r1 (by omega)
  have q2 : nd.hi ≠ -1 → 0 ≤ (nd.hi - nd.lo) * (szSum nd.kids + 1) ∧ (nd.hi - nd.lo) * (szSum nd.kids + 1) ≤ 64 * 1048577 := fun h =>
    have := g5 h
    ⟨Int.mul_nonneg (by omega) (by omega), Int.mul_le_mul (by omega) (by omega) (by omega) (by omega)⟩
  clear hkv hN ihr hw hsz HO hk
  generalize szSum nd.kids = c at *
  generalize nd.mode = m at *
  generalize nd.hi = hi at *
  by_cases hh : hi = -1
  · subst hh
    clear q2 g5
    by_cases hm2 : m = 2
    · subst hm2
      have e : repSz nd.lo (-1) 2 c = nd.lo * c + (c + 4) + 2 := by simp [repSz]
      rw [e]
      clear e
      go_enter Tryz.func97, Tryz.ntmps97
      go_upto_region 1 with (fail)
      have h7 := HB0.out.c7
      generalize w.alloc (.cells #[.int .i64 4, .int .i64 nd.lo, .int .i64 (-1), .int .i64 2, .int .i64 nd.ref, .slice A1 nd.set.length p1, .slice A2 nd.kids.length p2] 117) = W at *
      go_wp2_with fail
      refine (HRow.out W HV.out).mono ?_
      rintro e w1 ⟨rfl, hb1⟩
      have hbw := hb0.trans (hb1.mono hb0.size)
      have h77 := (HB0.out.on hb1).c7
      clear h7
      go_wp2
      go_ret
      exact ⟨rfl, hbw⟩
    · have hm2' : (m == 2) = false := by simp [hm2]
      have e : repSz nd.lo (-1) m c = nd.lo * c + (c + 4) := by simp [repSz, hm2]
      rw [e]
      clear e
      go_enter Tryz.func97, Tryz.ntmps97
      go_upto_region 1 with (fail)
      have h7 := HB0.out.c7
      generalize w.alloc (.cells #[.int .i64 4, .int .i64 nd.lo, .int .i64 (-1), .int .i64 m, .int .i64 nd.ref, .slice A1 nd.set.length p1, .slice A2 nd.kids.length p2] 117) = W at *
      go_wp2_with fail
      refine (HRow.out W HV.out).mono ?_
      rintro e w1 ⟨rfl, hb1⟩
      have hbw := hb0.trans (hb1.mono hb0.size)
      have h77 := (HB0.out.on hb1).c7
      clear h7
      go_wp2
      go_ret
      exact ⟨rfl, hbw⟩
  · have hh' : (hi == -1) = false := by simp [hh]
    obtain ⟨q3, q4⟩ := q2 hh
    have g6 := g5 hh
    clear q2 g5
    by_cases hm2 : m = 2
    · subst hm2
      have e : repSz nd.lo hi 2 c = nd.lo * c + (hi - nd.lo) * (c + 1) + 2 := by simp [repSz, hh]
      rw [e]
      clear e
      go_enter Tryz.func97, Tryz.ntmps97
      go_upto_region 1 with (fail)
      have h7 := HB0.out.c7
      generalize w.alloc (.cells #[.int .i64 4, .int .i64 nd.lo, .int .i64 hi, .int .i64 2, .int .i64 nd.ref, .slice A1 nd.set.length p1, .slice A2 nd.kids.length p2] 117) = W at *
      go_wp2_with fail
      refine (HRow.out W HV.out).mono ?_
      rintro e w1 ⟨rfl, hb1⟩
      have hbw := hb0.trans (hb1.mono hb0.size)
      have h77 := (HB0.out.on hb1).c7
      clear h7
      go_wp2
      go_ret
      exact ⟨rfl, hbw⟩
    · have hm2' : (m == 2) = false := by simp [hm2]
      have e : repSz nd.lo hi m c = nd.lo * c + (hi - nd.lo) * (c + 1) := by simp [repSz, hh, hm2]
      rw [e]
      clear e
      go_enter Tryz.func97, Tryz.ntmps97
      go_upto_region 1 with (fail)
      have h7 := HB0.out.c7
      generalize w.alloc (.cells #[.int .i64 4, .int .i64 nd.lo, .int .i64 hi, .int .i64 m, .int .i64 nd.ref, .slice A1 nd.set.length p1, .slice A2 nd.kids.length p2] 117) = W at *
      go_wp2_with fail
      refine (HRow.out W HV.out).mono ?_
      rintro e w1 ⟨rfl, hb1⟩
      have hbw := hb0.trans (hb1.mono hb0.size)
      have h77 := (HB0.out.on hb1).c7
      clear h7
      go_wp2
      go_ret
      exact ⟨rfl, hbw⟩

set_option maxRecDepth 100000 in
set_option maxHeartbeats 2000000 in
theorem size_step (n : Nat) (ihr : RowSC n) : SizeC (n + 1) := by
  intro nd hsz hw w A1 A2 p1 p2 hN
  obtain ⟨b, off, hkv, hm⟩ := hN.kidsV
  have HW := Lib.hid hw
  have HO := Lib.hid (kids_ok hw hsz)
  have HR := Lib.hid ihr
  have HS := Lib.hid hsz
  have hkd := kinds_of hw.shape
  obtain ⟨k, hk⟩ : ∃ k, k = nd.kind := ⟨_, rfl⟩
  rw [← hk] at hkd ⊢
  have hk' := hk.symm
  have HB0 := Lib.hid (Blk.new w 117 #[.int .i64 k, .int .i64 nd.lo, .int .i64 nd.hi, .int .i64 nd.mode, .int .i64 nd.ref, .slice A1 nd.set.length p1, .slice A2 nd.kids.length p2])
  have hb0 := new_blk w #[.int .i64 k, .int .i64 nd.lo, .int .i64 nd.hi, .int .i64 nd.mode, .int .i64 nd.ref, .slice A1 nd.set.length p1, .slice A2 nd.kids.length p2]
  have HN := Lib.hid (hN.on_ hb0)
  have HV := Lib.hid (hkv.on hb0)
  have hr1 := szSum_range hw.kids
  unfold far at hr1
  obtain ⟨r1, r2⟩ := hr1
  clear hkv hN ihr hw hsz hk
  have hkd' : (k = 1 ∨ k = 6 ∨ k = 9) ∨ k = 0 ∨ k = 2 ∨ k = 3 ∨ (k = 5 ∨ k = 7 ∨ k = 8) ∨ k = 4 := by omega
  clear hkd
  rcases hkd' with h | rfl | rfl | rfl | h | rfl
  · rcases h with rfl | rfl | rfl
    · have e := size_one (nd := nd) (by omega)
      rw [e]
      have HK' := Lib.hid hk'
      clear e hk'
      go_enter Tryz.func82, Tryz.ntmps82
      go_upto_region 1 with (fail)
      have h7 := HB0.out.c7
      generalize w.alloc (.cells #[.int .i64 1, .int .i64 nd.lo, .int .i64 nd.hi, .int .i64 nd.mode, .int .i64 nd.ref, .slice A1 nd.set.length p1, .slice A2 nd.kids.length p2] 117) = W at *
      go_wp2
      go_ret
      exact ⟨rfl, hb0⟩
    · have e := size_one (nd := nd) (by omega)
      rw [e]
      have HK' := Lib.hid hk'
      clear e hk'
      go_enter Tryz.func82, Tryz.ntmps82
      go_upto_region 1 with (fail)
      have h7 := HB0.out.c7
      generalize w.alloc (.cells #[.int .i64 6, .int .i64 nd.lo, .int .i64 nd.hi, .int .i64 nd.mode, .int .i64 nd.ref, .slice A1 nd.set.length p1, .slice A2 nd.kids.length p2] 117) = W at *
      go_wp2
      go_ret
      exact ⟨rfl, hb0⟩
    · have e := size_one (nd := nd) (by omega)
      rw [e]
      have HK' := Lib.hid hk'
      clear e hk'
      go_enter Tryz.func82, Tryz.ntmps82
      go_upto_region 1 with (fail)
      have h7 := HB0.out.c7
      generalize w.alloc (.cells #[.int .i64 9, .int .i64 nd.lo, .int .i64 nd.hi, .int .i64 nd.mode, .int .i64 nd.ref, .slice A1 nd.set.length p1, .slice A2 nd.kids.length p2] 117) = W at *
      go_wp2
      go_ret
      exact ⟨rfl, hb0⟩
  · have e := size_none (nd := nd) (by omega) (by omega) (by omega) (by omega) (by omega) (by omega) (by omega) (by omega) (by omega)
    rw [e]
    have HK' := Lib.hid hk'
    clear e hk'
    go_enter Tryz.func82, Tryz.ntmps82
    go_upto_region 1 with (fail)
    have h7 := HB0.out.c7
    generalize w.alloc (.cells #[.int .i64 0, .int .i64 nd.lo, .int .i64 nd.hi, .int .i64 nd.mode, .int .i64 nd.ref, .slice A1 nd.set.length p1, .slice A2 nd.kids.length p2] 117) = W at *
    go_wp2
    go_ret
    exact ⟨rfl, hb0⟩
  · have e := size_row hk'
    rw [e]
    have HK' := Lib.hid hk'
    clear e hk'
    have HRow := Lib.hid (fun W (hW : KidsV W nd.kids A2 b off) => HR.out nd.kids HO.out hm W A2 p2 b off hW)
    generalize szSum nd.kids = c at *
    go_enter Tryz.func82, Tryz.ntmps82
    go_upto_region 1 with (fail)
    have h7 := HB0.out.c7
    generalize w.alloc (.cells #[.int .i64 2, .int .i64 nd.lo, .int .i64 nd.hi, .int .i64 nd.mode, .int .i64 nd.ref, .slice A1 nd.set.length p1, .slice A2 nd.kids.length p2] 117) = W at *
    go_wp2_with fail
    refine (HRow.out W HV.out).mono ?_
    rintro e w1 ⟨rfl, hb1⟩
    have hbw := hb0.trans (hb1.mono hb0.size)
    go_wp2
    go_ret
    exact ⟨rfl, hbw⟩
  · have e := size_alts HW.out hk'
    rw [e]
    have HK' := Lib.hid hk'
    clear e hk'
    have HRow := Lib.hid (fun W (hW : KidsV W nd.kids A2 b off) => HR.out nd.kids HO.out hm W A2 p2 b off hW)
    generalize szSum nd.kids = c at *
    go_enter Tryz.func82, Tryz.ntmps82
    go_upto_region 1 with (fail)
    have h7 := HB0.out.c7
    generalize w.alloc (.cells #[.int .i64 3, .int .i64 nd.lo, .int .i64 nd.hi, .int .i64 nd.mode, .int .i64 nd.ref, .slice A1 nd.set.length p1, .slice A2 nd.kids.length p2] 117) = W at *
    have hl2 : 1 ≤ (nd.kids.length : Int) := by
      have hs := HW.out.shape
      rw [HK'.out] at hs
      unfold shapeOk at hs
      omega
    have hmi : (nd.kids.length : Int) ≤ 1000000 := by omega
    go_upto_region 9 with (fail)
    refine wp_region_held_drew (S := fun V => Blk V w.heap.size 117 #[.int .i64 3, .int .i64 nd.lo, .int .i64 nd.hi, .int .i64 nd.mode, .int .i64 nd.ref, .slice A1 nd.set.length p1, .slice A2 nd.kids.length p2]) (by kernel_rfl) HB0.out (fun hHeld => ?_)
    have hd : Blk W.drew w.heap.size 117 #[.int .i64 3, .int .i64 nd.lo, .int .i64 nd.hi, .int .i64 nd.mode, .int .i64 nd.ref, .slice A1 nd.set.length p1, .slice A2 nd.kids.length p2] := HB0.out
    have hbd : Below w.heap.size w W.drew := hb0.drew
    have HVd := Lib.hid (show KidsV W.drew nd.kids A2 b off from HV.out.on (bdrew W 1))
    clear h7
    generalize W.drew = Wd at *
    refine take_d 0 16 (.pointer (some ⟨w.heap.size, 6, none⟩)) _ rfl rfl (by kernel_rfl) (by kernel_rfl) (by kernel_rfl) (fun _ _ _ h => h) (Or.inl ⟨by rfl, fun w' hSw => ?_⟩) hHeld ?_
    · go_simp
    simp only [List.setIfInBounds_toArray, List.set_cons_zero, List.set_cons_succ]
    refine take_d 1 17 (.slice A2 nd.kids.length p2) _ rfl rfl (by kernel_rfl) (by kernel_rfl) (by kernel_rfl) (fun _ _ _ h => h) (Or.inl ⟨by rfl, fun w' hSw => ?_⟩) hHeld ?_
    · have hS7 := hSw.c7
      clear hSw
      go_simp
    simp only [List.setIfInBounds_toArray, List.set_cons_zero, List.set_cons_succ]
    refine take_d 3 19 (.pointer (some ⟨w.heap.size, 6, none⟩)) _ rfl rfl (by kernel_rfl) (by kernel_rfl) (by kernel_rfl) (fun _ _ _ h => h) (Or.inl ⟨by rfl, fun w' hSw => ?_⟩) hHeld ?_
    · go_simp
    simp only [List.setIfInBounds_toArray, List.set_cons_zero, List.set_cons_succ]
    refine take_d 4 20 (.slice A2 nd.kids.length p2) _ rfl rfl (by kernel_rfl) (by kernel_rfl) (by kernel_rfl) (fun _ _ _ h => h) (Or.inl ⟨by rfl, fun w' hSw => ?_⟩) hHeld ?_
    · have hS7 := hSw.c7
      clear hSw
      go_simp
    simp only [List.setIfInBounds_toArray, List.set_cons_zero, List.set_cons_succ]
    refine take_d 5 21 (.int .i64 nd.kids.length) _ rfl rfl (by kernel_rfl) (by kernel_rfl) (by kernel_rfl) (fun _ _ _ h => h) (Or.inl ⟨by rfl, fun w' hSw => ?_⟩) hHeld ?_
    · go_simp
    simp only [List.setIfInBounds_toArray, List.set_cons_zero, List.set_cons_succ]
    refine take_d 6 22 (.int .i64 ((nd.kids.length : Int) - 1)) _ rfl rfl (by kernel_rfl) (by kernel_rfl) (by kernel_rfl) (fun _ _ _ h => h) (Or.inl ⟨by rfl, fun w' hSw => ?_⟩) hHeld ?_
    · go_simp
      exact IntWalk.i64_in _ (by omega)
    simp only [List.setIfInBounds_toArray, List.set_cons_zero, List.set_cons_succ]
    refine take_d 7 23 (.int .i64 (2 * ((nd.kids.length : Int) - 1))) _ rfl rfl (by kernel_rfl) (by kernel_rfl) (by kernel_rfl) (fun _ _ _ h => h) (Or.inl ⟨by rfl, fun w' hSw => ?_⟩) hHeld ?_
    · go_simp
      exact IntWalk.i64_in _ (by omega)
    simp only [List.setIfInBounds_toArray, List.set_cons_zero, List.set_cons_succ]
    refine wpAnyH_ready (rs := [2]) (by kernel_rfl) (by simp) ?_
    refine AllReadyH.cons rfl (fun K hK => ?_) AllReadyH.nil
    go_simp
    refine (HRow.out Wd HVd.out).mono ?_
    rintro e w1 ⟨rfl, hb1⟩
    have hbw := hbd.trans (hb1.mono hbd.size)
    refine hK.out _ _ (hd.on hb1) (fun hHeld => ?_)
    clear hK K
    refine take_d 8 24 (.int .i64 (c + 2 * ((nd.kids.length : Int) - 1))) _ rfl rfl (by kernel_rfl) (by kernel_rfl) (by kernel_rfl) (fun _ _ _ h => h) (Or.inl ⟨by rfl, fun w' hSw => ?_⟩) hHeld ?_
    · go_simp
      exact IntWalk.i64_in _ (by omega)
    simp only [List.setIfInBounds_toArray, List.set_cons_zero, List.set_cons_succ]
    refine wpAnyH_ready (rs := [9]) (by kernel_rfl) (by simp) ?_
    refine AllReadyH.cons rfl (fun K hK => ?_) AllReadyH.nil
    go_simp
    refine (bounded_any (c + 2 * ((nd.kids.length : Int) - 1))).mono ?_
    rintro e w2 ⟨rfl, rfl⟩
    refine hK.out _ _ (hd.on hb1) (fun hHeld => ?_)
    clear hK K
    refine take_d 10 2 (.int .i64 (capF (c + 2 * ((nd.kids.length : Int) - 1)))) _ rfl rfl (by kernel_rfl) (by kernel_rfl) (by kernel_rfl) (fun _ _ _ h => h) (Or.inl ⟨by rfl, fun w' hSw => ?_⟩) hHeld ?_
    · go_simp
    simp only [List.setIfInBounds_toArray, List.set_cons_zero, List.set_cons_succ]
    refine wpAnyH_done (by kernel_rfl) ?_ _
    clear hHeld
    go_wp2
    go_ret
    exact ⟨rfl, hbw⟩
  · rcases h with rfl | rfl | rfl
    · have e := size_wrap (nd := nd) HW.out (by omega)
      rw [e]
      have HK' := Lib.hid hk'
      clear e hk'
      have HRow := Lib.hid (fun W (hW : KidsV W nd.kids A2 b off) => HR.out nd.kids HO.out hm W A2 p2 b off hW)
      generalize szSum nd.kids = c at *
      go_enter Tryz.func82, Tryz.ntmps82
      go_upto_region 1 with (fail)
      have h7 := HB0.out.c7
      generalize w.alloc (.cells #[.int .i64 5, .int .i64 nd.lo, .int .i64 nd.hi, .int .i64 nd.mode, .int .i64 nd.ref, .slice A1 nd.set.length p1, .slice A2 nd.kids.length p2] 117) = W at *
      go_wp2_with fail
      refine (HRow.out W HV.out).mono ?_
      rintro e w1 ⟨rfl, hb1⟩
      have hbw := hb0.trans (hb1.mono hb0.size)
      go_wp2_with fail
      refine (bounded_any (c + 2)).mono ?_
      rintro e w2 ⟨rfl, rfl⟩
      go_wp2
      go_ret
      exact ⟨rfl, hbw⟩
    · have e := size_wrap (nd := nd) HW.out (by omega)
      rw [e]
      have HK' := Lib.hid hk'
      clear e hk'
      have HRow := Lib.hid (fun W (hW : KidsV W nd.kids A2 b off) => HR.out nd.kids HO.out hm W A2 p2 b off hW)
      generalize szSum nd.kids = c at *
      go_enter Tryz.func82, Tryz.ntmps82
      go_upto_region 1 with (fail)
      have h7 := HB0.out.c7
      generalize w.alloc (.cells #[.int .i64 7, .int .i64 nd.lo, .int .i64 nd.hi, .int .i64 nd.mode, .int .i64 nd.ref, .slice A1 nd.set.length p1, .slice A2 nd.kids.length p2] 117) = W at *
      go_wp2_with fail
      refine (HRow.out W HV.out).mono ?_
      rintro e w1 ⟨rfl, hb1⟩
      have hbw := hb0.trans (hb1.mono hb0.size)
      go_wp2_with fail
      refine (bounded_any (c + 2)).mono ?_
      rintro e w2 ⟨rfl, rfl⟩
      go_wp2
      go_ret
      exact ⟨rfl, hbw⟩
    · have e := size_wrap (nd := nd) HW.out (by omega)
      rw [e]
      have HK' := Lib.hid hk'
      clear e hk'
      have HRow := Lib.hid (fun W (hW : KidsV W nd.kids A2 b off) => HR.out nd.kids HO.out hm W A2 p2 b off hW)
      generalize szSum nd.kids = c at *
      go_enter Tryz.func82, Tryz.ntmps82
      go_upto_region 1 with (fail)
      have h7 := HB0.out.c7
      generalize w.alloc (.cells #[.int .i64 8, .int .i64 nd.lo, .int .i64 nd.hi, .int .i64 nd.mode, .int .i64 nd.ref, .slice A1 nd.set.length p1, .slice A2 nd.kids.length p2] 117) = W at *
      go_wp2_with fail
      refine (HRow.out W HV.out).mono ?_
      rintro e w1 ⟨rfl, hb1⟩
      have hbw := hb0.trans (hb1.mono hb0.size)
      go_wp2_with fail
      refine (bounded_any (c + 2)).mono ?_
      rintro e w2 ⟨rfl, rfl⟩
      go_wp2
      go_ret
      exact ⟨rfl, hbw⟩
  · have e : ndSize nd = capF (repSz nd.lo nd.hi nd.mode (szSum nd.kids)) := (size_rep HW.out hk').1
    rw [e]
    have HK' := Lib.hid hk'
    have HRep := Lib.hid (fun W (hW : NodeV (fun b => b < W.heap.size) W nd (.slice A1 nd.set.length p1) (.slice A2 nd.kids.length p2)) => repeatSize_any n HR.out nd HS.out HW.out HK'.out W A1 A2 p1 p2 hW)
    clear e hk'
    generalize repSz nd.lo nd.hi nd.mode (szSum nd.kids) = z at *
    go_enter Tryz.func82, Tryz.ntmps82
    go_upto_region 1 with (fail)
    have h7 := HB0.out.c7
    generalize w.alloc (.cells #[.int .i64 4, .int .i64 nd.lo, .int .i64 nd.hi, .int .i64 nd.mode, .int .i64 nd.ref, .slice A1 nd.set.length p1, .slice A2 nd.kids.length p2] 117) = W at *
    go_wp2_with fail
    refine (HRep.out W HN.out).mono ?_
    rintro e w1 ⟨rfl, hb1⟩
    have hbw := hb0.trans (hb1.mono hb0.size)
    go_wp2_with fail
    refine (bounded_any z).mono ?_
    rintro e w2 ⟨rfl, rfl⟩
    go_wp2
    go_ret
    exact ⟨rfl, hbw⟩

theorem all_sizes (n : Nat) : SizeC n ∧ RowSC n := by
  induction n with
  | zero =>
    have h : SizeC 0 := by
      intro nd h
      cases nd with
      | mk a b c d e f g => simp only [Nd.mk.sizeOf_spec] at h; omega
    exact ⟨h, rowSize_step 0 h⟩
  | succ n ih =>
    have h := size_step n ih.2
    exact ⟨h, rowSize_step _ h⟩
theorem size_any (nd : Nd) (hw : Wf nd) (w : World) (A1 A2 : Option Addr) (p1 p2 : Nat) (h : NodeV (fun b => b < w.heap.size) w nd (.slice A1 nd.set.length p1) (.slice A2 nd.kids.length p2)) :
    Calls Tryz.prog 82 #[.agg #[.int .i64 nd.kind, .int .i64 nd.lo, .int .i64 nd.hi, .int .i64 nd.mode, .int .i64 nd.ref, .slice A1 nd.set.length p1, .slice A2 nd.kids.length p2]] w fun e w' => e = .returned (.int .i64 (ndSize nd)) ∧ Below w.heap.size w w' :=
  (all_sizes _).1 nd (Nat.le_refl _) hw w A1 A2 p1 p2 h

end Go.Proofs.YtefgobmpleoafaaGreatDoor

/- Looks behind that go too far; Check. -/
namespace Go.Proofs.YtefgobmpleoafaaGreatDoor
open Go.RowKit
open Go.Proofs.YtefgobmpleoafaaGreatDoor.Cl (Rg SetV SetAt rgCells)
variable {w w' : World}

def LooksC (n : Nat) : Prop := ∀ (nd : Nd), SizeOf.sizeOf nd ≤ n → Wf nd → ∀ (w : World) (A1 A2 : Option Addr) (p1 p2 : Nat), NodeV (fun b => b < w.heap.size) w nd (.slice A1 nd.set.length p1) (.slice A2 nd.kids.length p2) →
  Calls Tryz.prog 67 #[.agg #[.int .i64 nd.kind, .int .i64 nd.lo, .int .i64 nd.hi, .int .i64 nd.mode, .int .i64 nd.ref, .slice A1 nd.set.length p1, .slice A2 nd.kids.length p2]] w fun e w' => e = .returned (.bool (!bounded nd)) ∧ Below w.heap.size w w'
theorem bound_no {k m : Int} {l : List Int} (h : ¬ (k = 7 ∧ 2 ≤ m)) : boundF k m l = true := by simp [boundF, h]
theorem bound_look {nd : Nd} (hw : Wf nd) (hk : nd.kind = 7) (hm : 2 ≤ nd.mode) : boundF nd.kind nd.mode (nd.kids.map most) = !(decide (hiSum nd.kids = -1 ∨ 32 < hiSum nd.kids)) := by
  have hs := hw.shape
  have hl : nd.kids.length = 1 := by unfold shapeOk at hs; omega
  obtain ⟨x, hx⟩ := hd_one hl
  have hwx : Wf x := hw.kids x (by rw [hx]; simp)
  have := most_range hwx
  rw [hx, hiSum_one hwx]
  simp only [boundF, hk, hm, hd, List.map_cons, List.map_nil, List.headD_cons, and_self, decide_true, Bool.true_and]
  congr 1
  rw [decide_eq_decide]
  omega
theorem nd_bounded_ (nd : Nd) (b : Bool) (h : boundF nd.kind nd.mode (nd.kids.map most) = b) : bounded nd = (b && nd.kids.all bounded) := by rw [nd_bounded, h]

set_option maxRecDepth 100000 in
set_option maxHeartbeats 2000000 in
theorem looks_step (n : Nat) (ih : LooksC n) : LooksC (n + 1) := by
  intro nd hsz hw w A1 A2 p1 p2 hN
  obtain ⟨b, off, hkv, hm⟩ := hN.kidsV
  have HO := Lib.hid (kids_ok hw hsz)
  have HIH := Lib.hid ih
  have hs := hw.shape
  have hmm : nd.kind = 7 → 0 ≤ nd.mode ∧ nd.mode ≤ 3 := by unfold shapeOk at hs; omega
  have HK := Lib.hid hkv
  clear hkv hN ih hsz
  by_cases hk : nd.kind = 7 ∧ 2 ≤ nd.mode
  · have hm4 := hmm hk.1
    have HBdd := Lib.hid (nd_bounded_ nd _ (bound_look hw hk.1 hk.2))
    have hr2 := hiSum_range (l := nd.kids)
    unfold far at hr2
    obtain ⟨r3, r4⟩ := hr2
    have HRow := Lib.hid (fun W (hW : KidsV W nd.kids A2 b off) => rowWidth_any nd.kids hw.kids hm W A2 p2 b off hW)
    generalize hiSum nd.kids = hs at *
    generalize loSum nd.kids = ls at *
    have hmode : nd.mode = 2 ∨ nd.mode = 3 := by omega
    obtain ⟨m, hm1⟩ : ∃ m, m = nd.mode := ⟨_, rfl⟩
    rw [hk.1, ← hm1]
    rw [← hm1] at hmode
    clear hm1 hk hm4 hmm
    rcases hmode with rfl | rfl
    · have HB0 := Lib.hid (Blk.new w 117 #[.int .i64 7, .int .i64 nd.lo, .int .i64 nd.hi, .int .i64 2, .int .i64 nd.ref, .slice A1 nd.set.length p1, .slice A2 nd.kids.length p2])
      have hb0 := new_blk w #[.int .i64 7, .int .i64 nd.lo, .int .i64 nd.hi, .int .i64 2, .int .i64 nd.ref, .slice A1 nd.set.length p1, .slice A2 nd.kids.length p2]
      by_cases hfar : hs = -1 ∨ 32 < hs
      · have HBd : Hid (bounded nd = false) := Lib.hid (by rw [HBdd.out, decide_eq_true hfar]; rfl)
        rw [HBd.out]
        clear HBdd
        by_cases h1 : hs = -1
        · subst h1
          go_enter Tryz.func67, Tryz.ntmps67
          go_upto_region 1 with (fail)
          have h7 := HB0.out.c7
          have HV := Lib.hid (HK.out.on hb0)
          generalize w.alloc (.cells #[.int .i64 7, .int .i64 nd.lo, .int .i64 nd.hi, .int .i64 2, .int .i64 nd.ref, .slice A1 nd.set.length p1, .slice A2 nd.kids.length p2] 117) = W at *
          go_wp2_with fail
          refine (HRow.out W HV.out).mono ?_
          rintro e w1 ⟨rfl, hb1⟩
          have hbw := hb0.trans (hb1.mono hb0.size)
          go_wp2
          go_ret
          exact ⟨rfl, hbw⟩
        · have h1' : (hs == -1) = false := by simp [h1]
          have h2 : 32 < hs := by omega
          go_enter Tryz.func67, Tryz.ntmps67
          go_upto_region 1 with (fail)
          have h7 := HB0.out.c7
          have HV := Lib.hid (HK.out.on hb0)
          generalize w.alloc (.cells #[.int .i64 7, .int .i64 nd.lo, .int .i64 nd.hi, .int .i64 2, .int .i64 nd.ref, .slice A1 nd.set.length p1, .slice A2 nd.kids.length p2] 117) = W at *
          go_wp2_with fail
          refine (HRow.out W HV.out).mono ?_
          rintro e w1 ⟨rfl, hb1⟩
          have hbw := hb0.trans (hb1.mono hb0.size)
          go_wp2
          go_ret
          exact ⟨rfl, hbw⟩
      · have HBd : Hid (bounded nd = nd.kids.all bounded) := Lib.hid (by rw [HBdd.out, decide_eq_false hfar]; rfl)
        clear HBdd
        have h1' : (hs == -1) = false := by simp; omega
        have h2 : ¬ 32 < hs := by omega
        obtain ⟨rb, hrb⟩ : ∃ rb, rb = bounded nd := ⟨_, rfl⟩
        go_enter Tryz.func67, Tryz.ntmps67
        go_upto_region 1 with (fail)
        have h7 := HB0.out.c7
        have HV := Lib.hid (HK.out.on hb0)
        generalize w.alloc (.cells #[.int .i64 7, .int .i64 nd.lo, .int .i64 nd.hi, .int .i64 2, .int .i64 nd.ref, .slice A1 nd.set.length p1, .slice A2 nd.kids.length p2] 117) = W at *
        go_wp2_with fail
        refine (HRow.out W HV.out).mono ?_
        rintro e w1 ⟨rfl, hb1⟩
        have hbw := hb0.trans (hb1.mono hb0.size)
        have h77 := (HB0.out.on hb1).c7
        clear h7
        go_wp2
        go_loopw [35] (fun i wr => ∃ k : Nat, k ≤ nd.kids.length ∧ i = .int .i64 k ∧ Hid ((nd.kids.take k).all bounded = true) ∧ Below w.heap.size w wr) (fun i _ => nd.kids.length - (intOf i).toNat)
        case atStart => exact ⟨0, Nat.zero_le _, rfl, Lib.hid rfl, hbw⟩
        case round =>
          clear h77
          obtain ⟨j, hj, rfl, HE, hbel⟩ := hrel
          have hsz := hbel.size
          by_cases hlt : j < nd.kids.length
          · have hlti : (j : Int) < nd.kids.length := by omega
            obtain ⟨hA, hb, a1, a2, r1, r2, hN, hC⟩ := HK.out j _ (List.getElem?_eq_getElem hlt)
            subst hA
            have HX := Lib.hid (HO.out _ (List.getElem_mem hlt))
            have HT := Lib.hid (take_snoc hlt)
            have HM := Lib.hid (List.getElem_mem hlt)
            generalize nd.kids[j] = x at hN hC HX HT HM
            have h7 := (hC.on (hbel.block b hb)).seven_
            have HN := Lib.hid ((hN.on_ hbel).on_ (new_blk wr #[.int .i64 x.kind, .int .i64 x.lo, .int .i64 x.hi, .int .i64 x.mode, .int .i64 x.ref, .slice a1 x.set.length r1, .slice a2 x.kids.length r2]))
            have HB := Lib.hid (Blk.new wr 117 #[.int .i64 x.kind, .int .i64 x.lo, .int .i64 x.hi, .int .i64 x.mode, .int .i64 x.ref, .slice a1 x.set.length r1, .slice a2 x.kids.length r2])
            have hb6 := hbel.alloc hsz (.cells #[.int .i64 x.kind, .int .i64 x.lo, .int .i64 x.hi, .int .i64 x.mode, .int .i64 x.ref, .slice a1 x.set.length r1, .slice a2 x.kids.length r2] 117)
            clear hN hC
            go_upto_region 8 with (fail)
            have h77 := HB.out.c7
            generalize wr.alloc (.cells #[.int .i64 x.kind, .int .i64 x.lo, .int .i64 x.hi, .int .i64 x.mode, .int .i64 x.ref, .slice a1 x.set.length r1, .slice a2 x.kids.length r2] 117) = W at *
            have HI := Lib.hid (HIH.out x HX.out.2 HX.out.1 W a1 a2 r1 r2 HN.out)
            obtain ⟨bx, hbx⟩ : ∃ bx, bx = bounded x := ⟨_, rfl⟩
            rw [← hbx] at HI
            have HBX := Lib.hid hbx
            clear hbx
            cases bx with
            | true =>
              go_wp2_with fail
              refine HI.out.mono ?_
              rintro e w1 ⟨rfl, hb1⟩
              have hbw := hb6.trans (hb1.mono hb6.size)
              clear HN HB h77 HI
              go_wp2
              go_roundw
              case rel =>
                refine ⟨j + 1, by omega, by go_num, Lib.hid ?_, hbw⟩
                rw [HT.out, List.all_append, HE.out]
                simp [← HBX.out]
              case measure => simp [intOf]; omega
            | false =>
              go_wp2_with fail
              refine HI.out.mono ?_
              rintro e w1 ⟨rfl, hb1⟩
              have hbw := hb6.trans (hb1.mono hb6.size)
              clear HN HB h77 HI
              go_wp2
              go_ret
              refine ⟨?_, hbw⟩
              have : nd.kids.all bounded = false := by
                rw [List.all_eq_false]
                exact ⟨x, HM.out, by rw [← HBX.out]; simp⟩
              rw [HBd.out, this]
              simp
          · obtain rfl : j = nd.kids.length := by omega
            go_wp2
            go_ret
            refine ⟨?_, hbel⟩
            have := HE.out
            rw [List.take_length] at this
            rw [HBd.out, this]
            simp
    · have HB0 := Lib.hid (Blk.new w 117 #[.int .i64 7, .int .i64 nd.lo, .int .i64 nd.hi, .int .i64 3, .int .i64 nd.ref, .slice A1 nd.set.length p1, .slice A2 nd.kids.length p2])
      have hb0 := new_blk w #[.int .i64 7, .int .i64 nd.lo, .int .i64 nd.hi, .int .i64 3, .int .i64 nd.ref, .slice A1 nd.set.length p1, .slice A2 nd.kids.length p2]
      by_cases hfar : hs = -1 ∨ 32 < hs
      · have HBd : Hid (bounded nd = false) := Lib.hid (by rw [HBdd.out, decide_eq_true hfar]; rfl)
        rw [HBd.out]
        clear HBdd
        by_cases h1 : hs = -1
        · subst h1
          go_enter Tryz.func67, Tryz.ntmps67
          go_upto_region 1 with (fail)
          have h7 := HB0.out.c7
          have HV := Lib.hid (HK.out.on hb0)
          generalize w.alloc (.cells #[.int .i64 7, .int .i64 nd.lo, .int .i64 nd.hi, .int .i64 3, .int .i64 nd.ref, .slice A1 nd.set.length p1, .slice A2 nd.kids.length p2] 117) = W at *
          go_wp2_with fail
          refine (HRow.out W HV.out).mono ?_
          rintro e w1 ⟨rfl, hb1⟩
          have hbw := hb0.trans (hb1.mono hb0.size)
          go_wp2
          go_ret
          exact ⟨rfl, hbw⟩
        · have h1' : (hs == -1) = false := by simp [h1]
          have h2 : 32 < hs := by omega
          go_enter Tryz.func67, Tryz.ntmps67
          go_upto_region 1 with (fail)
          have h7 := HB0.out.c7
          have HV := Lib.hid (HK.out.on hb0)
          generalize w.alloc (.cells #[.int .i64 7, .int .i64 nd.lo, .int .i64 nd.hi, .int .i64 3, .int .i64 nd.ref, .slice A1 nd.set.length p1, .slice A2 nd.kids.length p2] 117) = W at *
          go_wp2_with fail
          refine (HRow.out W HV.out).mono ?_
          rintro e w1 ⟨rfl, hb1⟩
          have hbw := hb0.trans (hb1.mono hb0.size)
          go_wp2
          go_ret
          exact ⟨rfl, hbw⟩
      · have HBd : Hid (bounded nd = nd.kids.all bounded) := Lib.hid (by rw [HBdd.out, decide_eq_false hfar]; rfl)
        clear HBdd
        have h1' : (hs == -1) = false := by simp; omega
        have h2 : ¬ 32 < hs := by omega
        obtain ⟨rb, hrb⟩ : ∃ rb, rb = bounded nd := ⟨_, rfl⟩
        go_enter Tryz.func67, Tryz.ntmps67
        go_upto_region 1 with (fail)
        have h7 := HB0.out.c7
        have HV := Lib.hid (HK.out.on hb0)
        generalize w.alloc (.cells #[.int .i64 7, .int .i64 nd.lo, .int .i64 nd.hi, .int .i64 3, .int .i64 nd.ref, .slice A1 nd.set.length p1, .slice A2 nd.kids.length p2] 117) = W at *
        go_wp2_with fail
        refine (HRow.out W HV.out).mono ?_
        rintro e w1 ⟨rfl, hb1⟩
        have hbw := hb0.trans (hb1.mono hb0.size)
        have h77 := (HB0.out.on hb1).c7
        clear h7
        go_wp2
        go_loopw [35] (fun i wr => ∃ k : Nat, k ≤ nd.kids.length ∧ i = .int .i64 k ∧ Hid ((nd.kids.take k).all bounded = true) ∧ Below w.heap.size w wr) (fun i _ => nd.kids.length - (intOf i).toNat)
        case atStart => exact ⟨0, Nat.zero_le _, rfl, Lib.hid rfl, hbw⟩
        case round =>
          clear h77
          obtain ⟨j, hj, rfl, HE, hbel⟩ := hrel
          have hsz := hbel.size
          by_cases hlt : j < nd.kids.length
          · have hlti : (j : Int) < nd.kids.length := by omega
            obtain ⟨hA, hb, a1, a2, r1, r2, hN, hC⟩ := HK.out j _ (List.getElem?_eq_getElem hlt)
            subst hA
            have HX := Lib.hid (HO.out _ (List.getElem_mem hlt))
            have HT := Lib.hid (take_snoc hlt)
            have HM := Lib.hid (List.getElem_mem hlt)
            generalize nd.kids[j] = x at hN hC HX HT HM
            have h7 := (hC.on (hbel.block b hb)).seven_
            have HN := Lib.hid ((hN.on_ hbel).on_ (new_blk wr #[.int .i64 x.kind, .int .i64 x.lo, .int .i64 x.hi, .int .i64 x.mode, .int .i64 x.ref, .slice a1 x.set.length r1, .slice a2 x.kids.length r2]))
            have HB := Lib.hid (Blk.new wr 117 #[.int .i64 x.kind, .int .i64 x.lo, .int .i64 x.hi, .int .i64 x.mode, .int .i64 x.ref, .slice a1 x.set.length r1, .slice a2 x.kids.length r2])
            have hb6 := hbel.alloc hsz (.cells #[.int .i64 x.kind, .int .i64 x.lo, .int .i64 x.hi, .int .i64 x.mode, .int .i64 x.ref, .slice a1 x.set.length r1, .slice a2 x.kids.length r2] 117)
            clear hN hC
            go_upto_region 8 with (fail)
            have h77 := HB.out.c7
            generalize wr.alloc (.cells #[.int .i64 x.kind, .int .i64 x.lo, .int .i64 x.hi, .int .i64 x.mode, .int .i64 x.ref, .slice a1 x.set.length r1, .slice a2 x.kids.length r2] 117) = W at *
            have HI := Lib.hid (HIH.out x HX.out.2 HX.out.1 W a1 a2 r1 r2 HN.out)
            obtain ⟨bx, hbx⟩ : ∃ bx, bx = bounded x := ⟨_, rfl⟩
            rw [← hbx] at HI
            have HBX := Lib.hid hbx
            clear hbx
            cases bx with
            | true =>
              go_wp2_with fail
              refine HI.out.mono ?_
              rintro e w1 ⟨rfl, hb1⟩
              have hbw := hb6.trans (hb1.mono hb6.size)
              clear HN HB h77 HI
              go_wp2
              go_roundw
              case rel =>
                refine ⟨j + 1, by omega, by go_num, Lib.hid ?_, hbw⟩
                rw [HT.out, List.all_append, HE.out]
                simp [← HBX.out]
              case measure => simp [intOf]; omega
            | false =>
              go_wp2_with fail
              refine HI.out.mono ?_
              rintro e w1 ⟨rfl, hb1⟩
              have hbw := hb6.trans (hb1.mono hb6.size)
              clear HN HB h77 HI
              go_wp2
              go_ret
              refine ⟨?_, hbw⟩
              have : nd.kids.all bounded = false := by
                rw [List.all_eq_false]
                exact ⟨x, HM.out, by rw [← HBX.out]; simp⟩
              rw [HBd.out, this]
              simp
          · obtain rfl : j = nd.kids.length := by omega
            go_wp2
            go_ret
            refine ⟨?_, hbel⟩
            have := HE.out
            rw [List.take_length] at this
            rw [HBd.out, this]
            simp
  · have HBd : Hid (bounded nd = nd.kids.all bounded) := Lib.hid (by rw [nd_bounded_ nd true (bound_no hk)]; rfl)
    by_cases hk7 : nd.kind = 7
    · have hmode : nd.mode = 0 ∨ nd.mode = 1 := by have := hmm hk7; omega
      obtain ⟨m, hm1⟩ : ∃ m, m = nd.mode := ⟨_, rfl⟩
      rw [hk7, ← hm1]
      rw [← hm1] at hmode
      clear hm1 hmm hk
      rcases hmode with rfl | rfl
      · have HB0 := Lib.hid (Blk.new w 117 #[.int .i64 7, .int .i64 nd.lo, .int .i64 nd.hi, .int .i64 0, .int .i64 nd.ref, .slice A1 nd.set.length p1, .slice A2 nd.kids.length p2])
        have hb0 := new_blk w #[.int .i64 7, .int .i64 nd.lo, .int .i64 nd.hi, .int .i64 0, .int .i64 nd.ref, .slice A1 nd.set.length p1, .slice A2 nd.kids.length p2]
        go_enter Tryz.func67, Tryz.ntmps67
        go_upto_region 1 with (fail)
        have h7 := HB0.out.c7
        generalize w.alloc (.cells #[.int .i64 7, .int .i64 nd.lo, .int .i64 nd.hi, .int .i64 0, .int .i64 nd.ref, .slice A1 nd.set.length p1, .slice A2 nd.kids.length p2] 117) = W at *
        go_wp2
        go_loopw [35] (fun i wr => ∃ k : Nat, k ≤ nd.kids.length ∧ i = .int .i64 k ∧ Hid ((nd.kids.take k).all bounded = true) ∧ Below w.heap.size w wr) (fun i _ => nd.kids.length - (intOf i).toNat)
        case atStart => exact ⟨0, Nat.zero_le _, rfl, Lib.hid rfl, hb0⟩
        case round =>
          clear h7
          obtain ⟨j, hj, rfl, HE, hbel⟩ := hrel
          have hsz := hbel.size
          by_cases hlt : j < nd.kids.length
          · have hlti : (j : Int) < nd.kids.length := by omega
            obtain ⟨hA, hb, a1, a2, r1, r2, hN, hC⟩ := HK.out j _ (List.getElem?_eq_getElem hlt)
            subst hA
            have HX := Lib.hid (HO.out _ (List.getElem_mem hlt))
            have HT := Lib.hid (take_snoc hlt)
            have HM := Lib.hid (List.getElem_mem hlt)
            generalize nd.kids[j] = x at hN hC HX HT HM
            have h7 := (hC.on (hbel.block b hb)).seven_
            have HN := Lib.hid ((hN.on_ hbel).on_ (new_blk wr #[.int .i64 x.kind, .int .i64 x.lo, .int .i64 x.hi, .int .i64 x.mode, .int .i64 x.ref, .slice a1 x.set.length r1, .slice a2 x.kids.length r2]))
            have HB := Lib.hid (Blk.new wr 117 #[.int .i64 x.kind, .int .i64 x.lo, .int .i64 x.hi, .int .i64 x.mode, .int .i64 x.ref, .slice a1 x.set.length r1, .slice a2 x.kids.length r2])
            have hb6 := hbel.alloc hsz (.cells #[.int .i64 x.kind, .int .i64 x.lo, .int .i64 x.hi, .int .i64 x.mode, .int .i64 x.ref, .slice a1 x.set.length r1, .slice a2 x.kids.length r2] 117)
            clear hN hC
            go_upto_region 8 with (fail)
            have h77 := HB.out.c7
            generalize wr.alloc (.cells #[.int .i64 x.kind, .int .i64 x.lo, .int .i64 x.hi, .int .i64 x.mode, .int .i64 x.ref, .slice a1 x.set.length r1, .slice a2 x.kids.length r2] 117) = W at *
            have HI := Lib.hid (HIH.out x HX.out.2 HX.out.1 W a1 a2 r1 r2 HN.out)
            obtain ⟨bx, hbx⟩ : ∃ bx, bx = bounded x := ⟨_, rfl⟩
            rw [← hbx] at HI
            have HBX := Lib.hid hbx
            clear hbx
            cases bx with
            | true =>
              go_wp2_with fail
              refine HI.out.mono ?_
              rintro e w1 ⟨rfl, hb1⟩
              have hbw := hb6.trans (hb1.mono hb6.size)
              clear HN HB h77 HI
              go_wp2
              go_roundw
              case rel =>
                refine ⟨j + 1, by omega, by go_num, Lib.hid ?_, hbw⟩
                rw [HT.out, List.all_append, HE.out]
                simp [← HBX.out]
              case measure => simp [intOf]; omega
            | false =>
              go_wp2_with fail
              refine HI.out.mono ?_
              rintro e w1 ⟨rfl, hb1⟩
              have hbw := hb6.trans (hb1.mono hb6.size)
              clear HN HB h77 HI
              go_wp2
              go_ret
              refine ⟨?_, hbw⟩
              have : nd.kids.all bounded = false := by
                rw [List.all_eq_false]
                exact ⟨x, HM.out, by rw [← HBX.out]; simp⟩
              rw [HBd.out, this]
              simp
          · obtain rfl : j = nd.kids.length := by omega
            go_wp2
            go_ret
            refine ⟨?_, hbel⟩
            have := HE.out
            rw [List.take_length] at this
            rw [HBd.out, this]
            simp
      · have HB0 := Lib.hid (Blk.new w 117 #[.int .i64 7, .int .i64 nd.lo, .int .i64 nd.hi, .int .i64 1, .int .i64 nd.ref, .slice A1 nd.set.length p1, .slice A2 nd.kids.length p2])
        have hb0 := new_blk w #[.int .i64 7, .int .i64 nd.lo, .int .i64 nd.hi, .int .i64 1, .int .i64 nd.ref, .slice A1 nd.set.length p1, .slice A2 nd.kids.length p2]
        go_enter Tryz.func67, Tryz.ntmps67
        go_upto_region 1 with (fail)
        have h7 := HB0.out.c7
        generalize w.alloc (.cells #[.int .i64 7, .int .i64 nd.lo, .int .i64 nd.hi, .int .i64 1, .int .i64 nd.ref, .slice A1 nd.set.length p1, .slice A2 nd.kids.length p2] 117) = W at *
        go_wp2
        go_loopw [35] (fun i wr => ∃ k : Nat, k ≤ nd.kids.length ∧ i = .int .i64 k ∧ Hid ((nd.kids.take k).all bounded = true) ∧ Below w.heap.size w wr) (fun i _ => nd.kids.length - (intOf i).toNat)
        case atStart => exact ⟨0, Nat.zero_le _, rfl, Lib.hid rfl, hb0⟩
        case round =>
          clear h7
          obtain ⟨j, hj, rfl, HE, hbel⟩ := hrel
          have hsz := hbel.size
          by_cases hlt : j < nd.kids.length
          · have hlti : (j : Int) < nd.kids.length := by omega
            obtain ⟨hA, hb, a1, a2, r1, r2, hN, hC⟩ := HK.out j _ (List.getElem?_eq_getElem hlt)
            subst hA
            have HX := Lib.hid (HO.out _ (List.getElem_mem hlt))
            have HT := Lib.hid (take_snoc hlt)
            have HM := Lib.hid (List.getElem_mem hlt)
            generalize nd.kids[j] = x at hN hC HX HT HM
            have h7 := (hC.on (hbel.block b hb)).seven_
            have HN := Lib.hid ((hN.on_ hbel).on_ (new_blk wr #[.int .i64 x.kind, .int .i64 x.lo, .int .i64 x.hi, .int .i64 x.mode, .int .i64 x.ref, .slice a1 x.set.length r1, .slice a2 x.kids.length r2]))
            have HB := Lib.hid (Blk.new wr 117 #[.int .i64 x.kind, .int .i64 x.lo, .int .i64 x.hi, .int .i64 x.mode, .int .i64 x.ref, .slice a1 x.set.length r1, .slice a2 x.kids.length r2])
            have hb6 := hbel.alloc hsz (.cells #[.int .i64 x.kind, .int .i64 x.lo, .int .i64 x.hi, .int .i64 x.mode, .int .i64 x.ref, .slice a1 x.set.length r1, .slice a2 x.kids.length r2] 117)
            clear hN hC
            go_upto_region 8 with (fail)
            have h77 := HB.out.c7
            generalize wr.alloc (.cells #[.int .i64 x.kind, .int .i64 x.lo, .int .i64 x.hi, .int .i64 x.mode, .int .i64 x.ref, .slice a1 x.set.length r1, .slice a2 x.kids.length r2] 117) = W at *
            have HI := Lib.hid (HIH.out x HX.out.2 HX.out.1 W a1 a2 r1 r2 HN.out)
            obtain ⟨bx, hbx⟩ : ∃ bx, bx = bounded x := ⟨_, rfl⟩
            rw [← hbx] at HI
            have HBX := Lib.hid hbx
            clear hbx
            cases bx with
            | true =>
              go_wp2_with fail
              refine HI.out.mono ?_
              rintro e w1 ⟨rfl, hb1⟩
              have hbw := hb6.trans (hb1.mono hb6.size)
              clear HN HB h77 HI
              go_wp2
              go_roundw
              case rel =>
                refine ⟨j + 1, by omega, by go_num, Lib.hid ?_, hbw⟩
                rw [HT.out, List.all_append, HE.out]
                simp [← HBX.out]
              case measure => simp [intOf]; omega
            | false =>
              go_wp2_with fail
              refine HI.out.mono ?_
              rintro e w1 ⟨rfl, hb1⟩
              have hbw := hb6.trans (hb1.mono hb6.size)
              clear HN HB h77 HI
              go_wp2
              go_ret
              refine ⟨?_, hbw⟩
              have : nd.kids.all bounded = false := by
                rw [List.all_eq_false]
                exact ⟨x, HM.out, by rw [← HBX.out]; simp⟩
              rw [HBd.out, this]
              simp
          · obtain rfl : j = nd.kids.length := by omega
            go_wp2
            go_ret
            refine ⟨?_, hbel⟩
            have := HE.out
            rw [List.take_length] at this
            rw [HBd.out, this]
            simp
    · have hk7' : (nd.kind == 7) = false := by simp [hk7]
      clear hmm hk hs hw
      generalize nd.kind = k at *
      have HB0 := Lib.hid (Blk.new w 117 #[.int .i64 k, .int .i64 nd.lo, .int .i64 nd.hi, .int .i64 nd.mode, .int .i64 nd.ref, .slice A1 nd.set.length p1, .slice A2 nd.kids.length p2])
      have hb0 := new_blk w #[.int .i64 k, .int .i64 nd.lo, .int .i64 nd.hi, .int .i64 nd.mode, .int .i64 nd.ref, .slice A1 nd.set.length p1, .slice A2 nd.kids.length p2]
      go_enter Tryz.func67, Tryz.ntmps67
      go_upto_region 1 with (fail)
      have h7 := HB0.out.c7
      generalize w.alloc (.cells #[.int .i64 k, .int .i64 nd.lo, .int .i64 nd.hi, .int .i64 nd.mode, .int .i64 nd.ref, .slice A1 nd.set.length p1, .slice A2 nd.kids.length p2] 117) = W at *
      go_wp2
      go_loopw [35] (fun i wr => ∃ k : Nat, k ≤ nd.kids.length ∧ i = .int .i64 k ∧ Hid ((nd.kids.take k).all bounded = true) ∧ Below w.heap.size w wr) (fun i _ => nd.kids.length - (intOf i).toNat)
      case atStart => exact ⟨0, Nat.zero_le _, rfl, Lib.hid rfl, hb0⟩
      case round =>
        clear h7
        obtain ⟨j, hj, rfl, HE, hbel⟩ := hrel
        have hsz := hbel.size
        by_cases hlt : j < nd.kids.length
        · have hlti : (j : Int) < nd.kids.length := by omega
          obtain ⟨hA, hb, a1, a2, r1, r2, hN, hC⟩ := HK.out j _ (List.getElem?_eq_getElem hlt)
          subst hA
          have HX := Lib.hid (HO.out _ (List.getElem_mem hlt))
          have HT := Lib.hid (take_snoc hlt)
          have HM := Lib.hid (List.getElem_mem hlt)
          generalize nd.kids[j] = x at hN hC HX HT HM
          have h7 := (hC.on (hbel.block b hb)).seven_
          have HN := Lib.hid ((hN.on_ hbel).on_ (new_blk wr #[.int .i64 x.kind, .int .i64 x.lo, .int .i64 x.hi, .int .i64 x.mode, .int .i64 x.ref, .slice a1 x.set.length r1, .slice a2 x.kids.length r2]))
          have HB := Lib.hid (Blk.new wr 117 #[.int .i64 x.kind, .int .i64 x.lo, .int .i64 x.hi, .int .i64 x.mode, .int .i64 x.ref, .slice a1 x.set.length r1, .slice a2 x.kids.length r2])
          have hb6 := hbel.alloc hsz (.cells #[.int .i64 x.kind, .int .i64 x.lo, .int .i64 x.hi, .int .i64 x.mode, .int .i64 x.ref, .slice a1 x.set.length r1, .slice a2 x.kids.length r2] 117)
          clear hN hC
          go_upto_region 8 with (fail)
          have h77 := HB.out.c7
          generalize wr.alloc (.cells #[.int .i64 x.kind, .int .i64 x.lo, .int .i64 x.hi, .int .i64 x.mode, .int .i64 x.ref, .slice a1 x.set.length r1, .slice a2 x.kids.length r2] 117) = W at *
          have HI := Lib.hid (HIH.out x HX.out.2 HX.out.1 W a1 a2 r1 r2 HN.out)
          obtain ⟨bx, hbx⟩ : ∃ bx, bx = bounded x := ⟨_, rfl⟩
          rw [← hbx] at HI
          have HBX := Lib.hid hbx
          clear hbx
          cases bx with
          | true =>
            go_wp2_with fail
            refine HI.out.mono ?_
            rintro e w1 ⟨rfl, hb1⟩
            have hbw := hb6.trans (hb1.mono hb6.size)
            clear HN HB h77 HI
            go_wp2
            go_roundw
            case rel =>
              refine ⟨j + 1, by omega, by go_num, Lib.hid ?_, hbw⟩
              rw [HT.out, List.all_append, HE.out]
              simp [← HBX.out]
            case measure => simp [intOf]; omega
          | false =>
            go_wp2_with fail
            refine HI.out.mono ?_
            rintro e w1 ⟨rfl, hb1⟩
            have hbw := hb6.trans (hb1.mono hb6.size)
            clear HN HB h77 HI
            go_wp2
            go_ret
            refine ⟨?_, hbw⟩
            have : nd.kids.all bounded = false := by
              rw [List.all_eq_false]
              exact ⟨x, HM.out, by rw [← HBX.out]; simp⟩
            rw [HBd.out, this]
            simp
        · obtain rfl : j = nd.kids.length := by omega
          go_wp2
          go_ret
          refine ⟨?_, hbel⟩
          have := HE.out
          rw [List.take_length] at this
          rw [HBd.out, this]
          simp

theorem all_looks (n : Nat) : LooksC n := by
  induction n with
  | zero =>
    intro nd h
    cases nd with
    | mk a b c d e f g => simp only [Nd.mk.sizeOf_spec] at h; omega
  | succ n ih => exact looks_step n ih
theorem looks_any (nd : Nd) (hw : Wf nd) (w : World) (A1 A2 : Option Addr) (p1 p2 : Nat) (h : NodeV (fun b => b < w.heap.size) w nd (.slice A1 nd.set.length p1) (.slice A2 nd.kids.length p2)) :
    Calls Tryz.prog 67 #[.agg #[.int .i64 nd.kind, .int .i64 nd.lo, .int .i64 nd.hi, .int .i64 nd.mode, .int .i64 nd.ref, .slice A1 nd.set.length p1, .slice A2 nd.kids.length p2]] w fun e w' => e = .returned (.bool (!bounded nd)) ∧ Below w.heap.size w w' := all_looks _ nd (Nat.le_refl _) hw w A1 A2 p1 p2 h

set_option maxRecDepth 100000 in
set_option maxHeartbeats 2000000 in
theorem patternSize_any (nd : Nd) (hw : Wf nd) (g : Int) (fo : Bool) (w : World) (A1 A2 : Option Addr) (p1 p2 : Nat) (h : NodeV (fun b => b < w.heap.size) w nd (.slice A1 nd.set.length p1) (.slice A2 nd.kids.length p2)) :
    Calls Tryz.prog 68 #[.agg #[.int .i64 nd.kind, .int .i64 nd.lo, .int .i64 nd.hi, .int .i64 nd.mode, .int .i64 nd.ref, .slice A1 nd.set.length p1, .slice A2 nd.kids.length p2, .int .i64 g, .bool fo]] w fun e w' => e = .returned (.int .i64 (capF (ndSize nd + 3))) ∧ Below w.heap.size w w' := by
  have HB0 := Lib.hid (Blk.new w 119 #[.int .i64 nd.kind, .int .i64 nd.lo, .int .i64 nd.hi, .int .i64 nd.mode, .int .i64 nd.ref, .slice A1 nd.set.length p1, .slice A2 nd.kids.length p2, .int .i64 g, .bool fo])
  have hb0 : Below w.heap.size w (w.alloc (.cells #[.int .i64 nd.kind, .int .i64 nd.lo, .int .i64 nd.hi, .int .i64 nd.mode, .int .i64 nd.ref, .slice A1 nd.set.length p1, .slice A2 nd.kids.length p2, .int .i64 g, .bool fo] 119)) := (Below.refl _ _).alloc (Nat.le_refl _) _
  have HS := Lib.hid (fun W (hW : NodeV (fun b => b < W.heap.size) W nd (.slice A1 nd.set.length p1) (.slice A2 nd.kids.length p2)) => size_any nd hw W A1 A2 p1 p2 hW)
  have HN := Lib.hid (h.on_ hb0)
  have hr := ndSize_range hw
  unfold far at hr
  obtain ⟨r1, r2⟩ := hr
  generalize ndSize nd = z at *
  clear h hw
  go_enter Tryz.func68, Tryz.ntmps68
  go_upto_region 1 with (fail)
  have h9 := HB0.out.c9
  generalize w.alloc (.cells #[.int .i64 nd.kind, .int .i64 nd.lo, .int .i64 nd.hi, .int .i64 nd.mode, .int .i64 nd.ref, .slice A1 nd.set.length p1, .slice A2 nd.kids.length p2, .int .i64 g, .bool fo] 119) = W at *
  go_wp2_with fail
  refine (HS.out W HN.out).mono ?_
  rintro e w1 ⟨rfl, hb1⟩
  have hbw := hb0.trans (hb1.mono hb0.size)
  go_wp2_with fail
  refine (bounded_any (z + 3)).mono ?_
  rintro e w2 ⟨rfl, rfl⟩
  go_wp2
  go_ret
  exact ⟨rfl, hbw⟩

set_option maxRecDepth 100000 in
set_option maxHeartbeats 2000000 in
theorem check_any (nd : Nd) (hw : Wf nd) (g : Int) (fo : Bool) (w : World) (A1 A2 : Option Addr) (p1 p2 : Nat) (h : NodeV (fun b => b < w.heap.size) w nd (.slice A1 nd.set.length p1) (.slice A2 nd.kids.length p2)) :
    Calls Tryz.prog 52 #[.agg #[.int .i64 nd.kind, .int .i64 nd.lo, .int .i64 nd.hi, .int .i64 nd.mode, .int .i64 nd.ref, .slice A1 nd.set.length p1, .slice A2 nd.kids.length p2, .int .i64 g, .bool fo]] w fun e w' => e = .returned (.int .i64 (verdictN nd : Nat)) ∧ Below w.heap.size w w' := by
  have HB0 := Lib.hid (Blk.new w 119 #[.int .i64 nd.kind, .int .i64 nd.lo, .int .i64 nd.hi, .int .i64 nd.mode, .int .i64 nd.ref, .slice A1 nd.set.length p1, .slice A2 nd.kids.length p2, .int .i64 g, .bool fo])
  have hb0 : Below w.heap.size w (w.alloc (.cells #[.int .i64 nd.kind, .int .i64 nd.lo, .int .i64 nd.hi, .int .i64 nd.mode, .int .i64 nd.ref, .slice A1 nd.set.length p1, .slice A2 nd.kids.length p2, .int .i64 g, .bool fo] 119)) := (Below.refl _ _).alloc (Nat.le_refl _) _
  have HP := Lib.hid (fun W (hW : NodeV (fun b => b < W.heap.size) W nd (.slice A1 nd.set.length p1) (.slice A2 nd.kids.length p2)) => patternSize_any nd hw g fo W A1 A2 p1 p2 hW)
  have HL := Lib.hid (fun W (hW : NodeV (fun b => b < W.heap.size) W nd (.slice A1 nd.set.length p1) (.slice A2 nd.kids.length p2)) => looks_any nd hw W A1 A2 p1 p2 hW)
  have HN := Lib.hid (h.on_ hb0)
  have hr := ndSize_range hw
  unfold far at hr
  obtain ⟨r1, r2⟩ := hr
  have hv : verdictN nd = if bounded nd then (if 2000 < ndSize nd + 3 then 28 else 0) else 27 := rfl
  rw [hv]
  generalize ndSize nd = z at *
  generalize bounded nd = bd at *
  clear h hw hv
  have hc : (2000 < capF (z + 3)) ↔ 2000 < z + 3 := by unfold capF far; split <;> omega
  cases bd with
  | false =>
    simp only [Bool.false_eq_true, if_false]
    go_enter Tryz.func52, Tryz.ntmps52
    go_upto_region 1 with (fail)
    have h9 := HB0.out.c9
    generalize w.alloc (.cells #[.int .i64 nd.kind, .int .i64 nd.lo, .int .i64 nd.hi, .int .i64 nd.mode, .int .i64 nd.ref, .slice A1 nd.set.length p1, .slice A2 nd.kids.length p2, .int .i64 g, .bool fo] 119) = W at *
    go_wp2_with fail
    refine (HL.out W HN.out).mono ?_
    rintro e w1 ⟨rfl, hb1⟩
    have hbw := hb0.trans (hb1.mono hb0.size)
    go_wp2
    go_ret
    exact ⟨rfl, hbw⟩
  | true =>
    simp only [if_true]
    generalize capF (z + 3) = y at *
    by_cases hz : 2000 < z + 3
    · rw [if_pos hz]
      have hy := hc.2 hz
      clear hc
      go_enter Tryz.func52, Tryz.ntmps52
      go_upto_region 1 with (fail)
      have h9 := HB0.out.c9
      generalize w.alloc (.cells #[.int .i64 nd.kind, .int .i64 nd.lo, .int .i64 nd.hi, .int .i64 nd.mode, .int .i64 nd.ref, .slice A1 nd.set.length p1, .slice A2 nd.kids.length p2, .int .i64 g, .bool fo] 119) = W at *
      go_wp2_with fail
      refine (HL.out W HN.out).mono ?_
      rintro e w1 ⟨rfl, hb1⟩
      have hbw := hb0.trans (hb1.mono hb0.size)
      have HN1 := Lib.hid (HN.out.on_ hb1)
      have h99 := (HB0.out.on hb1).c9
      clear h9
      go_wp2_with fail
      refine (HP.out w1 HN1.out).mono ?_
      rintro e w2 ⟨rfl, hb2⟩
      have hbw2 := hbw.trans (hb2.mono hbw.size)
      go_wp2
      go_ret
      exact ⟨rfl, hbw2⟩
    · rw [if_neg hz]
      have hy : ¬ 2000 < y := fun h => hz (hc.1 h)
      clear hc
      go_enter Tryz.func52, Tryz.ntmps52
      go_upto_region 1 with (fail)
      have h9 := HB0.out.c9
      generalize w.alloc (.cells #[.int .i64 nd.kind, .int .i64 nd.lo, .int .i64 nd.hi, .int .i64 nd.mode, .int .i64 nd.ref, .slice A1 nd.set.length p1, .slice A2 nd.kids.length p2, .int .i64 g, .bool fo] 119) = W at *
      go_wp2_with fail
      refine (HL.out W HN.out).mono ?_
      rintro e w1 ⟨rfl, hb1⟩
      have hbw := hb0.trans (hb1.mono hb0.size)
      have HN1 := Lib.hid (HN.out.on_ hb1)
      have h99 := (HB0.out.on hb1).c9
      clear h9
      go_wp2_with fail
      refine (HP.out w1 HN1.out).mono ?_
      rintro e w2 ⟨rfl, hb2⟩
      have hbw2 := hbw.trans (hb2.mono hbw.size)
      go_wp2
      go_ret
      exact ⟨rfl, hbw2⟩

end Go.Proofs.YtefgobmpleoafaaGreatDoor

