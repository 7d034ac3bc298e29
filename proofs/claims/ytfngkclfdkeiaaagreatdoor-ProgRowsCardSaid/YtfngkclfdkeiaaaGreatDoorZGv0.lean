/- ProgRows: two patterns, one behind the other. -/
import Derived.Test.YtfngkclfdkeiaaaGreatDoorZGq
import Derived.Test.YtfngkclfdkeiaaaGreatDoorZMPg
namespace Go.Proofs.YtfngkclfdkeiaaaGreatDoor
open Go.RowKit
open Go.Proofs.YtfngkclfdkeiaaaGreatDoor.Cl (Rg SetV SetAt)
variable {w w' w0 : World} {n₀ : Nat}

theorem prows_eq (x y : ByteArray) : (⟨#[40, 63, 58]⟩ : ByteArray) ++ x ++ (⟨#[41, 40, 63, 58]⟩ : ByteArray) ++ y ++ (⟨#[41]⟩ : ByteArray) = ⟨(40 :: 63 :: 58 :: (x.data.toList ++ 41 :: 40 :: 63 :: 58 :: (y.data.toList ++ [41]))).toArray⟩ := by
  apply ByteArray.ext
  simp [ByteArray.data_append]
/-- What the texts are. -/
theorem rows_text {x y z : ByteArray} (hz : z = (⟨#[40, 63, 58]⟩ : ByteArray) ++ x ++ (⟨#[41, 40, 63, 58]⟩ : ByteArray) ++ y ++ (⟨#[41]⟩ : ByteArray)) (lx : x.size ≤ 100) (ly : y.size ≤ 100) (hx : fcT x = 0) (hy : fcT y = 0) (h : fcT z = 0) (fx : foT x = false) (fy : foT y = false) :
    foT z = false ∧ ∃ x' y', ndT z = catN [x', y'] ∧ Lk (ndT x) x' ∧ Lk (ndT y) y' := by
  have e1 : parse 1026 x.data.toList = .ok (ndT x, gT x, false) := by rw [← fx]; exact ok_of (by omega) rfl hx
  have e2 : parse 1026 y.data.toList = .ok (ndT y, gT y, false) := by rw [← fy]; exact ok_of (by omega) rfl hy
  have e3 : parse 1026 z.data.toList = .ok (ndT z, gT z, foT z) := ok_of (by omega) rfl h
  have ez : z.data.toList = 40 :: 63 :: 58 :: (x.data.toList ++ 41 :: 40 :: 63 :: 58 :: (y.data.toList ++ [41])) := by rw [hz, prows_eq]
  rw [ez] at e3
  exact cat_read e1 e2 (by have : x.data.toList.length = x.size := rfl; omega) (by have : y.data.toList.length = y.size := rfl; omega) e3
/-- A text that begins with (?i). -/
theorem fo_pre {x : ByteArray} (h : fcT x = 0) (hf : foT x = true) : (3 : Int) < (x.size : Int) ∧ x.extract 0 4 = ⟨#[40, 63, 105, 41]⟩ := by
  have e : parse 1026 x.data.toList = .ok (ndT x, gT x, foT x) := ok_of (by omega) rfl h
  have hfa : foldAt x.data.toList = true := by rw [← parse_fo e]; exact hf
  unfold foldAt pre at hfa
  obtain ⟨r, hr⟩ := List.isPrefixOf_iff_prefix.1 hfa
  have hs : x.size = x.data.toList.length := rfl
  refine ⟨by rw [hs, ← hr]; simp; omega, ?_⟩
  apply ByteArray.ext
  rw [ByteArray.data_extract]
  apply Array.ext'
  rw [Array.toList_extract, ← hr]
  rfl
theorem fo_not {x : ByteArray} (h : fcT x = 0) (hf : foT x = false) (_ : 3 < x.size) : x.extract 0 4 ≠ ⟨#[40, 63, 105, 41]⟩ := by
  intro he
  have e : parse 1026 x.data.toList = .ok (ndT x, gT x, foT x) := ok_of (by omega) rfl h
  have hfa : foldAt x.data.toList = false := by rw [← parse_fo e]; exact hf
  have h4 := congrArg (fun b : ByteArray => b.data.toList) he
  simp only [ByteArray.data_extract, Array.toList_extract, List.extract_eq_take_drop, List.drop_zero, Nat.sub_zero] at h4
  have : foldAt x.data.toList = true := by
    unfold foldAt pre
    rw [List.isPrefixOf_iff_prefix, ← h4]
    exact List.take_prefix _ _
  rw [hfa] at this
  cases this

/-- How large A and B are. -/
theorem whole_bd {fo : Bool} {g : Nat} {nd : Nd} (hf : Wf nd) (hn : Wn (g : Nat) nd) (hv : verdictN nd = 0) : ∀ (k : Nat) (y : In), (whole fo nd)[k]? = some y → (y.op = 2 ∨ y.op = 3 ∨ y.op = 10 ∨ y.op = 11 → -2003 ≤ y.a ∧ y.a ≤ 2003) ∧ (y.op = 3 ∨ y.op = 7 ∨ y.op = 8 → 0 ≤ y.b ∧ y.b ≤ 2003) := by
  intro k y hk
  obtain ⟨l1, l2, l3⟩ := whole_len (fo := fo) hf hv
  have hg := whole_glo fo hn y (List.mem_of_getElem? hk)
  have lb : len (whole fo nd) = ((whole fo nd).length : Nat) := rfl
  rcases whole_at hf hn hk with ⟨_, rfl⟩ | ⟨_, h⟩
  · simp [In.i]
  · have hmk := marks_le ((body fo nd).take k)
    rw [List.length_take] at hmk
    have lbd : len (body fo nd) = ((body fo nd).length : Nat) := rfl
    refine ⟨fun ho => ?_, fun ho => ?_⟩
    · rcases ho with ho | ho | ho | ho
      · have := h.jump ho; omega
      · have := h.split ho; omega
      · have := h.mark ho; omega
      · have := (h.guard ho).1; have := hg ho; omega
    · rcases ho with ho | ho | ho
      · have := h.split ho; omega
      · have h1 := (h.upto (.inl ho)).1; have h2 := (h.upto (.inl ho)).2.1; omega
      · have h1 := (h.upto (.inr ho)).1; have h2 := (h.upto (.inr ho)).2.1; omega

/-- Both texts are patterns that may be, and so is that of both. -/
def zT (x y : ByteArray) : ByteArray := (⟨#[40, 63, 58]⟩ : ByteArray) ++ x ++ (⟨#[41, 40, 63, 58]⟩ : ByteArray) ++ y ++ (⟨#[41]⟩ : ByteArray)
def Good (x y : ByteArray) : Prop := x.size ≤ 100 ∧ y.size ≤ 100 ∧ fcT x = 0 ∧ fcT y = 0 ∧ fcT (zT x y) = 0 ∧ vdT x = 0 ∧ vdT y = 0 ∧ vdT (zT x y) = 0 ∧ foT x = false ∧ foT y = false
/-- What the first four bytes are not. -/
def NoI (x : ByteArray) (b : Bool) : Prop := if b then (3 : Int) < (x.size : Int) ∧ x.extract 0 4 ≠ ⟨#[40, 63, 105, 41]⟩ else ¬ (3 : Int) < (x.size : Int)
theorem noI_of {x : ByteArray} (h : fcT x = 0) (hf : foT x = false) : NoI x (decide (3 < x.size)) := by
  unfold NoI
  by_cases h3 : 3 < x.size
  · simp only [h3, decide_true, if_true]
    exact ⟨by omega, fo_not h hf h3⟩
  · simp only [h3, decide_false, Bool.false_eq_true, if_false]
    omega

set_option maxRecDepth 100000 in
set_option maxHeartbeats 1000000 in
theorem prows_exit (x y : ByteArray) (hT : TabL w.heap.size w) (hbad : ¬ Good x y) : Calls Tryz.prog 5 #[.string x, .string y] w fun e w' => e = .returned (.bool true) ∧ Below w.heap.size w w' := by
  have HT := Lib.hid hT
  have HB := Lib.hid hbad
  clear hbad
  have HA := Lib.hid (anchor5_any hT)
  clear hT
  by_cases hx : 100 < x.size
  · have hx' : (100 : Int) < (x.size : Int) := by omega
    go_enter Tryz.func5, Tryz.ntmps5
    go_wp2_with fail
    refine HA.out.mono ?_
    rintro e w1 ⟨rfl, hb1⟩
    go_wp2
    go_ret
    exact ⟨rfl, hb1⟩
  have hx' : ¬ (100 : Int) < (x.size : Int) := by omega
  by_cases hy : 100 < y.size
  · have hy' : (100 : Int) < (y.size : Int) := by omega
    go_enter Tryz.func5, Tryz.ntmps5
    go_wp2_with fail
    refine HA.out.mono ?_
    rintro e w1 ⟨rfl, hb1⟩
    go_wp2
    go_ret
    exact ⟨rfl, hb1⟩
  have hy' : ¬ (100 : Int) < (y.size : Int) := by omega
  have HL : Hid (x.size ≤ 100 ∧ y.size ≤ 100) := Lib.hid ⟨by omega, by omega⟩
  have HM := Lib.hid (fun (W : World) (k : TabL W.heap.size W) => made_any x (by omega) k)
  have HM2 := Lib.hid (fun (W : World) (k : TabL W.heap.size W) => made_any y (by omega) k)
  have HM3 := Lib.hid (fun (W : World) (k : TabL W.heap.size W) => made_any ((⟨#[40, 63, 58]⟩ : ByteArray) ++ x ++ (⟨#[41, 40, 63, 58]⟩ : ByteArray) ++ y ++ (⟨#[41]⟩ : ByteArray)) (by rw [ByteArray.size_append, ByteArray.size_append, ByteArray.size_append, ByteArray.size_append]; show 3 + x.size + 4 + y.size + 1 ≤ 1000000; omega) k)
  have HR : Hid (∀ x, fcT x = 0 → Wf (ndT x) ∧ Wn (gT x : Nat) (ndT x) ∧ gT x ≤ 9) := Lib.hid (fun x => pat_ok)
  have HV : Hid (∀ x, vdT x = if fcT x = 0 then verdictN (ndT x) else 0) := Lib.hid (fun _ => rfl)
  have HPr : Hid (∀ x, prT x = if fcT x = 0 ∧ verdictN (ndT x) = 0 then whole (foT x) (ndT x) else []) := Lib.hid (fun _ => rfl)
  obtain ⟨z, hz⟩ : ∃ z, z = (⟨#[40, 63, 58]⟩ : ByteArray) ++ x ++ (⟨#[41, 40, 63, 58]⟩ : ByteArray) ++ y ++ (⟨#[41]⟩ : ByteArray) := ⟨_, rfl⟩
  have HZ := Lib.hid hz
  rw [← hz] at HM3
  go_enter Tryz.func5, Tryz.ntmps5
  clear hz
  go_wp2_with fail
  refine HA.out.mono ?_
  rintro e w1 ⟨rfl, hb1⟩
  have HT1 := Lib.hid (HT.out.on hb1)
  go_wp2_with fail
  refine (HM.out _ HT1.out).mono ?_
  rintro e w2 ⟨hb2, A, c, rfl, hP⟩
  have HP := Lib.hid hP
  clear hP
  have hbw2 := hb1.trans (hb2.mono hb1.size)
  have HT2 := Lib.hid (HT.out.on hbw2)
  go_wp2_with fail
  refine (HM2.out _ HT2.out).mono ?_
  rintro e w3 ⟨hb3, B, d, rfl, hQ⟩
  have HQ := Lib.hid hQ
  clear hQ
  have hbw3 := hbw2.trans (hb3.mono hbw2.size)
  have HT3 := Lib.hid (HT.out.on hbw3)
  go_wp2_with fail
  rw [← HZ.out]
  refine (HM3.out _ HT3.out).mono ?_
  rintro e w4 ⟨hb4, C, f, rfl, hR⟩
  have HQ3 := Lib.hid hR
  clear hR HM HM2 HM3
  have hbw4 := hbw3.trans (hb4.mono hbw3.size)
  by_cases h1 : ¬ fcT x = 0
  · have h1' := off_zero h1
    clear HP HQ HQ3
    go_wp2
    all_goals
      go_ret
      exact ⟨rfl, hbw4⟩
  have z1 : fcT x = 0 := by omega
  rw [z1]
  by_cases h2 : ¬ fcT y = 0
  · have h2' := off_zero h2
    clear HP HQ HQ3
    go_wp2
    all_goals
      go_ret
      exact ⟨rfl, hbw4⟩
  have z2 : fcT y = 0 := by omega
  rw [z2]
  by_cases h3 : ¬ fcT z = 0
  · have h3' := off_zero h3
    clear HP HQ HQ3
    go_wp2
    all_goals
      go_ret
      exact ⟨rfl, hbw4⟩
  have z3 : fcT z = 0 := by omega
  rw [z3]
  by_cases h4 : ¬ vdT x = 0
  · have h4' := off_zero h4
    clear HP HQ HQ3
    go_wp2
    all_goals
      go_ret
      exact ⟨rfl, hbw4⟩
  have z4 : vdT x = 0 := by omega
  rw [z4]
  by_cases h5 : ¬ vdT y = 0
  · have h5' := off_zero h5
    clear HP HQ HQ3
    go_wp2
    all_goals
      go_ret
      exact ⟨rfl, hbw4⟩
  have z5 : vdT y = 0 := by omega
  rw [z5]
  by_cases h6 : ¬ vdT z = 0
  · have h6' := off_zero h6
    clear HP HQ HQ3
    go_wp2
    all_goals
      go_ret
      exact ⟨rfl, hbw4⟩
  have z6 : vdT z = 0 := by omega
  rw [z6]
  clear h1 h2 h3 h4 h5 h6
  cases hfx : foT x with
  | true =>
    obtain ⟨p1, p2⟩ := fo_pre z1 hfx
    clear z1 z2 z3 z4 z5 z6 HP HQ HQ3
    go_wp2
    go_ret
    exact ⟨rfl, hbw4⟩
  | false =>
    have HX := Lib.hid (fun h => fo_not z1 hfx h)
    cases hfy : foT y with
    | true =>
      obtain ⟨p1, p2⟩ := fo_pre z2 hfy
      clear z1 z2 z3 z4 z5 z6 HP HQ HQ3
      by_cases h3 : 3 < x.size
      · have h3' : (3 : Int) < (x.size : Int) := by omega
        have h4 := HX.out h3
        go_wp2
        all_goals
          go_ret
          exact ⟨rfl, hbw4⟩
      · have h3' : ¬ (3 : Int) < (x.size : Int) := by omega
        go_wp2
        all_goals
          go_ret
          exact ⟨rfl, hbw4⟩
    | false => exact absurd ⟨by omega, by omega, z1, z2, by unfold zT; rw [← HZ.out]; exact z3, z4, z5, by unfold zT; rw [← HZ.out]; exact z6, hfx, hfy⟩ HB.out

end Go.Proofs.YtfngkclfdkeiaaaGreatDoor
