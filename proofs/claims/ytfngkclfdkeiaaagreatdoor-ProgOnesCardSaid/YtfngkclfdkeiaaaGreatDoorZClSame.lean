/- The law's same, of any two lists of ranges. -/
import Derived.Test.YtfngkclfdkeiaaaGreatDoorZMClass
import Derived.BigQuiet
import Derived.Deep.QuietTactic
import Derived.Laws.StructEq
namespace Go.Proofs.YtfngkclfdkeiaaaGreatDoor.Cl
open Go.RowKit

def sameB (a b : List Rg) : Bool := decide (a = b)
theorem sameB_refl (a : List Rg) : sameB a a = true := by simp [sameB]
theorem sameB_of {a b : List Rg} (h : a = b) : sameB a b = true := by simp [sameB, h]

def rgEq (a b : Rg) : Bool := a.1 == b.1 && a.2 == b.2
theorem rgEq_iff (a b : Rg) : rgEq a b = true ↔ a = b := by simp [rgEq, Prod.ext_iff]

theorem run_neq_rg (a b c d : Int) (w : World) : (binOp .neq 48 (.agg #[.int .i64 a, .int .i64 b]) (.agg #[.int .i64 c, .int .i64 d])).run Tryz.prog w = .ok (.bool (!rgEq (a, b) (c, d))) w := by
  have u3 := Tryz.underlying3
  have a3 := Tryz.isAgg3
  have z3 := Tryz.sizeOf3
  have hS : Tryz.prog.underlying 48 = some (.struct (Tryz.prog.fieldsOf 48)) := by kernel_rfl
  have hp : Tryz.prog.stoodInHeld 48 = false := by kernel_rfl
  rw [run_neq_struct, show (10000 : Nat) = 9999 + 1 from rfl, run_equalIn_agg w 9999 48 _ _ hS hp]
  simp only [Program.fieldsOf, Tryz.underlying48]
  go_simp
  by_cases h1 : a = c <;> by_cases h2 : b = d <;> simp [rgEq, h1, h2]
theorem run_eql_rg (a b c d : Int) (w : World) : (binOp .eql 48 (.agg #[.int .i64 a, .int .i64 b]) (.agg #[.int .i64 c, .int .i64 d])).run Tryz.prog w = .ok (.bool (rgEq (a, b) (c, d))) w := by
  have u3 := Tryz.underlying3
  have a3 := Tryz.isAgg3
  have z3 := Tryz.sizeOf3
  have hS : Tryz.prog.underlying 48 = some (.struct (Tryz.prog.fieldsOf 48)) := by kernel_rfl
  have hp : Tryz.prog.stoodInHeld 48 = false := by kernel_rfl
  rw [run_eql_struct, show (10000 : Nat) = 9999 + 1 from rfl, run_equalIn_agg w 9999 48 _ _ hS hp]
  simp only [Program.fieldsOf, Tryz.underlying48]
  go_simp
  by_cases h1 : a = c <;> by_cases h2 : b = d <;> simp [rgEq, h1, h2]

theorem take_eq_succ {a b : List Rg} {k : Nat} {r : Rg} (h : a.take k = b.take k) (ha : a[k]? = some r) (hb : b[k]? = some r) : a.take (k + 1) = b.take (k + 1) := by
  obtain ⟨h1, e1⟩ := List.getElem?_eq_some_iff.1 ha
  obtain ⟨h2, e2⟩ := List.getElem?_eq_some_iff.1 hb
  rw [List.take_succ_eq_append_getElem h1, List.take_succ_eq_append_getElem h2, h, e1, e2]

set_option maxHeartbeats 1000000 in
theorem same_any (v v' : Value) (a b : List Rg) (w : World) (hma : a.length ≤ 1000000) (hmb : b.length ≤ 1000000) (hS : SetV w.heap.size w v a) (hO : SetV w.heap.size w v' b) :
    Calls Tryz.prog 24 #[v, v'] w fun e w' => e = .returned (.bool (sameB a b)) ∧ Below w.heap.size w w' := by
  obtain ⟨A, cap, rfl, hcap, hS0⟩ := id hS
  obtain ⟨B, cap', rfl, hcap', hO0⟩ := id hO
  clear hS0 hO0
  have hneq := run_neq_rg
  by_cases hl : a.length = b.length
  · have HL := Lib.hid hl
    have hl1 : ((a.length : Int) == b.length) = true := by simp [hl]
    have hl2 : ((a.length : Int) != b.length) = false := by simp [hl]
    clear hl
    go_enter Tryz.func24, Tryz.ntmps24
    go_wp2
    go_loopw [14] (fun i wr => ∃ k : Nat, k ≤ a.length ∧ i = .int .i64 k ∧ Hid (a.take k = b.take k) ∧ Below w.heap.size w wr) (fun i _ => a.length - (intOf i).toNat)
    case atStart => exact ⟨0, Nat.zero_le _, rfl, Lib.hid rfl, Below.refl _ _⟩
    case round =>
      obtain ⟨k, hk, rfl, HH, hbel⟩ := hrel
      have hsz := hbel.size
      by_cases hlt : k < a.length
      · have hlt' : k < b.length := by have := HL.out; omega
        have hlti : (k : Int) < b.length := by omega
        obtain ⟨b1, off, lo, hi, rfl, hb, hget, c0, c1⟩ := (hS.below hbel).at_ hlt
        obtain ⟨b2, off', lo', hi', rfl, hb', hget', d0, d1⟩ := (hO.below hbel).at_ hlt'
        have HG := Lib.hid hget
        have HG' := Lib.hid hget'
        clear hget hget'
        have e0 := (World.cell?_alloc_lt wr (.cells #[.int .i64 lo, .int .i64 hi] 48) ⟨b2, off' + k * 2, none⟩ (by simp; omega)).trans d0
        have e1 := (World.cell?_alloc_lt wr (.cells #[.int .i64 lo, .int .i64 hi] 48) ⟨b2, off' + k * 2 + 1, none⟩ (by simp; omega)).trans d1
        cases hin : rgEq (lo, hi) (lo', hi')
        · have HI := Lib.hid hin
          go_wp2
          go_quiet (fail)
          go_wp2
          go_ret
          refine ⟨ret_bool ?_, below_drewN (hbel.alloc hsz _) _⟩
          simp only [sameB]
          refine (decide_eq_false fun e => ?_).symm
          subst e
          have := HG.out.symm.trans HG'.out
          have h2 := (rgEq_iff _ _).2 (Option.some.inj this)
          rw [HI.out] at h2
          cases h2
        · have HI := Lib.hid hin
          go_wp2
          go_quiet (fail)
          go_wp2
          go_roundw
          case rel => exact ⟨k + 1, by omega, by go_num, Lib.hid (take_eq_succ HH.out HG.out (by rw [HG'.out, (rgEq_iff _ _).1 HI.out])), below_drewN (hbel.alloc hsz _) _⟩
          case measure => simp [intOf]; omega
      · obtain rfl : k = a.length := by omega
        go_wp2
        go_ret
        refine ⟨ret_bool ?_, hbel⟩
        have := HH.out
        rw [List.take_length, HL.out, List.take_length] at this
        exact (sameB_of this).symm
  · have hl1 : ((a.length : Int) == b.length) = false := by simp; omega
    have hl2 : ((a.length : Int) != b.length) = true := by simp; omega
    have HL := Lib.hid hl
    clear hl
    go_enter Tryz.func24, Tryz.ntmps24
    go_wp2
    go_ret
    exact ⟨ret_bool (by simp only [sameB]; exact (decide_eq_false fun e => HL.out (by rw [e])).symm), Below.refl _ _⟩

end Go.Proofs.YtfngkclfdkeiaaaGreatDoor.Cl
