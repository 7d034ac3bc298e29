/- RuleOrders. -/
import Derived.Test.YtihhjcjmchlafaaRuL
import Derived.Test.YtihhjcjmchlafaaRuAo
import Derived.Test.YtihhjcjmchlafaaRuOr
namespace Go.Proofs.Ytihhjcjmchlafaa
open Go.RowKit
variable {w w' : World}

theorem Row.onI {v : Value} {xs : List Value} (h : Row w.heap.size w v xs) (hb : Below w.heap.size w w') : Row w'.heap.size w' v xs := (h.below hb).more hb.size
theorem Row.formI {n₀ : Nat} {v : Value} {l : List Int} (h : Row n₀ w v (zI l)) : ∃ A c, v = .slice A l.length c := by
  obtain ⟨A, c, h, _⟩ := h
  exact ⟨A, c, by simpa [zI] using h⟩
theorem Row.atI {n₀ n c k : Nat} {A : Option Addr} {l : List Int} {z : Int} (h : Row n₀ w (.slice A n c) (zI l)) (hk : l[k]? = some z) : ∃ b off, A = some ⟨b, off, none⟩ ∧ b < n₀ ∧ w.cell? ⟨b, off + k, none⟩ = some (.int .i64 z) := by
  obtain ⟨A', c', hv, _, h⟩ := h
  have : A = A' := by injection hv
  subst this
  obtain ⟨b, off, hA, hb, ht⟩ := h (by
    intro e
    have := (List.getElem?_eq_some_iff.1 hk).1
    have h2 : (zI l).length = 0 := by rw [e]; rfl
    simp [zI] at h2
    subst h2
    simp at this)
  exact ⟨b, off, hA, hb, ht k _ (zI_get hk)⟩

set_option maxRecDepth 100000 in
set_option maxHeartbeats 4000000 in
theorem orders_law (s : RS) (v : Value) (scope : Int) (w : World) (hS : RulesV w.heap.size w v s.rs) :
    Calls Try.prog 5 #[.agg #[.int .i64 s.de, .int .i64 s.cl, .int .i64 s.fu, .int .i64 s.st, v], .int .i64 scope] w fun e w' => e = .returned (.bool true) ∧ Below w.heap.size w w' := by
  obtain ⟨A, cap, rfl⟩ := hS.form
  have hb0 : Below w.heap.size w (w.alloc (.cells #[.int .i64 s.de, .int .i64 s.cl, .int .i64 s.fu, .int .i64 s.st, .slice A s.rs.length cap] 24)) := (Below.refl _ _).alloc (Nat.le_refl _) _
  have hx0 : Blk (w.alloc (.cells #[.int .i64 s.de, .int .i64 s.cl, .int .i64 s.fu, .int .i64 s.st, .slice A s.rs.length cap] 24)) w.heap.size 24 #[.int .i64 s.de, .int .i64 s.cl, .int .i64 s.fu, .int .i64 s.st, .slice A s.rs.length cap] := Blk.new _ _ _
  have HS0 := Lib.hid (hS.on hb0)
  have HB0 := Lib.hid hb0
  have HX0 := Lib.hid hx0
  clear hS hb0 hx0
  go_enter Try.func5, Try.ntmps5
  go_wp2_with fail
  generalize w.alloc (.cells #[.int .i64 s.de, .int .i64 s.cl, .int .i64 s.fu, .int .i64 s.st, .slice A s.rs.length cap] 24) = w0 at *
  refine (anchor7_any w0).mono ?_
  rintro e w1 ⟨rfl, hb1⟩
  have HB1 := Lib.hid (HB0.out.trans (hb1.mono HB0.out.size))
  have HS1 := Lib.hid (HS0.out.on hb1)
  have HX1 := Lib.hid (HX0.out.on hb1)
  clear hb1 HS0 HB0 HX0
  obtain ⟨a0, a1, a2, a3, a4⟩ := HX1.out.c5
  have hlx := HX1.out.lt
  go_wp2_with fail
  refine (rusmall_any _ _ _ _ _ _ _ _ A none none s.rs.length 0 0 cap 0 0 w1).mono ?_
  rintro e w2 ⟨rfl, hb2⟩
  have HB2 := Lib.hid (HB1.out.trans (hb2.mono HB1.out.size))
  have HS2 := Lib.hid (HS1.out.on hb2)
  have HX2 := Lib.hid (HX1.out.on hb2)
  clear hb2 HS1 HB1 HX1 a0 a1 a2 a3 a4 hlx
  by_cases hln : s.rs.length ≤ 40
  · rw [decide_eq_true ⟨hln, by omega, by omega⟩]
    have HLn := Lib.hid hln
    clear hln
    obtain ⟨a0, a1, a2, a3, a4⟩ := HX2.out.c5
    have hlx := HX2.out.lt
    go_wp2_with fail
    refine (order_any s _ scope w2 (by have := HLn.out; omega) HS2.out).mono ?_
    rintro e w3 ⟨V, rfl, hr3, hb3⟩
    have HB3 := Lib.hid (HB2.out.trans (hb3.mono HB2.out.size))
    have HS3 := Lib.hid (HS2.out.on hb3)
    have HX3 := Lib.hid (HX2.out.on hb3)
    have HR3 := Lib.hid hr3
    clear hb3 HS2 HB2 HX2 a0 a1 a2 a3 a4 hlx hr3
    obtain ⟨L, hL⟩ : ∃ L, L = (if s.Ok then ordR s.rs (hsB scope) 1001 else []) := ⟨_, rfl⟩
    rw [← hL] at HR3
    have HL := Lib.hid hL
    clear hL
    obtain ⟨VA, VC, rfl⟩ := HR3.out.formI
    obtain ⟨a0, a1, a2, a3, a4⟩ := HX3.out.c5
    have hlx := HX3.out.lt
    go_wp2_with fail
    refine (madeSet_any s _ w3 (by have := HLn.out; omega) HS3.out).mono ?_
    rintro e w4 ⟨V4, rfl, ho4, hb4⟩
    obtain ⟨V4A, V4C, rfl⟩ := ho4.form
    have HB4 := Lib.hid (HB3.out.trans (hb4.mono HB3.out.size))
    have HS4 := Lib.hid (HS3.out.on hb4)
    have HX4 := Lib.hid (HX3.out.on hb4)
    have HR4 := Lib.hid (HR3.out.onI hb4)
    have HO4 := Lib.hid ho4.set
    clear hb4 HS3 HB3 HX3 HR3 a0 a1 a2 a3 a4 hlx ho4
    go_wp2_with fail
    refine (xRight_any s _ w4 (by have := HLn.out; omega) HO4.out).mono ?_
    rintro e w5 ⟨rfl, hb5⟩
    have HB5 := Lib.hid (HB4.out.trans (hb5.mono HB4.out.size))
    have HS5 := Lib.hid (HS4.out.on hb5)
    have HX5 := Lib.hid (HX4.out.on hb5)
    have HR5 := Lib.hid (HR4.out.onI hb5)
    clear hb5 HS4 HB4 HX4 HR4 HO4
    by_cases h1 : s.Ok
    · rw [decide_eq_true h1]
      have H1 := Lib.hid h1
      have HLo : Hid (L = ordR s.rs (hsB scope) 1001) := Lib.hid (by rw [HL.out, if_pos h1])
      clear h1
      obtain ⟨a0, a1, a2, a3, a4⟩ := HX5.out.c5
      have hlx := HX5.out.lt
      go_wp2_with fail
      refine (madeSet_any s _ w5 (by have := HLn.out; omega) HS5.out).mono ?_
      rintro e w6 ⟨V6, rfl, ho6, hb6⟩
      obtain ⟨V6A, V6C, rfl⟩ := ho6.form
      have HB6 := Lib.hid (HB5.out.trans (hb6.mono HB5.out.size))
      have HR6 := Lib.hid (HR5.out.onI hb6)
      have HO6 := Lib.hid ho6.set
      clear hb6 HS5 HB5 HX5 HR5 a0 a1 a2 a3 a4 hlx ho6
      go_wp2_with fail
      refine (xOrder_any s _ scope w6 H1.out.2.1 HO6.out).mono ?_
      rintro e w7 ⟨V7, rfl, ho7, hb7⟩
      have HB7 := Lib.hid (HB6.out.trans (hb7.mono HB6.out.size))
      have HR7 := Lib.hid (HR6.out.onI hb7)
      rw [← HLo.out] at ho7
      obtain ⟨V7A, V7C, rfl⟩ := ho7.form
      have HW7 := Lib.hid ho7.row
      clear hb7 HB6 HR6 HO6 ho7
      have hne : ((L.length : Int) != (L.length : Int)) = false := by simp
      have hlm : L.length ≤ 20000 := by
        have h1 := ordR_len (l := s.rs) (hs := hsB scope) (n := 1001)
        have h2 := H1.out.2.1
        rw [HLo.out]
        omega
      go_wp2
      go_loopw [36] (fun i wr => ∃ k : Nat, k ≤ L.length ∧ i = .int .i64 k ∧ wr = w7) (fun i _ => L.length - (intOf i).toNat)
      case atStart => exact ⟨0, Nat.zero_le _, rfl, by first | trivial | rfl⟩
      case round =>
        obtain ⟨k, hk, rfl, hwr⟩ := hrel
        have hwr' := Lib.hid hwr
        subst hwr
        by_cases hlt : k < L.length
        · have HG := Lib.hid (List.getElem?_eq_getElem hlt)
          generalize L[k] = z at HG
          obtain ⟨b, off, hA, hb, c0⟩ := HR7.out.atI HG.out
          obtain ⟨b', off', hA', hb', c0'⟩ := HW7.out.atI HG.out
          subst hA hA'
          have HLt := Lib.hid hlt
          have hzz : (z != z) = false := by simp
          go_wp2
          go_roundw
          case rel => exact ⟨k + 1, HLt.out, by go_num, by first | trivial | rfl⟩
          case measure => have := HLt.out; simp [intOf]; omega
        · obtain rfl : k = L.length := by omega
          go_wp2
          go_ret
          exact ⟨rfl, HB7.out⟩
    · rw [decide_eq_false h1]
      have HLo : Hid (L = []) := Lib.hid (by rw [HL.out, if_neg h1])
      have hl0 : ((L.length : Int) == 0) = true := by rw [HLo.out]; rfl
      clear h1
      go_wp2
      go_ret
      exact ⟨rfl, HB5.out⟩
  · rw [decide_eq_false fun h => hln h.1]
    clear hln
    go_wp2
    go_ret
    exact ⟨rfl, HB2.out⟩

theorem ruleOrders_law (s : RS) (v : Value) (scope : Int) (w : World) (hS : RulesV w.heap.size w v s.rs) :
    Calls Try.prog 5 #[.agg #[.int .i64 s.de, .int .i64 s.cl, .int .i64 s.fu, .int .i64 s.st, v], .int .i64 scope] w fun e w' => e = .returned (.bool true) ∧ Below w.heap.size w w' := orders_law s v scope w hS

end Go.Proofs.Ytihhjcjmchlafaa
