/- The document's rules: Set.Order. -/
import Derived.Test.YtihhjcjmchlafaaRuAb
import Derived.Test.YtihhjcjmchlafaaRuOi
import Derived.Test.YtihhjcjmchlafaaRuOp
namespace Go.Proofs.Ytihhjcjmchlafaa
open Go.RowKit
variable {w w' : World}

theorem rowP_len {l : List Ru} {hs : Ru → Bool} {p : Int} {n : Nat} : (rowP l hs p n).length ≤ n := by
  unfold rowP
  rw [List.length_map]
  exact Nat.le_trans (List.length_filter_le _ _) (by simp)
theorem ordR_len {l : List Ru} {hs : Ru → Bool} : ∀ {n : Nat}, (ordR l hs n).length ≤ n * l.length
  | 0 => by simp [ordR]
  | n + 1 => by
    have h1 := ordR_len (l := l) (hs := hs) (n := n)
    have h2 := rowP_len (l := l) (hs := hs) (p := 1000 - n) (n := l.length)
    rw [ordR, List.length_append, Nat.succ_mul]
    omega
theorem prAt_get {l : List Ru} {k : Nat} {r : Ru} (h : l[k]? = some r) : prAt l k = r.pr := by
  unfold prAt
  rw [Int.toNat_natCast, h]
  rfl

set_option maxRecDepth 100000 in
set_option maxHeartbeats 4000000 in
theorem xOrder_any (s : RS) (v : Value) (scope : Int) (w : World) (hmax : s.rs.length ≤ 16) (hS : RulesV w.heap.size w v s.rs) :
    Calls Try.prog 18 #[.agg #[.int .i64 s.de, .int .i64 s.cl, .int .i64 s.fu, .int .i64 s.st, v], .int .i64 scope] w
      fun e w' => ∃ V, e = .returned V ∧ OwnI w' w.heap.size V (ordR s.rs (hsB scope) 1001) ∧ Below w.heap.size w w' := by
  obtain ⟨A, cap, rfl⟩ := hS.form
  obtain ⟨i0, hi, hz0, hz1, hz2⟩ := info_three infoInt
  have hb0 : Below w.heap.size w (w.alloc (.cells #[.int .i64 s.de, .int .i64 s.cl, .int .i64 s.fu, .int .i64 s.st, .slice A s.rs.length cap] 35)) := (Below.refl _ _).alloc (Nat.le_refl _) _
  have hx0 : Blk (w.alloc (.cells #[.int .i64 s.de, .int .i64 s.cl, .int .i64 s.fu, .int .i64 s.st, .slice A s.rs.length cap] 35)) w.heap.size 35 #[.int .i64 s.de, .int .i64 s.cl, .int .i64 s.fu, .int .i64 s.st, .slice A s.rs.length cap] := Blk.new _ _ _
  have hs0 : (w.alloc (.cells #[.int .i64 s.de, .int .i64 s.cl, .int .i64 s.fu, .int .i64 s.st, .slice A s.rs.length cap] 35)).heap.size = w.heap.size + 1 := by simp
  have HS := Lib.hid (hS.on hb0)
  have HB0 := Lib.hid hb0
  have HX0 := Lib.hid hx0
  have HMx := Lib.hid hmax
  clear hS hb0 hx0 hmax
  go_enter Try.func18, Try.ntmps18
  go_wp2
  generalize w.alloc (.cells #[.int .i64 s.de, .int .i64 s.cl, .int .i64 s.fu, .int .i64 s.st, .slice A s.rs.length cap] 35) = w0 at *
  go_loopw [6, 5] (fun pv o wr => ∃ (j : Nat) (p : Int), pv = .int .i64 p ∧ j ≤ 1001 ∧ Hid (p = 1000 - (j : Int)) ∧ Hid (OwnI wr w0.heap.size o (ordR s.rs (hsB scope) j)) ∧ Hid (Below w0.heap.size w0 wr)) (fun pv _ _ => (intOf pv + 1).toNat)
  case atStart => exact ⟨0, 1000, rfl, by omega, Lib.hid (by omega), Lib.hid (OwnI.nil _ _), Lib.hid (Below.refl _ _)⟩
  case round =>
    obtain ⟨j, p, rfl, hj, HP, HO, HB⟩ := hrel
    obtain ⟨OA, OC, rfl⟩ := HO.out.form
    by_cases hp : 0 ≤ p
    · have hpm : p ≤ 1000 := by have := HP.out; omega
      have hj' : j < 1001 := by have := HP.out; omega
      have HJ := Lib.hid hj'
      clear hj'
      go_wp2
      go_loopw [7, 5] (fun i o wr2 => ∃ k : Nat, k ≤ s.rs.length ∧ i = .int .i64 k ∧ Hid (OwnI wr2 w0.heap.size o (ordR s.rs (hsB scope) j ++ rowP s.rs (hsB scope) p k)) ∧ Hid (Below w0.heap.size w0 wr2)) (fun i _ _ => s.rs.length - (intOf i).toNat)
      case atStart => exact ⟨0, Nat.zero_le _, rfl, Lib.hid (by have := HO.out; simpa [rowP] using this), HB⟩
      case round =>
        clear HO HB
        obtain ⟨k, hk, rfl, HO, HB⟩ := hrel
        obtain ⟨OA, OC, rfl⟩ := HO.out.form
        have hk16 : s.rs.length ≤ 16 := HMx.out
        have hX := HX0.out.on HB.out
        have x4 := hX.cell 4
        have hlx := hX.lt
        clear hX
        by_cases hlt : k < s.rs.length
        · obtain ⟨b, off, rfl, hb, c0, c1, c2, c3, c4⟩ := (HS.out.on HB.out).at_ hlt
          have HG := Lib.hid (List.getElem?_eq_getElem hlt)
          generalize s.rs[k] = r at HG c0 c1 c2 c3 c4
          have HLt := Lib.hid hlt
          have HPr := Lib.hid (prAt_get HG.out)
          have HHs : Hid (hasAt s.rs (hsB scope) k = (bits BinOp.and IntKind.i64 r.sc scope != 0)) := Lib.hid (by unfold hasAt; rw [HG.out]; rfl)
          by_cases hpr : r.pr = p
          · have hpb : (r.pr == p) = true := by simpa using hpr
            have HPe := Lib.hid hpr
            clear hpr
            cases hq' : (bits BinOp.and IntKind.i64 r.sc scope != 0)
            · have HE : Hid (rowP s.rs (hsB scope) p (k + 1) = rowP s.rs (hsB scope) p k) := Lib.hid (by rw [rowP_succ, HHs.out, hq']; simp)
              go_wp2
              go_roundw
              case rel => exact ⟨k + 1, HLt.out, by go_num, Lib.hid (by rw [HE.out]; exact HO.out), HB⟩
              case measure => have := HLt.out; simp [intOf]; omega
            · have HE : Hid (rowP s.rs (hsB scope) p (k + 1) = rowP s.rs (hsB scope) p k ++ [(k : Int)]) := Lib.hid (by rw [rowP_succ, HHs.out, hq', HPr.out, HPe.out]; simp)
              have HLn : Hid ((ordR s.rs (hsB scope) j ++ rowP s.rs (hsB scope) p k).length ≤ 20000) := Lib.hid (by
                have h1 := ordR_len (l := s.rs) (hs := hsB scope) (n := j)
                have h2 := rowP_len (l := s.rs) (hs := hsB scope) (p := p) (n := k)
                have h3 := HMx.out
                have h4 := HJ.out
                have h5 : j * s.rs.length ≤ 1001 * 16 := Nat.mul_le_mul (by omega) h3
                rw [List.length_append]
                omega)
              go_wp2_with (first
                | (at_builtin
                   refine wpList_append_row _ rfl (.tmp 38) (.tmp 40) 25 rfl w0.heap.size 3 i0 (.int .i64 0) 8 Try.underlying25 hi hz0 hz1 hz2 rfl (.slice OA (ordR s.rs (hsB scope) j ++ rowP s.rs (hsB scope) p k).length OC) (ordR s.rs (hsB scope) j ++ rowP s.rs (hsB scope) p k).length (zI (ordR s.rs (hsB scope) j ++ rowP s.rs (hsB scope) p k)) rfl (World.ownsRow.alloc HO.out _) (wr.heap.size + 1) (.slice (some ⟨wr.heap.size, 0, none⟩) 1 1) [.int .i64 (k : Int)] rfl (by simpa using Row.lit wr #[.int .i64 (k : Int)] 3 (0, 0)) (by simp [Value.oneCell']) (by have := HLn.out; simp only [List.length_cons, List.length_nil, maxLen]; omega) (by have := HLn.out; simp only [List.length_cons, List.length_nil]; omega) (by have := HB.out.size; simp; omega) ?_
                   intro v2 w2 h1 h2)
                | go_in)
              go_roundw
              case rel => exact ⟨k + 1, HLt.out, by go_num, Lib.hid (by
                rw [HE.out]
                unfold OwnI
                simpa [zI, Nat.add_assoc] using h1), Lib.hid ((HB.out.alloc HB.out.size _).grown h2 (by have := HB.out.size; simp; omega) (fun k hk => (World.ownsRow.lt HO.out k hk).1))⟩
              case measure => have := HLt.out; simp [intOf]; omega
          · have hpb : (r.pr == p) = false := by simpa using hpr
            have HE : Hid (rowP s.rs (hsB scope) p (k + 1) = rowP s.rs (hsB scope) p k) := Lib.hid (by rw [rowP_succ, HPr.out]; simp [hpr])
            clear hpr
            go_wp2
            go_roundw
            case rel => exact ⟨k + 1, HLt.out, by go_num, Lib.hid (by rw [HE.out]; exact HO.out), HB⟩
            case measure => have := HLt.out; simp [intOf]; omega
        · obtain rfl : k = s.rs.length := by omega
          have HO' : Hid (OwnI wr w0.heap.size (.slice OA (ordR s.rs (hsB scope) j ++ rowP s.rs (hsB scope) p s.rs.length).length OC) (ordR s.rs (hsB scope) (j + 1))) := Lib.hid (by
            have := HO.out
            rw [ordR, ← HP.out]
            exact this)
          go_wp2
          go_roundw
          case rel => exact ⟨j + 1, p - 1, by go_num, by have := HJ.out; omega, Lib.hid (by have := HP.out; omega), HO', HB⟩
          case measure => simp [intOf]; omega
    · have hje : j = 1001 := by have := HP.out; omega
      subst hje
      go_wp2
      go_ret
      refine ⟨_, rfl, ?_, HB0.out.trans (HB.out.mono HB0.out.size)⟩
      exact World.ownsRow.mono HO.out (by have := HB0.out.size; omega)

end Go.Proofs.Ytihhjcjmchlafaa
