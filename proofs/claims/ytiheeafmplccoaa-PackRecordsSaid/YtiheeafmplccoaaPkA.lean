/- The writer's number. -/
import Derived.Test.YtiheeafmplccoaaPkW
namespace Go.Proofs.Ytiheeafmplccoaa
open Go.RowKit
variable {w w' : World} {wb : Nat} {s : List UInt8}

theorem wrap_byte (n : Int) (h : -1 ≤ n ∧ n ≤ 1099511627776) (k : Nat) (hk : k < 6) : IntKind.u8.wrap (IntKind.i64.wrap (n + 1) / 2 ^ (40 - 8 * (k : Int)).toNat) = ((((n + 1).toNat / 2 ^ (40 - 8 * k) % 256).toUInt8.toNat : Nat) : Int) := by
  rw [u8 _ (Nat.mod_lt _ (by decide)), IntWalk.i64_in (n + 1) (by omega)]
  obtain ⟨m, hm⟩ : ∃ m : Nat, n + 1 = m := ⟨(n + 1).toNat, by omega⟩
  rw [hm, show (40 - 8 * (k : Int)).toNat = 40 - 8 * k by omega]
  generalize 40 - 8 * k = j
  simp [IntKind.wrap, IntKind.bits, IntKind.signed]
theorem one_slice {base : Nat} {v : Value} {s : List UInt8} (h : Own w base v s) : ∃ A c, v = .slice A s.length c := by
  rcases h.2 with ⟨hv, hn⟩ | ⟨g, c, cur, hv, _, _, hc, _⟩
  · exact ⟨none, 0, by rw [hv, hn]⟩
  · exact ⟨_, c, hv⟩
set_option maxRecDepth 100000 in
set_option maxHeartbeats 2000000 in
theorem wnum_any (n : Int) (hn : -1 ≤ n ∧ n ≤ 1099511627776) (h : Wt wb w s) (hl : s.length ≤ 900000000) :
    Calls Try.prog 69 #[.pointer (some ⟨wb, 0, none⟩), .int .i64 n] w fun e w' => e = .returned (.tuple #[]) ∧ Wt wb w' (s ++ n6 n) ∧ FrW wb w w' := by
  obtain ⟨i0, hi, hz0, hz1, hz2⟩ := info_three info_u8
  have H := Lib.hid h
  obtain ⟨hn1, hn2⟩ := hn
  clear h
  go_enter Try.func69, Try.ntmps69
  go_wp2
  go_loopw [4] (fun i wr => ∃ k : Nat, k ≤ 6 ∧ i = .int .i64 (40 - 8 * (k : Int)) ∧ Hid (Wt wb wr (s ++ (n6 n).take k)) ∧ Hid (FrW wb w wr)) (fun i _ => (intOf i + 8).toNat)
  case atStart => exact ⟨0, by omega, rfl, Lib.hid (by simpa using H.out), Lib.hid (FrW.refl w)⟩
  case round =>
    obtain ⟨k, hk, rfl, HW, HF⟩ := hrel
    by_cases hlt : k < 6
    · obtain ⟨v, hB, hO⟩ := HW.out
      obtain ⟨T, hT⟩ : ∃ T, T = s ++ (n6 n).take k := ⟨_, rfl⟩
      have hTl : T.length ≤ 1000000000 := by rw [hT]; simp; omega
      rw [← hT] at hO
      obtain ⟨A, cp, rfl⟩ := one_slice hO
      have c0 := hB.cell 0
      have hwb := hB.lt
      obtain ⟨c, hc⟩ : ∃ c : UInt8, c = ((n + 1).toNat / 2 ^ (40 - 8 * k) % 256).toUInt8 := ⟨_, rfl⟩
      have hcw := wrap_byte n ⟨hn1, hn2⟩ k hlt
      rw [← hc] at hcw
      have HO := Lib.hid (show Own (wr.alloc (.cells #[.int .u8 (IntKind.u8.wrap (IntKind.i64.wrap (n + 1) / 2 ^ (40 - 8 * (k : Int)).toNat))] 5)).drew wb (.slice A T.length cp) T from World.ownsRow.alloc hO _)
      have HB := Lib.hid (show Blk (wr.alloc (.cells #[.int .u8 (IntKind.u8.wrap (IntKind.i64.wrap (n + 1) / 2 ^ (40 - 8 * (k : Int)).toNat))] 5)).drew wb 75 #[.slice A T.length cp] from hB.alloc _)
      have HN : Hid (Blk (wr.alloc (.cells #[.int .u8 (IntKind.u8.wrap (IntKind.i64.wrap (n + 1) / 2 ^ (40 - 8 * (k : Int)).toNat))] 5)).drew wr.heap.size 5 #[.int .u8 (c.toNat : Int)]) := Lib.hid (by
        have := Blk.new wr 5 #[.int .u8 (IntKind.u8.wrap (IntKind.i64.wrap (n + 1) / 2 ^ (40 - 8 * (k : Int)).toNat))]
        rw [hcw] at this ⊢
        exact this)
      have HFa := Lib.hid (HF.out.alloc (.cells #[.int .u8 (IntKind.u8.wrap (IntKind.i64.wrap (n + 1) / 2 ^ (40 - 8 * (k : Int)).toNat))] 5)).drew
      have HC := Lib.hid hc
      have HT := Lib.hid hT
      clear hO hB hcw hc hT
      go_wp2_with fail
      go_region_law (refine step_append_u8 _ rfl (.tmp 13) (.tmp 19) rfl wb i0 hi hz0 hz1 hz2 _ T (by first | (simp [Act.eval]; done) | fail) HO.out wr.heap.size c (by first | (simp [Act.eval]; done) | fail) HN.out (by omega) (by first | (simp; omega) | fail) ?_; intro v' w4 hown' hgrow; obtain ⟨g9, c9, rfl, _, _⟩ := hown'.form (by simp); have hB4 := HB.out.grown hgrow (fun e => own_ne HO.out HB.out (by decide) e.symm); have c4 := hB4.cell 0; have f4 := hB4.frozen 0; have l4 := hB4.lt)
      all_goals
        obtain ⟨hP, hQ⟩ := Wt.push HB.out HO.out hgrow hown'
        have HP := Lib.hid hP
        have HQ := Lib.hid (HFa.out.trans hQ)
        clear hown' hgrow hB4 c4 f4 hP hQ
        go_wp2
        go_roundw
        case rel =>
          refine ⟨k + 1, by omega, by go_num, ?_, HQ⟩
          rw [n6_take n k hlt, ← List.append_assoc, ← HT.out, ← HC.out]
          exact HP
        case measure => simp [intOf]; omega
    · obtain rfl : k = 6 := by omega
      go_wp2
      go_end0
      exact ⟨rfl, by have := HW.out; rwa [List.take_of_length_le (by rw [n6_len]; omega)] at this, HF.out⟩
end Go.Proofs.Ytiheeafmplccoaa
