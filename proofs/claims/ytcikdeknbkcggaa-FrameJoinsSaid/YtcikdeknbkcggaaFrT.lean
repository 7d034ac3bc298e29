/- The law FrameTurned, as a contract: true, and nothing that lay has turned. -/
import Derived.Test.YtcikdeknbkcggaaFrS
namespace Go.Proofs.Ytcikdeknbkcggaa
open Go.RowKit

theorem xor_u8 (c x : Nat) (hc : c < 256) (hx : x < 256) (h0 : x ≠ 0) : ∃ y : UInt8, bits .xor .u8 (c : Int) (x : Int) = ((y.toNat : Nat) : Int) ∧ y.toNat ≠ c := by
  have hlt : c ^^^ x < 256 := Nat.xor_lt_two_pow (n := 8) hc hx
  refine ⟨(c ^^^ x).toUInt8, ?_, ?_⟩
  · rw [u8 _ hlt]
    show IntKind.u8.wrap (((BitVec.ofInt 8 (c : Int)) ^^^ (BitVec.ofInt 8 (x : Int))).toNat : Int) = _
    rw [BitVec.ofInt_natCast, BitVec.ofInt_natCast, BitVec.toNat_xor, BitVec.toNat_ofNat, BitVec.toNat_ofNat, Nat.mod_eq_of_lt (by omega), Nat.mod_eq_of_lt (by omega)]
    simp [IntKind.wrap, IntKind.bits, IntKind.signed]
    omega
  · rw [u8 _ hlt]
    intro e
    have : c ^^^ (c ^^^ x) = c ^^^ c := by rw [e]
    rw [← Nat.xor_assoc, Nat.xor_self, Nat.zero_xor] at this
    exact h0 this
set_option maxHeartbeats 1000000 in
theorem turned_any (v : Value) (s : List UInt8) (hl : 1 ≤ s.length) (hl2 : s.length ≤ 2000) (a x : Nat) (ha : (a : Int) ≤ 9223372036854775807) (h1 : 1 ≤ x) (h2 : x ≤ 255) (w : World) (h : Bytes w.heap.size w v s) :
    Calls Try.prog 7 #[v, .int .i64 (a : Int), .int .i64 (x : Int)] w fun e w' => e = .returned (.bool true) ∧ Below w.heap.size w w' := by
  have H := Lib.hid h
  obtain ⟨A, c, rfl⟩ := one_bytes_slice h
  clear h
  have i1 : ¬ (s.length : Int) < 1 := by omega
  have i2 : ¬ (2000 : Int) < (s.length : Int) := by omega
  have i3 : ¬ (a : Int) < 0 := by omega
  have i4 : ¬ (x : Int) < 1 := by omega
  have i5 : ¬ (255 : Int) < (x : Int) := by omega
  go_enter Try.func7, Try.ntmps7
  go_wp2_with fail
  refine (anchor10_any w).mono ?_
  rintro e w1 ⟨rfl, hB1⟩
  have C1 := Lib.hid hB1
  clear hB1
  go_wp2_with fail
  refine (make_ok w.heap.size _ s (by omega) w1 C1.out.size (H.out.below C1.out)).mono ?_
  rintro e w2 ⟨v2, rfl, o2, hB2⟩
  have C2 := Lib.hid (C1.out.trans (hB2.mono C1.out.size))
  have C1' := Lib.hid C1.out.size
  clear hB2 C1
  rcases own_at o2 with ⟨_, h0⟩ | ⟨g, c2, rfl, hc2, hg, _, hcell, hfz⟩
  · rw [frm_len] at h0; omega
  rw [frm_len] at hc2 hcell ⊢
  have hsz := C2.out.size
  obtain ⟨q, hq, hql⟩ : ∃ q : Nat, (a : Int) % (10 + (s.length : Int) - 6) = (q : Int) ∧ q < 4 + s.length := ⟨a % (4 + s.length), by rw [show 10 + (s.length : Int) - 6 = ((4 + s.length : Nat) : Int) by omega]; omega, Nat.mod_lt _ (by omega)⟩
  have hlf := frm_len s
  have hgw : w.heap.size ≤ g := Nat.le_trans C1'.out hg
  have e1 : w2.cell? ⟨g, 6 + q, none⟩ = some (.int .u8 ((at_ (frm s) (6 + q) : Nat) : Int)) := by rw [hcell (6 + q) (by omega)]; exact byteCells_get (by omega)
  have e2 := hfz (6 + q)
  have hc8 := at_lt (frm s) (6 + q)
  obtain ⟨y, hy, hne⟩ := xor_u8 (at_ (frm s) (6 + q)) x hc8 (by omega) (by omega)
  have hwb : Bytes (g + 1) (w2.setCell ⟨g, 6 + q, none⟩ (.int .u8 ((y.toNat : Nat) : Int))) (.slice (some ⟨g, 0, none⟩) (10 + s.length) c2) ((frm s).set (6 + q) y) := by
    refine ⟨_, c2, by rw [List.length_set, hlf], by rw [List.length_set, hlf]; exact hc2, fun _ => ⟨g, 0, rfl, by omega, fun j hj => ?_⟩⟩
    rw [List.length_set, hlf] at hj
    rw [Nat.zero_add]
    by_cases hjq : j = 6 + q
    · subst hjq
      rw [World.cell?_setCell_same _ _ _ e1]
      simp [at_, List.getD_eq_getElem?_getD, show 6 + q < (frm s).length by omega]
    · rw [World.cell?_setCell_other _ _ _ _ (fun e => hjq (by injection e with _ e2; omega)), hcell j (by omega), byteCells_get (by omega)]
      simp [at_, List.getD_eq_getElem?_getD, show ¬ 6 + q = j by omega]
  have HW := Lib.hid hwb
  have HR := Lib.hid (rd_turn s (by omega) (6 + q) y (by omega) (by omega) hne)
  clear hwb hne hcell hfz o2
  have bad : ∀ wr e w1, RdBad wr 15 e w1 → e = .returned (.tuple #[.slice none 0 0, .int .i64 0, .int .i64 15]) ∧ Below wr.heap.size wr w1 := fun _ _ _ h => bad_below h
  have BAD := Lib.hid bad
  clear bad
  go_wp2_with fail
  have hrb := read_bad (g + 1) _ _ (by rw [List.length_set, hlf]; omega) _ HW.out (by rw [HR.out]; decide)
  rw [HR.out] at hrb
  refine hrb.mono ?_
  clear hrb
  intro e w3 h3
  obtain ⟨rfl, hB3⟩ := BAD.out _ _ _ h3
  have C3 : Hid (Below w.heap.size w w3) := Lib.hid ((C2.out.setCell (p := ⟨g, 6 + q, none⟩) hgw _).trans (hB3.mono (by simp; exact C2.out.size)))
  clear h3 hB3
  go_wp2
  go_ret
  exact ⟨rfl, C3.out⟩
set_option maxHeartbeats 1000000 in
theorem turned_out (v : Value) (s : List UInt8) (hs : s.length ≤ 9223372036854775807) (a x : Int) (ha : -9223372036854775808 ≤ a ∧ a ≤ 9223372036854775807) (hx : -9223372036854775808 ≤ x ∧ x ≤ 9223372036854775807) (w : World) (h : Bytes w.heap.size w v s)
    (ho : s.length < 1 ∨ 2000 < s.length ∨ a < 0 ∨ x < 1 ∨ 255 < x) :
    Calls Try.prog 7 #[v, .int .i64 a, .int .i64 x] w fun e w' => e = .returned (.bool true) ∧ Below w.heap.size w w' := by
  obtain ⟨A, c, rfl⟩ := one_bytes_slice h
  clear h
  obtain ⟨n, hn⟩ : ∃ n, n = s.length := ⟨_, rfl⟩
  rw [← hn] at hs ho ⊢
  clear hn
  by_cases i1 : (n : Int) < 1
  · go_enter Try.func7, Try.ntmps7
    go_wp2_with fail
    refine (anchor10_any w).mono ?_
    rintro e w1 ⟨rfl, hB1⟩
    go_wp2
    go_ret
    exact ⟨rfl, hB1⟩
  · by_cases i2 : (2000 : Int) < (n : Int)
    · go_enter Try.func7, Try.ntmps7
      go_wp2_with fail
      refine (anchor10_any w).mono ?_
      rintro e w1 ⟨rfl, hB1⟩
      go_wp2
      go_ret
      exact ⟨rfl, hB1⟩
    · by_cases i3 : a < 0
      · go_enter Try.func7, Try.ntmps7
        go_wp2_with fail
        refine (anchor10_any w).mono ?_
        rintro e w1 ⟨rfl, hB1⟩
        go_wp2
        go_ret
        exact ⟨rfl, hB1⟩
      · by_cases i4 : x < 1
        · go_enter Try.func7, Try.ntmps7
          go_wp2_with fail
          refine (anchor10_any w).mono ?_
          rintro e w1 ⟨rfl, hB1⟩
          go_wp2
          go_ret
          exact ⟨rfl, hB1⟩
        · have i5 : 255 < x := by omega
          go_enter Try.func7, Try.ntmps7
          go_wp2_with fail
          refine (anchor10_any w).mono ?_
          rintro e w1 ⟨rfl, hB1⟩
          go_wp2
          go_ret
          exact ⟨rfl, hB1⟩
theorem frameTurned_law (v : Value) (s : List UInt8) (a x : Int) (w : World) (hs : s.length ≤ 9223372036854775807) (h : Bytes w.heap.size w v s) (ha : -9223372036854775808 ≤ a ∧ a ≤ 9223372036854775807) (hx : -9223372036854775808 ≤ x ∧ x ≤ 9223372036854775807) :
    Calls Try.prog 7 #[v, .int .i64 a, .int .i64 x] w fun e w' => e = .returned (.bool true) ∧ Below w.heap.size w w' := by
  by_cases ho : s.length < 1 ∨ 2000 < s.length ∨ a < 0 ∨ x < 1 ∨ 255 < x
  · exact turned_out v s hs a x ha hx w h ho
  · have h3 : ((a.toNat : Nat) : Int) = a := by omega
    have h4 : ((x.toNat : Nat) : Int) = x := by omega
    have := turned_any v s (by omega) (by omega) a.toNat x.toNat (by omega) (by omega) (by omega) w h
    rwa [h3, h4] at this
end Go.Proofs.Ytcikdeknbkcggaa
