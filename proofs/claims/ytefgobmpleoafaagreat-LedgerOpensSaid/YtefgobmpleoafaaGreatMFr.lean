/- Joined: FrA, FrB, FrC, FrD, FrE, FrF. -/
import Derived.Test.YtefgobmpleoafaaGreatFrK
import Derived.Deep.QuietTactic
import Derived.BigQuiet
/- Sums and numbers of bytes (package frame, and the document's answers), as contracts. -/
namespace Go.Proofs.YtefgobmpleoafaaGreat
open Go.RowKit

theorem sums_all (s : List UInt8) : sums (s.take s.length) = sums s := by rw [List.take_length]
theorem num_all (s : List UInt8) : num (s.take s.length) = num s := by rw [List.take_length]
set_option maxHeartbeats 1000000 in
theorem sum_any (n₀ : Nat) (v : Value) (s : List UInt8) (hmax : s.length ≤ 140737488351232) (w : World) (h : Bytes n₀ w v s) :
    Calls Tryz.prog 52 #[v] w fun e w' => e = .returned (.int .i64 ((adl s : Nat) : Int)) ∧ w = w' := by
  obtain ⟨A, cap, rfl, hc, ht⟩ := h
  by_cases hs : s = []
  · subst hs
    clear ht hc hmax
    go_enter Tryz.func52, Tryz.ntmps52
    go_wp2
    go_loop [3, 4, 9] (fun a b i => a = .int .i64 1 ∧ b = .int .i64 0 ∧ i = .int .i64 0) (fun _ _ _ => 0)
    case atStart => exact ⟨rfl, rfl, rfl⟩
    case round =>
      obtain ⟨rfl, rfl, rfl⟩ := hrel
      go_wp2
      go_ret
      exact ⟨rfl, rfl⟩
  · obtain ⟨b, off, rfl, _, ht⟩ := ht hs
    obtain ⟨n, hn⟩ : ∃ n, n = s.length := ⟨_, rfl⟩
    have e1 := sums_all s
    rw [← hn] at hc hmax ht e1 ⊢
    have HN := Lib.hid hn
    have HT := Lib.hid ht
    have H1 := Lib.hid e1
    clear ht hn hs e1
    go_enter Tryz.func52, Tryz.ntmps52
    go_wp2
    go_loop [3, 4, 9] (fun a b i => ∃ k : Nat, k ≤ n ∧ i = .int .i64 k ∧ a = .int .i64 (((sums (s.take k)).1 : Nat) : Int) ∧ b = .int .i64 (((sums (s.take k)).2 : Nat) : Int)) (fun _ _ i => n - (intOf i).toNat)
    case atStart => exact ⟨0, Nat.zero_le _, rfl, rfl, rfl⟩
    case round =>
      obtain ⟨k, hk, rfl, rfl, rfl⟩ := hrel
      obtain ⟨q1, q2⟩ := sums_lt (s.take k)
      by_cases hlt : k < n
      · have g := HT.out k hlt
        have c9 := at_lt s k
        have st := Lib.hid (sums_step s k (by rw [← HN.out]; exact hlt))
        go_wp2
        go_round
        case rel => exact ⟨k + 1, by omega, by go_num, by obtain ⟨z1, z2⟩ := st.out; rw [z1]; go_num, by obtain ⟨z1, z2⟩ := st.out; rw [z2, z1]; go_num⟩
        case measure => simp [intOf]; omega
      · obtain rfl : k = n := by omega
        go_wp2
        go_ret
        exact ⟨ret_int (by rw [H1.out]; unfold adl; omega), rfl⟩
set_option maxHeartbeats 1000000 in
theorem refSum_any (n₀ : Nat) (v : Value) (s : List UInt8) (hmax : s.length ≤ 140737488351232) (w : World) (h : Bytes n₀ w v s) :
    Calls Tryz.prog 31 #[v] w fun e w' => e = .returned (.int .i64 ((adl s : Nat) : Int)) ∧ w = w' := by
  obtain ⟨A, cap, rfl, hc, ht⟩ := h
  by_cases hs : s = []
  · subst hs
    clear ht hc hmax
    go_enter Tryz.func31, Tryz.ntmps31
    go_wp2
    go_loop [3, 4, 5] (fun a b i => a = .int .i64 1 ∧ b = .int .i64 0 ∧ i = .int .i64 0) (fun _ _ _ => 0)
    case atStart => exact ⟨rfl, rfl, rfl⟩
    case round =>
      obtain ⟨rfl, rfl, rfl⟩ := hrel
      go_wp2
      go_ret
      exact ⟨rfl, rfl⟩
  · obtain ⟨b, off, rfl, _, ht⟩ := ht hs
    obtain ⟨n, hn⟩ : ∃ n, n = s.length := ⟨_, rfl⟩
    have e1 := sums_all s
    rw [← hn] at hc hmax ht e1 ⊢
    have HN := Lib.hid hn
    have HT := Lib.hid ht
    have H1 := Lib.hid e1
    clear ht hn hs e1
    go_enter Tryz.func31, Tryz.ntmps31
    go_wp2
    go_loop [3, 4, 5] (fun a b i => ∃ k : Nat, k ≤ n ∧ i = .int .i64 k ∧ a = .int .i64 (((sums (s.take k)).1 : Nat) : Int) ∧ b = .int .i64 (((sums (s.take k)).2 : Nat) : Int)) (fun _ _ i => n - (intOf i).toNat)
    case atStart => exact ⟨0, Nat.zero_le _, rfl, rfl, rfl⟩
    case round =>
      obtain ⟨k, hk, rfl, rfl, rfl⟩ := hrel
      obtain ⟨q1, q2⟩ := sums_lt (s.take k)
      by_cases hlt : k < n
      · have g := HT.out k hlt
        have c9 := at_lt s k
        have st := Lib.hid (sums_step s k (by rw [← HN.out]; exact hlt))
        go_wp2
        go_round
        case rel => exact ⟨k + 1, by omega, by go_num, by obtain ⟨z1, z2⟩ := st.out; rw [z1]; go_num, by obtain ⟨z1, z2⟩ := st.out; rw [z2, z1]; go_num⟩
        case measure => simp [intOf]; omega
      · obtain rfl : k = n := by omega
        go_wp2
        go_ret
        exact ⟨ret_int (by rw [H1.out]; unfold adl; omega), rfl⟩
theorem or_add (n c : Nat) (hn : n < 16777216) (hc : c < 256) : bits .or .i64 ((n : Int) * 256) (c : Int) = ((n * 256 + c : Nat) : Int) := by
  have e1 : ((n : Int) * 256) = ((n * 256 : Nat) : Int) := by omega
  rw [e1]
  show IntKind.i64.wrap (((BitVec.ofInt 64 ((n * 256 : Nat) : Int)) ||| (BitVec.ofInt 64 (c : Int))).toNat : Int) = _
  rw [BitVec.ofInt_natCast, BitVec.ofInt_natCast, BitVec.toNat_or, BitVec.toNat_ofNat, BitVec.toNat_ofNat, Nat.mod_eq_of_lt (by omega), Nat.mod_eq_of_lt (by omega)]
  have : n * 256 ||| c = n * 256 + c := by
    have := Nat.shiftLeft_add_eq_or_of_lt (i := 8) (b := c) (by omega) n
    rw [Nat.shiftLeft_eq, show (2 : Nat) ^ 8 = 256 from rfl] at this
    exact this.symm
  rw [this]
  exact IntWalk.i64_in _ (by omega)
set_option maxHeartbeats 1000000 in
theorem number_any (n₀ : Nat) (v : Value) (s : List UInt8) (h4 : s.length = 4) (w : World) (h : Bytes n₀ w v s) :
    Calls Tryz.prog 51 #[v] w fun e w' => e = .returned (.int .i64 ((num s : Nat) : Int)) ∧ w = w' := by
  obtain ⟨A, cap, rfl, hc, ht⟩ := h
  obtain ⟨b, off, rfl, _, ht⟩ := ht (by rintro rfl; simp at h4)
  have e1 := num_all s
  rw [h4] at hc ht e1 ⊢
  have HN := Lib.hid h4
  have HT := Lib.hid ht
  have H1 := Lib.hid e1
  clear ht h4 e1
  go_enter Tryz.func51, Tryz.ntmps51
  go_wp2
  go_loop [3, 8] (fun a i => ∃ k : Nat, k ≤ 4 ∧ i = .int .i64 k ∧ a = .int .i64 (((num (s.take k)) : Nat) : Int) ∧ num (s.take k) < 256 ^ k) (fun _ i => 4 - (intOf i).toNat)
  case atStart => exact ⟨0, Nat.zero_le _, rfl, rfl, by simp [num]⟩
  case round =>
    obtain ⟨k, hk, rfl, rfl, hb⟩ := hrel
    by_cases hlt : k < 4
    · have g := HT.out k hlt
      have c9 := at_lt s k
      have hb2 : num (s.take k) < 16777216 := Nat.lt_of_lt_of_le hb (by have : k ≤ 3 := by omega
                                                                        exact Nat.le_trans (Nat.pow_le_pow_right (by decide) this) (by decide))
      have st := Lib.hid (num_step s k (by rw [HN.out]; exact hlt))
      have ho := Lib.hid (or_add (num (s.take k)) (at_ s k) hb2 c9)
      have hb3 := Lib.hid hb
      clear hb
      go_wp2
      go_round
      case rel => exact ⟨k + 1, by omega, by go_num, by rw [st.out, ho.out], by rw [st.out, Nat.pow_succ]; have := hb3.out; omega⟩
      case measure => simp [intOf]; omega
    · obtain rfl : k = 4 := by omega
      have hb3 := Lib.hid hb
      clear hb
      go_wp2
      go_ret
      exact ⟨ret_int (by rw [H1.out]), rfl⟩
set_option maxHeartbeats 1000000 in
theorem four_any (n₀ : Nat) (v : Value) (s : List UInt8) (h4 : s.length = 4) (w : World) (h : Bytes n₀ w v s) :
    Calls Tryz.prog 30 #[v] w fun e w' => e = .returned (.int .i64 ((num s : Nat) : Int)) ∧ ∃ m, w' = w.drewN m := by
  obtain ⟨A, cap, rfl, hc, ht⟩ := h
  obtain ⟨b, off, rfl, _, ht⟩ := ht (by rintro rfl; simp at h4)
  have e1 := num4 s h4
  rw [h4] at hc ht ⊢
  have g0 := ht 0 (by omega)
  rw [Nat.add_zero] at g0
  have g1 := ht 1 (by omega)
  have g2 := ht 2 (by omega)
  have g3 := ht 3 (by omega)
  have l0 := at_lt s 0
  have l1 := at_lt s 1
  have l2 := at_lt s 2
  have l3 := at_lt s 3
  have H1 := Lib.hid e1
  clear ht h4 e1
  go_enter Tryz.func30, Tryz.ntmps30
  go_wp2
  go_quiet (fail)
  go_wp2
  go_ret
  exact ⟨ret_int (by rw [H1.out]; omega), _, rfl⟩
end Go.Proofs.YtefgobmpleoafaaGreat

/- A number in four bytes, a copy of bytes: as contracts. -/
namespace Go.Proofs.YtefgobmpleoafaaGreat
open Go.RowKit

theorem be4_cells (x : Nat) (hx : x < 4294967296) : [Value.int .u8 ((x : Int) / 16777216), .int .u8 ((x : Int) / 65536 % 256), .int .u8 ((x : Int) / 256 % 256), .int .u8 ((x : Int) % 256)] = Lib.byteCells (be4 x) := by
  simp only [Lib.byteCells, be4, List.map_cons, List.map_nil]
  rw [u8 _ (by omega), u8 _ (by omega), u8 _ (by omega), u8 _ (by omega)]
  simp
theorem row_be4 (w : World) (x : Nat) (hx : x < 4294967296) : Row (w.heap.size + 1) (w.alloc (.cells #[.int .u8 ((x : Int) / 16777216), .int .u8 ((x : Int) / 65536 % 256), .int .u8 ((x : Int) / 256 % 256), .int .u8 ((x : Int) % 256)] 5)) (.slice (some ⟨w.heap.size, 0, none⟩) 4 4) (Lib.byteCells (be4 x)) := by
  have h := Row.lit w #[.int .u8 ((x : Int) / 16777216), .int .u8 ((x : Int) / 65536 % 256), .int .u8 ((x : Int) / 256 % 256), .int .u8 ((x : Int) % 256)] 5 (0, 0)
  rw [← be4_cells x hx]
  exact h
/-- A row of bytes of the call's own. -/
def Own (w : World) (base : Nat) (v : Value) (s : List UInt8) : Prop := w.ownsRow base 5 1 v s.length (Lib.byteCells s)
theorem Own.bytes {w : World} {base : Nat} {v : Value} {s : List UInt8} (h : Own w base v s) : Bytes w.heap.size w v s := Bytes.of_row (Row.of_own h)
theorem Own.below {w w' : World} {base : Nat} {v : Value} {s : List UInt8} (h : Own w base v s) (hB : Below w.heap.size w w') : Own w' base v s := own_below h hB
theorem own_nil (w : World) (base : Nat) : Own w base (.slice none 0 0) [] := ⟨rfl, .inl ⟨rfl, rfl⟩⟩
set_option maxHeartbeats 1000000 in
theorem appNum_any (v : Value) (s : List UInt8) (base : Nat) (x : Nat) (hx : x < 4294967296) (w : World) (hown : Own w base v s) (hl : s.length ≤ 200000) (hbase : base ≤ w.heap.size) :
    Calls Tryz.prog 67 #[v, .int .i64 (x : Int)] w fun e w' => ∃ v', e = .returned v' ∧ Own w' base v' (s ++ be4 x) ∧ Below base w w' := by
  obtain ⟨i0, hi, hz0, hz1, hz2⟩ := info_three info_u8
  have H := Lib.hid hown
  clear hown
  go_enter Tryz.func67, Tryz.ntmps67
  go_wp2_with (at_builtin
               refine wpList_append_row _ rfl (.tmp 5) (.tmp 17) 22 rfl base 5 i0 (.int .u8 0) 1 Tryz.underlying22 hi hz0 hz1 hz2 rfl _ s.length (Lib.byteCells s) rfl (H.out.alloc _) (w.heap.size + 1) _ (Lib.byteCells (be4 x)) rfl (row_be4 w x hx) (one_bytes _) (by rw [Lib.byteCells_length, be4_len]; unfold maxLen; omega) (by rw [Lib.byteCells_length, be4_len]; omega) (by simp; omega) ?_
               intro v' w' o3 g3
               have C3 : Below base w w' := below_append ((Below.refl base w).alloc hbase _) (H.out.alloc _) (Nat.le_refl _) g3 (by simp; omega)
               rw [Lib.byteCells_length, ← Lib.byteCells_append, be4_len, ← be4_len x, ← List.length_append] at o3
               have O3 : Hid (Own w' base v' (s ++ be4 x)) := Lib.hid o3
               clear g3 o3)
  go_ret
  exact ⟨_, rfl, O3.out, C3⟩
set_option maxHeartbeats 1000000 in
theorem clone_any (n₀ : Nat) (v : Value) (s : List UInt8) (hmax : s.length ≤ 140737488351232) (w : World) (hn : n₀ ≤ w.heap.size) (h : Bytes n₀ w v s) :
    Calls Tryz.prog 53 #[v] w fun e w' => ∃ v', e = .returned v' ∧ Own w' w.heap.size v' s ∧ Below w.heap.size w w' := by
  obtain ⟨i0, hi, hz0, hz1, hz2⟩ := info_three info_u8
  have H := Lib.hid h
  obtain ⟨A, cap, rfl, hc, ht⟩ := h
  cases A with
  | none =>
    obtain rfl : s = [] := by
      by_cases hs : s = []
      · exact hs
      · obtain ⟨b, off, h, _⟩ := ht hs; cases h
    clear ht hc hmax
    have q22 : ∀ (w : World) (a : Option Addr) (n c n' c' : Nat), (binOp .eql 22 (.slice a n c) (.slice none n' c')).run Tryz.prog w = .ok (.bool a.isNone) w := fun w a n c n' c' => Lib.run_eql_slice_nil w _ _ a n c n' c' Tryz.underlying22
    go_enter Tryz.func53, Tryz.ntmps53
    go_wp2
    go_ret
    exact ⟨_, rfl, own_nil _ _, Below.refl _ _⟩
  | some a =>
    clear ht
    have q22 : ∀ (w : World) (a : Option Addr) (n c n' c' : Nat), (binOp .eql 22 (.slice a n c) (.slice none n' c')).run Tryz.prog w = .ok (.bool a.isNone) w := fun w a n c n' c' => Lib.run_eql_slice_nil w _ _ a n c n' c' Tryz.underlying22
    go_enter Tryz.func53, Tryz.ntmps53
    go_wp2_with (at_builtin
                 refine wpList_append_row _ rfl (.tmp 5) (.tmp 6) 22 rfl w.heap.size 5 i0 (.int .u8 0) 1 Tryz.underlying22 hi hz0 hz1 hz2 rfl _ 0 [] rfl (own_empty _ _ _ (Nat.le_refl _)) n₀ _ (Lib.byteCells s) rfl (Row.of_bytes (H.out.below ((Below.refl _ _).alloc hn _))) (one_bytes _) (by rw [Lib.byteCells_length]; unfold maxLen; omega) (by rw [Lib.byteCells_length]; omega) (by simp) ?_
                 intro v' w' o3 g3
                 have C3 : Below w.heap.size w w' := below_append ((Below.refl _ w).alloc (Nat.le_refl _) _) (own_empty _ _ _ (Nat.le_refl _)) (Nat.le_refl _) g3 (by simp)
                 rw [List.nil_append, Lib.byteCells_length, Nat.zero_add] at o3
                 have O3 : Hid (Own w' w.heap.size v' s) := Lib.hid o3
                 clear g3 o3)
    go_ret
    exact ⟨_, rfl, O3.out, C3⟩
end Go.Proofs.YtefgobmpleoafaaGreat

/- A frame of a body (package frame, and the document's answer), as contracts. -/
namespace Go.Proofs.YtefgobmpleoafaaGreat
open Go.RowKit

theorem row_two (w : World) : Row (w.heap.size + 1) (w.alloc (.cells #[.int .u8 67, .int .u8 70] 5)) (.slice (some ⟨w.heap.size, 0, none⟩) 2 2) (Lib.byteCells [67, 70]) := Row.lit w #[.int .u8 67, .int .u8 70] 5 (0, 0)
theorem own_two (w : World) : Own (w.alloc (.cells #[.int .u8 67, .int .u8 70] 5)) w.heap.size (.slice (some ⟨w.heap.size, 0, none⟩) 2 2) [67, 70] :=
  ⟨rfl, .inr ⟨w.heap.size, 2, _, rfl, Nat.le_refl _, heap_alloc_new w _, Nat.le_refl _, by unfold maxLen; omega, rfl, rfl⟩⟩
set_option maxHeartbeats 2000000 in
set_option maxRecDepth 100000 in
theorem make_ok (n₀ : Nat) (v : Value) (s : List UInt8) (hs : s.length ≤ 65536) (w : World) (hn : n₀ ≤ w.heap.size) (h : Bytes n₀ w v s) :
    Calls Tryz.prog 46 #[v] w fun e w' => ∃ v', e = .returned (.tuple #[v', .int .i64 0]) ∧ Own w' w.heap.size v' (frm s) ∧ Below w.heap.size w w' := by
  obtain ⟨i0, hi, hz0, hz1, hz2⟩ := info_three info_u8
  have H := Lib.hid h
  have hadl := adl_lt s
  obtain ⟨A, cap, rfl, hc, ht⟩ := h
  clear ht
  go_enter Tryz.func46, Tryz.ntmps46
  go_wp2_with (first
    | (at_make
       refine wpList_make_own _ rfl _ _ 22 rfl w.heap.size 5 i0 (.int .u8 0) 1 Tryz.underlying22 hi hz0 hz1 _ _ _ (10 + s.length) rfl rfl (by omega) (by rw [hz2]; omega) (by unfold maxLen; omega) (Nat.le_refl _) ?_
       intro w1 o1 g1
       have C1 : Below w.heap.size w w1 := (Below.refl _ w).grown g1 (Nat.le_refl _) (fun k hk => by cases hk)
       have O1 := Lib.hid o1
       clear o1 g1)
    | (at_builtin
       refine wpList_append_row _ rfl (.tmp 12) (.tmp 13) 22 rfl w.heap.size 5 i0 (.int .u8 0) 1 Tryz.underlying22 hi hz0 hz1 hz2 rfl _ 0 [] rfl (O1.out.alloc _) (w1.heap.size + 1) _ (Lib.byteCells [67, 70]) rfl (row_two w1) (one_bytes _) (by rw [Lib.byteCells_length]; unfold maxLen; simp) (by rw [Lib.byteCells_length]; simp) (by have := C1.size; simp; omega) ?_
       intro v2 w2 o2 g2
       have C2 : Below w.heap.size w w2 := below_append (C1.alloc C1.size _) (O1.out.alloc _) (Nat.le_refl _) g2 (by have := C1.size; simp; omega)
       have o2' : Own w2 w.heap.size v2 [67, 70] := o2
       have O2 := Lib.hid o2'
       clear g2 o2 o2' O1 C1))
  refine (appNum_any v2 [67, 70] w.heap.size s.length (by omega) w2 O2.out (by simp) C2.size).mono ?_
  rintro e w3 ⟨v3, rfl, o3, B3⟩
  have C3 := C2.trans B3
  have O3 := Lib.hid o3
  clear o3 B3 C2 O2
  go_wp2_with fail
  refine (sum_any n₀ _ s (by omega) w3 (H.out.below (C3.mono hn))).mono ?_
  rintro e w4 ⟨rfl, rfl⟩
  go_wp2_with fail
  refine (appNum_any v3 _ w.heap.size (adl s) hadl w3 O3.out (by simp [be4_len]) C3.size).mono ?_
  rintro e w5 ⟨v5, rfl, o5, B5⟩
  have C5 := C3.trans B5
  have O5 := Lib.hid o5
  clear o5 B5 C3 O3
  go_wp2_with (at_builtin
               refine wpList_append_row _ rfl (.tmp 23) (.tmp 24) 22 rfl w.heap.size 5 i0 (.int .u8 0) 1 Tryz.underlying22 hi hz0 hz1 hz2 rfl _ _ _ rfl O5.out n₀ _ (Lib.byteCells s) rfl (Row.of_bytes (H.out.below (C5.mono hn))) (one_bytes _) (by rw [Lib.byteCells_length]; simp [be4_len]; unfold maxLen; omega) (by rw [Lib.byteCells_length]; simp [be4_len]; omega) C5.size ?_
               intro v6 w6 o6 g6
               have C6 : Below w.heap.size w w6 := below_append C5 O5.out (Nat.le_refl _) g6 C5.size
               rw [Lib.byteCells_length, ← Lib.byteCells_append, ← List.length_append] at o6
               have o6' : Own w6 w.heap.size v6 (frm s) := o6
               have O6 := Lib.hid o6'
               clear g6 o6 o6' O5 C5)
  go_ret2
  exact ⟨_, rfl, O6.out, C6⟩
set_option maxHeartbeats 1000000 in
set_option maxRecDepth 100000 in
theorem make_big (n₀ : Nat) (v : Value) (s : List UInt8) (hs : 65536 < s.length) (w : World) (h : Bytes n₀ w v s) :
    Calls Tryz.prog 46 #[v] w fun e w' => e = .returned (.tuple #[.slice none 0 0, .int .i64 12]) ∧ w = w' := by
  obtain ⟨A, cap, rfl, hc, ht⟩ := h
  clear ht
  go_enter Tryz.func46, Tryz.ntmps46
  go_wp2
  go_ret2
  exact ⟨rfl, rfl⟩
end Go.Proofs.YtefgobmpleoafaaGreat

/- The first frame of bytes (package frame), as contracts. -/
namespace Go.Proofs.YtefgobmpleoafaaGreat
open Go.RowKit

theorem number_at (n₀ : Nat) (b off c : Nat) (s : List UInt8) (i N : Nat) (hb : b < n₀) (w : World) (ht : ∀ j, j < s.length → w.cell? ⟨b, off + j, none⟩ = some (.int .u8 ((at_ s j : Nat) : Int))) (hi : i + 4 ≤ s.length) (hc : 4 ≤ c) (hN : num ((s.drop i).take 4) = N) :
    Calls Tryz.prog 51 #[.slice (some ⟨b, off + i, none⟩) 4 c] w fun e w' => e = .returned (.int .i64 (N : Int)) ∧ w' = w := by
  subst hN
  exact (number_any n₀ _ _ (by simp; omega) w (Bytes.sub hb ht i 4 c (by omega) hc)).mono fun _ _ h => ⟨h.1, h.2.symm⟩
theorem sum_at (n₀ : Nat) (b off c : Nat) (s t : List UInt8) (i N L S : Nat) (hL : L = N) (hb : b < n₀) (w : World) (ht : ∀ j, j < s.length → w.cell? ⟨b, off + j, none⟩ = some (.int .u8 ((at_ s j : Nat) : Int))) (hi : i + N ≤ s.length) (hm : s.length ≤ 140737488351232) (hc : N ≤ c) (hT : (s.drop i).take N = t) (hS : adl t = S) :
    Calls Tryz.prog 52 #[.slice (some ⟨b, off + i, none⟩) L c] w fun e w' => e = .returned (.int .i64 (S : Int)) ∧ w' = w := by
  subst hS hT hL
  exact (sum_any n₀ _ _ (by simp; omega) w (Bytes.sub hb ht i _ c hi hc)).mono fun _ _ h => ⟨h.1, h.2.symm⟩
theorem sum_nil (n₀ : Nat) (v : Value) (S : Nat) (w : World) (hS : adl [] = S) (hv : Bytes n₀ w v []) :
    Calls Tryz.prog 52 #[v] w fun e w' => e = .returned (.int .i64 (S : Int)) ∧ w' = w := by
  subst hS
  exact (sum_any n₀ _ [] (by simp) w hv).mono fun _ _ h => ⟨h.1, h.2.symm⟩
set_option maxHeartbeats 2000000 in
theorem read_ok1 (n₀ b off cap : Nat) (s : List UInt8) (N Sm : Nat) (hm : s.length ≤ 140737488351232) (hc : s.length ≤ cap) (h10 : 10 ≤ s.length) (hcap : 10 < cap) (h0 : at_ s 0 = 67) (h1 : at_ s 1 = 70) (hN : rdN s = N) (h12 : N ≤ 65536) (hl : 10 + N ≤ s.length) (hK : rdK s = Sm) (hS : adl (rdB s) = Sm)
    (w : World) (hn : n₀ ≤ w.heap.size) (hb : b < n₀) (ht : ∀ j, j < s.length → w.cell? ⟨b, off + j, none⟩ = some (.int .u8 ((at_ s j : Nat) : Int))) :
    Calls Tryz.prog 35 #[.slice (some ⟨b, off, none⟩) s.length cap] w fun e w' => ∃ v', e = .returned (.tuple #[v', .int .i64 ((10 + N : Nat) : Int), .int .i64 0]) ∧ Own w' w.heap.size v' (rdB s) ∧ Below w.heap.size w w' := by
  have HN : Hid (num ((s.drop 2).take 4) = N) := Lib.hid hN
  have HK : Hid (num ((s.drop 6).take 4) = Sm) := Lib.hid hK
  have HB : Hid ((s.drop 10).take N = rdB s) := Lib.hid (by unfold rdB; rw [hN])
  have HS := Lib.hid hS
  have HT := Lib.hid ht
  have g0 := ht 0 (by omega)
  have g1 := ht 1 (by omega)
  rw [Nat.add_zero, h0] at g0
  rw [h1] at g1
  clear hN hK hS ht h0 h1
  go_enter Tryz.func35, Tryz.ntmps35
  go_wp2_with fail
  refine (number_at n₀ b off _ s 2 N hb w HT.out (by omega) (by omega) HN.out).mono ?_
  rintro e w1 ⟨rfl, hw1⟩
  have hw2 := hw1.symm
  subst hw2
  go_wp2_with fail
  go_quiet ((first | (go_at_call 52; exact Calls.quiet_of_same (sum_at n₀ b off _ s _ 10 N _ Sm (by omega) hb _ HT.out (by omega) hm (by omega) HB.out HS.out)) | (go_at_call 51; exact Calls.quiet_of_same (number_at n₀ b off _ s 6 Sm hb _ HT.out (by omega) (by omega) HK.out))))
  go_wp2_with fail
  refine (clone_any n₀ _ (rdB s) (by rw [← HB.out]; simp; omega) _ (by simpa using hn) ?_).mono ?_
  · rw [← HB.out]
    exact Bytes.sub hb HT.out 10 N _ hl (by omega)
  rintro e w2 ⟨v2, rfl, o2, B2⟩
  have O2 := Lib.hid o2
  have hB2 : Below w.heap.size w w2 := (Below.drewN' (Below.refl w.heap.size w) _).trans B2
  clear o2 B2
  go_wp2
  go_ret3
  exact ⟨_, rfl, O2.out, hB2⟩
set_option maxHeartbeats 2000000 in
theorem read_ok0 (n₀ b off : Nat) (s : List UInt8) (Sm : Nat) (h10 : s.length = 10) (h0 : at_ s 0 = 67) (h1 : at_ s 1 = 70) (hN : rdN s = 0) (hK : rdK s = Sm) (hS : adl (rdB s) = Sm)
    (w : World) (hn : n₀ ≤ w.heap.size) (hb : b < n₀) (ht : ∀ j, j < s.length → w.cell? ⟨b, off + j, none⟩ = some (.int .u8 ((at_ s j : Nat) : Int))) :
    Calls Tryz.prog 35 #[.slice (some ⟨b, off, none⟩) 10 10] w fun e w' => ∃ v', e = .returned (.tuple #[v', .int .i64 10, .int .i64 0]) ∧ Own w' w.heap.size v' (rdB s) ∧ Below w.heap.size w w' := by
  have HN : Hid (num ((s.drop 2).take 4) = 0) := Lib.hid hN
  have HK : Hid (num ((s.drop 6).take 4) = Sm) := Lib.hid hK
  have HB : Hid ((s.drop 10).take 0 = rdB s) := Lib.hid (by unfold rdB; rw [hN])
  have HS := Lib.hid hS
  have HT := Lib.hid ht
  have g0 := ht 0 (by omega)
  have g1 := ht 1 (by omega)
  rw [Nat.add_zero, h0] at g0
  rw [h1] at g1
  have hB0 : rdB s = [] := by unfold rdB; rw [hN]; rfl
  rw [hB0] at HS ⊢
  have H10 := Lib.hid h10
  clear h10 hB0 HB
  clear hN hK hS ht h0 h1
  go_enter Tryz.func35, Tryz.ntmps35
  go_wp2_with fail
  refine (number_at n₀ b off _ s 2 0 hb w HT.out (by have := H10.out; omega) (by omega) HN.out).mono ?_
  rintro e w1 ⟨rfl, hw1⟩
  have hw2 := hw1.symm
  subst hw2
  go_wp2_with fail
  go_quiet ((first | (go_at_call 52; exact Calls.quiet_of_same (sum_nil n₀ _ Sm _ HS.out (bytes_empty _ _ _ _))) | (go_at_call 51; exact Calls.quiet_of_same (number_at n₀ b off _ s 6 Sm hb _ HT.out (by have := H10.out; omega) (by omega) HK.out))))
  go_wp2_with fail
  refine (clone_any n₀ _ [] (by simp) _ (by simpa using hn) (bytes_empty _ _ _ _)).mono ?_
  rintro e w2 ⟨v2, rfl, o2, B2⟩
  have O2 := Lib.hid o2
  have hB2 : Below w.heap.size w w2 := (Below.drewN' (Below.refl w.heap.size w) _).trans B2
  clear o2 B2
  go_wp2
  go_ret3
  exact ⟨_, rfl, O2.out, hB2⟩
end Go.Proofs.YtefgobmpleoafaaGreat

/- Bytes that begin with no frame (package frame), as contracts; both together. -/
namespace Go.Proofs.YtefgobmpleoafaaGreat
open Go.RowKit

def RdBad (w : World) (x : Nat) (e : Ending) (w' : World) : Prop := e = .returned (.tuple #[.slice none 0 0, .int .i64 0, .int .i64 (x : Int)]) ∧ ∃ m, w' = w.drewN m
theorem drew0 (w : World) : w = w.drewN 0 := rfl
set_option maxHeartbeats 1000000 in
theorem read_11 (A : Option Addr) (n cap : Nat) (h10 : n < 10) (w : World) : Calls Tryz.prog 35 #[.slice A n cap] w (RdBad w 11) := by
  go_enter Tryz.func35, Tryz.ntmps35
  go_wp2
  go_ret3
  exact ⟨rfl, 0, rfl⟩
set_option maxHeartbeats 1000000 in
theorem read_10a (b off n cap c : Nat) (h10 : 10 ≤ n) (hm : n ≤ 140737488351232) (w : World) (g0 : w.cell? ⟨b, off, none⟩ = some (.int .u8 (c : Int))) (hc : ((c : Int) != 67) = true) : Calls Tryz.prog 35 #[.slice (some ⟨b, off, none⟩) n cap] w (RdBad w 10) := by
  go_enter Tryz.func35, Tryz.ntmps35
  go_wp2
  go_ret3
  exact ⟨rfl, 0, rfl⟩
set_option maxHeartbeats 1000000 in
theorem read_10b (b off n cap c : Nat) (h10 : 10 ≤ n) (hm : n ≤ 140737488351232) (w : World) (g0 : w.cell? ⟨b, off, none⟩ = some (.int .u8 67)) (g1 : w.cell? ⟨b, off + 1, none⟩ = some (.int .u8 (c : Int))) (hc : ((c : Int) != 70) = true) : Calls Tryz.prog 35 #[.slice (some ⟨b, off, none⟩) n cap] w (RdBad w 10) := by
  go_enter Tryz.func35, Tryz.ntmps35
  go_wp2
  go_ret3
  exact ⟨rfl, 0, rfl⟩
set_option maxHeartbeats 1000000 in
theorem read_12 (n₀ b off cap : Nat) (s : List UInt8) (N : Nat) (hm : s.length ≤ 140737488351232) (hc : s.length ≤ cap) (h10 : 10 ≤ s.length) (h0 : at_ s 0 = 67) (h1 : at_ s 1 = 70) (hN : rdN s = N) (h12 : 65536 < N)
    (w : World) (hb : b < n₀) (ht : ∀ j, j < s.length → w.cell? ⟨b, off + j, none⟩ = some (.int .u8 ((at_ s j : Nat) : Int))) :
    Calls Tryz.prog 35 #[.slice (some ⟨b, off, none⟩) s.length cap] w (RdBad w 12) := by
  have HN : Hid (num ((s.drop 2).take 4) = N) := Lib.hid hN
  have HT := Lib.hid ht
  have g0 := ht 0 (by omega)
  have g1 := ht 1 (by omega)
  rw [Nat.add_zero, h0] at g0
  rw [h1] at g1
  clear hN ht h0 h1
  go_enter Tryz.func35, Tryz.ntmps35
  go_wp2_with fail
  refine (number_at n₀ b off _ s 2 N hb w HT.out (by omega) (by omega) HN.out).mono ?_
  rintro e w1 ⟨rfl, hw1⟩
  have hw2 := hw1.symm
  subst hw2
  go_wp2
  go_ret3
  exact ⟨rfl, 0, rfl⟩
set_option maxHeartbeats 1000000 in
theorem read_11b (n₀ b off cap : Nat) (s : List UInt8) (N : Nat) (hm : s.length ≤ 140737488351232) (hc : s.length ≤ cap) (h10 : 10 ≤ s.length) (h0 : at_ s 0 = 67) (h1 : at_ s 1 = 70) (hN : rdN s = N) (h12 : N ≤ 65536) (hl : s.length < 10 + N)
    (w : World) (hb : b < n₀) (ht : ∀ j, j < s.length → w.cell? ⟨b, off + j, none⟩ = some (.int .u8 ((at_ s j : Nat) : Int))) :
    Calls Tryz.prog 35 #[.slice (some ⟨b, off, none⟩) s.length cap] w (RdBad w 11) := by
  have HN : Hid (num ((s.drop 2).take 4) = N) := Lib.hid hN
  have HT := Lib.hid ht
  have g0 := ht 0 (by omega)
  have g1 := ht 1 (by omega)
  rw [Nat.add_zero, h0] at g0
  rw [h1] at g1
  clear hN ht h0 h1
  go_enter Tryz.func35, Tryz.ntmps35
  go_wp2_with fail
  refine (number_at n₀ b off _ s 2 N hb w HT.out (by omega) (by omega) HN.out).mono ?_
  rintro e w1 ⟨rfl, hw1⟩
  have hw2 := hw1.symm
  subst hw2
  go_wp2
  go_ret3
  exact ⟨rfl, 0, rfl⟩
set_option maxHeartbeats 2000000 in
theorem read_151 (n₀ b off cap : Nat) (s : List UInt8) (N Sm Sn : Nat) (hm : s.length ≤ 140737488351232) (hc : s.length ≤ cap) (h10 : 10 ≤ s.length) (hcap : 10 < cap) (h0 : at_ s 0 = 67) (h1 : at_ s 1 = 70) (hN : rdN s = N) (h12 : N ≤ 65536) (hl : 10 + N ≤ s.length) (hK : rdK s = Sm) (hS : adl (rdB s) = Sn) (hne : ((Sn : Int) != (Sm : Int)) = true)
    (w : World) (hb : b < n₀) (ht : ∀ j, j < s.length → w.cell? ⟨b, off + j, none⟩ = some (.int .u8 ((at_ s j : Nat) : Int))) :
    Calls Tryz.prog 35 #[.slice (some ⟨b, off, none⟩) s.length cap] w (RdBad w 15) := by
  have HN : Hid (num ((s.drop 2).take 4) = N) := Lib.hid hN
  have HK : Hid (num ((s.drop 6).take 4) = Sm) := Lib.hid hK
  have HB : Hid ((s.drop 10).take N = rdB s) := Lib.hid (by unfold rdB; rw [hN])
  have HS := Lib.hid hS
  have HT := Lib.hid ht
  have g0 := ht 0 (by omega)
  have g1 := ht 1 (by omega)
  rw [Nat.add_zero, h0] at g0
  rw [h1] at g1
  clear hN hK hS ht h0 h1
  go_enter Tryz.func35, Tryz.ntmps35
  go_wp2_with fail
  refine (number_at n₀ b off _ s 2 N hb w HT.out (by omega) (by omega) HN.out).mono ?_
  rintro e w1 ⟨rfl, hw1⟩
  have hw2 := hw1.symm
  subst hw2
  go_wp2_with fail
  go_quiet ((first | (go_at_call 52; exact Calls.quiet_of_same (sum_at n₀ b off _ s _ 10 N _ Sn (by omega) hb _ HT.out (by omega) hm (by omega) HB.out HS.out)) | (go_at_call 51; exact Calls.quiet_of_same (number_at n₀ b off _ s 6 Sm hb _ HT.out (by omega) (by omega) HK.out))))
  go_wp2
  go_ret3
  exact ⟨rfl, _, rfl⟩
set_option maxHeartbeats 2000000 in
theorem read_150 (n₀ b off : Nat) (s : List UInt8) (Sm Sn : Nat) (h10 : s.length = 10) (h0 : at_ s 0 = 67) (h1 : at_ s 1 = 70) (hN : rdN s = 0) (hK : rdK s = Sm) (hS : adl (rdB s) = Sn) (hne : ((Sn : Int) != (Sm : Int)) = true)
    (w : World) (hb : b < n₀) (ht : ∀ j, j < s.length → w.cell? ⟨b, off + j, none⟩ = some (.int .u8 ((at_ s j : Nat) : Int))) :
    Calls Tryz.prog 35 #[.slice (some ⟨b, off, none⟩) 10 10] w (RdBad w 15) := by
  have HN : Hid (num ((s.drop 2).take 4) = 0) := Lib.hid hN
  have HK : Hid (num ((s.drop 6).take 4) = Sm) := Lib.hid hK
  have HS := Lib.hid hS
  have HT := Lib.hid ht
  have g0 := ht 0 (by omega)
  have g1 := ht 1 (by omega)
  rw [Nat.add_zero, h0] at g0
  rw [h1] at g1
  have hB0 : rdB s = [] := by unfold rdB; rw [hN]; rfl
  rw [hB0] at HS
  have H10 := Lib.hid h10
  clear h10 hB0
  clear hN hK hS ht h0 h1
  go_enter Tryz.func35, Tryz.ntmps35
  go_wp2_with fail
  refine (number_at n₀ b off _ s 2 0 hb w HT.out (by have := H10.out; omega) (by omega) HN.out).mono ?_
  rintro e w1 ⟨rfl, hw1⟩
  have hw2 := hw1.symm
  subst hw2
  go_wp2_with fail
  go_quiet ((first | (go_at_call 52; exact Calls.quiet_of_same (sum_nil n₀ _ Sn _ HS.out (bytes_empty _ _ _ _))) | (go_at_call 51; exact Calls.quiet_of_same (number_at n₀ b off _ s 6 Sm hb _ HT.out (by have := H10.out; omega) (by omega) HK.out))))
  go_wp2
  go_ret3
  exact ⟨rfl, _, rfl⟩
theorem ne_int (a c : Nat) (h : a ≠ c) : ((a : Int) != (c : Int)) = true := by simp; omega
/-- Read of bytes that begin with a frame. -/
theorem read_ok (n₀ : Nat) (v : Value) (s : List UInt8) (hm : s.length ≤ 140737488351232) (w : World) (hn : n₀ ≤ w.heap.size) (h : Bytes n₀ w v s) (h0 : rdE s = 0) :
    Calls Tryz.prog 35 #[v] w fun e w' => ∃ v', e = .returned (.tuple #[v', .int .i64 ((10 + (rdB s).length : Nat) : Int), .int .i64 0]) ∧ Own w' w.heap.size v' (rdB s) ∧ Below w.heap.size w w' := by
  obtain ⟨A, cap, rfl, hc, ht⟩ := h
  obtain ⟨a, b, c, d, e, f⟩ := rdE_ok h0
  have hl := rdB_len h0
  obtain ⟨B, off, rfl, hb, ht⟩ := ht (by rintro rfl; simp at a)
  rw [hl]
  by_cases hcap : 10 < cap
  · exact read_ok1 n₀ B off cap s (rdN s) (rdK s) hm hc a hcap b c rfl d e rfl f w hn hb ht
  · have hN : rdN s = 0 := by omega
    have hs : s.length = 10 := by omega
    have hcap : cap = 10 := by omega
    rw [hN, hs, hcap]
    exact read_ok0 n₀ B off s (rdK s) hs b c hN rfl f w hn hb ht
theorem read_bad (n₀ : Nat) (v : Value) (s : List UInt8) (hm : s.length ≤ 140737488351232) (w : World) (h : Bytes n₀ w v s) (h0 : rdE s ≠ 0) :
    Calls Tryz.prog 35 #[v] w (RdBad w (rdE s)) := by
  obtain ⟨A, cap, rfl, hc, ht⟩ := h
  by_cases h10 : s.length < 10
  · rw [show rdE s = 11 from rd_short h10]; exact read_11 A _ _ h10 w
  · obtain ⟨B, off, rfl, hb, ht⟩ := ht (by rintro rfl; simp at h10)
    have g0 := ht 0 (by omega)
    have g1 := ht 1 (by omega)
    rw [Nat.add_zero] at g0
    by_cases ha : at_ s 0 = 67
    · by_cases hb' : at_ s 1 = 70
      · by_cases h12 : 65536 < rdN s
        · rw [show rdE s = 12 by unfold rdE; rw [if_neg h10, if_neg (by omega), if_pos h12]]
          exact read_12 n₀ B off cap s (rdN s) hm hc (by omega) ha hb' rfl h12 w hb ht
        · by_cases hl : s.length < 10 + rdN s
          · rw [show rdE s = 11 by unfold rdE; rw [if_neg h10, if_neg (by omega), if_neg h12, if_pos hl]]
            exact read_11b n₀ B off cap s (rdN s) hm hc (by omega) ha hb' rfl (by omega) hl w hb ht
          · have hS : adl (rdB s) ≠ rdK s := by
              intro hS
              apply h0
              unfold rdE; rw [if_neg h10, if_neg (by omega), if_neg h12, if_neg hl, if_neg (by simpa using hS)]
            rw [show rdE s = 15 by unfold rdE; rw [if_neg h10, if_neg (by omega), if_neg h12, if_neg hl, if_pos hS]]
            by_cases hcap : 10 < cap
            · exact read_151 n₀ B off cap s (rdN s) (rdK s) (adl (rdB s)) hm hc (by omega) hcap ha hb' rfl (by omega) (by omega) rfl rfl (ne_int _ _ hS) w hb ht
            · have hN : rdN s = 0 := by omega
              have hs : s.length = 10 := by omega
              have hcap : cap = 10 := by omega
              rw [hs, hcap]
              exact read_150 n₀ B off s (rdK s) (adl (rdB s)) hs ha hb' hN rfl rfl (ne_int _ _ hS) w hb ht
      · rw [show rdE s = 10 by unfold rdE; rw [if_neg h10, if_pos (.inr hb')]]
        rw [ha] at g0
        exact read_10b B off _ cap (at_ s 1) (by omega) hm w g0 g1 (ne_int _ 70 hb')
    · rw [show rdE s = 10 by unfold rdE; rw [if_neg h10, if_pos (.inl ha)]]
      exact read_10a B off _ cap (at_ s 0) (by omega) hm w g0 (ne_int _ 67 ha)
end Go.Proofs.YtefgobmpleoafaaGreat

/- The first frame of bytes by the document's answer (colanderref10), as contracts. -/
namespace Go.Proofs.YtefgobmpleoafaaGreat
open Go.RowKit

def QInt (w : World) (S : Nat) (e : Ending) (w' : World) : Prop := e = .returned (.int .i64 (S : Int)) ∧ ∃ m, w' = w.drewN m
theorem four_at (n₀ : Nat) (b off c : Nat) (s : List UInt8) (i N : Nat) (hb : b < n₀) (w : World) (ht : ∀ j, j < s.length → w.cell? ⟨b, off + j, none⟩ = some (.int .u8 ((at_ s j : Nat) : Int))) (hi : i + 4 ≤ s.length) (hc : 4 ≤ c) (hN : num ((s.drop i).take 4) = N) :
    Calls Tryz.prog 30 #[.slice (some ⟨b, off + i, none⟩) 4 c] w fun e w' => e = .returned (.int .i64 (N : Int)) ∧ ∃ m, w' = w.drewN m := by
  subst hN
  exact four_any n₀ _ _ (by simp; omega) w (Bytes.sub hb ht i 4 c (by omega) hc)
theorem refSum_at (n₀ : Nat) (b off c : Nat) (s t : List UInt8) (i N L S : Nat) (hL : L = N) (hb : b < n₀) (w : World) (ht : ∀ j, j < s.length → w.cell? ⟨b, off + j, none⟩ = some (.int .u8 ((at_ s j : Nat) : Int))) (hi : i + N ≤ s.length) (hm : s.length ≤ 140737488351232) (hc : N ≤ c) (hT : (s.drop i).take N = t) (hS : adl t = S) :
    Calls Tryz.prog 31 #[.slice (some ⟨b, off + i, none⟩) L c] w fun e w' => e = .returned (.int .i64 (S : Int)) ∧ w' = w := by
  subst hS hT hL
  exact (refSum_any n₀ _ _ (by simp; omega) w (Bytes.sub hb ht i _ c hi hc)).mono fun _ _ h => ⟨h.1, h.2.symm⟩
theorem refSum_nil (n₀ : Nat) (v : Value) (S : Nat) (w : World) (hS : adl [] = S) (hv : Bytes n₀ w v []) :
    Calls Tryz.prog 31 #[v] w fun e w' => e = .returned (.int .i64 (S : Int)) ∧ w' = w := by
  subst hS
  exact (refSum_any n₀ _ [] (by simp) w hv).mono fun _ _ h => ⟨h.1, h.2.symm⟩
def RfBad (w : World) (x : Nat) (e : Ending) (w' : World) : Prop := e = .returned (.tuple #[.slice none 0 0, .int .i64 (x : Int)]) ∧ ∃ m, w' = w.drewN m
def RfOk (n₀ : Nat) (w : World) (t : List UInt8) (e : Ending) (w' : World) : Prop := ∃ v', e = .returned (.tuple #[v', .int .i64 0]) ∧ Bytes n₀ w v' t ∧ ∃ m, w' = w.drewN m
theorem drewN2 {w w1 w2 : World} {a b : Nat} (h1 : w1 = w.drewN a) (h2 : w2 = w1.drewN b) : ∃ m, w2 = w.drewN m := ⟨a + b, by rw [h2, h1, World.drewN_drewN]⟩
theorem cells_drewN {w w1 : World} {a b off n : Nat} {s : List UInt8} (h : ∀ j, j < n → w.cell? ⟨b, off + j, none⟩ = some (.int .u8 ((at_ s j : Nat) : Int))) (h1 : w1 = w.drewN a) : ∀ j, j < n → w1.cell? ⟨b, off + j, none⟩ = some (.int .u8 ((at_ s j : Nat) : Int)) := by
  subst h1; exact h
set_option maxHeartbeats 1000000 in
theorem rf_11 (A : Option Addr) (n cap : Nat) (h10 : n < 10) (w : World) : Calls Tryz.prog 19 #[.slice A n cap] w (RfBad w 11) := by
  go_enter Tryz.func19, Tryz.ntmps19
  go_wp2
  go_ret2
  exact ⟨rfl, 0, rfl⟩
set_option maxHeartbeats 1000000 in
theorem rf_10a (b off n cap c : Nat) (h10 : 10 ≤ n) (hm : n ≤ 140737488351232) (w : World) (g0 : w.cell? ⟨b, off, none⟩ = some (.int .u8 (c : Int))) (hc : ((c : Int) != 67) = true) : Calls Tryz.prog 19 #[.slice (some ⟨b, off, none⟩) n cap] w (RfBad w 10) := by
  go_enter Tryz.func19, Tryz.ntmps19
  go_wp2
  go_ret2
  exact ⟨rfl, 0, rfl⟩
set_option maxHeartbeats 1000000 in
theorem rf_10b (b off n cap c : Nat) (h10 : 10 ≤ n) (hm : n ≤ 140737488351232) (w : World) (g0 : w.cell? ⟨b, off, none⟩ = some (.int .u8 67)) (g1 : w.cell? ⟨b, off + 1, none⟩ = some (.int .u8 (c : Int))) (hc : ((c : Int) != 70) = true) : Calls Tryz.prog 19 #[.slice (some ⟨b, off, none⟩) n cap] w (RfBad w 10) := by
  go_enter Tryz.func19, Tryz.ntmps19
  go_wp2
  go_ret2
  exact ⟨rfl, 0, rfl⟩
set_option maxHeartbeats 1000000 in
theorem rf_12 (n₀ b off cap : Nat) (s : List UInt8) (N : Nat) (hm : s.length ≤ 140737488351232) (hc : s.length ≤ cap) (h10 : 10 ≤ s.length) (h0 : at_ s 0 = 67) (h1 : at_ s 1 = 70) (hN : rdN s = N) (h12 : 65536 < N)
    (w : World) (hb : b < n₀) (ht : ∀ j, j < s.length → w.cell? ⟨b, off + j, none⟩ = some (.int .u8 ((at_ s j : Nat) : Int))) :
    Calls Tryz.prog 19 #[.slice (some ⟨b, off, none⟩) s.length cap] w (RfBad w 12) := by
  have HN : Hid (num ((s.drop 2).take 4) = N) := Lib.hid hN
  have HT := Lib.hid ht
  have g0 := ht 0 (by omega)
  have g1 := ht 1 (by omega)
  rw [Nat.add_zero, h0] at g0
  rw [h1] at g1
  clear hN ht h0 h1
  go_enter Tryz.func19, Tryz.ntmps19
  go_wp2_with fail
  refine (four_at n₀ b off _ s 2 N hb w HT.out (by omega) (by omega) HN.out).mono ?_
  rintro e w1 ⟨rfl, m1, hw1⟩
  have T1 := Lib.hid (cells_drewN HT.out hw1)
  have HW := Lib.hid hw1
  clear hw1
  go_wp2
  go_ret2
  exact ⟨rfl, _, HW.out⟩
set_option maxHeartbeats 1000000 in
theorem rf_11b (n₀ b off cap : Nat) (s : List UInt8) (N : Nat) (hm : s.length ≤ 140737488351232) (hc : s.length ≤ cap) (h10 : 10 ≤ s.length) (h0 : at_ s 0 = 67) (h1 : at_ s 1 = 70) (hN : rdN s = N) (h12 : N ≤ 65536) (hl : s.length < 10 + N)
    (w : World) (hb : b < n₀) (ht : ∀ j, j < s.length → w.cell? ⟨b, off + j, none⟩ = some (.int .u8 ((at_ s j : Nat) : Int))) :
    Calls Tryz.prog 19 #[.slice (some ⟨b, off, none⟩) s.length cap] w (RfBad w 11) := by
  have HN : Hid (num ((s.drop 2).take 4) = N) := Lib.hid hN
  have HT := Lib.hid ht
  have g0 := ht 0 (by omega)
  have g1 := ht 1 (by omega)
  rw [Nat.add_zero, h0] at g0
  rw [h1] at g1
  clear hN ht h0 h1
  go_enter Tryz.func19, Tryz.ntmps19
  go_wp2_with fail
  refine (four_at n₀ b off _ s 2 N hb w HT.out (by omega) (by omega) HN.out).mono ?_
  rintro e w1 ⟨rfl, m1, hw1⟩
  have T1 := Lib.hid (cells_drewN HT.out hw1)
  have HW := Lib.hid hw1
  clear hw1
  go_wp2
  go_ret2
  exact ⟨rfl, _, HW.out⟩
set_option maxHeartbeats 2000000 in
theorem rf_151 (n₀ b off cap : Nat) (s : List UInt8) (N Sm Sn : Nat) (hm : s.length ≤ 140737488351232) (hc : s.length ≤ cap) (h10 : 10 ≤ s.length) (hcap : 10 < cap) (h0 : at_ s 0 = 67) (h1 : at_ s 1 = 70) (hN : rdN s = N) (h12 : N ≤ 65536) (hl : 10 + N ≤ s.length) (hK : rdK s = Sm) (hS : adl (rdB s) = Sn) (hne : ((Sn : Int) != (Sm : Int)) = true)
    (w : World) (hb : b < n₀) (ht : ∀ j, j < s.length → w.cell? ⟨b, off + j, none⟩ = some (.int .u8 ((at_ s j : Nat) : Int))) :
    Calls Tryz.prog 19 #[.slice (some ⟨b, off, none⟩) s.length cap] w (RfBad w 15) := by
  have HN : Hid (num ((s.drop 2).take 4) = N) := Lib.hid hN
  have HK : Hid (num ((s.drop 6).take 4) = Sm) := Lib.hid hK
  have HB : Hid ((s.drop 10).take N = rdB s) := Lib.hid (by unfold rdB; rw [hN])
  have HS := Lib.hid hS
  have HT := Lib.hid ht
  have g0 := ht 0 (by omega)
  have g1 := ht 1 (by omega)
  rw [Nat.add_zero, h0] at g0
  rw [h1] at g1
  clear hN hK hS ht h0 h1
  go_enter Tryz.func19, Tryz.ntmps19
  go_wp2_with fail
  refine (four_at n₀ b off _ s 2 N hb w HT.out (by omega) (by omega) HN.out).mono ?_
  rintro e w1 ⟨rfl, m1, hw1⟩
  have T1 := Lib.hid (cells_drewN HT.out hw1)
  have HW := Lib.hid hw1
  clear hw1
  go_wp2_with fail
  go_quiet ((first | (go_at_call 31; exact Calls.quiet_of_same (refSum_at n₀ b off _ s _ 10 N _ Sn (by omega) hb _ T1.out (by omega) hm (by omega) HB.out HS.out)) | (go_at_call 30; exact Calls.quiet_of (four_at n₀ b off _ s 6 Sm hb _ T1.out (by omega) (by omega) HK.out))))
  go_wp2
  go_ret2
  exact ⟨rfl, drewN2 HW.out rfl⟩
set_option maxHeartbeats 2000000 in
theorem rf_150 (n₀ b off : Nat) (s : List UInt8) (Sm Sn : Nat) (h10 : s.length = 10) (h0 : at_ s 0 = 67) (h1 : at_ s 1 = 70) (hN : rdN s = 0) (hK : rdK s = Sm) (hS : adl (rdB s) = Sn) (hne : ((Sn : Int) != (Sm : Int)) = true)
    (w : World) (hb : b < n₀) (ht : ∀ j, j < s.length → w.cell? ⟨b, off + j, none⟩ = some (.int .u8 ((at_ s j : Nat) : Int))) :
    Calls Tryz.prog 19 #[.slice (some ⟨b, off, none⟩) 10 10] w (RfBad w 15) := by
  have HN : Hid (num ((s.drop 2).take 4) = 0) := Lib.hid hN
  have HK : Hid (num ((s.drop 6).take 4) = Sm) := Lib.hid hK
  have HS := Lib.hid hS
  have HT := Lib.hid ht
  have g0 := ht 0 (by omega)
  have g1 := ht 1 (by omega)
  rw [Nat.add_zero, h0] at g0
  rw [h1] at g1
  have hB0 : rdB s = [] := by unfold rdB; rw [hN]; rfl
  rw [hB0] at HS
  have H10 := Lib.hid h10
  clear h10 hB0
  clear hN hK hS ht h0 h1
  go_enter Tryz.func19, Tryz.ntmps19
  go_wp2_with fail
  refine (four_at n₀ b off _ s 2 0 hb w HT.out (by have := H10.out; omega) (by omega) HN.out).mono ?_
  rintro e w1 ⟨rfl, m1, hw1⟩
  have T1 := Lib.hid (cells_drewN HT.out hw1)
  have HW := Lib.hid hw1
  clear hw1
  go_wp2_with fail
  go_quiet ((first | (go_at_call 31; exact Calls.quiet_of_same (refSum_nil n₀ _ Sn _ HS.out (bytes_empty _ _ _ _))) | (go_at_call 30; exact Calls.quiet_of (four_at n₀ b off _ s 6 Sm hb _ T1.out (by have := H10.out; omega) (by omega) HK.out))))
  go_wp2
  go_ret2
  exact ⟨rfl, drewN2 HW.out rfl⟩
theorem len_eq {n₀ : Nat} {w : World} {A : Option Addr} {n m c : Nat} {t : List UInt8} (h : n = m) (hb : Bytes n₀ w (.slice A n c) t) : Bytes n₀ w (.slice A m c) t := h ▸ hb
set_option maxHeartbeats 2000000 in
theorem rf_ok1 (n₀ b off cap : Nat) (s : List UInt8) (N Sm : Nat) (hm : s.length ≤ 140737488351232) (hc : s.length ≤ cap) (h10 : 10 ≤ s.length) (hcap : 10 < cap) (h0 : at_ s 0 = 67) (h1 : at_ s 1 = 70) (hN : rdN s = N) (h12 : N ≤ 65536) (hl : 10 + N ≤ s.length) (hK : rdK s = Sm) (hS : adl (rdB s) = Sm)
    (w : World) (hb : b < n₀) (ht : ∀ j, j < s.length → w.cell? ⟨b, off + j, none⟩ = some (.int .u8 ((at_ s j : Nat) : Int))) :
    Calls Tryz.prog 19 #[.slice (some ⟨b, off, none⟩) s.length cap] w (RfOk n₀ w (rdB s)) := by
  have HN : Hid (num ((s.drop 2).take 4) = N) := Lib.hid hN
  have HK : Hid (num ((s.drop 6).take 4) = Sm) := Lib.hid hK
  have HB : Hid ((s.drop 10).take N = rdB s) := Lib.hid (by unfold rdB; rw [hN])
  have HS := Lib.hid hS
  have HT := Lib.hid ht
  have g0 := ht 0 (by omega)
  have g1 := ht 1 (by omega)
  rw [Nat.add_zero, h0] at g0
  rw [h1] at g1
  clear hN hK hS ht h0 h1
  go_enter Tryz.func19, Tryz.ntmps19
  go_wp2_with fail
  refine (four_at n₀ b off _ s 2 N hb w HT.out (by omega) (by omega) HN.out).mono ?_
  rintro e w1 ⟨rfl, m1, hw1⟩
  have T1 := Lib.hid (cells_drewN HT.out hw1)
  have HW := Lib.hid hw1
  clear hw1
  go_wp2_with fail
  go_quiet ((first | (go_at_call 31; exact Calls.quiet_of_same (refSum_at n₀ b off _ s _ 10 N _ Sm (by omega) hb _ T1.out (by omega) hm (by omega) HB.out HS.out)) | (go_at_call 30; exact Calls.quiet_of (four_at n₀ b off _ s 6 Sm hb _ T1.out (by omega) (by omega) HK.out))))
  go_wp2
  go_ret2
  exact ⟨_, rfl, by rw [← HB.out]; exact len_eq (by omega) (Bytes.sub hb HT.out 10 N _ hl (by omega)), drewN2 HW.out rfl⟩
set_option maxHeartbeats 2000000 in
theorem rf_ok0 (n₀ b off : Nat) (s : List UInt8) (Sm : Nat) (h10 : s.length = 10) (h0 : at_ s 0 = 67) (h1 : at_ s 1 = 70) (hN : rdN s = 0) (hK : rdK s = Sm) (hS : adl (rdB s) = Sm)
    (w : World) (hb : b < n₀) (ht : ∀ j, j < s.length → w.cell? ⟨b, off + j, none⟩ = some (.int .u8 ((at_ s j : Nat) : Int))) :
    Calls Tryz.prog 19 #[.slice (some ⟨b, off, none⟩) 10 10] w (RfOk n₀ w (rdB s)) := by
  have HN : Hid (num ((s.drop 2).take 4) = 0) := Lib.hid hN
  have HK : Hid (num ((s.drop 6).take 4) = Sm) := Lib.hid hK
  have HS := Lib.hid hS
  have HT := Lib.hid ht
  have g0 := ht 0 (by omega)
  have g1 := ht 1 (by omega)
  rw [Nat.add_zero, h0] at g0
  rw [h1] at g1
  have hB0 : rdB s = [] := by unfold rdB; rw [hN]; rfl
  rw [hB0] at HS ⊢
  have H10 := Lib.hid h10
  clear h10 hB0
  clear hN hK hS ht h0 h1
  go_enter Tryz.func19, Tryz.ntmps19
  go_wp2_with fail
  refine (four_at n₀ b off _ s 2 0 hb w HT.out (by have := H10.out; omega) (by omega) HN.out).mono ?_
  rintro e w1 ⟨rfl, m1, hw1⟩
  have T1 := Lib.hid (cells_drewN HT.out hw1)
  have HW := Lib.hid hw1
  clear hw1
  go_wp2_with fail
  go_quiet ((first | (go_at_call 31; exact Calls.quiet_of_same (refSum_nil n₀ _ Sm _ HS.out (bytes_empty _ _ _ _))) | (go_at_call 30; exact Calls.quiet_of (four_at n₀ b off _ s 6 Sm hb _ T1.out (by have := H10.out; omega) (by omega) HK.out))))
  go_wp2
  go_ret2
  exact ⟨_, rfl, bytes_empty _ _ _ _, drewN2 HW.out rfl⟩
/-- The document's answer of bytes that begin with a frame. -/
theorem rf_ok (n₀ : Nat) (v : Value) (s : List UInt8) (hm : s.length ≤ 140737488351232) (w : World) (h : Bytes n₀ w v s) (h0 : rdE s = 0) :
    Calls Tryz.prog 19 #[v] w (RfOk n₀ w (rdB s)) := by
  obtain ⟨A, cap, rfl, hc, ht⟩ := h
  obtain ⟨a, b, c, d, e, f⟩ := rdE_ok h0
  have hl := rdB_len h0
  obtain ⟨B, off, rfl, hb, ht⟩ := ht (by rintro rfl; simp at a)
  by_cases hcap : 10 < cap
  · exact rf_ok1 n₀ B off cap s (rdN s) (rdK s) hm hc a hcap b c rfl d e rfl f w hb ht
  · have hN : rdN s = 0 := by omega
    have hs : s.length = 10 := by omega
    have hcap : cap = 10 := by omega
    rw [hs, hcap]
    exact rf_ok0 n₀ B off s (rdK s) hs b c hN rfl f w hb ht
theorem rf_bad (n₀ : Nat) (v : Value) (s : List UInt8) (hm : s.length ≤ 140737488351232) (w : World) (h : Bytes n₀ w v s) (h0 : rdE s ≠ 0) :
    Calls Tryz.prog 19 #[v] w (RfBad w (rdE s)) := by
  obtain ⟨A, cap, rfl, hc, ht⟩ := h
  by_cases h10 : s.length < 10
  · rw [show rdE s = 11 from rd_short h10]; exact rf_11 A _ _ h10 w
  · obtain ⟨B, off, rfl, hb, ht⟩ := ht (by rintro rfl; simp at h10)
    have g0 := ht 0 (by omega)
    have g1 := ht 1 (by omega)
    rw [Nat.add_zero] at g0
    by_cases ha : at_ s 0 = 67
    · by_cases hb' : at_ s 1 = 70
      · by_cases h12 : 65536 < rdN s
        · rw [show rdE s = 12 by unfold rdE; rw [if_neg h10, if_neg (by omega), if_pos h12]]
          exact rf_12 n₀ B off cap s (rdN s) hm hc (by omega) ha hb' rfl h12 w hb ht
        · by_cases hl : s.length < 10 + rdN s
          · rw [show rdE s = 11 by unfold rdE; rw [if_neg h10, if_neg (by omega), if_neg h12, if_pos hl]]
            exact rf_11b n₀ B off cap s (rdN s) hm hc (by omega) ha hb' rfl (by omega) hl w hb ht
          · have hS : adl (rdB s) ≠ rdK s := by
              intro hS
              apply h0
              unfold rdE; rw [if_neg h10, if_neg (by omega), if_neg h12, if_neg hl, if_neg (by simpa using hS)]
            rw [show rdE s = 15 by unfold rdE; rw [if_neg h10, if_neg (by omega), if_neg h12, if_neg hl, if_pos hS]]
            by_cases hcap : 10 < cap
            · exact rf_151 n₀ B off cap s (rdN s) (rdK s) (adl (rdB s)) hm hc (by omega) hcap ha hb' rfl (by omega) (by omega) rfl rfl (ne_int _ _ hS) w hb ht
            · have hN : rdN s = 0 := by omega
              have hs : s.length = 10 := by omega
              have hcap : cap = 10 := by omega
              rw [hs, hcap]
              exact rf_150 n₀ B off s (rdK s) (adl (rdB s)) hs ha hb' hN rfl rfl (ne_int _ _ hS) w hb ht
      · rw [show rdE s = 10 by unfold rdE; rw [if_neg h10, if_pos (.inr hb')]]
        rw [ha] at g0
        exact rf_10b B off _ cap (at_ s 1) (by omega) hm w g0 g1 (ne_int _ 70 hb')
    · rw [show rdE s = 10 by unfold rdE; rw [if_neg h10, if_pos (.inl ha)]]
      exact rf_10a B off _ cap (at_ s 0) (by omega) hm w g0 (ne_int _ 67 ha)
end Go.Proofs.YtefgobmpleoafaaGreat

