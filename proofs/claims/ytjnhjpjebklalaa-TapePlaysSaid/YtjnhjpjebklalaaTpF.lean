/- TapeRoom: the law's walk. -/
import Derived.Test.YtjnhjpjebklalaaTpE
namespace Go.Proofs.Ytjnhjpjebklalaa
open Go.RowKit
variable {w w' : World} {S : Nat → Prop} {g : Nat} {T : Tp}

/-- A tape that isn't armed, nor down. -/
def pl (bs : List UInt8) (room : Int) (safe : Nat) : Tp := ⟨bs, room, safe, -1, false⟩
theorem pl_new (room : Int) : Tp.new room = pl [] room 0 := rfl
theorem pl_app {bs b : List UInt8} {room : Int} {safe : Nat} (h : (bs.length : Int) + b.length ≤ room) : (pl bs room safe).appE b = 0 ∧ (pl bs room safe).app b = pl (bs ++ b) room safe := by
  have h' : ¬ room - (bs.length : Int) < (b.length : Int) := by omega
  constructor
  · simp [Tp.appE, pl, h', Tp.spendE]
  · simp [Tp.app, pl, h', Tp.spent, Tp.more]
theorem pl_full {bs b : List UInt8} {room : Int} {safe : Nat} (h : room < (bs.length : Int) + b.length) : (pl bs room safe).appE b = 41 ∧ (pl bs room safe).app b = pl bs room safe := by
  have h' : room - (bs.length : Int) < (b.length : Int) := by omega
  constructor
  · simp [Tp.appE, pl, h']
  · simp [Tp.app, pl, h']
theorem pl_sync {bs : List UInt8} {room : Int} {safe : Nat} : (pl bs room safe).syncE = 0 ∧ (pl bs room safe).sync = pl bs room bs.length := by
  constructor
  · simp [Tp.syncE, pl, Tp.spendE]
  · simp [Tp.sync, pl, Tp.spent, Tp.kept]
theorem pl_trim {bs : List UInt8} {room : Int} {safe n : Nat} (h : n ≤ bs.length) : (pl bs room safe).trimE n = 0 ∧ (pl bs room safe).trim n = pl (bs.take n) room n := by
  have h1 : ¬ (n : Int) < 0 := by omega
  have h2 : ¬ (bs.length : Int) < (n : Int) := by omega
  constructor
  · simp [Tp.trimE, pl, h1, h2, Tp.spendE]
  · simp [Tp.trim, pl, h1, h2, Tp.spent, Tp.kept]
theorem zeros_len (n : Nat) : (List.replicate n (0 : UInt8)).length = n := by simp
/-- make([]byte, n), read as bytes whatever a tape does. -/
theorem made_bytes {w : World} {n : Nat} (hs : ∀ i, S i → i < w.heap.size) :
    ∀ w', Fr S (w.alloc (.cells (madeCells #[.int .u8 0] n) 5)) w' → Bytes (w.heap.size + 1) w' (.slice (some ⟨w.heap.size, 0, none⟩) n n) (List.replicate n 0) :=
  lit_bytes (by simp [made_cells, Lib.byteCells]) (by simp) hs
theorem make_run (n : Nat) (hn : n ≤ 140737488355328) : ∀ w : World, (Instr.makeSlice 27 (.int .i64 (n : Int)) (.int .i64 (n : Int))).run Try.prog w = .ok (.slice (some ⟨w.heap.size, 0, none⟩) n n) (w.alloc (.cells (madeCells #[Value.int .u8 0] n) 5)) := by
  obtain ⟨i0, hi, hz0, hz1, hz2⟩ := info_three info_u8
  exact run_make_row 27 5 i0 (.int .u8 0) Try.underlying27 hi hz0 hz1 rfl .i64 .i64 n (by rw [hz2]; omega) (by omega)

set_option maxRecDepth 100000 in
set_option maxHeartbeats 4000000 in
theorem tapeRoom_in (R N O : Nat) (hR : R ≤ 500) (hN : N ≤ 600) (hO : (O : Int) ≤ 9223372036854775807) (w : World) :
    Calls Try.prog 7 #[.int .i64 (R : Int), .int .i64 (N : Int), .int .i64 (O : Int)] w fun e w' => e = .returned (.bool true) ∧ Below w.heap.size w w' := by
  have i1 : ¬ (R : Int) < 0 := by omega
  have i2 : ¬ (500 : Int) < (R : Int) := by omega
  have i3 : ¬ (N : Int) < 0 := by omega
  have i4 : ¬ (600 : Int) < (N : Int) := by omega
  have i5 : ¬ (O : Int) < 0 := by omega
  have mk := make_run N (by omega)
  go_enter Try.func7, Try.ntmps7
  go_wp2_with fail
  refine (anchor12_any w).mono ?_
  rintro e w1 ⟨rfl, b1⟩
  have B1 := Lib.hid b1
  clear b1
  go_wp2_with fail
  refine (new_any (R : Int) (by omega) (by omega) w1).mono ?_
  rintro e w2 ⟨rfl, t2, b2⟩
  have B2 := Lib.hid (B1.out.trans (b2.mono B1.out.size))
  have B2a := Lib.hid (B2.out.alloc B2.out.size (.cells (madeCells #[.int .u8 0] N) 5))
  have A3 := append_any (n₀ := w2.heap.size + 1) (.slice (some ⟨w2.heap.size, 0, none⟩) N N) (List.replicate N 0) (made_bytes (fun i hi => (t2.old i hi).2)) (t2.alloc (.cells (madeCells #[.int .u8 0] N) 5))
  have L2 : Hid (∀ i, i = w1.heap.size → w.heap.size ≤ i) := Lib.hid fun i hi => by have := B1.out.size; omega
  rw [pl_new] at A3
  by_cases hn : R < N
  · obtain ⟨q1, q2⟩ := pl_full (bs := []) (b := List.replicate N 0) (room := (R : Int)) (safe := 0) (by simp; omega)
    rw [q1, q2] at A3
    have A3 := Lib.hid A3
    have hn' : (R : Int) < (N : Int) := by omega
    clear q1 q2 t2 b2
    go_wp2_with fail
    refine A3.out.mono ?_
    rintro e w3 ⟨rfl, S3, hs3, t3, f3⟩
    have B3 := Lib.hid (B2a.out.trans (f3.old B2a.out.size L2.out))
    have A4 := Lib.hid (room_any t3)
    have A5 : Hid (∀ w', Below w3.heap.size w3 w' → Calls Try.prog 12 #[.pointer (some ⟨w1.heap.size, 0, none⟩)] w' fun e w'' => ∃ v, e = .returned v ∧ Own w'' w'.heap.size v [] ∧ Below w'.heap.size w' w'') := Lib.hid fun w' hb => bytes_any (t3.on hb)
    clear f3 t3 hs3
    simp only [pl, List.length_nil, Int.natCast_zero, Int.sub_zero] at A4
    go_wp2_with fail
    refine A4.out.mono ?_
    rintro e w4 ⟨rfl, b4⟩
    have B4 := Lib.hid (B3.out.trans (b4.mono B3.out.size))
    have A6 := Lib.hid (A5.out w4 b4)
    clear b4 A5
    go_wp2_with fail
    refine A6.out.mono ?_
    rintro e w5 ⟨v5, rfl, o5, b5⟩
    obtain ⟨A, c, rfl⟩ := o5.one
    have B5 := Lib.hid (B4.out.trans (b5.mono B4.out.size))
    clear b5 o5
    go_wp2
    go_ret
    exact ⟨rfl, B5.out⟩
  · obtain ⟨q1, q2⟩ := pl_app (bs := []) (b := List.replicate N 0) (room := (R : Int)) (safe := 0) (by simp; omega)
    rw [q1, q2, List.nil_append] at A3
    have A3 := Lib.hid A3
    have hn' : ¬ (R : Int) < (N : Int) := by omega
    clear q1 q2 t2 b2
    go_wp2_with fail
    refine A3.out.mono ?_
    rintro e w3 ⟨rfl, S3, hs3, t3, f3⟩
    have B3 := Lib.hid (B2a.out.trans (f3.old B2a.out.size L2.out))
    have L3 : Hid (∀ i, S3 i → w.heap.size ≤ i) := Lib.hid fun i hi => (hs3 i hi).elim (L2.out i) (Nat.le_trans B2a.out.size)
    have A4 := Lib.hid (room_any t3)
    have T3 := Lib.hid t3
    clear f3 t3 hs3 A3
    simp only [pl, zeros_len] at A4
    obtain ⟨k, hk, hkl⟩ : ∃ k : Nat, (O : Int) % ((N : Int) + 1) = (k : Int) ∧ k ≤ N := ⟨O % (N + 1), by simp, by have := Nat.mod_lt O (show 0 < N + 1 by omega); omega⟩
    go_wp2_with fail
    refine A4.out.mono ?_
    rintro e w4 ⟨rfl, b4⟩
    have B4 := Lib.hid (B3.out.trans (b4.mono B3.out.size))
    have A5 := trim_any (k : Int) (T3.out.on b4)
    obtain ⟨q1, q2⟩ := pl_trim (bs := List.replicate N 0) (room := (R : Int)) (safe := 0) (n := k) (by simp; omega)
    rw [q1, q2, List.take_replicate, Nat.min_eq_left hkl] at A5
    have A5 := Lib.hid A5
    clear q1 q2 b4
    go_wp2_with fail
    refine A5.out.mono ?_
    rintro e w5 ⟨rfl, t5, f5⟩
    have B5 := Lib.hid (B4.out.trans (f5.old B4.out.size L3.out))
    have A6 := Lib.hid (room_any t5)
    have T5 := Lib.hid t5
    clear f5 t5
    simp only [pl, zeros_len] at A6
    obtain ⟨p, hp, hp2⟩ : ∃ p : Nat, (R : Int) - (k : Int) = (p : Int) ∧ p ≤ 500 := ⟨R - k, by omega, by omega⟩
    rw [hp] at A6
    have mk2 := make_run p (by omega)
    go_wp2_with fail
    refine A6.out.mono ?_
    rintro e w6 ⟨rfl, b6⟩
    have B6 := Lib.hid (B5.out.trans (b6.mono B5.out.size))
    have T6 := Lib.hid (T5.out.on b6)
    have A7 := Lib.hid (safe_any T6.out)
    simp only [pl] at A7
    clear b6
    go_wp2_with fail
    refine A7.out.mono ?_
    rintro e w7 ⟨rfl, rfl⟩
    have A8 := append_any (n₀ := w7.heap.size + 1) (.slice (some ⟨w7.heap.size, 0, none⟩) p p) (List.replicate p 0) (made_bytes (fun i hi => (T6.out.old i hi).2)) (T6.out.alloc (.cells (madeCells #[.int .u8 0] p) 5))
    have B7 := Lib.hid (B6.out.alloc B6.out.size (.cells (madeCells #[.int .u8 0] p) 5))
    obtain ⟨q1, q2⟩ := pl_app (bs := List.replicate k 0) (b := List.replicate p 0) (room := (R : Int)) (safe := k) (by simp; omega)
    rw [q1, q2] at A8
    have A8 := Lib.hid A8
    clear q1 q2
    go_wp2_with fail
    refine A8.out.mono ?_
    rintro e w8 ⟨rfl, S8, hs8, t8, f8⟩
    have B8 := Lib.hid (B7.out.trans (f8.old B7.out.size L3.out))
    have L8 : Hid (∀ i, S8 i → w.heap.size ≤ i) := Lib.hid fun i hi => (hs8 i hi).elim (L3.out i) (Nat.le_trans B7.out.size)
    have A9 := append_any (n₀ := w8.heap.size + 1) (.slice (some ⟨w8.heap.size, 0, none⟩) 1 1) [1] (lit_bytes (cs := #[.int .u8 1]) rfl rfl (fun i hi => (t8.old i hi).2)) (t8.alloc (.cells #[.int .u8 1] 5))
    have B9 := Lib.hid (B8.out.alloc B8.out.size (.cells #[.int .u8 1] 5))
    obtain ⟨q1, q2⟩ := pl_full (bs := List.replicate k 0 ++ List.replicate p 0) (b := [1]) (room := (R : Int)) (safe := k) (by simp; omega)
    rw [q1, q2] at A9
    have A9 := Lib.hid A9
    clear q1 q2 t8 f8 hs8
    go_wp2_with fail
    refine A9.out.mono ?_
    rintro e w9 ⟨rfl, S9, hs9, t9, f9⟩
    have B10 := Lib.hid (B9.out.trans (f9.old B9.out.size L8.out))
    clear f9 t9 hs9
    go_wp2
    go_ret
    exact ⟨rfl, B10.out⟩
set_option maxRecDepth 100000 in
theorem tapeRoom_out (a b c : Int) (h : a < 0 ∨ 500 < a ∨ b < 0 ∨ 600 < b ∨ c < 0) (w : World) :
    Calls Try.prog 7 #[.int .i64 a, .int .i64 b, .int .i64 c] w fun e w' => e = .returned (.bool true) ∧ Below w.heap.size w w' := by
  by_cases i1 : a < 0
  · go_enter Try.func7, Try.ntmps7
    go_wp2_with fail
    refine (anchor12_any w).mono ?_
    rintro e w1 ⟨rfl, hB1⟩
    go_wp2
    go_ret
    exact ⟨rfl, hB1⟩
  by_cases i2 : 500 < a
  · go_enter Try.func7, Try.ntmps7
    go_wp2_with fail
    refine (anchor12_any w).mono ?_
    rintro e w1 ⟨rfl, hB1⟩
    go_wp2
    go_ret
    exact ⟨rfl, hB1⟩
  by_cases i3 : b < 0
  · go_enter Try.func7, Try.ntmps7
    go_wp2_with fail
    refine (anchor12_any w).mono ?_
    rintro e w1 ⟨rfl, hB1⟩
    go_wp2
    go_ret
    exact ⟨rfl, hB1⟩
  by_cases i4 : 600 < b
  · go_enter Try.func7, Try.ntmps7
    go_wp2_with fail
    refine (anchor12_any w).mono ?_
    rintro e w1 ⟨rfl, hB1⟩
    go_wp2
    go_ret
    exact ⟨rfl, hB1⟩
  have i5 : c < 0 := by omega
  go_enter Try.func7, Try.ntmps7
  go_wp2_with fail
  refine (anchor12_any w).mono ?_
  rintro e w1 ⟨rfl, hB1⟩
  go_wp2
  go_ret
  exact ⟨rfl, hB1⟩
theorem tapeRoom_law (a b c : Int) (w : World) (ha : -9223372036854775808 ≤ a ∧ a ≤ 9223372036854775807) (hb : -9223372036854775808 ≤ b ∧ b ≤ 9223372036854775807) (hc : -9223372036854775808 ≤ c ∧ c ≤ 9223372036854775807) :
    Calls Try.prog 7 #[.int .i64 a, .int .i64 b, .int .i64 c] w fun e w' => e = .returned (.bool true) ∧ Below w.heap.size w w' := by
  by_cases h : a < 0 ∨ 500 < a ∨ b < 0 ∨ 600 < b ∨ c < 0
  · exact tapeRoom_out a b c h w
  · have h1 : ((a.toNat : Nat) : Int) = a := by omega
    have h2 : ((b.toNat : Nat) : Int) = b := by omega
    have h3 : ((c.toNat : Nat) : Int) = c := by omega
    have := tapeRoom_in a.toNat b.toNat c.toNat (by omega) (by omega) (by omega) w
    rwa [h1, h2, h3] at this
end Go.Proofs.Ytjnhjpjebklalaa
