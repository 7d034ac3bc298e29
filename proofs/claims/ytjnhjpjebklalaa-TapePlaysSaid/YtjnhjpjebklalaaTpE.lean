/- The laws' anchor. -/
import Derived.Test.YtjnhjpjebklalaaTpD
namespace Go.Proofs.Ytjnhjpjebklalaa
open Go.RowKit
variable {w w' : World} {S : Nat → Prop} {g : Nat} {T : Tp}

theorem lit_bytes {w : World} {cs : Array Value} {s : List UInt8} {n : Nat} (hc : cs.toList = Lib.byteCells s) (hn : n = s.length) (hs : ∀ i, S i → i < w.heap.size) :
    ∀ w', Fr S (w.alloc (.cells cs 5)) w' → Bytes (w.heap.size + 1) w' (.slice (some ⟨w.heap.size, 0, none⟩) n n) s := by
  subst hn
  intro w' hf
  have hb : Blk w' w.heap.size 5 cs := hf.blk (Blk.new w 5 cs) (fun e => by have := hs _ e; omega)
  refine ⟨_, s.length, rfl, Nat.le_refl _, fun _ => ⟨w.heap.size, 0, rfl, by omega, fun j hj => ?_⟩⟩
  rw [Nat.zero_add, hb.cell j, ← byteCells_get hj, ← hc]
  simp
def aT1 : Tp := (Tp.new 10).app [1, 2, 3]
def aT2 : Tp := aT1.sync
def aT3 : Tp := aT2.app [4, 5]
def aT4 : Tp := aT3.crash 1 [240]
set_option maxRecDepth 100000 in
set_option maxHeartbeats 4000000 in
theorem anchor12_any (w : World) : Calls Try.prog 8 #[] w fun e w' => e = .returned (.bool true) ∧ Below w.heap.size w w' := by
  go_enter Try.func8, Try.ntmps8
  go_wp2_with fail
  refine (new_any 10 (by decide) (by decide) w).mono ?_
  rintro e w1 ⟨rfl, t1, b1⟩
  have A1 := append_any (n₀ := w1.heap.size + 1) (.slice (some ⟨w1.heap.size, 0, none⟩) 3 3) [1, 2, 3] (lit_bytes (cs := #[.int .u8 1, .int .u8 2, .int .u8 3]) rfl rfl (fun i hi => (t1.old i hi).2)) (t1.alloc (.cells #[.int .u8 1, .int .u8 2, .int .u8 3] 5))
  rw [show (Tp.new 10).appE [1, 2, 3] = 0 by decide] at A1
  have A1 := Lib.hid A1
  have W1 := Lib.hid (b1.alloc b1.size (.cells #[.int .u8 1, .int .u8 2, .int .u8 3] 5))
  have L1 : ∀ i, i = w.heap.size → w.heap.size ≤ i := fun i hi => by omega
  clear b1 t1
  go_wp2_with fail
  refine A1.out.mono ?_
  rintro e w2 ⟨rfl, S2, hs2, t2, f2⟩
  have W2 := Lib.hid (W1.out.trans (f2.old W1.out.size L1))
  have L2 : ∀ i, S2 i → w.heap.size ≤ i := fun i hi => by have := hs2 i hi; have := W1.out.size; omega
  have A2 := sync_any t2
  rw [show Tp.syncE ((Tp.new 10).app [1, 2, 3]) = 0 by decide] at A2
  have A2 := Lib.hid A2
  clear f2 t2 hs2 L1
  go_wp2_with fail
  refine A2.out.mono ?_
  rintro e w3 ⟨rfl, t3, f3⟩
  have W3 := Lib.hid (W2.out.trans (f3.old W2.out.size L2))
  have A3 := append_any (n₀ := w3.heap.size + 1) (.slice (some ⟨w3.heap.size, 0, none⟩) 2 2) [4, 5] (lit_bytes (cs := #[.int .u8 4, .int .u8 5]) rfl rfl (fun i hi => (t3.old i hi).2)) (t3.alloc (.cells #[.int .u8 4, .int .u8 5] 5))
  rw [show Tp.appE (Tp.sync ((Tp.new 10).app [1, 2, 3])) [4, 5] = 0 by decide] at A3
  have A3 := Lib.hid A3
  have W4 := Lib.hid (W3.out.alloc W3.out.size (.cells #[.int .u8 4, .int .u8 5] 5))
  clear f3 t3
  go_wp2_with fail
  refine A3.out.mono ?_
  rintro e w4 ⟨rfl, S4, hs4, t4, f4⟩
  have W5 := Lib.hid (W4.out.trans (f4.old W4.out.size L2))
  have L4 : ∀ i, S4 i → w.heap.size ≤ i := fun i hi => (hs4 i hi).elim (L2 i) (Nat.le_trans W4.out.size)
  have A4 := Lib.hid (crash_any (n₀ := w4.heap.size + 1) 1 (.slice (some ⟨w4.heap.size, 0, none⟩) 1 1) [240] (by decide) (lit_bytes (cs := #[.int .u8 240]) rfl rfl (fun i hi => (t4.old i hi).2)) (t4.alloc (.cells #[.int .u8 240] 5)))
  have W6 := Lib.hid (W5.out.alloc W5.out.size (.cells #[.int .u8 240] 5))
  clear f4 t4 hs4 L2
  go_wp2_with fail
  refine A4.out.mono ?_
  rintro e w5 ⟨rfl, t5, f5⟩
  have W7 := Lib.hid (W6.out.trans (f5.old W6.out.size L4))
  clear f5 L4
  have A5 := Lib.hid (bytes_any t5)
  go_wp2_with fail
  refine A5.out.mono ?_
  rintro e w6 ⟨v6, rfl, o6, b6⟩
  have W8 := Lib.hid (W7.out.trans (b6.mono W7.out.size))
  have t6 := t5.on b6
  rw [show (Tp.crash (Tp.app (Tp.sync ((Tp.new 10).app [1, 2, 3])) [4, 5]) 1 [240]).bs = [1, 2, 3, 244] by decide] at o6
  have A6 := safe_any t6
  rw [show (Tp.crash (Tp.app (Tp.sync ((Tp.new 10).app [1, 2, 3])) [4, 5]) 1 [240]).safe = 4 by decide] at A6
  have A6 := Lib.hid A6
  have A7 := room_any t6
  rw [show (Tp.crash (Tp.app (Tp.sync ((Tp.new 10).app [1, 2, 3])) [4, 5]) 1 [240]).room - ((Tp.crash (Tp.app (Tp.sync ((Tp.new 10).app [1, 2, 3])) [4, 5]) 1 [240]).bs.length : Int) = 6 by decide] at A7
  have A7 := Lib.hid A7
  obtain ⟨A, c, rfl⟩ := o6.one
  have hs : (convert 27 9 (.slice A 4 c)).run Try.prog w6 = .ok (.string ⟨#[1, 2, 3, 244]⟩) w6 := run_string_bytes o6.bytes
  clear b6 t5 t6 o6
  go_wp2_with fail
  refine A6.out.mono ?_
  rintro e w7 ⟨rfl, rfl⟩
  go_wp2_with fail
  refine A7.out.mono ?_
  rintro e w8 ⟨rfl, b8⟩
  have W9 := Lib.hid (W8.out.trans (b8.mono W8.out.size))
  go_wp2
  go_ret
  exact ⟨rfl, W9.out⟩
end Go.Proofs.Ytjnhjpjebklalaa
