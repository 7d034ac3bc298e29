/- TapeKeeps: the law's walk. -/
import Derived.Test.YtjnhjpjebklalaaTpF
namespace Go.Proofs.Ytjnhjpjebklalaa
open Go.RowKit
variable {w w' : World} {S : Nat → Prop} {g : Nat} {T : Tp}

theorem xo_at (b t : List UInt8) (r k : Nat) (hk : k < r) (hb : k < b.length) (a : List UInt8) : at_ (a ++ xo (b.take r) t) (a.length + k) = (b[k] ^^^ t.getD k 0).toNat := by
  simp only [at_, List.getD_eq_getElem?_getD]
  rw [List.getElem?_append_right (by omega), show a.length + k - a.length = k by omega]
  simp [xo, hk, hb]
theorem pl_crash {bs : List UInt8} {room : Int} {safe : Nat} {keep : Int} {t : List UInt8} :
    (pl bs room safe).crash keep t = pl (bs.take safe ++ xo ((bs.drop safe).take (min keep.toNat (bs.length - safe))) t) room (safe + min keep.toNat (bs.length - safe)) := rfl
set_option maxRecDepth 100000 in
set_option maxHeartbeats 8000000 in
theorem tapeKeeps_in (va vb vt : Value) (a b t : List UInt8) (keep : Int) (w : World) (hA : a.length ≤ 300) (hB : b.length ≤ 300) (hT : t.length ≤ 300) (ha : Bytes w.heap.size w va a) (hb : Bytes w.heap.size w vb b) (ht : Bytes w.heap.size w vt t) :
    Calls Try.prog 4 #[va, vb, .int .i64 keep, vt] w fun e w' => e = .returned (.bool true) ∧ Below w.heap.size w w' := by
  have HA := Lib.hid ha
  have HB := Lib.hid hb
  have HT := Lib.hid ht
  obtain ⟨Aa, ca, rfl, _, _⟩ := ha
  obtain ⟨Ab, cb, rfl, _, _⟩ := hb
  obtain ⟨At, ct, rfl, _, _⟩ := ht
  obtain ⟨la, hla⟩ : ∃ n, n = a.length := ⟨_, rfl⟩
  obtain ⟨lb, hlb⟩ : ∃ n, n = b.length := ⟨_, rfl⟩
  obtain ⟨lt, hlt⟩ : ∃ n, n = t.length := ⟨_, rfl⟩
  obtain ⟨k0, hk0⟩ : ∃ k0, k0 = keep.toNat := ⟨_, rfl⟩
  obtain ⟨r, hr⟩ : ∃ r, r = min k0 lb := ⟨_, rfl⟩
  rw [← hla] at HA hA ⊢
  rw [← hlb] at HB hB ⊢
  rw [← hlt] at HT hT ⊢
  have NA := Lib.hid hla
  have NB := Lib.hid hlb
  have NT := Lib.hid hlt
  have NK := Lib.hid hk0
  have NR := Lib.hid hr
  have m1 : max keep 0 = (k0 : Int) := by omega
  have m2 : min (k0 : Int) (lb : Int) = (r : Int) := by omega
  have i1 : ¬ (300 : Int) < (la : Int) := by omega
  have i2 : ¬ (300 : Int) < (lb : Int) := by omega
  have i3 : ¬ (300 : Int) < (lt : Int) := by omega
  have hrb : r ≤ lb := by omega
  clear hla hlb hlt hk0 hr
  go_enter Try.func4, Try.ntmps4
  go_wp2_with fail
  refine (anchor12_any w).mono ?_
  rintro e w1 ⟨rfl, b1⟩
  have B1 := Lib.hid b1
  clear b1
  go_wp2_with fail
  refine (new_any 1000 (by decide) (by decide) w1).mono ?_
  rintro e w2 ⟨rfl, t2, b2⟩
  have B2 := Lib.hid (B1.out.trans (b2.mono B1.out.size))
  have L2 : Hid (∀ i, i = w1.heap.size → w.heap.size ≤ i) := Lib.hid fun i hi => by have := B1.out.size; omega
  have A3 := append_any (n₀ := w.heap.size) (.slice Aa la ca) a (fun w' hf => HA.out.below (B2.out.trans (hf.old B2.out.size L2.out))) t2
  obtain ⟨q1, q2⟩ := pl_app (bs := []) (b := a) (room := 1000) (safe := 0) (by rw [List.length_nil, ← NA.out]; omega)
  rw [pl_new, q1, q2, List.nil_append] at A3
  have A3 := Lib.hid A3
  clear q1 q2 t2 b2
  go_wp2_with fail
  refine A3.out.mono ?_
  rintro e w3 ⟨rfl, S3, hs3, t3, f3⟩
  have B3 := Lib.hid (B2.out.trans (f3.old B2.out.size L2.out))
  have L3 : Hid (∀ i, S3 i → w.heap.size ≤ i) := Lib.hid fun i hi => (hs3 i hi).elim (L2.out i) (Nat.le_trans B2.out.size)
  have A4 := sync_any t3
  rw [pl_sync.1, pl_sync.2, ← NA.out] at A4
  have A4 := Lib.hid A4
  clear t3 hs3 f3 A3
  go_wp2_with fail
  refine A4.out.mono ?_
  rintro e w4 ⟨rfl, t4, f4⟩
  have B4 := Lib.hid (B3.out.trans (f4.old B3.out.size L3.out))
  have A5 := append_any (n₀ := w.heap.size) (.slice Ab lb cb) b (fun w' hf => HB.out.below (B4.out.trans (hf.old B4.out.size L3.out))) t4
  obtain ⟨q1, q2⟩ := pl_app (bs := a) (b := b) (room := 1000) (safe := la) (by rw [← NA.out, ← NB.out]; omega)
  rw [q1, q2] at A5
  have A5 := Lib.hid A5
  clear q1 q2 t4 f4 A4
  go_wp2_with fail
  refine A5.out.mono ?_
  rintro e w5 ⟨rfl, S5, hs5, t5, f5⟩
  have B5 := Lib.hid (B4.out.trans (f5.old B4.out.size L3.out))
  have L5 : Hid (∀ i, S5 i → w.heap.size ≤ i) := Lib.hid fun i hi => (hs5 i hi).elim (L3.out i) (Nat.le_trans B4.out.size)
  have A6 := crash_any (n₀ := w.heap.size) keep (.slice At lt ct) t (by rw [← NT.out]; omega) (fun w' hf => HT.out.below (B5.out.trans (hf.old B5.out.size L5.out))) t5
  obtain ⟨C, hC⟩ : ∃ C, C = a ++ xo (b.take r) t := ⟨_, rfl⟩
  have hCl : C.length = la + r := by rw [hC, List.length_append, xo_len, List.length_take, ← NA.out, ← NB.out]; omega
  have e6 : (pl (a ++ b) 1000 la).crash keep t = pl C 1000 (la + r) := by
    rw [pl_crash, List.length_append, ← NA.out, ← NB.out, show la + lb - la = lb by omega, ← NK.out, ← NR.out, hC]
    congr 1
    rw [NA.out, List.take_left, List.drop_left]
  rw [e6] at A6
  have A6 := Lib.hid A6
  have HC := Lib.hid hC
  have HCL := Lib.hid hCl
  clear t5 f5 hs5 A5 e6 hC hCl
  go_wp2_with fail
  refine A6.out.mono ?_
  rintro e w6 ⟨rfl, t6, f6⟩
  have B6 := Lib.hid (B5.out.trans (f6.old B5.out.size L5.out))
  have A7 := bytes_at t6
  rw [show (pl C 1000 (la + r)).bs = C from rfl, HCL.out] at A7
  have A7 := Lib.hid A7
  have T6 := Lib.hid t6
  clear t6 f6 A6
  go_wp2_with fail
  refine A7.out.mono ?_
  rintro e w7 ⟨rfl, o7, b7⟩
  have B7 := Lib.hid (B6.out.trans (b7.mono B6.out.size))
  have T7 := Lib.hid (T6.out.on b7)
  have O7 := Lib.hid o7
  have GC : Hid (∀ i, S5 i → i ≠ w6.heap.size) := Lib.hid fun i hi e => by
    have h1 := (T6.out.old i hi).2
    omega
  have G7 : Hid (w.heap.size ≤ w6.heap.size ∧ w6.heap.size < w7.heap.size) := Lib.hid ⟨B6.out.size, (o7.lt _ rfl).2⟩
  generalize w6.heap.size = gc at *
  obtain ⟨sa, hsa⟩ : ∃ sa : ByteArray, sa = ⟨a.toArray⟩ := ⟨_, rfl⟩
  have q1 : ∀ n, (convert 27 9 (.slice (some ⟨gc, 0, none⟩) la (la + r))).run Try.prog (w7.drewN n) = .ok (.string sa) (w7.drewN n) := fun n => by
    have h1 := (O7.out.take (n := la) (by rw [HCL.out]; omega)).below (Below.drewN' (Below.refl _ w7) n)
    have := run_string_bytes h1.bytes
    rw [HC.out, List.take_append_of_le_length (by rw [← NA.out]; omega), List.take_of_length_le (by rw [← NA.out]; omega)] at this
    rw [hsa]
    exact this
  have q2 : ∀ n, (convert 27 9 (.slice Aa la ca)).run Try.prog (w7.drewN n) = .ok (.string sa) (w7.drewN n) := fun n => by
    rw [hsa]
    exact run_string_bytes (HA.out.below (Below.drewN' B7.out n))
  have q3 : ((la + r : Nat) : Int) = (la : Int) + (r : Int) := by omega
  have A8 : Hid (∀ n, Calls Try.prog 13 #[.pointer (some ⟨w1.heap.size, 0, none⟩)] (w7.drewN n) fun e w' => e = .returned (.int .i64 ((la : Int) + (r : Int))) ∧ w' = w7.drewN n) := Lib.hid fun n => by
    have := safe_any (T7.out.on (Below.drewN' (Below.refl _ w7) n))
    rw [← q3]
    exact this
  clear o7 b7 hsa A7 q3
  go_wp2_with fail
  go_quiet ((go_at_call 13; exact Calls.quiet_of_same (A8.out _)))
  have B8 : Hid (Below w.heap.size w (w7.drewN nq)) := Lib.hid (Below.drewN' B7.out nq)
  have T8 := Lib.hid (T7.out.on (Below.drewN' (Below.refl _ w7) nq))
  have O8 := Lib.hid (O7.out.below (Below.drewN' (Below.refl _ w7) nq))
  have G8 : Hid (w.heap.size ≤ gc ∧ gc < (w7.drewN nq).heap.size) := Lib.hid G7.out
  generalize w7.drewN nq = w8 at *
  clear A8 q1 q2
  go_wp2
  go_loopw [84] (fun i wr => ∃ k : Nat, k ≤ r ∧ i = .int .i64 k ∧ Hid (Below w8.heap.size w8 wr)) (fun i _ => r - (intOf i).toNat)
  case atStart => exact ⟨0, Nat.zero_le _, rfl, Lib.hid (Below.refl _ _)⟩
  case round =>
    obtain ⟨k, hk, rfl, HD⟩ := hrel
    by_cases hkr : k < r
    · have hkb : k < b.length := by rw [← NB.out]; omega
      have c1 : wr.cell? ⟨gc, la + k, none⟩ = some (.int .u8 ((at_ C (la + k) : Nat) : Int)) := (O8.out.below HD.out).at_ HCL.out (by omega)
      have c2 : ∃ bb ob, Ab = some ⟨bb, ob, none⟩ ∧ bb < w.heap.size ∧ wr.cell? ⟨bb, ob + k, none⟩ = some (.int .u8 ((at_ b k : Nat) : Int)) := by
        obtain ⟨A', c', hv, _, hcc⟩ := HB.out.below (B8.out.trans (HD.out.mono B8.out.size))
        injection hv with h1 h2 h3
        obtain ⟨bb, ob, h4, h5, h6⟩ := hcc (by rintro rfl; simp at hkb)
        exact ⟨bb, ob, by rw [h1, h4], h5, h6 k hkb⟩
      obtain ⟨bb, ob, rfl, h2b, c2⟩ := c2
      have e1 : at_ C (la + k) = (b[k] ^^^ t.getD k 0).toNat := by rw [HC.out, NA.out]; exact xo_at b t r k hkr hkb a
      by_cases hkt : k < lt
      · have hkt' : k < t.length := by rw [← NT.out]; exact hkt
        have c3 : ∃ bt ot, At = some ⟨bt, ot, none⟩ ∧ bt < w.heap.size ∧ wr.cell? ⟨bt, ot + k, none⟩ = some (.int .u8 ((at_ t k : Nat) : Int)) := by
          obtain ⟨A', c', hv, _, hcc⟩ := HT.out.below (B8.out.trans (HD.out.mono B8.out.size))
          injection hv with h1 h2 h3
          obtain ⟨bt, ot, h4, h5, h6⟩ := hcc (by rintro rfl; simp at hkt')
          exact ⟨bt, ot, by rw [h1, h4], h5, h6 k hkt'⟩
        obtain ⟨bt, ot, rfl, h3b, c3⟩ := c3
        have x5 : bits .xor .u8 ((at_ b k : Nat) : Int) ((at_ t k : Nat) : Int) = ((at_ C (la + k) : Nat) : Int) := by
          rw [e1, at_get _ _ hkb, at_get _ _ hkt', show t.getD k 0 = t[k] by simp [hkt']]
          exact xor_uu _ _
        have y1 := at_lt C (la + k)
        have y2 := at_lt b k
        have y3 := at_lt t k
        generalize at_ C (la + k) = z1 at *
        generalize at_ b k = z2 at *
        generalize at_ t k = z3 at *
        clear e1 hkb hkt'
        have C1 : Hid (∀ w', Below wr.heap.size wr w' → w'.cell? ⟨gc, la + k, none⟩ = some (.int .u8 ((z1 : Nat) : Int))) := Lib.hid fun w' hb => (hb.cell (p := ⟨gc, la + k, none⟩) (Nat.lt_of_lt_of_le G8.out.2 HD.out.size)).trans c1
        have C2 : Hid (∀ w', Below wr.heap.size wr w' → w'.cell? ⟨bb, ob + k, none⟩ = some (.int .u8 ((z2 : Nat) : Int))) := Lib.hid fun w' hb => (hb.cell (p := ⟨bb, ob + k, none⟩) (Nat.lt_of_lt_of_le h2b (Nat.le_trans B8.out.size HD.out.size))).trans c2
        have C3 : Hid (∀ w', Below wr.heap.size wr w' → w'.cell? ⟨bt, ot + k, none⟩ = some (.int .u8 ((z3 : Nat) : Int))) := Lib.hid fun w' hb => (hb.cell (p := ⟨bt, ot + k, none⟩) (Nat.lt_of_lt_of_le h3b (Nat.le_trans B8.out.size HD.out.size))).trans c3
        clear c1 c2 c3 h2b h3b
        go_wp2
        refine wp_region_held_drew (S := fun w' => Below wr.heap.size wr w') (by kernel_rfl) (Below.drewN' (Below.refl _ wr) 1) (fun hHeld => ?_)
        refine take_d 0 87 (.int .i64 (k : Int)) _ rfl rfl (by kernel_rfl) (by kernel_rfl) (by kernel_rfl) (fun _ _ _ h => h) (Or.inl ⟨by rfl, fun w' hSw => ?_⟩) hHeld ?_
        · go_simp
        simp only [List.setIfInBounds_toArray, List.set_cons_zero, List.set_cons_succ]
        refine take_d 1 88 (.slice (some ⟨bt, ot, none⟩) lt ct) _ rfl rfl (by kernel_rfl) (by kernel_rfl) (by kernel_rfl) (fun _ _ _ h => h) (Or.inl ⟨by rfl, fun w' hSw => ?_⟩) hHeld ?_
        · go_simp
        simp only [List.setIfInBounds_toArray, List.set_cons_zero, List.set_cons_succ]
        refine take_d 2 89 (.int .i64 (lt : Int)) _ rfl rfl (by kernel_rfl) (by kernel_rfl) (by kernel_rfl) (fun _ _ _ h => h) (Or.inl ⟨by rfl, fun w' hSw => ?_⟩) hHeld ?_
        · go_simp
        simp only [List.setIfInBounds_toArray, List.set_cons_zero, List.set_cons_succ]
        refine take_d 3 90 (.bool false) _ rfl rfl (by kernel_rfl) (by kernel_rfl) (by kernel_rfl) (fun _ _ _ h => h) (Or.inl ⟨by rfl, fun w' hSw => ?_⟩) hHeld ?_
        · have z7 : ¬ (lt : Int) ≤ (k : Int) := by omega
          go_simp
        simp only [List.setIfInBounds_toArray, List.set_cons_zero, List.set_cons_succ]
        refine take_d 4 91 (.bool false) _ rfl rfl (by kernel_rfl) (by kernel_rfl) (by kernel_rfl) (fun _ _ _ h => h) (Or.inl ⟨by rfl, fun w' hSw => ?_⟩) hHeld ?_
        · go_simp
        simp only [List.setIfInBounds_toArray, List.set_cons_zero, List.set_cons_succ]
        refine take_d 5 92 undef _ rfl rfl (by kernel_rfl) (by kernel_rfl) (by kernel_rfl) (fun _ _ _ h => h) (Or.inr ⟨by rfl, rfl⟩) hHeld ?_
        simp only [List.setIfInBounds_toArray, List.set_cons_zero, List.set_cons_succ]
        refine take_d 6 93 undef _ rfl rfl (by kernel_rfl) (by kernel_rfl) (by kernel_rfl) (fun _ _ _ h => h) (Or.inr ⟨by rfl, rfl⟩) hHeld ?_
        simp only [List.setIfInBounds_toArray, List.set_cons_zero, List.set_cons_succ]
        refine take_d 7 94 undef _ rfl rfl (by kernel_rfl) (by kernel_rfl) (by kernel_rfl) (fun _ _ _ h => h) (Or.inr ⟨by rfl, rfl⟩) hHeld ?_
        simp only [List.setIfInBounds_toArray, List.set_cons_zero, List.set_cons_succ]
        refine take_d 8 95 undef _ rfl rfl (by kernel_rfl) (by kernel_rfl) (by kernel_rfl) (fun _ _ _ h => h) (Or.inr ⟨by rfl, rfl⟩) hHeld ?_
        simp only [List.setIfInBounds_toArray, List.set_cons_zero, List.set_cons_succ]
        refine take_d 9 96 undef _ rfl rfl (by kernel_rfl) (by kernel_rfl) (by kernel_rfl) (fun _ _ _ h => h) (Or.inr ⟨by rfl, rfl⟩) hHeld ?_
        simp only [List.setIfInBounds_toArray, List.set_cons_zero, List.set_cons_succ]
        refine take_d 10 97 undef _ rfl rfl (by kernel_rfl) (by kernel_rfl) (by kernel_rfl) (fun _ _ _ h => h) (Or.inr ⟨by rfl, rfl⟩) hHeld ?_
        simp only [List.setIfInBounds_toArray, List.set_cons_zero, List.set_cons_succ]
        refine take_d 11 98 undef _ rfl rfl (by kernel_rfl) (by kernel_rfl) (by kernel_rfl) (fun _ _ _ h => h) (Or.inr ⟨by rfl, rfl⟩) hHeld ?_
        simp only [List.setIfInBounds_toArray, List.set_cons_zero, List.set_cons_succ]
        refine take_d 12 99 undef _ rfl rfl (by kernel_rfl) (by kernel_rfl) (by kernel_rfl) (fun _ _ _ h => h) (Or.inr ⟨by rfl, rfl⟩) hHeld ?_
        simp only [List.setIfInBounds_toArray, List.set_cons_zero, List.set_cons_succ]
        refine take_d 13 100 undef _ rfl rfl (by kernel_rfl) (by kernel_rfl) (by kernel_rfl) (fun _ _ _ h => h) (Or.inr ⟨by rfl, rfl⟩) hHeld ?_
        simp only [List.setIfInBounds_toArray, List.set_cons_zero, List.set_cons_succ]
        refine take_d 14 101 undef _ rfl rfl (by kernel_rfl) (by kernel_rfl) (by kernel_rfl) (fun _ _ _ h => h) (Or.inr ⟨by rfl, rfl⟩) hHeld ?_
        simp only [List.setIfInBounds_toArray, List.set_cons_zero, List.set_cons_succ]
        refine take_d 15 102 undef _ rfl rfl (by kernel_rfl) (by kernel_rfl) (by kernel_rfl) (fun _ _ _ h => h) (Or.inr ⟨by rfl, rfl⟩) hHeld ?_
        simp only [List.setIfInBounds_toArray, List.set_cons_zero, List.set_cons_succ]
        refine take_d 16 103 undef _ rfl rfl (by kernel_rfl) (by kernel_rfl) (by kernel_rfl) (fun _ _ _ h => h) (Or.inr ⟨by rfl, rfl⟩) hHeld ?_
        simp only [List.setIfInBounds_toArray, List.set_cons_zero, List.set_cons_succ]
        refine take_d 17 104 (.bool false) _ rfl rfl (by kernel_rfl) (by kernel_rfl) (by kernel_rfl) (fun _ _ _ h => h) (Or.inl ⟨by rfl, fun w' hSw => ?_⟩) hHeld ?_
        · go_simp
        simp only [List.setIfInBounds_toArray, List.set_cons_zero, List.set_cons_succ]
        refine take_d 18 105 (.bool false) _ rfl rfl (by kernel_rfl) (by kernel_rfl) (by kernel_rfl) (fun _ _ _ h => h) (Or.inl ⟨by rfl, fun w' hSw => ?_⟩) hHeld ?_
        · go_simp
        simp only [List.setIfInBounds_toArray, List.set_cons_zero, List.set_cons_succ]
        refine take_d 19 106 (.int .i64 (k : Int)) _ rfl rfl (by kernel_rfl) (by kernel_rfl) (by kernel_rfl) (fun _ _ _ h => h) (Or.inl ⟨by rfl, fun w' hSw => ?_⟩) hHeld ?_
        · go_simp
        simp only [List.setIfInBounds_toArray, List.set_cons_zero, List.set_cons_succ]
        refine take_d 20 107 (.slice (some ⟨bt, ot, none⟩) lt ct) _ rfl rfl (by kernel_rfl) (by kernel_rfl) (by kernel_rfl) (fun _ _ _ h => h) (Or.inl ⟨by rfl, fun w' hSw => ?_⟩) hHeld ?_
        · go_simp
        simp only [List.setIfInBounds_toArray, List.set_cons_zero, List.set_cons_succ]
        refine take_d 21 108 (.int .i64 (lt : Int)) _ rfl rfl (by kernel_rfl) (by kernel_rfl) (by kernel_rfl) (fun _ _ _ h => h) (Or.inl ⟨by rfl, fun w' hSw => ?_⟩) hHeld ?_
        · go_simp
        simp only [List.setIfInBounds_toArray, List.set_cons_zero, List.set_cons_succ]
        refine take_d 22 109 (.bool true) _ rfl rfl (by kernel_rfl) (by kernel_rfl) (by kernel_rfl) (fun _ _ _ h => h) (Or.inl ⟨by rfl, fun w' hSw => ?_⟩) hHeld ?_
        · have z7 : (k : Int) < (lt : Int) := by omega
          go_simp
        simp only [List.setIfInBounds_toArray, List.set_cons_zero, List.set_cons_succ]
        refine take_d 23 110 (.bool true) _ rfl rfl (by kernel_rfl) (by kernel_rfl) (by kernel_rfl) (fun _ _ _ h => h) (Or.inl ⟨by rfl, fun w' hSw => ?_⟩) hHeld ?_
        · go_simp
        simp only [List.setIfInBounds_toArray, List.set_cons_zero, List.set_cons_succ]
        refine take_d 24 111 (.slice (some ⟨gc, 0, none⟩) (la + r) (la + r)) _ rfl rfl (by kernel_rfl) (by kernel_rfl) (by kernel_rfl) (fun _ _ _ h => h) (Or.inl ⟨by rfl, fun w' hSw => ?_⟩) hHeld ?_
        · go_simp
        simp only [List.setIfInBounds_toArray, List.set_cons_zero, List.set_cons_succ]
        refine take_d 25 112 (.slice Aa la ca) _ rfl rfl (by kernel_rfl) (by kernel_rfl) (by kernel_rfl) (fun _ _ _ h => h) (Or.inl ⟨by rfl, fun w' hSw => ?_⟩) hHeld ?_
        · go_simp
        simp only [List.setIfInBounds_toArray, List.set_cons_zero, List.set_cons_succ]
        refine take_d 26 113 (.int .i64 (la : Int)) _ rfl rfl (by kernel_rfl) (by kernel_rfl) (by kernel_rfl) (fun _ _ _ h => h) (Or.inl ⟨by rfl, fun w' hSw => ?_⟩) hHeld ?_
        · go_simp
        simp only [List.setIfInBounds_toArray, List.set_cons_zero, List.set_cons_succ]
        refine take_d 27 114 (.int .i64 (k : Int)) _ rfl rfl (by kernel_rfl) (by kernel_rfl) (by kernel_rfl) (fun _ _ _ h => h) (Or.inl ⟨by rfl, fun w' hSw => ?_⟩) hHeld ?_
        · go_simp
        simp only [List.setIfInBounds_toArray, List.set_cons_zero, List.set_cons_succ]
        refine take_d 28 115 (.int .i64 ((la : Int) + (k : Int))) _ rfl rfl (by kernel_rfl) (by kernel_rfl) (by kernel_rfl) (fun _ _ _ h => h) (Or.inl ⟨by rfl, fun w' hSw => ?_⟩) hHeld ?_
        · have z7 : IntKind.i64.wrap ((la : Int) + (k : Int)) = (la : Int) + (k : Int) := IntWalk.i64_in _ (by omega)
          go_simp
        simp only [List.setIfInBounds_toArray, List.set_cons_zero, List.set_cons_succ]
        refine take_d 29 116 (.pointer (some ⟨gc, la + k, none⟩)) _ rfl rfl (by kernel_rfl) (by kernel_rfl) (by kernel_rfl) (fun _ _ _ h => h) (Or.inl ⟨by rfl, fun w' hSw => ?_⟩) hHeld ?_
        · have z9 : ((la : Int) + (k : Int)).toNat = la + k := by omega
          have z8 : (0 : Int) ≤ (la : Int) + (k : Int) := by omega
          go_simp
        simp only [List.setIfInBounds_toArray, List.set_cons_zero, List.set_cons_succ]
        refine take_d 30 117 (.int .u8 ((z1 : Nat) : Int)) _ rfl rfl (by kernel_rfl) (by kernel_rfl) (by kernel_rfl) (fun _ _ _ h => h) (Or.inl ⟨by rfl, fun w' hSw => ?_⟩) hHeld ?_
        · have q := C1.out _ hSw
          go_simp
        simp only [List.setIfInBounds_toArray, List.set_cons_zero, List.set_cons_succ]
        refine take_d 31 118 (.slice (some ⟨bb, ob, none⟩) lb cb) _ rfl rfl (by kernel_rfl) (by kernel_rfl) (by kernel_rfl) (fun _ _ _ h => h) (Or.inl ⟨by rfl, fun w' hSw => ?_⟩) hHeld ?_
        · go_simp
        simp only [List.setIfInBounds_toArray, List.set_cons_zero, List.set_cons_succ]
        refine take_d 32 119 (.int .i64 (k : Int)) _ rfl rfl (by kernel_rfl) (by kernel_rfl) (by kernel_rfl) (fun _ _ _ h => h) (Or.inl ⟨by rfl, fun w' hSw => ?_⟩) hHeld ?_
        · go_simp
        simp only [List.setIfInBounds_toArray, List.set_cons_zero, List.set_cons_succ]
        refine take_d 33 120 (.pointer (some ⟨bb, ob + k, none⟩)) _ rfl rfl (by kernel_rfl) (by kernel_rfl) (by kernel_rfl) (fun _ _ _ h => h) (Or.inl ⟨by rfl, fun w' hSw => ?_⟩) hHeld ?_
        · have z8 : (k : Int) < (lb : Int) := by omega
          go_simp
        simp only [List.setIfInBounds_toArray, List.set_cons_zero, List.set_cons_succ]
        refine take_d 34 121 (.int .u8 ((z2 : Nat) : Int)) _ rfl rfl (by kernel_rfl) (by kernel_rfl) (by kernel_rfl) (fun _ _ _ h => h) (Or.inl ⟨by rfl, fun w' hSw => ?_⟩) hHeld ?_
        · have q := C2.out _ hSw
          go_simp
        simp only [List.setIfInBounds_toArray, List.set_cons_zero, List.set_cons_succ]
        refine take_d 35 122 (.slice (some ⟨bt, ot, none⟩) lt ct) _ rfl rfl (by kernel_rfl) (by kernel_rfl) (by kernel_rfl) (fun _ _ _ h => h) (Or.inl ⟨by rfl, fun w' hSw => ?_⟩) hHeld ?_
        · go_simp
        simp only [List.setIfInBounds_toArray, List.set_cons_zero, List.set_cons_succ]
        refine take_d 36 123 (.int .i64 (k : Int)) _ rfl rfl (by kernel_rfl) (by kernel_rfl) (by kernel_rfl) (fun _ _ _ h => h) (Or.inl ⟨by rfl, fun w' hSw => ?_⟩) hHeld ?_
        · go_simp
        simp only [List.setIfInBounds_toArray, List.set_cons_zero, List.set_cons_succ]
        refine take_d 37 124 (.pointer (some ⟨bt, ot + k, none⟩)) _ rfl rfl (by kernel_rfl) (by kernel_rfl) (by kernel_rfl) (fun _ _ _ h => h) (Or.inl ⟨by rfl, fun w' hSw => ?_⟩) hHeld ?_
        · have z8 : (k : Int) < (lt : Int) := by omega
          go_simp
        simp only [List.setIfInBounds_toArray, List.set_cons_zero, List.set_cons_succ]
        refine take_d 38 125 (.int .u8 ((z3 : Nat) : Int)) _ rfl rfl (by kernel_rfl) (by kernel_rfl) (by kernel_rfl) (fun _ _ _ h => h) (Or.inl ⟨by rfl, fun w' hSw => ?_⟩) hHeld ?_
        · have q := C3.out _ hSw
          go_simp
        simp only [List.setIfInBounds_toArray, List.set_cons_zero, List.set_cons_succ]
        refine take_d 39 126 (.int .u8 ((z1 : Nat) : Int)) _ rfl rfl (by kernel_rfl) (by kernel_rfl) (by kernel_rfl) (fun _ _ _ h => h) (Or.inl ⟨by rfl, fun w' hSw => ?_⟩) hHeld ?_
        · have z7 := x5
          go_simp
        simp only [List.setIfInBounds_toArray, List.set_cons_zero, List.set_cons_succ]
        refine take_d 40 127 (.bool false) _ rfl rfl (by kernel_rfl) (by kernel_rfl) (by kernel_rfl) (fun _ _ _ h => h) (Or.inl ⟨by rfl, fun w' hSw => ?_⟩) hHeld ?_
        · go_simp
        simp only [List.setIfInBounds_toArray, List.set_cons_zero, List.set_cons_succ]
        refine take_d 41 128 (.bool false) _ rfl rfl (by kernel_rfl) (by kernel_rfl) (by kernel_rfl) (fun _ _ _ h => h) (Or.inl ⟨by rfl, fun w' hSw => ?_⟩) hHeld ?_
        · go_simp
        simp only [List.setIfInBounds_toArray, List.set_cons_zero, List.set_cons_succ]
        refine take_d 42 129 (.bool false) _ rfl rfl (by kernel_rfl) (by kernel_rfl) (by kernel_rfl) (fun _ _ _ h => h) (Or.inl ⟨by rfl, fun w' hSw => ?_⟩) hHeld ?_
        · go_simp
        simp only [List.setIfInBounds_toArray, List.set_cons_zero, List.set_cons_succ]
        refine wpAnyH_done (by kernel_rfl) ?_ _
        go_wp2
        go_roundw
        case rel => exact ⟨k + 1, by omega, by go_num, Lib.hid (HD.out.trans (Below.mono hHeld HD.out.size))⟩
        case measure => simp [intOf]; omega
      · have x5 : at_ b k = at_ C (la + k) := by
          rw [e1, at_get _ _ hkb, show t.getD k 0 = 0 by rw [NT.out] at hkt; simp [List.getD_eq_getElem?_getD, List.getElem?_eq_none (Nat.le_of_not_lt hkt)]]
          simp
        rw [x5] at c2
        have y1 := at_lt C (la + k)
        generalize at_ C (la + k) = z1 at *
        clear e1 hkb x5
        have C1 : Hid (∀ w', Below wr.heap.size wr w' → w'.cell? ⟨gc, la + k, none⟩ = some (.int .u8 ((z1 : Nat) : Int))) := Lib.hid fun w' hb => (hb.cell (p := ⟨gc, la + k, none⟩) (Nat.lt_of_lt_of_le G8.out.2 HD.out.size)).trans c1
        have C2 : Hid (∀ w', Below wr.heap.size wr w' → w'.cell? ⟨bb, ob + k, none⟩ = some (.int .u8 ((z1 : Nat) : Int))) := Lib.hid fun w' hb => (hb.cell (p := ⟨bb, ob + k, none⟩) (Nat.lt_of_lt_of_le h2b (Nat.le_trans B8.out.size HD.out.size))).trans c2
        clear c1 c2 h2b
        go_wp2
        refine wp_region_held_drew (S := fun w' => Below wr.heap.size wr w') (by kernel_rfl) (Below.drewN' (Below.refl _ wr) 1) (fun hHeld => ?_)
        refine take_d 0 87 (.int .i64 (k : Int)) _ rfl rfl (by kernel_rfl) (by kernel_rfl) (by kernel_rfl) (fun _ _ _ h => h) (Or.inl ⟨by rfl, fun w' hSw => ?_⟩) hHeld ?_
        · go_simp
        simp only [List.setIfInBounds_toArray, List.set_cons_zero, List.set_cons_succ]
        refine take_d 1 88 (.slice At lt ct) _ rfl rfl (by kernel_rfl) (by kernel_rfl) (by kernel_rfl) (fun _ _ _ h => h) (Or.inl ⟨by rfl, fun w' hSw => ?_⟩) hHeld ?_
        · go_simp
        simp only [List.setIfInBounds_toArray, List.set_cons_zero, List.set_cons_succ]
        refine take_d 2 89 (.int .i64 (lt : Int)) _ rfl rfl (by kernel_rfl) (by kernel_rfl) (by kernel_rfl) (fun _ _ _ h => h) (Or.inl ⟨by rfl, fun w' hSw => ?_⟩) hHeld ?_
        · go_simp
        simp only [List.setIfInBounds_toArray, List.set_cons_zero, List.set_cons_succ]
        refine take_d 3 90 (.bool true) _ rfl rfl (by kernel_rfl) (by kernel_rfl) (by kernel_rfl) (fun _ _ _ h => h) (Or.inl ⟨by rfl, fun w' hSw => ?_⟩) hHeld ?_
        · have z7 : (lt : Int) ≤ (k : Int) := by omega
          go_simp
        simp only [List.setIfInBounds_toArray, List.set_cons_zero, List.set_cons_succ]
        refine take_d 4 91 (.bool true) _ rfl rfl (by kernel_rfl) (by kernel_rfl) (by kernel_rfl) (fun _ _ _ h => h) (Or.inl ⟨by rfl, fun w' hSw => ?_⟩) hHeld ?_
        · go_simp
        simp only [List.setIfInBounds_toArray, List.set_cons_zero, List.set_cons_succ]
        refine take_d 5 92 (.slice (some ⟨gc, 0, none⟩) (la + r) (la + r)) _ rfl rfl (by kernel_rfl) (by kernel_rfl) (by kernel_rfl) (fun _ _ _ h => h) (Or.inl ⟨by rfl, fun w' hSw => ?_⟩) hHeld ?_
        · go_simp
        simp only [List.setIfInBounds_toArray, List.set_cons_zero, List.set_cons_succ]
        refine take_d 6 93 (.slice Aa la ca) _ rfl rfl (by kernel_rfl) (by kernel_rfl) (by kernel_rfl) (fun _ _ _ h => h) (Or.inl ⟨by rfl, fun w' hSw => ?_⟩) hHeld ?_
        · go_simp
        simp only [List.setIfInBounds_toArray, List.set_cons_zero, List.set_cons_succ]
        refine take_d 7 94 (.int .i64 (la : Int)) _ rfl rfl (by kernel_rfl) (by kernel_rfl) (by kernel_rfl) (fun _ _ _ h => h) (Or.inl ⟨by rfl, fun w' hSw => ?_⟩) hHeld ?_
        · go_simp
        simp only [List.setIfInBounds_toArray, List.set_cons_zero, List.set_cons_succ]
        refine take_d 8 95 (.int .i64 (k : Int)) _ rfl rfl (by kernel_rfl) (by kernel_rfl) (by kernel_rfl) (fun _ _ _ h => h) (Or.inl ⟨by rfl, fun w' hSw => ?_⟩) hHeld ?_
        · go_simp
        simp only [List.setIfInBounds_toArray, List.set_cons_zero, List.set_cons_succ]
        refine take_d 9 96 (.int .i64 ((la : Int) + (k : Int))) _ rfl rfl (by kernel_rfl) (by kernel_rfl) (by kernel_rfl) (fun _ _ _ h => h) (Or.inl ⟨by rfl, fun w' hSw => ?_⟩) hHeld ?_
        · have z7 : IntKind.i64.wrap ((la : Int) + (k : Int)) = (la : Int) + (k : Int) := IntWalk.i64_in _ (by omega)
          go_simp
        simp only [List.setIfInBounds_toArray, List.set_cons_zero, List.set_cons_succ]
        refine take_d 10 97 (.pointer (some ⟨gc, la + k, none⟩)) _ rfl rfl (by kernel_rfl) (by kernel_rfl) (by kernel_rfl) (fun _ _ _ h => h) (Or.inl ⟨by rfl, fun w' hSw => ?_⟩) hHeld ?_
        · have z9 : ((la : Int) + (k : Int)).toNat = la + k := by omega
          have z8 : (0 : Int) ≤ (la : Int) + (k : Int) := by omega
          go_simp
        simp only [List.setIfInBounds_toArray, List.set_cons_zero, List.set_cons_succ]
        refine take_d 11 98 (.int .u8 ((z1 : Nat) : Int)) _ rfl rfl (by kernel_rfl) (by kernel_rfl) (by kernel_rfl) (fun _ _ _ h => h) (Or.inl ⟨by rfl, fun w' hSw => ?_⟩) hHeld ?_
        · have q := C1.out _ hSw
          go_simp
        simp only [List.setIfInBounds_toArray, List.set_cons_zero, List.set_cons_succ]
        refine take_d 12 99 (.slice (some ⟨bb, ob, none⟩) lb cb) _ rfl rfl (by kernel_rfl) (by kernel_rfl) (by kernel_rfl) (fun _ _ _ h => h) (Or.inl ⟨by rfl, fun w' hSw => ?_⟩) hHeld ?_
        · go_simp
        simp only [List.setIfInBounds_toArray, List.set_cons_zero, List.set_cons_succ]
        refine take_d 13 100 (.int .i64 (k : Int)) _ rfl rfl (by kernel_rfl) (by kernel_rfl) (by kernel_rfl) (fun _ _ _ h => h) (Or.inl ⟨by rfl, fun w' hSw => ?_⟩) hHeld ?_
        · go_simp
        simp only [List.setIfInBounds_toArray, List.set_cons_zero, List.set_cons_succ]
        refine take_d 14 101 (.pointer (some ⟨bb, ob + k, none⟩)) _ rfl rfl (by kernel_rfl) (by kernel_rfl) (by kernel_rfl) (fun _ _ _ h => h) (Or.inl ⟨by rfl, fun w' hSw => ?_⟩) hHeld ?_
        · have z8 : (k : Int) < (lb : Int) := by omega
          go_simp
        simp only [List.setIfInBounds_toArray, List.set_cons_zero, List.set_cons_succ]
        refine take_d 15 102 (.int .u8 ((z1 : Nat) : Int)) _ rfl rfl (by kernel_rfl) (by kernel_rfl) (by kernel_rfl) (fun _ _ _ h => h) (Or.inl ⟨by rfl, fun w' hSw => ?_⟩) hHeld ?_
        · have q := C2.out _ hSw
          go_simp
        simp only [List.setIfInBounds_toArray, List.set_cons_zero, List.set_cons_succ]
        refine take_d 16 103 (.bool false) _ rfl rfl (by kernel_rfl) (by kernel_rfl) (by kernel_rfl) (fun _ _ _ h => h) (Or.inl ⟨by rfl, fun w' hSw => ?_⟩) hHeld ?_
        · go_simp
        simp only [List.setIfInBounds_toArray, List.set_cons_zero, List.set_cons_succ]
        refine take_d 17 104 (.bool false) _ rfl rfl (by kernel_rfl) (by kernel_rfl) (by kernel_rfl) (fun _ _ _ h => h) (Or.inl ⟨by rfl, fun w' hSw => ?_⟩) hHeld ?_
        · go_simp
        simp only [List.setIfInBounds_toArray, List.set_cons_zero, List.set_cons_succ]
        refine take_d 18 105 (.bool false) _ rfl rfl (by kernel_rfl) (by kernel_rfl) (by kernel_rfl) (fun _ _ _ h => h) (Or.inl ⟨by rfl, fun w' hSw => ?_⟩) hHeld ?_
        · go_simp
        simp only [List.setIfInBounds_toArray, List.set_cons_zero, List.set_cons_succ]
        refine take_d 19 106 (.int .i64 (k : Int)) _ rfl rfl (by kernel_rfl) (by kernel_rfl) (by kernel_rfl) (fun _ _ _ h => h) (Or.inl ⟨by rfl, fun w' hSw => ?_⟩) hHeld ?_
        · go_simp
        simp only [List.setIfInBounds_toArray, List.set_cons_zero, List.set_cons_succ]
        refine take_d 20 107 (.slice At lt ct) _ rfl rfl (by kernel_rfl) (by kernel_rfl) (by kernel_rfl) (fun _ _ _ h => h) (Or.inl ⟨by rfl, fun w' hSw => ?_⟩) hHeld ?_
        · go_simp
        simp only [List.setIfInBounds_toArray, List.set_cons_zero, List.set_cons_succ]
        refine take_d 21 108 (.int .i64 (lt : Int)) _ rfl rfl (by kernel_rfl) (by kernel_rfl) (by kernel_rfl) (fun _ _ _ h => h) (Or.inl ⟨by rfl, fun w' hSw => ?_⟩) hHeld ?_
        · go_simp
        simp only [List.setIfInBounds_toArray, List.set_cons_zero, List.set_cons_succ]
        refine take_d 22 109 (.bool false) _ rfl rfl (by kernel_rfl) (by kernel_rfl) (by kernel_rfl) (fun _ _ _ h => h) (Or.inl ⟨by rfl, fun w' hSw => ?_⟩) hHeld ?_
        · have z7 : ¬ (k : Int) < (lt : Int) := by omega
          go_simp
        simp only [List.setIfInBounds_toArray, List.set_cons_zero, List.set_cons_succ]
        refine take_d 23 110 (.bool false) _ rfl rfl (by kernel_rfl) (by kernel_rfl) (by kernel_rfl) (fun _ _ _ h => h) (Or.inl ⟨by rfl, fun w' hSw => ?_⟩) hHeld ?_
        · go_simp
        simp only [List.setIfInBounds_toArray, List.set_cons_zero, List.set_cons_succ]
        refine take_d 24 111 undef _ rfl rfl (by kernel_rfl) (by kernel_rfl) (by kernel_rfl) (fun _ _ _ h => h) (Or.inr ⟨by rfl, rfl⟩) hHeld ?_
        simp only [List.setIfInBounds_toArray, List.set_cons_zero, List.set_cons_succ]
        refine take_d 25 112 undef _ rfl rfl (by kernel_rfl) (by kernel_rfl) (by kernel_rfl) (fun _ _ _ h => h) (Or.inr ⟨by rfl, rfl⟩) hHeld ?_
        simp only [List.setIfInBounds_toArray, List.set_cons_zero, List.set_cons_succ]
        refine take_d 26 113 undef _ rfl rfl (by kernel_rfl) (by kernel_rfl) (by kernel_rfl) (fun _ _ _ h => h) (Or.inr ⟨by rfl, rfl⟩) hHeld ?_
        simp only [List.setIfInBounds_toArray, List.set_cons_zero, List.set_cons_succ]
        refine take_d 27 114 undef _ rfl rfl (by kernel_rfl) (by kernel_rfl) (by kernel_rfl) (fun _ _ _ h => h) (Or.inr ⟨by rfl, rfl⟩) hHeld ?_
        simp only [List.setIfInBounds_toArray, List.set_cons_zero, List.set_cons_succ]
        refine take_d 28 115 undef _ rfl rfl (by kernel_rfl) (by kernel_rfl) (by kernel_rfl) (fun _ _ _ h => h) (Or.inr ⟨by rfl, rfl⟩) hHeld ?_
        simp only [List.setIfInBounds_toArray, List.set_cons_zero, List.set_cons_succ]
        refine take_d 29 116 undef _ rfl rfl (by kernel_rfl) (by kernel_rfl) (by kernel_rfl) (fun _ _ _ h => h) (Or.inr ⟨by rfl, rfl⟩) hHeld ?_
        simp only [List.setIfInBounds_toArray, List.set_cons_zero, List.set_cons_succ]
        refine take_d 30 117 undef _ rfl rfl (by kernel_rfl) (by kernel_rfl) (by kernel_rfl) (fun _ _ _ h => h) (Or.inr ⟨by rfl, rfl⟩) hHeld ?_
        simp only [List.setIfInBounds_toArray, List.set_cons_zero, List.set_cons_succ]
        refine take_d 31 118 undef _ rfl rfl (by kernel_rfl) (by kernel_rfl) (by kernel_rfl) (fun _ _ _ h => h) (Or.inr ⟨by rfl, rfl⟩) hHeld ?_
        simp only [List.setIfInBounds_toArray, List.set_cons_zero, List.set_cons_succ]
        refine take_d 32 119 undef _ rfl rfl (by kernel_rfl) (by kernel_rfl) (by kernel_rfl) (fun _ _ _ h => h) (Or.inr ⟨by rfl, rfl⟩) hHeld ?_
        simp only [List.setIfInBounds_toArray, List.set_cons_zero, List.set_cons_succ]
        refine take_d 33 120 undef _ rfl rfl (by kernel_rfl) (by kernel_rfl) (by kernel_rfl) (fun _ _ _ h => h) (Or.inr ⟨by rfl, rfl⟩) hHeld ?_
        simp only [List.setIfInBounds_toArray, List.set_cons_zero, List.set_cons_succ]
        refine take_d 34 121 undef _ rfl rfl (by kernel_rfl) (by kernel_rfl) (by kernel_rfl) (fun _ _ _ h => h) (Or.inr ⟨by rfl, rfl⟩) hHeld ?_
        simp only [List.setIfInBounds_toArray, List.set_cons_zero, List.set_cons_succ]
        refine take_d 35 122 undef _ rfl rfl (by kernel_rfl) (by kernel_rfl) (by kernel_rfl) (fun _ _ _ h => h) (Or.inr ⟨by rfl, rfl⟩) hHeld ?_
        simp only [List.setIfInBounds_toArray, List.set_cons_zero, List.set_cons_succ]
        refine take_d 36 123 undef _ rfl rfl (by kernel_rfl) (by kernel_rfl) (by kernel_rfl) (fun _ _ _ h => h) (Or.inr ⟨by rfl, rfl⟩) hHeld ?_
        simp only [List.setIfInBounds_toArray, List.set_cons_zero, List.set_cons_succ]
        refine take_d 37 124 undef _ rfl rfl (by kernel_rfl) (by kernel_rfl) (by kernel_rfl) (fun _ _ _ h => h) (Or.inr ⟨by rfl, rfl⟩) hHeld ?_
        simp only [List.setIfInBounds_toArray, List.set_cons_zero, List.set_cons_succ]
        refine take_d 38 125 undef _ rfl rfl (by kernel_rfl) (by kernel_rfl) (by kernel_rfl) (fun _ _ _ h => h) (Or.inr ⟨by rfl, rfl⟩) hHeld ?_
        simp only [List.setIfInBounds_toArray, List.set_cons_zero, List.set_cons_succ]
        refine take_d 39 126 undef _ rfl rfl (by kernel_rfl) (by kernel_rfl) (by kernel_rfl) (fun _ _ _ h => h) (Or.inr ⟨by rfl, rfl⟩) hHeld ?_
        simp only [List.setIfInBounds_toArray, List.set_cons_zero, List.set_cons_succ]
        refine take_d 40 127 undef _ rfl rfl (by kernel_rfl) (by kernel_rfl) (by kernel_rfl) (fun _ _ _ h => h) (Or.inr ⟨by rfl, rfl⟩) hHeld ?_
        simp only [List.setIfInBounds_toArray, List.set_cons_zero, List.set_cons_succ]
        refine take_d 41 128 (.bool false) _ rfl rfl (by kernel_rfl) (by kernel_rfl) (by kernel_rfl) (fun _ _ _ h => h) (Or.inl ⟨by rfl, fun w' hSw => ?_⟩) hHeld ?_
        · go_simp
        simp only [List.setIfInBounds_toArray, List.set_cons_zero, List.set_cons_succ]
        refine take_d 42 129 (.bool false) _ rfl rfl (by kernel_rfl) (by kernel_rfl) (by kernel_rfl) (fun _ _ _ h => h) (Or.inl ⟨by rfl, fun w' hSw => ?_⟩) hHeld ?_
        · go_simp
        simp only [List.setIfInBounds_toArray, List.set_cons_zero, List.set_cons_succ]
        refine wpAnyH_done (by kernel_rfl) ?_ _
        go_wp2
        go_roundw
        case rel => exact ⟨k + 1, by omega, by go_num, Lib.hid (HD.out.trans (Below.mono hHeld HD.out.size))⟩
        case measure => simp [intOf]; omega
    · obtain rfl : r = k := by omega
      have T9 := Lib.hid (T8.out.on HD.out)
      have O9 := Lib.hid (O8.out.below HD.out)
      have B9 := Lib.hid (B8.out.trans (HD.out.mono B8.out.size))
      have GC9 : Hid (w.heap.size ≤ gc ∧ gc < wr.heap.size) := Lib.hid ⟨G8.out.1, Nat.lt_of_lt_of_le G8.out.2 HD.out.size⟩
      generalize wr = wx at *
      have A10 := crash_any (n₀ := wx.heap.size + 1) 0 (.slice (some ⟨wx.heap.size, 0, none⟩) 1 1) [255] (by decide) (lit_bytes (cs := #[.int .u8 255]) rfl rfl (fun i hi => (T9.out.old i hi).2)) (T9.out.alloc (.cells #[.int .u8 255] 5))
      have e10 : (pl C 1000 (la + r)).crash 0 [255] = pl C 1000 (la + r) := by
        rw [pl_crash, HCL.out]
        simp only [Int.toNat_zero, Nat.zero_min, List.take_zero, Nat.add_zero]
        congr 1
        rw [List.take_of_length_le (by rw [HCL.out]; omega)]
        simp [xo]
      rw [e10] at A10
      have A10 := Lib.hid A10
      have B10 := Lib.hid (B9.out.alloc B9.out.size (.cells #[.int .u8 255] 5))
      have O10 := Lib.hid (O9.out.below ((Below.refl _ _).alloc (Nat.le_refl _) (.cells #[.int .u8 255] 5)))
      clear e10
      go_wp2_with fail
      refine A10.out.mono ?_
      rintro e wy ⟨rfl, t11, f11⟩
      have B11 := Lib.hid (B10.out.trans (f11.old B10.out.size L5.out))
      have O11 := Lib.hid (f11.own O10.out (fun i hi hh => by
        simp only [Value.ownBlock, Option.some.injEq] at hi
        exact GC.out i hh hi.symm))
      have HC9 : Hid ((pl C 1000 (la + r)).bs = C) := Lib.hid rfl
      have BY : Hid (∀ w', Below wy.heap.size wy w' → Calls Try.prog 12 #[.pointer (some ⟨w1.heap.size, 0, none⟩)] w' fun e w'' => e = .returned (.slice (some ⟨w'.heap.size, 0, none⟩) (la + r) (la + r)) ∧ Own w'' w'.heap.size (.slice (some ⟨w'.heap.size, 0, none⟩) (la + r) (la + r)) C ∧ Below w'.heap.size w' w'') := Lib.hid fun w' hb => by
        have := bytes_at (t11.on hb)
        rwa [HC9.out, HCL.out] at this
      obtain ⟨sc, hsc⟩ : ∃ sc : ByteArray, sc = ⟨C.toArray⟩ := ⟨_, rfl⟩
      have HSC := Lib.hid hsc
      clear t11 f11 hsc A10
      go_wp2_with fail
      refine wp_region_held_drew (S := fun w' => Below wy.heap.size wy w') (by kernel_rfl) (Below.drewN' (Below.refl _ wy) 1) (fun hHeld => ?_)
      refine take_d 0 134 (.pointer (some ⟨w1.heap.size, 0, none⟩)) _ rfl rfl (by kernel_rfl) (by kernel_rfl) (by kernel_rfl) (fun _ _ _ h => h) (Or.inl ⟨by rfl, fun w' hSw => ?_⟩) hHeld ?_
      · go_simp
      simp only [List.setIfInBounds_toArray, List.set_cons_zero, List.set_cons_succ]
      refine take_d 3 137 (.slice (some ⟨gc, 0, none⟩) (la + r) (la + r)) _ rfl rfl (by kernel_rfl) (by kernel_rfl) (by kernel_rfl) (fun _ _ _ h => h) (Or.inl ⟨by rfl, fun w' hSw => ?_⟩) hHeld ?_
      · go_simp
      simp only [List.setIfInBounds_toArray, List.set_cons_zero, List.set_cons_succ]
      refine take_d 4 138 (.string sc) _ rfl rfl (by kernel_rfl) (by kernel_rfl) (by kernel_rfl) (fun _ _ _ h => h) (Or.inl ⟨by rfl, fun w' hSw => ?_⟩) hHeld ?_
      · have q := run_string_bytes ((O11.out.below hSw).bytes)
        rw [← HSC.out] at q
        go_simp
      simp only [List.setIfInBounds_toArray, List.set_cons_zero, List.set_cons_succ]
      refine wpAnyH_ready (rs := [1]) (by kernel_rfl) (by simp) ?_
      refine AllReadyH.cons rfl (fun K hK => ?_) AllReadyH.nil
      go_simp
      refine (BY.out _ hHeld).mono ?_
      rintro e w9 ⟨rfl, o9, b9⟩
      have hS9 := Below.trans hHeld (b9.mono hHeld.size)
      have q9 : (convert 27 9 (.slice (some ⟨wy.heap.size, 0, none⟩) (la + r) (la + r))).run Try.prog w9 = .ok (.string sc) w9 := by
        rw [HSC.out]
        exact run_string_bytes o9.bytes
      refine hK.out _ _ hS9 (fun hHeld => ?_)
      clear hK K b9 o9 hS9
      refine wpAnyH_ready (rs := [2]) (by kernel_rfl) (by simp) ?_
      refine AllReadyH.cons rfl (fun K hK => ?_) AllReadyH.nil
      go_simp
      refine hK.out _ _ hHeld (fun hHeld => ?_)
      clear hK K q9
      refine take_d 5 139 (.bool true) _ rfl rfl (by kernel_rfl) (by kernel_rfl) (by kernel_rfl) (fun _ _ _ h => h) (Or.inl ⟨by rfl, fun w' hSw => ?_⟩) hHeld ?_
      · go_simp
      simp only [List.setIfInBounds_toArray, List.set_cons_zero, List.set_cons_succ]
      refine take_d 6 8 (.bool true) _ rfl rfl (by kernel_rfl) (by kernel_rfl) (by kernel_rfl) (fun _ _ _ h => h) (Or.inl ⟨by rfl, fun w' hSw => ?_⟩) hHeld ?_
      · go_simp
      simp only [List.setIfInBounds_toArray, List.set_cons_zero, List.set_cons_succ]
      refine wpAnyH_done (by kernel_rfl) ?_ _
      go_wp2
      go_ret
      exact ⟨rfl, B11.out.trans (hHeld.mono B11.out.size)⟩
set_option maxRecDepth 100000 in
theorem tapeKeeps_law (va : Value) (a : List UInt8) (vb : Value) (b : List UInt8) (keep : Int) (vt : Value) (t : List UInt8) (w : World) (la : a.length ≤ 9223372036854775807) (ha : Bytes w.heap.size w va a) (lb : b.length ≤ 9223372036854775807) (hb : Bytes w.heap.size w vb b) (_ : -9223372036854775808 ≤ keep ∧ keep ≤ 9223372036854775807) (lt : t.length ≤ 9223372036854775807) (ht : Bytes w.heap.size w vt t) :
    Calls Try.prog 4 #[va, vb, .int .i64 keep, vt] w fun e w' => e = .returned (.bool true) ∧ Below w.heap.size w w' := by
  by_cases h1 : a.length ≤ 300
  · by_cases h2 : b.length ≤ 300
    · by_cases h3 : t.length ≤ 300
      · exact tapeKeeps_in va vb vt a b t keep w h1 h2 h3 ha hb ht
      · obtain ⟨Aa, ca, rfl, _, _⟩ := ha
        obtain ⟨Ab, cb, rfl, _, _⟩ := hb
        obtain ⟨At, ct, rfl, _, _⟩ := ht
        generalize a.length = na at *
        generalize b.length = nb at *
        generalize t.length = nt at *
        have i1 : ¬ (300 : Int) < (na : Int) := by omega
        have i2 : ¬ (300 : Int) < (nb : Int) := by omega
        have i3 : (300 : Int) < (nt : Int) := by omega
        go_enter Try.func4, Try.ntmps4
        go_wp2_with fail
        refine (anchor12_any w).mono ?_
        rintro e w1 ⟨rfl, b1⟩
        go_wp2
        go_ret
        exact ⟨rfl, b1⟩
    · obtain ⟨Aa, ca, rfl, _, _⟩ := ha
      obtain ⟨Ab, cb, rfl, _, _⟩ := hb
      obtain ⟨At, ct, rfl, _, _⟩ := ht
      generalize a.length = na at *
      generalize b.length = nb at *
      generalize t.length = nt at *
      have i1 : ¬ (300 : Int) < (na : Int) := by omega
      have i2 : (300 : Int) < (nb : Int) := by omega
      go_enter Try.func4, Try.ntmps4
      go_wp2_with fail
      refine (anchor12_any w).mono ?_
      rintro e w1 ⟨rfl, b1⟩
      go_wp2
      go_ret
      exact ⟨rfl, b1⟩
  · obtain ⟨Aa, ca, rfl, _, _⟩ := ha
    obtain ⟨Ab, cb, rfl, _, _⟩ := hb
    obtain ⟨At, ct, rfl, _, _⟩ := ht
    generalize a.length = na at *
    generalize b.length = nb at *
    generalize t.length = nt at *
    have i1 : (300 : Int) < (na : Int) := by omega
    go_enter Try.func4, Try.ntmps4
    go_wp2_with fail
    refine (anchor12_any w).mono ?_
    rintro e w1 ⟨rfl, b1⟩
    go_wp2
    go_ret
    exact ⟨rfl, b1⟩
end Go.Proofs.Ytjnhjpjebklalaa
