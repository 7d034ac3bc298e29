/- TapeGrows: the law's walk. -/
import Derived.Test.YtjnhjpjebklalaaTpH
namespace Go.Proofs.Ytjnhjpjebklalaa
open Go.RowKit
variable {w w' : World} {n₀ : Nat} {S : Nat → Prop} {g : Nat} {T : Tp}

set_option maxRecDepth 100000 in
set_option maxHeartbeats 8000000 in
theorem tapeGrows_in (v : Value) (l : List Op12) (w : World) (hn : l.length ≤ 80) (h : OpsV w.heap.size w v l) :
    Calls Try.prog 6 #[v] w fun e w' => e = .returned (.bool true) ∧ Below w.heap.size w w' := by
  obtain ⟨A, cap, rfl⟩ := h.form
  have H := Lib.hid h
  obtain ⟨n, hN⟩ : ∃ n, n = l.length := ⟨_, rfl⟩
  rw [← hN] at H hn ⊢
  have HN := Lib.hid hN
  clear h hN
  have i1 : ¬ (80 : Int) < (n : Int) := by omega
  go_enter Try.func6, Try.ntmps6
  go_wp2_with fail
  refine (anchor12_any w).mono ?_
  rintro e w1 ⟨rfl, b1⟩
  have B1 := Lib.hid b1
  clear b1
  go_wp2_with fail
  refine (new_any 65536 (by decide) (by decide) w1).mono ?_
  rintro e w2 ⟨rfl, t2, b2⟩
  have B2 := Lib.hid (B1.out.trans (b2.mono B1.out.size))
  have T2 := Lib.hid t2
  have HL : Hid (∀ i, i = w1.heap.size → w.heap.size ≤ i) := Lib.hid fun i hi => by have := B1.out.size; omega
  clear b2 t2
  generalize w1.heap.size = g at *
  go_wp2
  go_loopw [18, 4] (fun i sv wr => ∃ (k : Nat) (T : Tp) (sf : ByteArray), k ≤ n ∧ i = .int .i64 k ∧ sv = .string sf ∧ Hid (sf = ⟨(T.bs.take T.safe).toArray⟩) ∧ Hid (∃ S, (∀ i, S i → w.heap.size ≤ i) ∧ TapeAt wr g S T) ∧ Hid (Below w.heap.size w wr)) (fun i _ _ => n - (intOf i).toNat)
  case atStart => exact ⟨0, Tp.new 65536, ⟨#[]⟩, Nat.zero_le _, rfl, rfl, Lib.hid rfl, Lib.hid ⟨_, HL.out, T2.out⟩, B2⟩
  case round =>
    obtain ⟨k, T, sf, hk, rfl, rfl, HS, HT, HB⟩ := hrel
    have hsz : w.heap.size ≤ wr.heap.size := HB.out.size
    by_cases hlt : k < n
    · have hkl : k < l.length := by rw [← HN.out]; exact hlt
      obtain ⟨b, off, u, rfl, hb, ⟨c0, c1, c2⟩, hu, hd1, hn1⟩ := (H.out.below HB.out).at_ hkl
      generalize l[k] = o at c0 c1 c2 hu hd1 hn1
      obtain ⟨ok, on, od⟩ := o
      simp only at c0 c1 c2 hu hd1 hn1
      have HU := Lib.hid hu
      obtain ⟨Au, cu, rfl, _, _⟩ := hu
      have HN1 := Lib.hid hn1
      obtain ⟨m, hm⟩ : ∃ m, m = od.length := ⟨_, rfl⟩
      rw [← hm] at c2 hd1 HU
      have HM := Lib.hid hm
      have BO := Lib.hid (HB.out.alloc hsz (.cells #[.int .i64 ok, .int .i64 on, .slice Au m cu] 31))
      have ZO := Lib.hid ((Below.refl wr.heap.size wr).alloc (Nat.le_refl _) (.cells #[.int .i64 ok, .int .i64 on, .slice Au m cu] 31))
      clear hm hkl hn1
      obtain ⟨S0, HS0, HT0⟩ := HT.out
      have HS1 := Lib.hid HS0
      have HT1 := Lib.hid HT0
      clear HS0 HT0
      by_cases h3 : ok = 3
      · subst h3
        go_wp2
        go_roundw
        case rel => exact ⟨k + 1, T, sf, by omega, by go_num, rfl, HS, Lib.hid ⟨S0, HS1.out, HT1.out.on ZO.out⟩, BO⟩
        case measure => simp [intOf]; omega
      have h3' := does_ne h3
      by_cases hd : 300 < m
      · go_wp2
        go_roundw
        case rel => exact ⟨k + 1, T, sf, by omega, by go_num, rfl, HS, Lib.hid ⟨S0, HS1.out, HT1.out.on ZO.out⟩, BO⟩
        case measure => simp [intOf]; omega
      have H3 := Lib.hid h3
      clear h3
      by_cases h5 : ok = 5
      · subst h5
        have X0 : Hid (Blk (wr.alloc (.cells #[.int .i64 5, .int .i64 on, .slice none 0 0] 31)) wr.heap.size 31 #[.int .i64 5, .int .i64 on, .slice none 0 0]) := Lib.hid (Blk.new wr 31 #[.int .i64 5, .int .i64 on, .slice none 0 0])
        have BX : Hid (Below w.heap.size w (wr.alloc (.cells #[.int .i64 5, .int .i64 on, .slice none 0 0] 31))) := Lib.hid (HB.out.alloc hsz _)
        have ZX : Hid (Below wr.heap.size wr (wr.alloc (.cells #[.int .i64 5, .int .i64 on, .slice none 0 0] 31))) := Lib.hid ((Below.refl wr.heap.size wr).alloc (Nat.le_refl _) _)
        have x2 := (Blk.new wr 31 #[.int .i64 5, .int .i64 on, .slice Au m cu]).cell 2
        have f2 := (Blk.new wr 31 #[.int .i64 5, .int .i64 on, .slice Au m cu]).frozen 2
        have A1 := Lib.hid (does_any (n₀ := w.heap.size) ⟨5, on, []⟩ (.slice none 0 0) (by simp) HN1.out (fun _ _ => bytes_nil w.heap.size _) (HT1.out.on ZX.out))
        have GR := Lib.hid (Tp.grows (HT1.out.ok) ⟨5, on, []⟩ H3.out)
        have okT := HT1.out.ok.safe
        have HSL := Lib.hid (show sf.size = T.safe by rw [HS.out, str_size]; simp; omega)
        go_upto_region 15 with (fail)
        have x0 := X0.out.cell 0
        have x1 := X0.out.cell 1
        have x3 := X0.out.cell 2
        generalize (wr.alloc (.cells #[.int .i64 5, .int .i64 on, .slice none 0 0] 31)) = w3 at *
        clear x2 f2 okT
        go_wp2_with fail
        refine A1.out.mono ?_
        rintro e w4 ⟨rfl, S4, hs4, t4, f4⟩
        have B4 := Lib.hid (BX.out.trans (f4.old BX.out.size HS1.out))
        have S4' : Hid (∀ i, S4 i → w.heap.size ≤ i) := Lib.hid fun i hi => (hs4 i hi).elim (HS1.out i) (Nat.le_trans BX.out.size)
        have A2 := Lib.hid (bytes_any t4)
        have T4 := Lib.hid t4
        clear f4 t4 hs4 A1
        generalize Tp.does T ⟨5, on, []⟩ = T' at *
        go_wp2_with fail
        refine A2.out.mono ?_
        rintro e w5 ⟨v5, rfl, o5, b5⟩
        have B5 := Lib.hid (B4.out.trans (b5.mono B4.out.size))
        have T5 := Lib.hid (T4.out.on b5)
        obtain ⟨sb, hsb⟩ : ∃ sb : ByteArray, sb = ⟨T'.bs.toArray⟩ := ⟨_, rfl⟩
        have q5 := run_string_bytes o5.bytes
        rw [← hsb] at q5
        obtain ⟨A5, c5, rfl⟩ := o5.one
        have hk5 := T5.out.ok.safe
        obtain ⟨p, hp⟩ : ∃ p, p = T'.safe := ⟨_, rfl⟩
        obtain ⟨z, hz⟩ : ∃ z, z = T.safe := ⟨_, rfl⟩
        obtain ⟨L, hL⟩ : ∃ L, L = T'.bs.length := ⟨_, rfl⟩
        have SA := safe_any T5.out
        rw [← hp] at SA hk5
        rw [← hL] at hk5 q5 ⊢
        have SA := Lib.hid SA
        have s1 : sf.size = z := by rw [hz]; exact HSL.out
        have s2 : sb.size = L := by rw [hsb, str_size, hL]
        have s3 : sb.extract 0 z = sf := by rw [hsb, str_take, hz, GR.out.2]; exact HS.out.symm
        obtain ⟨sg, hsg⟩ : ∃ sg, sg = sb.extract 0 p := ⟨_, rfl⟩
        have HSG : Hid (sg = ⟨(T'.bs.take T'.safe).toArray⟩) := Lib.hid (by rw [hsg, hsb, str_take, hp])
        have s4 : sb.extract 0 p = sg := hsg.symm
        have j1 : z ≤ p := by rw [hz, hp]; exact GR.out.1
        have j2 : ¬ (p : Int) < (z : Int) := by omega
        have j3 : ¬ (L : Int) < (p : Int) := by omega
        clear hsg hL hz hp hsb o5 b5 A2
        go_wp2_with fail
        refine SA.out.mono ?_
        rintro e w6 ⟨rfl, rfl⟩
        go_wp2_with fail
        refine SA.out.mono ?_
        rintro e w6 ⟨rfl, rfl⟩
        go_wp2_with fail
        refine SA.out.mono ?_
        rintro e w6 ⟨rfl, rfl⟩
        go_wp2
        go_roundw
        case rel => exact ⟨k + 1, T', sg, by omega, by go_num, rfl, HSG, Lib.hid ⟨S4, S4'.out, T5.out⟩, B5⟩
        case measure => simp [intOf]; omega
      · have h5' := does_ne h5
        clear h5
        have X0 : Hid (Blk (wr.alloc (.cells #[.int .i64 ok, .int .i64 on, .slice Au m cu] 31)) wr.heap.size 31 #[.int .i64 ok, .int .i64 on, .slice Au m cu]) := Lib.hid (Blk.new wr 31 #[.int .i64 ok, .int .i64 on, .slice Au m cu])
        have BX : Hid (Below w.heap.size w (wr.alloc (.cells #[.int .i64 ok, .int .i64 on, .slice Au m cu] 31))) := Lib.hid (BO.out)
        have ZX : Hid (Below wr.heap.size wr (wr.alloc (.cells #[.int .i64 ok, .int .i64 on, .slice Au m cu] 31))) := Lib.hid (ZO.out)
        have x2 := (Blk.new wr 31 #[.int .i64 ok, .int .i64 on, .slice Au m cu]).cell 2
        have f2 := (Blk.new wr 31 #[.int .i64 ok, .int .i64 on, .slice Au m cu]).frozen 2
        have A1 := Lib.hid (does_any (n₀ := w.heap.size) ⟨ok, on, od⟩ (.slice Au m cu) (by rw [← HM.out]; exact hd1) HN1.out (fun w' hf => (HU.out.below ((BO.out.trans (hf.old BO.out.size HS1.out)) |> fun h => ⟨h.os.trans HB.out.os.symm, h.tape.trans HB.out.tape.symm, h.output.trans HB.out.output.symm, Nat.le_trans ZO.out.size hf.size, fun i hi => (h.block i hi).trans (HB.out.block i hi).symm⟩))) (HT1.out.on ZX.out))
        have GR := Lib.hid (Tp.grows (HT1.out.ok) ⟨ok, on, od⟩ H3.out)
        have okT := HT1.out.ok.safe
        have HSL := Lib.hid (show sf.size = T.safe by rw [HS.out, str_size]; simp; omega)
        go_upto_region 15 with (fail)
        have x0 := X0.out.cell 0
        have x1 := X0.out.cell 1
        have x3 := X0.out.cell 2
        generalize (wr.alloc (.cells #[.int .i64 ok, .int .i64 on, .slice Au m cu] 31)) = w3 at *
        clear x2 f2 okT
        go_wp2_with fail
        refine A1.out.mono ?_
        rintro e w4 ⟨rfl, S4, hs4, t4, f4⟩
        have B4 := Lib.hid (BX.out.trans (f4.old BX.out.size HS1.out))
        have S4' : Hid (∀ i, S4 i → w.heap.size ≤ i) := Lib.hid fun i hi => (hs4 i hi).elim (HS1.out i) (Nat.le_trans BX.out.size)
        have A2 := Lib.hid (bytes_any t4)
        have T4 := Lib.hid t4
        clear f4 t4 hs4 A1
        generalize Tp.does T ⟨ok, on, od⟩ = T' at *
        go_wp2_with fail
        refine A2.out.mono ?_
        rintro e w5 ⟨v5, rfl, o5, b5⟩
        have B5 := Lib.hid (B4.out.trans (b5.mono B4.out.size))
        have T5 := Lib.hid (T4.out.on b5)
        obtain ⟨sb, hsb⟩ : ∃ sb : ByteArray, sb = ⟨T'.bs.toArray⟩ := ⟨_, rfl⟩
        have q5 := run_string_bytes o5.bytes
        rw [← hsb] at q5
        obtain ⟨A5, c5, rfl⟩ := o5.one
        have hk5 := T5.out.ok.safe
        obtain ⟨p, hp⟩ : ∃ p, p = T'.safe := ⟨_, rfl⟩
        obtain ⟨z, hz⟩ : ∃ z, z = T.safe := ⟨_, rfl⟩
        obtain ⟨L, hL⟩ : ∃ L, L = T'.bs.length := ⟨_, rfl⟩
        have SA := safe_any T5.out
        rw [← hp] at SA hk5
        rw [← hL] at hk5 q5 ⊢
        have SA := Lib.hid SA
        have s1 : sf.size = z := by rw [hz]; exact HSL.out
        have s2 : sb.size = L := by rw [hsb, str_size, hL]
        have s3 : sb.extract 0 z = sf := by rw [hsb, str_take, hz, GR.out.2]; exact HS.out.symm
        obtain ⟨sg, hsg⟩ : ∃ sg, sg = sb.extract 0 p := ⟨_, rfl⟩
        have HSG : Hid (sg = ⟨(T'.bs.take T'.safe).toArray⟩) := Lib.hid (by rw [hsg, hsb, str_take, hp])
        have s4 : sb.extract 0 p = sg := hsg.symm
        have j1 : z ≤ p := by rw [hz, hp]; exact GR.out.1
        have j2 : ¬ (p : Int) < (z : Int) := by omega
        have j3 : ¬ (L : Int) < (p : Int) := by omega
        clear hsg hL hz hp hsb o5 b5 A2
        go_wp2_with fail
        refine SA.out.mono ?_
        rintro e w6 ⟨rfl, rfl⟩
        go_wp2_with fail
        refine SA.out.mono ?_
        rintro e w6 ⟨rfl, rfl⟩
        go_wp2_with fail
        refine SA.out.mono ?_
        rintro e w6 ⟨rfl, rfl⟩
        go_wp2
        go_roundw
        case rel => exact ⟨k + 1, T', sg, by omega, by go_num, rfl, HSG, Lib.hid ⟨S4, S4'.out, T5.out⟩, B5⟩
        case measure => simp [intOf]; omega
    · obtain rfl : n = k := by omega
      go_wp2
      go_ret
      exact ⟨rfl, HB.out⟩

set_option maxRecDepth 100000 in
theorem tapeGrows_law (v : Value) (l : List Op12) (w : World) (h : OpsV w.heap.size w v l) (hl : l.length ≤ 9223372036854775807) :
    Calls Try.prog 6 #[v] w fun e w' => e = .returned (.bool true) ∧ Below w.heap.size w w' := by
  by_cases hn : l.length ≤ 80
  · exact tapeGrows_in v l w hn h
  · obtain ⟨A, cap, rfl⟩ := h.form
    clear h
    generalize l.length = n at *
    have i1 : (80 : Int) < (n : Int) := by omega
    go_enter Try.func6, Try.ntmps6
    go_wp2_with fail
    refine (anchor12_any w).mono ?_
    rintro e w1 ⟨rfl, b1⟩
    go_wp2
    go_ret
    exact ⟨rfl, b1⟩
end Go.Proofs.Ytjnhjpjebklalaa
