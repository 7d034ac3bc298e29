/- LedgerOpens: the law's walk. (Written by genLdOp.py.) -/
import Derived.Test.YtefgobmpleoafaaGreatMRx
import Derived.Test.YtefgobmpleoafaaGreatLdY
namespace Go.Proofs.YtefgobmpleoafaaGreat
open Go.RowKit
variable {w w' : World} {S : Nat → Prop} {gt : Nat}

theorem En.ok_small {e : En} (h : e.ok = true) : smallE e = true := by
  obtain ⟨_, _, _, h4⟩ := En.ok_iff.1 h
  obtain ⟨_, h5, h6, h7, _⟩ := Dl.okP_iff.1 h4
  unfold smallE
  simp only [Bool.and_eq_true, decide_eq_true_eq, List.all_eq_true]
  refine ⟨⟨by omega, by omega⟩, fun r hr => ?_⟩
  have := h6 r hr
  simp only [Ru.ok, decide_eq_true_eq] at this
  omega
theorem St.ok_small {s : St} (h : s.ok = true) : s.log.length ≤ 64 ∧ ∀ e ∈ s.log, smallE e = true := by
  obtain ⟨_, _, h3, h4, _⟩ := St.ok_iff.1 h
  exact ⟨h3, fun e he => En.ok_small (h4 e he)⟩
/-- A tape that has s, armed. -/
def Ta (s : List UInt8) (arm : Int) : Tp := ⟨s, 10000, s.length, arm, false⟩
theorem TapeAt.old' {T : Tp} (h : TapeAt w gt S T) : ∀ i, S i → i < w.heap.size := fun i hi => (h.old i hi).2
theorem Bytes.take {n₀ n c k : Nat} {A : Option Addr} {s : List UInt8} (h : Bytes n₀ w (.slice A n c) s) (hk : k ≤ s.length) : Bytes n₀ w (.slice A k c) (s.take k) := by
  obtain ⟨A', c', hv, hc, ht⟩ := h
  injection hv with e1 e2 e3
  subst e1 e3
  have hl : (s.take k).length = k := by simp; omega
  refine ⟨A, c, by rw [hl], by omega, fun hs => ?_⟩
  obtain ⟨b, off, hA, hb, hx⟩ := ht (by rintro rfl; simp at hs)
  refine ⟨b, off, hA, hb, fun j hj => ?_⟩
  rw [hl] at hj
  rw [hx j (by omega), at_take hj]
theorem Ta.arm_ (s : List UInt8) (arm : Int) : (Tq 10000 s).arm arm = Ta s arm := rfl
theorem Ta.trimE_ {s : List UInt8} {arm : Int} {u : Nat} (h : u ≤ s.length) : (Ta s arm).trimE (u : Int) = if arm = 0 then 40 else 0 := by
  unfold Tp.trimE
  rw [if_neg (by intro h; cases h), if_neg (by rintro (h' | h'); omega; (have : (s.length : Int) < (u : Int) := h'; omega))]
  rfl
theorem Ta.trim_bs {s : List UInt8} {arm : Int} {u : Nat} (h : u ≤ s.length) (ha : arm ≠ 0) : ((Ta s arm).trim (u : Int)).bs = s.take u := by
  unfold Tp.trim
  rw [if_neg (by intro h; cases h), if_neg (by rintro (h' | h'); omega; (have : (s.length : Int) < (u : Int) := h'; omega)), if_neg (show ¬ (Ta s arm).left = 0 from ha)]
  show ((Ta s arm).spent).bs.take _ = _
  rw [Tp.spent_bs]
  rfl
/-- What the ledger tells of a tape that has s, armed. -/
theorem open_armed {s : List UInt8} {arm : Int} {t : St} {u : Nat} (hT : TapeAt w gt S (Ta s arm)) (hR : Reads s t u) :
    Calls Tryz.prog 10 #[.pointer (some ⟨gt, 0, none⟩)] w fun e w' => Fr S w w' ∧
      ((u < s.length ∧ arm = 0 ∧ e = .returned (.tuple #[.pointer none, .int .i64 40])) ∨
       (¬ (u < s.length ∧ arm = 0) ∧ ∃ g bs, e = .returned (.tuple #[.pointer (some ⟨g, 0, none⟩), .int .i64 0]) ∧ LedV w' g gt S t false ∧ (∃ T, TapeAt w' gt S T ∧ T.bs = bs) ∧ bs = s.take u)) := by
  refine (open_any hT).mono ?_
  rintro e w' ⟨t', u', h1, hf, h2⟩
  obtain ⟨rfl, rfl⟩ := h1.one hR
  have hu := hR.ok.2
  refine ⟨hf, ?_⟩
  rcases h2 with ⟨h3, h4, rfl, h5⟩ | ⟨h3, h4, g, rfl, hg, hl, ht⟩ | ⟨h3, _, g, rfl, hg, hl, ht⟩
  · rw [Ta.trimE_ hu] at h4 ⊢
    by_cases ha : arm = 0
    · exact .inl ⟨h3, ha, by rw [if_pos ha]; rfl⟩
    · rw [if_neg ha] at h4
      exact absurd rfl h4
  · rw [Ta.trimE_ hu] at h4
    by_cases ha : arm = 0
    · rw [if_pos ha] at h4
      cases h4
    · exact .inr ⟨fun e => ha e.2, g, _, rfl, hl, ⟨_, ht, rfl⟩, Ta.trim_bs hu ha⟩
  · have h3' : u' = s.length := h3
    refine .inr ⟨fun e => by omega, g, _, rfl, hl, ⟨_, ht, rfl⟩, ?_⟩
    show s = s.take u'
    rw [h3', List.take_length]
set_option maxRecDepth 100000 in
set_option maxHeartbeats 16000000 in
theorem ledgerOpens_law (v : Value) (s : List UInt8) (arm : Int) (w : World) (hm : s.length ≤ 9223372036854775807) (hV : Bytes w.heap.size w v s) (ha : -9223372036854775808 ≤ arm ∧ arm ≤ 9223372036854775807) :
    Calls Tryz.prog 3 #[v, .int .i64 arm] w fun e w' => e = .returned (.bool true) ∧ Below w.heap.size w w' := by
  obtain ⟨A0, cap, rfl, hcap, hbb⟩ := hV
  have hV : Bytes w.heap.size w (.slice A0 s.length cap) s := ⟨A0, cap, rfl, hcap, hbb⟩
  have HV := Lib.hid hV
  have HA := Lib.hid ha
  obtain ⟨n, hn⟩ : ∃ n, n = s.length := ⟨_, rfl⟩
  rw [← hn] at HV hm hcap ⊢
  have HN := Lib.hid hn
  clear hV ha hn hbb
  go_enter Tryz.func3, Tryz.ntmps3
  go_wp2_with fail
  refine (anchor13_any w).mono ?_
  rintro e w1 ⟨rfl, b1⟩
  have B1 := Lib.hid b1
  clear b1
  by_cases h5 : n ≤ 5000
  · have h5i : ¬ (5000 : Int) < (n : Int) := by omega
    go_wp2_with fail
    refine (new_any 10000 (by decide) (by decide) w1).mono ?_
    rintro e w2 ⟨rfl, t2, b2⟩
    have B2 := Lib.hid (B1.out.trans (b2.mono B1.out.size))
    rw [Tq.new] at t2
    have hs1 : w.heap.size ≤ w1.heap.size := B1.out.size
    have AP := Lib.hid (append_any (n₀ := w.heap.size) (.slice A0 n cap) s (fun w' hF => (HV.out.below B2.out).below (hF.old B2.out.size fun i hi => by have e' : i = w1.heap.size := hi; omega)) t2)
    obtain ⟨p1, p2, p3⟩ := Tq.room (room := 10000) (bs := []) (b := s) (by simp; have := HN.out; omega)
    rw [p1] at AP
    have P2 := Lib.hid p2
    have P3 := Lib.hid p3
    have h12 := b2.size
    clear b2 p1 p2 p3 t2
    go_wp2_with fail
    refine AP.out.mono ?_
    rintro e w3 ⟨rfl, S3, hs3, t3, f3⟩
    have SY := Lib.hid (sync_any t3)
    rw [P2.out, P3.out] at SY
    have F3 : Hid (Below w.heap.size w w3) := Lib.hid (B2.out.trans (f3.old B2.out.size fun i hi => by have e' : i = w1.heap.size := hi; omega))
    have HS3 : Hid (∀ i, S3 i → w1.heap.size ≤ i) := Lib.hid fun i hi => by
      rcases hs3 i hi with e | e
      · have e' : i = w1.heap.size := e
        omega
      · omega
    have H12 := Lib.hid h12
    clear AP t3 f3 hs3 h12
    go_wp2_with fail
    refine SY.out.mono ?_
    rintro e w4 ⟨rfl, t4, f4⟩
    rw [List.nil_append] at t4
    have T4 := Lib.hid t4
    have F4 : Hid (Below w.heap.size w w4) := Lib.hid (F3.out.trans (f4.old F3.out.size fun i hi => by have := HS3.out i hi; omega))
    have HS4 : Hid (∀ i, S3 i → i < w4.heap.size) := Lib.hid t4.old'
    have RD := Lib.hid (xread13 (w := w4) (v := .slice A0 n cap) (s := s) ((HV.out.below F4.out).more F4.out.size) (by have := HN.out; omega))
    clear SY t4 f4
    go_wp2_with fail
    refine RD.out.mono ?_
    rintro e w5 ⟨t, u, A, m, c, rfl, hrd, hl, hmm, b5⟩
    have HRD := Lib.hid hrd
    have hun : u ≤ n := by have := hrd.ok.2; have := HN.out; omega
    have HM := Lib.hid hmm
    have F5 := Lib.hid (F4.out.trans (b5.mono F4.out.size))
    have h45 := b5.size
    have b6 : Below w5.heap.size w5 (w5.alloc (.cells #[.int .i64 t.vi, .int .i64 t.no, .int .i64 t.co, .int .i64 t.ac, .slice A m c] 31)) := (Below.refl _ _).alloc (Nat.le_refl _) _
    have X6 := Lib.hid (Blk.new w5 31 #[.int .i64 t.vi, .int .i64 t.no, .int .i64 t.co, .int .i64 t.ac, .slice A m c])
    have L6 := Lib.hid (hl.on b6)
    have T6 := Lib.hid ((T4.out.on b5).on b6)
    have F6 := Lib.hid (F5.out.trans (b6.mono F5.out.size))
    clear RD hrd hl hmm b5 b6
    go_upto_region 9 with (fail)
    generalize w5.alloc _ = w6 at *
    have AR := Lib.hid (arm_any arm HA.out T6.out)
    rw [Ta.arm_] at AR
    go_wp2_with fail
    refine AR.out.mono ?_
    rintro e w7 ⟨rfl, t7, f7⟩
    have X7 := Lib.hid (f7.blk X6.out (fun e => by have := HS4.out _ e; omega))
    have L7 := Lib.hid (L6.out.next (f7.sub fun i _ hi => HS4.out i hi))
    have F7 : Hid (Below w.heap.size w w7) := Lib.hid (F6.out.trans (f7.old F6.out.size fun i hi => by have := HS3.out i hi; have := B1.out.size; omega))
    have OP := Lib.hid (open_armed t7 HRD.out)
    clear AR t7 f7
    go_wp2_with fail
    refine OP.out.mono ?_
    rintro e w8 ⟨f8, h8⟩
    have X8 := Lib.hid (f8.blk X7.out (fun e => by have := HS4.out _ e; omega))
    have LX := Lib.hid (L7.out.next (f8.sub fun i _ hi => HS4.out i hi))
    have F8 : Hid (Below w.heap.size w w8) := Lib.hid (F7.out.trans (f8.old F7.out.size fun i hi => by have := HS3.out i hi; have := B1.out.size; omega))
    clear f8 OP
    rcases h8 with ⟨hlt, rfl, rfl⟩ | ⟨hno, g, bs, rfl, hled, ⟨T, ht, hbs⟩, hbe⟩
    · rw [← HN.out] at hlt
      have hlti : (u : Int) < (n : Int) := by omega
      go_wp2
      go_ret
      exact ⟨rfl, F8.out⟩
    · have L8 := Lib.hid hled
      have T8 := Lib.hid ht
      have HBS : Hid (T.bs = s.take u) := Lib.hid (hbs.trans hbe)
      have SM := Lib.hid (St.ok_small HRD.out.ok.1)
      have SH : Hid (∀ e ∈ t.log, short e) := Lib.hid fun e he => by have := smallE_len (SM.out.2 e he); exact this
      have HTK : Hid (∀ W, Below w8.heap.size w8 W → Bytes W.heap.size W (.slice A0 u cap) (s.take u)) := Lib.hid fun W hW => by
        have h := ((HV.out.below F8.out).more F8.out.size).below hW |>.more hW.size
        exact h.take (by rw [← HN.out]; exact hun)
      have hno' : ¬ (arm = 0 ∧ (u : Int) < (n : Int)) := fun h => hno ⟨by rw [← HN.out]; omega, h.1⟩
      have HNO := Lib.hid hno'
      clear hled ht hbs hbe hno hno'
      have hun2 : (u : Int) ≤ (n : Int) := by omega
      have hcap2 : (u : Int) ≤ (cap : Int) := by omega
      by_cases ha0 : arm = 0
      · subst ha0
        have hlt2 : ¬ (u : Int) < (n : Int) := fun h => HNO.out ⟨rfl, h⟩
        go_upto_region 13 with (fail)
        refine wp_region_held_drew (S := fun w' => Below w8.heap.size w8 w') (by kernel_rfl) (Below.drewN' (Below.refl _ w8) 1) (fun hHeld => ?_)
        refine take_d 0 56 (.int .i64 0) _ rfl rfl (by kernel_rfl) (by kernel_rfl) (by kernel_rfl) (fun _ _ _ h => h) (Or.inl ⟨by rfl, fun w' hSw => ?_⟩) hHeld ?_
        · go_simp
        simp only [List.setIfInBounds_toArray, List.set_cons_zero, List.set_cons_succ]
        refine take_d 1 57 (.bool true) _ rfl rfl (by kernel_rfl) (by kernel_rfl) (by kernel_rfl) (fun _ _ _ h => h) (Or.inl ⟨by rfl, fun w' hSw => ?_⟩) hHeld ?_
        · go_simp
        simp only [List.setIfInBounds_toArray, List.set_cons_zero, List.set_cons_succ]
        refine take_d 2 58 (.bool true) _ rfl rfl (by kernel_rfl) (by kernel_rfl) (by kernel_rfl) (fun _ _ _ h => h) (Or.inl ⟨by rfl, fun w' hSw => ?_⟩) hHeld ?_
        · go_simp
        simp only [List.setIfInBounds_toArray, List.set_cons_zero, List.set_cons_succ]
        refine take_d 3 59 (.pointer (some ⟨g, 0, none⟩)) _ rfl rfl (by kernel_rfl) (by kernel_rfl) (by kernel_rfl) (fun _ _ _ h => h) (Or.inl ⟨by rfl, fun w' hSw => ?_⟩) hHeld ?_
        · go_simp
        simp only [List.setIfInBounds_toArray, List.set_cons_zero, List.set_cons_succ]
        refine take_d 4 60 (.bool true) _ rfl rfl (by kernel_rfl) (by kernel_rfl) (by kernel_rfl) (fun _ _ _ h => h) (Or.inl ⟨by rfl, fun w' hSw => ?_⟩) hHeld ?_
        · go_simp
        simp only [List.setIfInBounds_toArray, List.set_cons_zero, List.set_cons_succ]
        refine take_d 5 61 (.bool true) _ rfl rfl (by kernel_rfl) (by kernel_rfl) (by kernel_rfl) (fun _ _ _ h => h) (Or.inl ⟨by rfl, fun w' hSw => ?_⟩) hHeld ?_
        · go_simp
        simp only [List.setIfInBounds_toArray, List.set_cons_zero, List.set_cons_succ]
        refine take_d 6 62 (.bool true) _ rfl rfl (by kernel_rfl) (by kernel_rfl) (by kernel_rfl) (fun _ _ _ h => h) (Or.inl ⟨by rfl, fun w' hSw => ?_⟩) hHeld ?_
        · go_simp
        simp only [List.setIfInBounds_toArray, List.set_cons_zero, List.set_cons_succ]
        refine take_d 7 63 (.pointer (some ⟨g, 0, none⟩)) _ rfl rfl (by kernel_rfl) (by kernel_rfl) (by kernel_rfl) (fun _ _ _ h => h) (Or.inl ⟨by rfl, fun w' hSw => ?_⟩) hHeld ?_
        · go_simp
        simp only [List.setIfInBounds_toArray, List.set_cons_zero, List.set_cons_succ]
        refine take_d 9 65 (.agg #[.int .i64 t.vi, .int .i64 t.no, .int .i64 t.co, .int .i64 t.ac, .slice A m c]) _ rfl rfl (by kernel_rfl) (by kernel_rfl) (by kernel_rfl) (fun _ _ _ h => h) (Or.inl ⟨by rfl, fun w' hSw => ?_⟩) hHeld ?_
        · have q0 := (X8.out.on hSw).cell 0
          have q1 := (X8.out.on hSw).cell 1
          have q2 := (X8.out.on hSw).cell 2
          have q3 := (X8.out.on hSw).cell 3
          have q4 := (X8.out.on hSw).cell 4
          go_simp
        simp only [List.setIfInBounds_toArray, List.set_cons_zero, List.set_cons_succ]
        refine wpAnyH_ready (rs := [8]) (by kernel_rfl) (by simp) ?_
        refine AllReadyH.cons rfl (fun K hK => ?_) AllReadyH.nil
        go_simp
        refine (state_any (by have := SM.out.1; omega) SH.out (L8.out.on hHeld)).mono ?_
        rintro e w9 ⟨A9, c9, rfl, o9, b9⟩
        have E9 := Lib.hid (LogV.of_own o9 (S := fun _ => False) (fun _ e => e.elim)).read
        have hS6 := Below.trans hHeld (b9.mono hHeld.size)
        refine hK.out _ _ hS6 (fun hHeld => ?_)
        clear hK K b9 o9 hS6
        obtain ⟨m9, hm9⟩ : ∃ m9, m9 = t.log.length := ⟨_, rfl⟩
        rw [← hm9] at E9 ⊢
        have HM9 := Lib.hid hm9
        clear hm9
        refine wpAnyH_ready (rs := [10]) (by kernel_rfl) (by simp) ?_
        refine AllReadyH.cons rfl (fun K hK => ?_) AllReadyH.nil
        go_simp
        refine (same13_any t t (.slice A9 m9 c9) (.slice A m c) _ (by have := SM.out.1; omega) SM.out.2 SH.out E9.out (LX.out.on hHeld).read).mono ?_
        rintro e w10 ⟨cc, rfl, hcc, b10⟩
        have hct : cc = true := hcc.2 (by first | rfl | trivial)
        subst hct
        have hS6 := Below.trans hHeld (b10.mono hHeld.size)
        refine hK.out _ _ hS6 (fun hHeld => ?_)
        clear hK K b10 hcc hS6
        refine take_d 11 67 (.bool true) _ rfl rfl (by kernel_rfl) (by kernel_rfl) (by kernel_rfl) (fun _ _ _ h => h) (Or.inl ⟨by rfl, fun w' hSw => ?_⟩) hHeld ?_
        · go_simp
        simp only [List.setIfInBounds_toArray, List.set_cons_zero, List.set_cons_succ]
        refine take_d 12 68 (.bool true) _ rfl rfl (by kernel_rfl) (by kernel_rfl) (by kernel_rfl) (fun _ _ _ h => h) (Or.inl ⟨by rfl, fun w' hSw => ?_⟩) hHeld ?_
        · go_simp
        simp only [List.setIfInBounds_toArray, List.set_cons_zero, List.set_cons_succ]
        refine take_d 13 69 (.pointer (some ⟨w1.heap.size, 0, none⟩)) _ rfl rfl (by kernel_rfl) (by kernel_rfl) (by kernel_rfl) (fun _ _ _ h => h) (Or.inl ⟨by rfl, fun w' hSw => ?_⟩) hHeld ?_
        · go_simp
        simp only [List.setIfInBounds_toArray, List.set_cons_zero, List.set_cons_succ]
        refine take_d 16 72 (.slice A0 n cap) _ rfl rfl (by kernel_rfl) (by kernel_rfl) (by kernel_rfl) (fun _ _ _ h => h) (Or.inl ⟨by rfl, fun w' hSw => ?_⟩) hHeld ?_
        · go_simp
        simp only [List.setIfInBounds_toArray, List.set_cons_zero, List.set_cons_succ]
        refine take_d 17 73 (.int .i64 (u : Int)) _ rfl rfl (by kernel_rfl) (by kernel_rfl) (by kernel_rfl) (fun _ _ _ h => h) (Or.inl ⟨by rfl, fun w' hSw => ?_⟩) hHeld ?_
        · go_simp
        simp only [List.setIfInBounds_toArray, List.set_cons_zero, List.set_cons_succ]
        refine take_d 18 74 (.slice A0 u cap) _ rfl rfl (by kernel_rfl) (by kernel_rfl) (by kernel_rfl) (fun _ _ _ h => h) (Or.inl ⟨by rfl, fun w' hSw => ?_⟩) hHeld ?_
        · have z1 := hun2
          have z2 := hcap2
          go_simp
        simp only [List.setIfInBounds_toArray, List.set_cons_zero, List.set_cons_succ]
        refine take_d 19 75 (.string ⟨(s.take u).toArray⟩) _ rfl rfl (by kernel_rfl) (by kernel_rfl) (by kernel_rfl) (fun _ _ _ h => h) (Or.inl ⟨by rfl, fun w' hSw => ?_⟩) hHeld ?_
        · have cv2 := run_string_bytes (HTK.out _ hSw)
          go_simp
        simp only [List.setIfInBounds_toArray, List.set_cons_zero, List.set_cons_succ]
        refine wpAnyH_ready (rs := [14]) (by kernel_rfl) (by simp) ?_
        refine AllReadyH.cons rfl (fun K hK => ?_) AllReadyH.nil
        go_simp
        have BY := Lib.hid (bytes_at (T8.out.on hHeld))
        rw [HBS.out] at BY
        obtain ⟨q, hq⟩ : ∃ q, q = (s.take u).length := ⟨_, rfl⟩
        rw [← hq] at BY
        refine (BY.out).mono ?_
        rintro e w11 ⟨rfl, o11, b11⟩
        have hS6 := Below.trans hHeld (b11.mono hHeld.size)
        have CV1 := Lib.hid (run_string_bytes o11.bytes)
        obtain ⟨B11, hB11⟩ : ∃ B, B = w10.heap.size := ⟨_, rfl⟩
        rw [← hB11] at CV1 ⊢
        refine hK.out _ _ hS6 (fun hHeld => ?_)
        clear hK K o11 hS6 hq BY b11 hB11
        refine wpAnyH_ready (rs := [15]) (by kernel_rfl) (by simp) ?_
        refine AllReadyH.cons rfl (fun K hK => ?_) AllReadyH.nil
        have cv1 := CV1.out
        go_simp
        refine hK.out _ _ hHeld (fun hHeld => ?_)
        clear hK K cv1
        refine take_d 20 76 (.bool true) _ rfl rfl (by kernel_rfl) (by kernel_rfl) (by kernel_rfl) (fun _ _ _ h => h) (Or.inl ⟨by rfl, fun w' hSw => ?_⟩) hHeld ?_
        · go_simp
        simp only [List.setIfInBounds_toArray, List.set_cons_zero, List.set_cons_succ]
        refine take_d 21 77 (.bool true) _ rfl rfl (by kernel_rfl) (by kernel_rfl) (by kernel_rfl) (fun _ _ _ h => h) (Or.inl ⟨by rfl, fun w' hSw => ?_⟩) hHeld ?_
        · go_simp
        simp only [List.setIfInBounds_toArray, List.set_cons_zero, List.set_cons_succ]
        refine take_d 22 4 (.bool true) _ rfl rfl (by kernel_rfl) (by kernel_rfl) (by kernel_rfl) (fun _ _ _ h => h) (Or.inl ⟨by rfl, fun w' hSw => ?_⟩) hHeld ?_
        · go_simp
        simp only [List.setIfInBounds_toArray, List.set_cons_zero, List.set_cons_succ]
        refine wpAnyH_done (by kernel_rfl) ?_ _
        have FB := Lib.hid (F8.out.trans (hHeld.mono F8.out.size))
        clear hHeld
        go_wp2
        go_ret
        exact ⟨rfl, FB.out⟩
      · have ha1 : (arm == 0) = false := by simp [ha0]
        go_upto_region 13 with (fail)
        refine wp_region_held_drew (S := fun w' => Below w8.heap.size w8 w') (by kernel_rfl) (Below.drewN' (Below.refl _ w8) 1) (fun hHeld => ?_)
        refine take_d 0 56 (.int .i64 0) _ rfl rfl (by kernel_rfl) (by kernel_rfl) (by kernel_rfl) (fun _ _ _ h => h) (Or.inl ⟨by rfl, fun w' hSw => ?_⟩) hHeld ?_
        · go_simp
        simp only [List.setIfInBounds_toArray, List.set_cons_zero, List.set_cons_succ]
        refine take_d 1 57 (.bool true) _ rfl rfl (by kernel_rfl) (by kernel_rfl) (by kernel_rfl) (fun _ _ _ h => h) (Or.inl ⟨by rfl, fun w' hSw => ?_⟩) hHeld ?_
        · go_simp
        simp only [List.setIfInBounds_toArray, List.set_cons_zero, List.set_cons_succ]
        refine take_d 2 58 (.bool true) _ rfl rfl (by kernel_rfl) (by kernel_rfl) (by kernel_rfl) (fun _ _ _ h => h) (Or.inl ⟨by rfl, fun w' hSw => ?_⟩) hHeld ?_
        · go_simp
        simp only [List.setIfInBounds_toArray, List.set_cons_zero, List.set_cons_succ]
        refine take_d 3 59 (.pointer (some ⟨g, 0, none⟩)) _ rfl rfl (by kernel_rfl) (by kernel_rfl) (by kernel_rfl) (fun _ _ _ h => h) (Or.inl ⟨by rfl, fun w' hSw => ?_⟩) hHeld ?_
        · go_simp
        simp only [List.setIfInBounds_toArray, List.set_cons_zero, List.set_cons_succ]
        refine take_d 4 60 (.bool true) _ rfl rfl (by kernel_rfl) (by kernel_rfl) (by kernel_rfl) (fun _ _ _ h => h) (Or.inl ⟨by rfl, fun w' hSw => ?_⟩) hHeld ?_
        · go_simp
        simp only [List.setIfInBounds_toArray, List.set_cons_zero, List.set_cons_succ]
        refine take_d 5 61 (.bool true) _ rfl rfl (by kernel_rfl) (by kernel_rfl) (by kernel_rfl) (fun _ _ _ h => h) (Or.inl ⟨by rfl, fun w' hSw => ?_⟩) hHeld ?_
        · go_simp
        simp only [List.setIfInBounds_toArray, List.set_cons_zero, List.set_cons_succ]
        refine take_d 6 62 (.bool true) _ rfl rfl (by kernel_rfl) (by kernel_rfl) (by kernel_rfl) (fun _ _ _ h => h) (Or.inl ⟨by rfl, fun w' hSw => ?_⟩) hHeld ?_
        · go_simp
        simp only [List.setIfInBounds_toArray, List.set_cons_zero, List.set_cons_succ]
        refine take_d 7 63 (.pointer (some ⟨g, 0, none⟩)) _ rfl rfl (by kernel_rfl) (by kernel_rfl) (by kernel_rfl) (fun _ _ _ h => h) (Or.inl ⟨by rfl, fun w' hSw => ?_⟩) hHeld ?_
        · go_simp
        simp only [List.setIfInBounds_toArray, List.set_cons_zero, List.set_cons_succ]
        refine take_d 9 65 (.agg #[.int .i64 t.vi, .int .i64 t.no, .int .i64 t.co, .int .i64 t.ac, .slice A m c]) _ rfl rfl (by kernel_rfl) (by kernel_rfl) (by kernel_rfl) (fun _ _ _ h => h) (Or.inl ⟨by rfl, fun w' hSw => ?_⟩) hHeld ?_
        · have q0 := (X8.out.on hSw).cell 0
          have q1 := (X8.out.on hSw).cell 1
          have q2 := (X8.out.on hSw).cell 2
          have q3 := (X8.out.on hSw).cell 3
          have q4 := (X8.out.on hSw).cell 4
          go_simp
        simp only [List.setIfInBounds_toArray, List.set_cons_zero, List.set_cons_succ]
        refine wpAnyH_ready (rs := [8]) (by kernel_rfl) (by simp) ?_
        refine AllReadyH.cons rfl (fun K hK => ?_) AllReadyH.nil
        go_simp
        refine (state_any (by have := SM.out.1; omega) SH.out (L8.out.on hHeld)).mono ?_
        rintro e w9 ⟨A9, c9, rfl, o9, b9⟩
        have E9 := Lib.hid (LogV.of_own o9 (S := fun _ => False) (fun _ e => e.elim)).read
        have hS6 := Below.trans hHeld (b9.mono hHeld.size)
        refine hK.out _ _ hS6 (fun hHeld => ?_)
        clear hK K b9 o9 hS6
        obtain ⟨m9, hm9⟩ : ∃ m9, m9 = t.log.length := ⟨_, rfl⟩
        rw [← hm9] at E9 ⊢
        have HM9 := Lib.hid hm9
        clear hm9
        refine wpAnyH_ready (rs := [10]) (by kernel_rfl) (by simp) ?_
        refine AllReadyH.cons rfl (fun K hK => ?_) AllReadyH.nil
        go_simp
        refine (same13_any t t (.slice A9 m9 c9) (.slice A m c) _ (by have := SM.out.1; omega) SM.out.2 SH.out E9.out (LX.out.on hHeld).read).mono ?_
        rintro e w10 ⟨cc, rfl, hcc, b10⟩
        have hct : cc = true := hcc.2 (by first | rfl | trivial)
        subst hct
        have hS6 := Below.trans hHeld (b10.mono hHeld.size)
        refine hK.out _ _ hS6 (fun hHeld => ?_)
        clear hK K b10 hcc hS6
        refine take_d 11 67 (.bool true) _ rfl rfl (by kernel_rfl) (by kernel_rfl) (by kernel_rfl) (fun _ _ _ h => h) (Or.inl ⟨by rfl, fun w' hSw => ?_⟩) hHeld ?_
        · go_simp
        simp only [List.setIfInBounds_toArray, List.set_cons_zero, List.set_cons_succ]
        refine take_d 12 68 (.bool true) _ rfl rfl (by kernel_rfl) (by kernel_rfl) (by kernel_rfl) (fun _ _ _ h => h) (Or.inl ⟨by rfl, fun w' hSw => ?_⟩) hHeld ?_
        · go_simp
        simp only [List.setIfInBounds_toArray, List.set_cons_zero, List.set_cons_succ]
        refine take_d 13 69 (.pointer (some ⟨w1.heap.size, 0, none⟩)) _ rfl rfl (by kernel_rfl) (by kernel_rfl) (by kernel_rfl) (fun _ _ _ h => h) (Or.inl ⟨by rfl, fun w' hSw => ?_⟩) hHeld ?_
        · go_simp
        simp only [List.setIfInBounds_toArray, List.set_cons_zero, List.set_cons_succ]
        refine take_d 16 72 (.slice A0 n cap) _ rfl rfl (by kernel_rfl) (by kernel_rfl) (by kernel_rfl) (fun _ _ _ h => h) (Or.inl ⟨by rfl, fun w' hSw => ?_⟩) hHeld ?_
        · go_simp
        simp only [List.setIfInBounds_toArray, List.set_cons_zero, List.set_cons_succ]
        refine take_d 17 73 (.int .i64 (u : Int)) _ rfl rfl (by kernel_rfl) (by kernel_rfl) (by kernel_rfl) (fun _ _ _ h => h) (Or.inl ⟨by rfl, fun w' hSw => ?_⟩) hHeld ?_
        · go_simp
        simp only [List.setIfInBounds_toArray, List.set_cons_zero, List.set_cons_succ]
        refine take_d 18 74 (.slice A0 u cap) _ rfl rfl (by kernel_rfl) (by kernel_rfl) (by kernel_rfl) (fun _ _ _ h => h) (Or.inl ⟨by rfl, fun w' hSw => ?_⟩) hHeld ?_
        · have z1 := hun2
          have z2 := hcap2
          go_simp
        simp only [List.setIfInBounds_toArray, List.set_cons_zero, List.set_cons_succ]
        refine take_d 19 75 (.string ⟨(s.take u).toArray⟩) _ rfl rfl (by kernel_rfl) (by kernel_rfl) (by kernel_rfl) (fun _ _ _ h => h) (Or.inl ⟨by rfl, fun w' hSw => ?_⟩) hHeld ?_
        · have cv2 := run_string_bytes (HTK.out _ hSw)
          go_simp
        simp only [List.setIfInBounds_toArray, List.set_cons_zero, List.set_cons_succ]
        refine wpAnyH_ready (rs := [14]) (by kernel_rfl) (by simp) ?_
        refine AllReadyH.cons rfl (fun K hK => ?_) AllReadyH.nil
        go_simp
        have BY := Lib.hid (bytes_at (T8.out.on hHeld))
        rw [HBS.out] at BY
        obtain ⟨q, hq⟩ : ∃ q, q = (s.take u).length := ⟨_, rfl⟩
        rw [← hq] at BY
        refine (BY.out).mono ?_
        rintro e w11 ⟨rfl, o11, b11⟩
        have hS6 := Below.trans hHeld (b11.mono hHeld.size)
        have CV1 := Lib.hid (run_string_bytes o11.bytes)
        obtain ⟨B11, hB11⟩ : ∃ B, B = w10.heap.size := ⟨_, rfl⟩
        rw [← hB11] at CV1 ⊢
        refine hK.out _ _ hS6 (fun hHeld => ?_)
        clear hK K o11 hS6 hq BY b11 hB11
        refine wpAnyH_ready (rs := [15]) (by kernel_rfl) (by simp) ?_
        refine AllReadyH.cons rfl (fun K hK => ?_) AllReadyH.nil
        have cv1 := CV1.out
        go_simp
        refine hK.out _ _ hHeld (fun hHeld => ?_)
        clear hK K cv1
        refine take_d 20 76 (.bool true) _ rfl rfl (by kernel_rfl) (by kernel_rfl) (by kernel_rfl) (fun _ _ _ h => h) (Or.inl ⟨by rfl, fun w' hSw => ?_⟩) hHeld ?_
        · go_simp
        simp only [List.setIfInBounds_toArray, List.set_cons_zero, List.set_cons_succ]
        refine take_d 21 77 (.bool true) _ rfl rfl (by kernel_rfl) (by kernel_rfl) (by kernel_rfl) (fun _ _ _ h => h) (Or.inl ⟨by rfl, fun w' hSw => ?_⟩) hHeld ?_
        · go_simp
        simp only [List.setIfInBounds_toArray, List.set_cons_zero, List.set_cons_succ]
        refine take_d 22 4 (.bool true) _ rfl rfl (by kernel_rfl) (by kernel_rfl) (by kernel_rfl) (fun _ _ _ h => h) (Or.inl ⟨by rfl, fun w' hSw => ?_⟩) hHeld ?_
        · go_simp
        simp only [List.setIfInBounds_toArray, List.set_cons_zero, List.set_cons_succ]
        refine wpAnyH_done (by kernel_rfl) ?_ _
        have FB := Lib.hid (F8.out.trans (hHeld.mono F8.out.size))
        clear hHeld
        go_wp2
        go_ret
        exact ⟨rfl, FB.out⟩
  · have h5i : (5000 : Int) < (n : Int) := by omega
    go_wp2
    go_ret
    exact ⟨rfl, B1.out⟩
end Go.Proofs.YtefgobmpleoafaaGreat
