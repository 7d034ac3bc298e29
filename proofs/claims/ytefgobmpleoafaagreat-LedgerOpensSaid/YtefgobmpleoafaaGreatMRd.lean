/- Joined: PkRa, PkRb, PkRc, PkRd. -/
import Derived.Test.YtefgobmpleoafaaGreatPkP
import Derived.Test.YtefgobmpleoafaaGreatPkK
/- The document's reader of bytes: a number. -/
namespace Go.Proofs.YtefgobmpleoafaaGreat
open Go.RowKit
variable {w w' w'' : World} {n₀ rb : Nat} {V : Value} {b s : List UInt8} {wr : Bool}

/-- The document's reader: its block, what stays to be read, and whether it is wrong. -/
def Rx (n₀ rb : Nat) (V : Value) (b : List UInt8) (w : World) (s : List UInt8) (wr : Bool) : Prop :=
  ∃ p : Nat, Blk w rb 71 #[V, .int .i64 (p : Int), .bool wr] ∧ Bytes n₀ w V b ∧ n₀ ≤ rb ∧ p ≤ b.length ∧ b.length ≤ 100000 ∧ s = b.drop p
theorem Rx.lt (h : Rx n₀ rb V b w s wr) : rb < w.heap.size := by
  obtain ⟨p, hb, _⟩ := h
  exact hb.lt
theorem Rx.on (h : Rx n₀ rb V b w s wr) (hb : Below w.heap.size w w') : Rx n₀ rb V b w' s wr := by
  obtain ⟨p, h1, h2, h3, h4⟩ := h
  exact ⟨p, h1.on hb, h2.below (hb.mono (by have := h1.lt; omega)), h3, h4⟩
theorem Rx.alloc (h : Rx n₀ rb V b w s wr) (o : Obj) : Rx n₀ rb V b (w.alloc o) s wr := h.on ((Below.refl _ _).alloc (Nat.le_refl _) o)
theorem Rx.far (h : Rx n₀ rb V b w s wr) {q : Addr} (hq : rb < q.block) (u : Value) : Rx n₀ rb V b (w.setCell q u) s wr := by
  obtain ⟨p, h1, h2, h3, h4⟩ := h
  refine ⟨p, h1.far (by omega) u, ?_, h3, h4⟩
  exact h2.below ((Below.refl n₀ w).setCell (by omega) u)
theorem Rx.grown {row : Option Nat} (h : Rx n₀ rb V b w s wr) (hg : w.grownBy w' row) (hr : ∀ k, some k = row → rb < k) : Rx n₀ rb V b w' s wr := by
  obtain ⟨p, h1, h2, h3, h4⟩ := h
  have hlt := h1.lt
  refine ⟨p, h1.grown hg (fun e => by have := hr _ e; omega), ?_, h3, h4⟩
  exact h2.below ⟨hg.os, hg.tape, hg.output, hg.size, fun i hi => hg.block i (by omega) (fun e => by have := hr _ e; omega)⟩
theorem Rx.bad (h : Rx n₀ rb V b w s wr) : Rx n₀ rb V b (w.setCell ⟨rb, 2, none⟩ (.bool true)) s true := by
  obtain ⟨p, h1, h2, h3, h4⟩ := h
  exact ⟨p, by have := h1.set_ 2 (.bool true); simpa using this, h2.below ((Below.refl n₀ w).setCell h3 _), h3, h4⟩
/-- What a reading of one thing leaves. -/
def RxP {α : Type} (n₀ rb : Nat) (V : Value) (b : List UInt8) (w : World) (p : Option (α × S)) (wr : Bool) (val : World → Value → α → Prop) (e : Ending) (w' : World) : Prop :=
  ∃ x t wr' v, e = .returned v ∧ val w' v x ∧ Rx n₀ rb V b w' t wr' ∧ FrR rb w w' ∧ Out p wr x t wr'
set_option maxRecDepth 100000 in
set_option maxHeartbeats 4000000 in
theorem xrnum_any (h : Rx n₀ rb V b w s wr) : Calls Tryz.prog 32 #[.pointer (some ⟨rb, 0, none⟩)] w (RxP n₀ rb V b w (pN s) wr NumV) := by
  have H := Lib.hid h
  obtain ⟨p, hB, hS, hn0, hp, hl, hs⟩ := h
  have HS := Lib.hid hS
  have HB := Lib.hid hB
  have HSS := Lib.hid hs
  obtain ⟨A, cap, rfl, hcap, ht⟩ := hS
  obtain ⟨m, hm⟩ : ∃ m, m = b.length := ⟨_, rfl⟩
  have c0 := hB.cell 0
  have c1 := hB.cell 1
  have c2 := hB.cell 2
  have f2 := hB.frozen 2
  have f1 := hB.frozen 1
  have hlt := hB.lt
  rw [← hm] at c0 hp hl hcap
  have HM := Lib.hid hm
  have HT := Lib.hid ht
  rw [← hm] at HB HS H ⊢
  clear hB hs hm ht
  cases wr with
  | true =>
    go_enter Tryz.func32, Tryz.ntmps32
    go_wp2
    go_quiet (fail)
    go_wp2
    go_ret
    exact ⟨0, s, true, _, rfl, ⟨rfl, by omega, by omega⟩, (H.out.on (Below.drewN' (Below.refl _ _) _)).bad, (FrR.of_below (Below.drewN' (Below.refl _ _) _)).set_ (q := ⟨rb, 2, none⟩) (.inl rfl) _, Out.wrong _ _⟩
  | false =>
    by_cases h6 : (m : Int) - (p : Int) < 6
    · have hpn : pN s = none := by unfold pN; rw [if_pos (by rw [HSS.out, List.length_drop, ← HM.out]; omega)]
      have HPN := Lib.hid hpn
      clear hpn
      go_enter Tryz.func32, Tryz.ntmps32
      go_wp2
      go_quiet (fail)
      go_wp2
      go_ret
      exact ⟨0, s, true, _, rfl, ⟨rfl, by omega, by omega⟩, (H.out.on (Below.drewN' (Below.refl _ _) _)).bad, (FrR.of_below (Below.drewN' (Below.refl _ _) _)).set_ (q := ⟨rb, 2, none⟩) (.inl rfl) _, Out.none HPN.out _ _ _⟩
    · have hpn : pN s = some ((num (s.take 6) : Int) - 1, s.drop 6) := by unfold pN; rw [if_neg (by rw [HSS.out, List.length_drop, ← HM.out]; omega)]
      have hTl : (s.take 6).length = 6 := by rw [List.length_take, HSS.out, List.length_drop, ← HM.out]; omega
      have hTa : ∀ k, k < 6 → at_ (s.take 6) k = at_ b (p + k) := fun k hk => by rw [at_take hk, HSS.out, at_drop]
      have hnl := num_lt6 hTl
      have hdr : s.drop 6 = b.drop (p + 6) := by rw [HSS.out, List.drop_drop]
      obtain ⟨T, hT⟩ : ∃ T, T = s.take 6 := ⟨_, rfl⟩
      rw [← hT] at hpn hTl hTa hnl
      obtain ⟨bb, off, rfl, hbb, ht⟩ := HT.out (by intro e; rw [e] at HM; have := HM.out; simp at this; omega)
      have HG : Hid (∀ w', Below w.heap.size w w' → ∀ q, q < m → w'.cell? ⟨bb, off + q, none⟩ = some (.int .u8 (at_ b q))) := Lib.hid fun w' hw q hq => by
        obtain ⟨A0, cap0, hv, hl0, ht0⟩ := HS.out.below (hw.mono (by omega))
        injection hv with h1 h2 h3
        subst h1
        obtain ⟨b', off', hA', _, ht0⟩ := ht0 (by intro e; rw [e] at HM; have := HM.out; simp at this; omega)
        injection hA' with h4
        injection h4 with h5 h6 h7
        subst h5 h6
        exact ht0 q (by rw [← HM.out]; exact hq)
      have HPN := Lib.hid hpn
      have HTl := Lib.hid hTl
      have HTa := Lib.hid hTa
      have HDR := Lib.hid hdr
      have HNL := Lib.hid hnl
      clear hpn hTl hTa hT ht hdr hnl HT
      go_enter Tryz.func32, Tryz.ntmps32
      go_wp2
      go_quiet (fail)
      go_wp2
      go_loopw [3, 4] (fun a i wr' => ∃ k : Nat, k ≤ 6 ∧ i = .int .i64 k ∧ a = .int .i64 (((num (T.take k)) : Nat) : Int) ∧ num (T.take k) < 256 ^ k ∧ Hid (Below w.heap.size w wr')) (fun _ i _ => 6 - (intOf i).toNat)
      case atStart => exact ⟨0, Nat.zero_le _, rfl, rfl, by simp [num], Lib.hid (Below.drewN' (Below.refl _ _) _)⟩
      case round =>
        obtain ⟨k, hk, rfl, rfl, hb, HBl⟩ := hrel
        have HBr := Lib.hid (HB.out.on HBl.out)
        have d0 := HBr.out.cell 0
        have d1 := HBr.out.cell 1
        have g1 := HBr.out.frozen 1
        have l1 := HBr.out.lt
        by_cases hlt6 : k < 6
        · obtain ⟨q, hq⟩ : ∃ q, q = p + k := ⟨_, rfl⟩
          have g := HG.out _ HBl.out q (by omega)
          have hqi : (p : Int) + (k : Int) = (q : Int) := by omega
          have hqt : ((q : Int)).toNat = q := by omega
          have ha : at_ T k = at_ b q := by rw [HTa.out k hlt6, hq]
          have c9 := at_lt b q
          have st := num_step T k (by rw [HTl.out]; exact hlt6)
          rw [ha] at st
          have hb2 : num (T.take k) < 1099511627776 := Nat.lt_of_lt_of_le hb (Nat.le_trans (Nat.pow_le_pow_right (by decide) (show k ≤ 5 by omega)) (by decide))
          generalize num (T.take k) = N at *
          generalize at_ b q = x at *
          have ST := Lib.hid st
          have HN := Lib.hid hb
          have HQ := Lib.hid hq
          have hq2 : q < m := by omega
          have hq3 : (q : Int) < (m : Int) := by omega
          clear st hb ha hq
          have hw1 : IntKind.i64.wrap ((N : Int) * 256) = (N : Int) * 256 := IntWalk.i64_in _ (by omega)
          have hw2 : IntKind.i64.wrap ((N : Int) * 256 + (x : Int)) = (N : Int) * 256 + (x : Int) := IntWalk.i64_in _ (by omega)
          have hw3 : IntKind.i64.wrap (q : Int) = (q : Int) := IntWalk.i64_in _ (by omega)
          have hw4 : IntKind.i64.wrap (x : Int) = (x : Int) := IntWalk.i64_in _ (by omega)
          go_wp2
          go_quiet (fail)
          go_wp2
          go_roundw
          case rel => exact ⟨k + 1, by omega, by go_num, by rw [ST.out]; first | rfl | push_cast; rfl, by rw [ST.out, Nat.pow_succ]; have := HN.out; omega, Lib.hid (Below.drewN' HBl.out _)⟩
          case measure => simp [intOf]; omega
        · obtain rfl : k = 6 := by omega
          have e6 : T.take 6 = T := List.take_of_length_le (by rw [HTl.out]; omega)
          rw [e6]
          have hb2 : num T < 281474976710656 := HNL.out
          clear hb
          go_wp2
          go_ret
          refine ⟨_, _, false, _, rfl, ⟨rfl, by omega, by omega⟩, ⟨p + 6, ?_, ?_, hn0, by rw [← HM.out]; omega, by rw [← HM.out]; omega, HDR.out⟩, (FrR.of_below HBl.out).set_ (q := ⟨rb, 1, none⟩) (.inl rfl) _, by rw [HPN.out]; exact Out.pure _ _ _⟩
          · have := HBr.out.set_ 1 (.int .i64 ((p : Int) + 6))
            simpa using this
          · exact (HS.out.below (HBl.out.mono (by omega))).below ((Below.refl n₀ _).setCell hn0 _)
end Go.Proofs.YtefgobmpleoafaaGreat

/- The document's reader: how many. -/
namespace Go.Proofs.YtefgobmpleoafaaGreat
open Go.RowKit
variable {w w' w'' : World} {n₀ rb : Nat} {V : Value} {b s : List UInt8} {wr : Bool}

set_option maxRecDepth 100000 in
set_option maxHeartbeats 4000000 in
theorem xrcount_any (h : Rx n₀ rb V b w s wr) : Calls Tryz.prog 47 #[.pointer (some ⟨rb, 0, none⟩)] w fun e w' => ∃ (k : Nat) (t : S) (wr' : Bool), e = .returned (.int .i64 (k : Int)) ∧ k ≤ t.length ∧ Rx n₀ rb V b w' t wr' ∧ FrR rb w w' ∧ Out (pC s) wr k t wr' := by
  have H := Lib.hid h
  clear h
  go_enter Tryz.func47, Tryz.ntmps47
  go_wp2_with fail
  refine (xrnum_any H.out).mono ?_
  rintro e w1 ⟨x, t, wr1, _, rfl, ⟨rfl, hx1, hx2⟩, h1, h2, h3⟩
  have H1 := Lib.hid h1
  have H2 := Lib.hid h2
  have H3 := Lib.hid h3
  obtain ⟨p, hB, hS, hn0, hp, hl, hs⟩ := h1
  obtain ⟨A, cap, hv, hcap, ht⟩ := hS
  obtain ⟨m, hm⟩ : ∃ m, m = b.length := ⟨_, rfl⟩
  have c0 := hB.cell 0
  rw [hv, ← hm] at c0
  have c1 := hB.cell 1
  have c2 := hB.cell 2
  have f2 := hB.frozen 2
  have hlt := hB.lt
  have htl : (t.length : Int) = (m : Int) - (p : Int) := by rw [hs, List.length_drop, hm]; omega
  rw [← hm] at hp hl hcap
  have HTL := Lib.hid htl
  clear hB h2 h3 hs ht htl H hn0 hv hm
  have BAD : Hid (∀ k, Rx n₀ rb V b ((w1.drewN k).setCell ⟨rb, 2, none⟩ (.bool true)) t true ∧ FrR rb w ((w1.drewN k).setCell ⟨rb, 2, none⟩ (.bool true))) := Lib.hid fun k =>
    ⟨(H1.out.on (Below.drewN' (Below.refl _ _) _)).bad, (H2.out.trans (FrR.of_below (Below.drewN' (Below.refl _ _) _))).set_ (q := ⟨rb, 2, none⟩) (.inl rfl) _⟩
  have hw : IntKind.i64.wrap ((m : Int) - (p : Int)) = (m : Int) - (p : Int) := IntWalk.i64_in _ (by omega)
  cases wr1 with
  | true =>
    go_wp2
    go_quiet (fail)
    go_wp2
    go_ret
    exact ⟨0, t, true, rfl, Nat.zero_le _, (BAD.out _).1, (BAD.out _).2, Out.bind H3.out (Out.wrong _ _)⟩
  | false =>
    by_cases h0 : x < 0
    · obtain rfl : x = -1 := by omega
      have hc := c_none (x := -1) (t := t) (by omega)
      have HC := Lib.hid hc
      clear hc
      go_wp2
      go_quiet (fail)
      go_wp2
      go_ret
      exact ⟨0, t, true, rfl, Nat.zero_le _, (BAD.out _).1, (BAD.out _).2, Out.bind H3.out (Out.none HC.out _ _ _)⟩
    · by_cases h1 : (m : Int) - (p : Int) < x
      · have hc := c_none (x := x) (t := t) (by rw [HTL.out]; omega)
        have HC := Lib.hid hc
        clear hc
        go_wp2
        go_quiet (fail)
        go_wp2
        go_ret
        exact ⟨0, t, true, rfl, Nat.zero_le _, (BAD.out _).1, (BAD.out _).2, Out.bind H3.out (Out.none HC.out _ _ _)⟩
      · have d0 : decide (x < 0) = false := decide_eq_false h0
        have d1 : decide ((m : Int) - (p : Int) < x) = false := decide_eq_false h1
        go_wp2
        go_quiet (fail)
        go_wp2
        go_ret
        have hx0 : (0 : Int) ≤ x := by omega
        obtain ⟨k, rfl⟩ : ∃ k : Nat, x = (k : Int) := ⟨x.toNat, by omega⟩
        refine ⟨k, t, false, rfl, by have := HTL.out; omega, H1.out.on (Below.drewN' (Below.refl _ _) _), H2.out.trans (FrR.of_below (Below.drewN' (Below.refl _ _) _)), Out.bind H3.out ?_⟩
        rw [if_pos (by have := HTL.out; simp only; omega)]
        exact Out.pure _ _ _
end Go.Proofs.YtefgobmpleoafaaGreat

/- The document's reader: a rule. -/
namespace Go.Proofs.YtefgobmpleoafaaGreat
open Go.RowKit
variable {w w' w'' : World} {n₀ rb : Nat} {V : Value} {b s : List UInt8} {wr : Bool}

theorem xsl {A : Option Addr} {m cap p k : Nat} (h : Bytes n₀ w (.slice A m cap) b) (hp : p + k ≤ m) (A' : Option Addr) (c : Nat) (hA : 0 < k → A' = A.map (·.add p)) (hc : k ≤ c) : Bytes n₀ w (.slice A' k c) ((b.drop p).take k) := by
  obtain ⟨A0, cap0, hv, hl, ht⟩ := h
  injection hv with h1 h2 h3
  subst h1 h2 h3
  have hlen : ((b.drop p).take k).length = k := by rw [List.length_take, List.length_drop]; omega
  refine ⟨A', c, by rw [hlen], by rw [hlen]; exact hc, fun hs => ?_⟩
  have hk : 0 < k := by rw [← hlen]; exact List.length_pos_iff.2 hs
  obtain ⟨g, off, hA', hb, hcl⟩ := ht (by rintro rfl; simp at hp; omega)
  have hadd : (⟨g, off, none⟩ : Addr).add p = ⟨g, off + p, none⟩ := by unfold Addr.add; split <;> simp_all
  refine ⟨g, off + p, by rw [hA hk, hA']; simp [hadd], hb, fun j hj => ?_⟩
  rw [hlen] at hj
  rw [Nat.add_assoc, hcl (p + j) (by omega), at_take hj, at_drop]
set_option maxRecDepth 100000 in
set_option maxHeartbeats 8000000 in
theorem xrrule_any (h : Rx n₀ rb V b w s wr) : Calls Tryz.prog 68 #[.pointer (some ⟨rb, 0, none⟩)] w (RxP n₀ rb V b w (pR s) wr (RulV w.heap.size)) := by
  have hrb := h.lt
  have H0 := Lib.hid (h.alloc (.cells #[.int .i64 0, .int .i64 0, .int .i64 0, .int .i64 0, .string ⟨#[]⟩] 125))
  have F0 := Lib.hid ((FrR.refl (rb := rb) w).alloc (.cells #[.int .i64 0, .int .i64 0, .int .i64 0, .int .i64 0, .string ⟨#[]⟩] 125))
  have Z0 := Lib.hid (Blk.new w 125 #[.int .i64 0, .int .i64 0, .int .i64 0, .int .i64 0, .string ⟨#[]⟩])
  clear h
  have s0 : w.heap.size < (w.alloc (.cells #[.int .i64 0, .int .i64 0, .int .i64 0, .int .i64 0, .string ⟨#[]⟩] 125)).heap.size := by simp
  go_enter Tryz.func68, Tryz.ntmps68
  go_upto_region 1 with (fail)
  generalize w.alloc _ = w0 at *
  go_wp2_with fail
  refine (xrnum_any H0.out).mono ?_
  rintro e w1 ⟨x1, t1, wr1, _, rfl, ⟨rfl, _, _⟩, h1, h2, h3⟩
  have H1 := Lib.hid h1
  have F1 := Lib.hid (F0.out.trans h2)
  have Z1 := Lib.hid (Z0.out.blk0 h2 hrb)
  have O1 := Lib.hid h3
  have s1 : w.heap.size < w1.heap.size := Nat.lt_of_lt_of_le s0 h2.size
  clear h1 h2 h3
  go_wp2_with fail
  refine (xrnum_any H1.out).mono ?_
  rintro e w2 ⟨x2, t2, wr2, _, rfl, ⟨rfl, _, _⟩, h1, h2, h3⟩
  have H2 := Lib.hid h1
  have F2 := Lib.hid (F1.out.trans h2)
  have Z2 := Lib.hid (Z1.out.blk0 h2 hrb)
  have O2 := Lib.hid h3
  have s2 : w.heap.size < w2.heap.size := Nat.lt_of_lt_of_le s1 h2.size
  clear h1 h2 h3
  go_wp2_with fail
  refine (xrnum_any H2.out).mono ?_
  rintro e w3 ⟨x3, t3, wr3, _, rfl, ⟨rfl, _, _⟩, h1, h2, h3⟩
  have H3 := Lib.hid h1
  have F3 := Lib.hid (F2.out.trans h2)
  have Z3 := Lib.hid (Z2.out.blk0 h2 hrb)
  have O3 := Lib.hid h3
  have s3 : w.heap.size < w3.heap.size := Nat.lt_of_lt_of_le s2 h2.size
  clear h1 h2 h3
  go_wp2_with fail
  refine (xrnum_any H3.out).mono ?_
  rintro e w4 ⟨x4, t4, wr4, _, rfl, ⟨rfl, _, _⟩, h1, h2, h3⟩
  have H4 := Lib.hid h1
  have F4 := Lib.hid (F3.out.trans h2)
  have Z4 := Lib.hid (Z3.out.blk0 h2 hrb)
  have O4 := Lib.hid h3
  have s4 : w.heap.size < w4.heap.size := Nat.lt_of_lt_of_le s3 h2.size
  clear h1 h2 h3
  go_upto_region 2 with (fail)
  have hn : n₀ ≤ rb := by obtain ⟨_, _, _, h, _⟩ := H4.out; exact h
  have H5 := Lib.hid (H4.out.alloc (.cells #[.int .i64 x1, .int .i64 x2, .int .i64 x3, .int .i64 x4, .string ⟨#[]⟩] 125))
  have F5 := Lib.hid (F4.out.alloc (.cells #[.int .i64 x1, .int .i64 x2, .int .i64 x3, .int .i64 x4, .string ⟨#[]⟩] 125))
  have Z5 := Lib.hid (Z4.out.alloc (.cells #[.int .i64 x1, .int .i64 x2, .int .i64 x3, .int .i64 x4, .string ⟨#[]⟩] 125))
  have Y5 := Lib.hid (Blk.new w4 125 #[.int .i64 x1, .int .i64 x2, .int .i64 x3, .int .i64 x4, .string ⟨#[]⟩])
  have s5 : w4.heap.size < (w4.alloc (.cells #[.int .i64 x1, .int .i64 x2, .int .i64 x3, .int .i64 x4, .string ⟨#[]⟩] 125)).heap.size := by simp
  generalize w4.alloc _ = w5 at *
  obtain ⟨yb, hyb⟩ : ∃ yb, yb = w4.heap.size := ⟨_, rfl⟩
  rw [← hyb] at Y5 s5 s4 ⊢
  clear hyb H4 F4 Z4
  go_wp2_with fail
  refine (xrcount_any H5.out).mono ?_
  rintro e w6 ⟨k, t6, wr6, rfl, hk, h1, h2, h3⟩
  have H6 := Lib.hid h1
  have F6 := Lib.hid (F5.out.trans h2)
  have Z6 := Lib.hid (Z5.out.blk0 h2 hrb)
  have Y6 := Lib.hid (Y5.out.blk0 h2 (by omega))
  have O6 := Lib.hid h3
  have s6 : yb < w6.heap.size := Nat.lt_of_lt_of_le s5 h2.size
  clear h2 h3 H5 F5 Z5 Y5
  obtain ⟨p, hB, hS, hn0, hp, hl, hs⟩ := h1
  obtain ⟨A, cap, hv, hcap, ht⟩ := id hS
  obtain ⟨m, hm⟩ : ∃ m, m = b.length := ⟨_, rfl⟩
  have c0 := hB.cell 0
  rw [hv, ← hm] at c0
  have c1 := hB.cell 1
  have c2 := hB.cell 2
  have f1 := hB.frozen 1
  have hlt := hB.lt
  rw [← hm] at hp hl hcap
  have HBR := Lib.hid hB
  have hkt : p + k ≤ m := by rw [hs, List.length_drop] at hk; omega
  have HST := Lib.hid hs
  have HSV := Lib.hid hS
  have HM := Lib.hid hm
  have HVV := Lib.hid hv
  clear hB ht hs hS hk hv hm
  have y0 := Y6.out.cell 0
  have y1 := Y6.out.cell 1
  have y2 := Y6.out.cell 2
  have y3 := Y6.out.cell 3
  have y4 := Y6.out.cell 4
  have gy := Y6.out.frozen
  have ly := Y6.out.lt
  have z0 := Z6.out.cell 0
  have z1 := Z6.out.cell 1
  have z2 := Z6.out.cell 2
  have z3 := Z6.out.cell 3
  have z4 := Z6.out.cell 4
  have gz := Z6.out.frozen
  have lz := Z6.out.lt
  cases wr6 with
  | true =>
    have OT : Hid (∀ (x : S) (u : S), Out (pT t4) wr4 x u true) := Lib.hid fun x u => by unfold pT; exact Out.bind O6.out (Out.wrong _ _)
    go_wp2
    refine bodyPost_ret (v := .agg #[.int .i64 x1, .int .i64 x2, .int .i64 x3, .int .i64 x4, .string ⟨#[]⟩]) (by simp [results, Tryz.results68, go_sem, *]) rfl ⟨⟨x1, x2, x3, x4, ⟨#[]⟩⟩, _, true, _, rfl, rfl, (((((H6.out).far (q := ⟨w.heap.size, 0, none⟩) (by simp only; omega) _).far (q := ⟨w.heap.size, 1, none⟩) (by simp only; omega) _).far (q := ⟨w.heap.size, 2, none⟩) (by simp only; omega) _).far (q := ⟨w.heap.size, 3, none⟩) (by simp only; omega) _).far (q := ⟨w.heap.size, 4, none⟩) (by simp only; omega) _, (((((F6.out).set_ (q := ⟨w.heap.size, 0, none⟩) (.inr (Nat.le_refl _)) _).set_ (q := ⟨w.heap.size, 1, none⟩) (.inr (Nat.le_refl _)) _).set_ (q := ⟨w.heap.size, 2, none⟩) (.inr (Nat.le_refl _)) _).set_ (q := ⟨w.heap.size, 3, none⟩) (.inr (Nat.le_refl _)) _).set_ (q := ⟨w.heap.size, 4, none⟩) (.inr (Nat.le_refl _)) _, Out.bind O1.out (Out.bind O2.out (Out.bind O3.out (Out.bind O4.out (Out.bind (y := (⟨x1, x2, x3, x4, ⟨#[]⟩⟩ : Ru)) (OT.out [] t6) (Out.wrong _ _)))))⟩
  | false =>
    have OT : Hid (Out (pT t4) wr4 (t6.take k) (t6.drop k) false) := Lib.hid (by unfold pT; exact Out.bind O6.out (Out.pure _ _ _))
    obtain ⟨q, hq⟩ : ∃ q, q = p + k := ⟨_, rfl⟩
    have hqi : (p : Int) + (k : Int) = (q : Int) := by omega
    have hw3 : IntKind.i64.wrap (q : Int) = (q : Int) := IntWalk.i64_in _ (by omega)
    have hqm : q ≤ m := by omega
    have hpq : p ≤ q := by omega
    have hqp : q - p = k := by omega
    have hqc : q ≤ cap := by omega
    have HQ := Lib.hid hq
    clear hq
    have hne : yb ≠ rb := by omega
    have hne2 : yb ≠ w.heap.size := by omega
    have hne3 : rb ≠ w.heap.size := by omega
    obtain ⟨SS, hSS⟩ : ∃ SS : ByteArray, SS = ⟨(t6.take k).toArray⟩ := ⟨_, rfl⟩
    have HSS := Lib.hid hSS
    have hSV2 : Bytes n₀ w6.drew V b := HSV.out.below (Below.drewN' (Below.refl n₀ w6) 1)
    rw [HVV.out, ← HM.out] at hSV2
    have HSV2 := Lib.hid hSV2
    have fin : Rx n₀ rb V b (((((((w6.setCell ⟨yb, 4, none⟩ (.string SS)).setCell ⟨rb, 1, none⟩ (.int .i64 (q : Int))).setCell ⟨w.heap.size, 0, none⟩ (.int .i64 x1)).setCell ⟨w.heap.size, 1, none⟩ (.int .i64 x2)).setCell ⟨w.heap.size, 2, none⟩ (.int .i64 x3)).setCell ⟨w.heap.size, 3, none⟩ (.int .i64 x4)).setCell ⟨w.heap.size, 4, none⟩ (.string SS)).drew (t6.drop k) false ∧ FrR rb w (((((((w6.setCell ⟨yb, 4, none⟩ (.string SS)).setCell ⟨rb, 1, none⟩ (.int .i64 (q : Int))).setCell ⟨w.heap.size, 0, none⟩ (.int .i64 x1)).setCell ⟨w.heap.size, 1, none⟩ (.int .i64 x2)).setCell ⟨w.heap.size, 2, none⟩ (.int .i64 x3)).setCell ⟨w.heap.size, 3, none⟩ (.int .i64 x4)).setCell ⟨w.heap.size, 4, none⟩ (.string SS)).drew := by
      refine ⟨Rx.on (w := ((((((w6.setCell ⟨yb, 4, none⟩ (.string SS)).setCell ⟨rb, 1, none⟩ (.int .i64 (q : Int))).setCell ⟨w.heap.size, 0, none⟩ (.int .i64 x1)).setCell ⟨w.heap.size, 1, none⟩ (.int .i64 x2)).setCell ⟨w.heap.size, 2, none⟩ (.int .i64 x3)).setCell ⟨w.heap.size, 3, none⟩ (.int .i64 x4)).setCell ⟨w.heap.size, 4, none⟩ (.string SS)) ((((((?_ : Rx n₀ rb V b ((w6.setCell ⟨yb, 4, none⟩ (.string SS)).setCell ⟨rb, 1, none⟩ (.int .i64 (q : Int))) (t6.drop k) false).far (q := ⟨w.heap.size, 0, none⟩) (by simp only; omega) _).far (q := ⟨w.heap.size, 1, none⟩) (by simp only; omega) _).far (q := ⟨w.heap.size, 2, none⟩) (by simp only; omega) _).far (q := ⟨w.heap.size, 3, none⟩) (by simp only; omega) _).far (q := ⟨w.heap.size, 4, none⟩) (by simp only; omega) _) (Below.drewN' (Below.refl _ _) 1), ((((((((F6.out.set_ (q := ⟨yb, 4, none⟩) (.inr (by simp only; omega)) _).set_ (q := ⟨rb, 1, none⟩) (.inl rfl) _)).set_ (q := ⟨w.heap.size, 0, none⟩) (.inr (Nat.le_refl _)) _).set_ (q := ⟨w.heap.size, 1, none⟩) (.inr (Nat.le_refl _)) _).set_ (q := ⟨w.heap.size, 2, none⟩) (.inr (Nat.le_refl _)) _).set_ (q := ⟨w.heap.size, 3, none⟩) (.inr (Nat.le_refl _)) _).set_ (q := ⟨w.heap.size, 4, none⟩) (.inr (Nat.le_refl _)) _).drew⟩
      refine ⟨q, ?_, ?_, hn0, by rw [← HM.out]; omega, by rw [← HM.out]; exact hl, by rw [HST.out, List.drop_drop, HQ.out]⟩
      · have h1 : Blk (w6.setCell ⟨yb, 4, none⟩ (.string SS)) rb 71 #[V, .int .i64 (p : Int), .bool false] := HBR.out.far (p := ⟨yb, 4, none⟩) (by simp only; omega) _
        have := h1.set_ 1 (.int .i64 (q : Int))
        simpa using this
      · exact ((HSV.out.below ((Below.refl n₀ _).setCell (p := ⟨yb, 4, none⟩) (by simp only; omega) (.string SS))).below ((Below.refl n₀ _).setCell (p := ⟨rb, 1, none⟩) hn0 (.int .i64 (q : Int))))
    have FIN := Lib.hid fin
    clear hSS hSV2 fin
    cases A with
    | none =>
      have QS := run_string_bytes (xsl HSV2.out (k := k) hkt none (cap - p) (fun _ => rfl) (by omega))
      rw [← HST.out, ← HSS.out] at QS
      clear hkt
      go_wp2
      go_region
      go_wp2
      refine bodyPost_ret (v := .agg #[.int .i64 x1, .int .i64 x2, .int .i64 x3, .int .i64 x4, .string SS]) (by simp [results, Tryz.results68, go_sem, *]) rfl ⟨⟨x1, x2, x3, x4, SS⟩, t6.drop k, false, _, rfl, rfl, FIN.out.1, FIN.out.2, ?_⟩
      rw [HSS.out]
      exact Out.bind O1.out (Out.bind O2.out (Out.bind O3.out (Out.bind O4.out (Out.bind OT.out (Out.pure _ _ _)))))
    | some a =>
      by_cases hc : cap = p
      · obtain rfl := hc
        have QS := run_string_bytes (xsl HSV2.out (k := k) hkt (some a) (0) (fun h => by omega) (by omega))
        rw [← HST.out, ← HSS.out] at QS
        clear hkt
        go_wp2
        go_region
        go_wp2
        refine bodyPost_ret (v := .agg #[.int .i64 x1, .int .i64 x2, .int .i64 x3, .int .i64 x4, .string SS]) (by simp [results, Tryz.results68, go_sem, *]) rfl ⟨⟨x1, x2, x3, x4, SS⟩, t6.drop k, false, _, rfl, rfl, FIN.out.1, FIN.out.2, ?_⟩
        rw [HSS.out]
        exact Out.bind O1.out (Out.bind O2.out (Out.bind O3.out (Out.bind O4.out (Out.bind OT.out (Out.pure _ _ _)))))
      · have hc' : ¬ p = cap := fun h => hc h.symm
        have QS := run_string_bytes (xsl HSV2.out (k := k) hkt (some (a.add p)) (cap - p) (fun _ => rfl) (by omega))
        rw [← HST.out, ← HSS.out] at QS
        clear hkt
        go_wp2
        go_region
        go_wp2
        refine bodyPost_ret (v := .agg #[.int .i64 x1, .int .i64 x2, .int .i64 x3, .int .i64 x4, .string SS]) (by simp [results, Tryz.results68, go_sem, *]) rfl ⟨⟨x1, x2, x3, x4, SS⟩, t6.drop k, false, _, rfl, rfl, FIN.out.1, FIN.out.2, ?_⟩
        rw [HSS.out]
        exact Out.bind O1.out (Out.bind O2.out (Out.bind O3.out (Out.bind O4.out (Out.bind OT.out (Out.pure _ _ _)))))
end Go.Proofs.YtefgobmpleoafaaGreat

/- The document's reader: an entry. -/
namespace Go.Proofs.YtefgobmpleoafaaGreat
open Go.RowKit
variable {w w' w'' : World} {n₀ rb : Nat} {V : Value} {b s : List UInt8} {wr : Bool}

/-- append of one rule that lies in a block of its own, onto a row of the call's own, as a step of a region that draws. -/
theorem step_append_ruleX (w : World) {ops : Array Oper} {o : Oper} {a : Act} {K : Act → World → Prop} {Q : Exit → Act → World → Prop} {E : Prop} (hgd : o.guard = none) (dd : Nat) (hdd : o.dst = some dd) (s x : Operand)
    (ho : o.op = .call { callee := .builtin .append, args := #[s, x], argTypes := #[73, 73] }) (base : Nat) (i : TypeInfo) (z : Value) (bytes : Nat) (hi : Tryz.prog.info? 125 = some i) (hz : i.zero = some z)
    (hsize : i.size = 5) (hby : i.bytes = bytes) (hzs : z.cells.size = 5) (v : Value) (l : List Ru) (hs : a.eval s = v) (hown : OwnU w base 125 v l)
    (b c : Nat) (r : Ru) (hx : a.eval x = .slice (some ⟨b, 0, none⟩) 1 c) (hr : Blk w b 125 #[.int .i64 r.id, .int .i64 r.pr, .int .i64 r.ac, .int .i64 r.sc, .string r.pat]) (h63 : l.length + 1 ≤ 1000000) (hbytes : bytes ≤ 200) (hbase : base ≤ w.heap.size)
    (h : ∀ v' w', OwnU w' base 125 v' (l ++ [r]) → w.grownBy w' v.ownBlock → K { tmps := a.tmps.setIfInBounds dd v', defers := a.defers } w') :
    if Region.wanted o (yielded ops a.tmps) = true then Oper.wp Tryz.prog o a w K Q else E := by
  have hw : Region.wanted o (yielded ops a.tmps) = true := by simp [Region.wanted, hgd]
  rw [if_pos hw]
  have hm : (l.length + 1) * bytes ≤ 1000000 * 200 := Nat.mul_le_mul h63 hbytes
  obtain ⟨v', w', h1, h2, h3, h4, h5⟩ := run_append_own_at (P := Tryz.prog) w base 73 o.type 125 i z 5 bytes Tryz.underlying73 hi hz hsize hby hzs (by decide) v l.length (ruCells l) hown ⟨b, 0, none⟩ 1 c r.cells rfl (fun j u hu => by
    have hadd : (⟨b, 0, none⟩ : Addr).add j = ⟨b, 0 + j, none⟩ := by unfold Addr.add; split <;> simp_all
    rw [hadd, Nat.zero_add, hr.cell j, ← hu, Ru.cells, ← List.getElem?_toArray]) (ru_one r) (by unfold maxLen; omega) (by omega) hbase
  unfold Oper.wp execOp
  simp only [ho, resolve, invoke, builtin, Sem.run_bind, Sem.run_pure, Result.andThen_ok, List.map_toArray, List.map_cons, List.map_nil, hs, hx, h1]
  show K (a.put o.dst v') w'
  rw [hdd]
  refine h v' w' ?_ h3
  unfold OwnU
  rw [List.length_append, ruCells_append, show ruCells [r] = r.cells by simp [ruCells]]
  exact h2
/-- append of one number likewise. -/
theorem step_append_intX (w : World) {ops : Array Oper} {o : Oper} {a : Act} {K : Act → World → Prop} {Q : Exit → Act → World → Prop} {E : Prop} (hgd : o.guard = none) (dd : Nat) (hdd : o.dst = some dd) (s x : Operand)
    (ho : o.op = .call { callee := .builtin .append, args := #[s, x], argTypes := #[74, 74] }) (base : Nat) (i : TypeInfo) (hi : Tryz.prog.info? 3 = some i) (hz : i.zero = some (.int .i64 0))
    (hsize : i.size = 1) (hby : i.bytes = 8) (v : Value) (l : List Int) (hs : a.eval s = v) (hown : LIntV base w v l)
    (b c : Nat) (r : Int) (hx : a.eval x = .slice (some ⟨b, 0, none⟩) 1 c) (hr : Blk w b 3 #[.int .i64 r]) (h63 : l.length + 1 ≤ 1000000) (hbase : base ≤ w.heap.size)
    (h : ∀ v' w', LIntV base w' v' (l ++ [r]) → w.grownBy w' v.ownBlock → K { tmps := a.tmps.setIfInBounds dd v', defers := a.defers } w') :
    if Region.wanted o (yielded ops a.tmps) = true then Oper.wp Tryz.prog o a w K Q else E := by
  have hw : Region.wanted o (yielded ops a.tmps) = true := by simp [Region.wanted, hgd]
  rw [if_pos hw]
  obtain ⟨v', w', h1, h2, h3, h4, h5⟩ := run_append_own_at (P := Tryz.prog) w base 74 o.type 3 i _ 1 8 Tryz.underlying74 hi hz hsize hby rfl (by decide) v l.length (zI l) hown ⟨b, 0, none⟩ 1 c [.int .i64 r] rfl (fun j u hu => by
    have hadd : (⟨b, 0, none⟩ : Addr).add j = ⟨b, 0 + j, none⟩ := by unfold Addr.add; split <;> simp_all
    rw [hadd, Nat.zero_add, hr.cell j, ← hu, ← List.getElem?_toArray]) (by intro y hy; simp at hy; subst hy; rfl) (by unfold maxLen; omega) (by omega) hbase
  unfold Oper.wp execOp
  simp only [ho, resolve, invoke, builtin, Sem.run_bind, Sem.run_pure, Result.andThen_ok, List.map_toArray, List.map_cons, List.map_nil, hs, hx, h1]
  show K (a.put o.dst v') w'
  rw [hdd]
  refine h v' w' ?_ h3
  unfold LIntV
  rw [List.length_append, show zI (l ++ [r]) = zI l ++ [.int .i64 r] by simp [zI]]
  exact h2
end Go.Proofs.YtefgobmpleoafaaGreat

