/- The document's reader of bytes: a number. -/
import Derived.Test.YtiheeafmplccoaaPkP
import Derived.Test.YtiheeafmplccoaaPkK
namespace Go.Proofs.Ytiheeafmplccoaa
open Go.RowKit
variable {w w' w'' : World} {n₀ rb : Nat} {V : Value} {b s : List UInt8} {wr : Bool}

/-- The document's reader: its block, what stays to be read, and whether it is wrong. -/
def Rx (n₀ rb : Nat) (V : Value) (b : List UInt8) (w : World) (s : List UInt8) (wr : Bool) : Prop :=
  ∃ p : Nat, Blk w rb 91 #[V, .int .i64 (p : Int), .bool wr] ∧ Bytes n₀ w V b ∧ n₀ ≤ rb ∧ p ≤ b.length ∧ b.length ≤ 100000 ∧ s = b.drop p
theorem Rx.lt (h : Rx n₀ rb V b w s wr) : rb < w.heap.size := by
  obtain ⟨p, hb, _⟩ := h
  exact hb.lt
theorem Rx.on (h : Rx n₀ rb V b w s wr) (hb : Below w.heap.size w w') : Rx n₀ rb V b w' s wr := by
  obtain ⟨p, h1, h2, h3, h4⟩ := h
  exact ⟨p, h1.on hb, h2.below (hb.mono (by have := h1.lt; omega)), h3, h4⟩
theorem Rx.alloc (h : Rx n₀ rb V b w s wr) (o : Obj) : Rx n₀ rb V b (w.alloc o) s wr := h.on ((Below.refl _ _).alloc (Nat.le_refl _) o)
theorem Rx.far (h : Rx n₀ rb V b w s wr) {q : Addr} (hq : rb < q.block) (u : Value) : Rx n₀ rb V b (w.setCell q u) s wr := by
  obtain ⟨p, h1, h2, h3, h4⟩ := h
  refine ⟨p, h1.far (by omega) u, ?_, h3, h4⟩
  exact h2.below ((Below.refl n₀ w).setCell (by omega) u)
theorem Rx.grown {row : Option Nat} (h : Rx n₀ rb V b w s wr) (hg : w.grownBy w' row) (hr : ∀ k, some k = row → rb < k) : Rx n₀ rb V b w' s wr := by
  obtain ⟨p, h1, h2, h3, h4⟩ := h
  have hlt := h1.lt
  refine ⟨p, h1.grown hg (fun e => by have := hr _ e; omega), ?_, h3, h4⟩
  exact h2.below ⟨hg.os, hg.tape, hg.output, hg.size, fun i hi => hg.block i (by omega) (fun e => by have := hr _ e; omega)⟩
theorem Rx.bad (h : Rx n₀ rb V b w s wr) : Rx n₀ rb V b (w.setCell ⟨rb, 2, none⟩ (.bool true)) s true := by
  obtain ⟨p, h1, h2, h3, h4⟩ := h
  exact ⟨p, by have := h1.set_ 2 (.bool true); simpa using this, h2.below ((Below.refl n₀ w).setCell h3 _), h3, h4⟩
/-- What a reading of one thing leaves. -/
def RxP {α : Type} (n₀ rb : Nat) (V : Value) (b : List UInt8) (w : World) (p : Option (α × S)) (wr : Bool) (val : World → Value → α → Prop) (e : Ending) (w' : World) : Prop :=
  ∃ x t wr' v, e = .returned v ∧ val w' v x ∧ Rx n₀ rb V b w' t wr' ∧ FrR rb w w' ∧ Out p wr x t wr'
set_option maxRecDepth 100000 in
set_option maxHeartbeats 4000000 in
theorem xrnum_any (h : Rx n₀ rb V b w s wr) : Calls Try.prog 44 #[.pointer (some ⟨rb, 0, none⟩)] w (RxP n₀ rb V b w (pN s) wr NumV) := by
  have H := Lib.hid h
  obtain ⟨p, hB, hS, hn0, hp, hl, hs⟩ := h
  have HS := Lib.hid hS
  have HB := Lib.hid hB
  have HSS := Lib.hid hs
  obtain ⟨A, cap, rfl, hcap, ht⟩ := hS
  obtain ⟨m, hm⟩ : ∃ m, m = b.length := ⟨_, rfl⟩
  have c0 := hB.cell 0
  have c1 := hB.cell 1
  have c2 := hB.cell 2
  have f2 := hB.frozen 2
  have f1 := hB.frozen 1
  have hlt := hB.lt
  rw [← hm] at c0 hp hl hcap
  have HM := Lib.hid hm
  have HT := Lib.hid ht
  rw [← hm] at HB HS H ⊢
  clear hB hs hm ht
  cases wr with
  | true =>
    go_enter Try.func44, Try.ntmps44
    go_wp2
    go_quiet (fail)
    go_wp2
    go_ret
    exact ⟨0, s, true, _, rfl, ⟨rfl, by omega, by omega⟩, (H.out.on (Below.drewN' (Below.refl _ _) _)).bad, (FrR.of_below (Below.drewN' (Below.refl _ _) _)).set_ (q := ⟨rb, 2, none⟩) (.inl rfl) _, Out.wrong _ _⟩
  | false =>
    by_cases h6 : (m : Int) - (p : Int) < 6
    · have hpn : pN s = none := by unfold pN; rw [if_pos (by rw [HSS.out, List.length_drop, ← HM.out]; omega)]
      have HPN := Lib.hid hpn
      clear hpn
      go_enter Try.func44, Try.ntmps44
      go_wp2
      go_quiet (fail)
      go_wp2
      go_ret
      exact ⟨0, s, true, _, rfl, ⟨rfl, by omega, by omega⟩, (H.out.on (Below.drewN' (Below.refl _ _) _)).bad, (FrR.of_below (Below.drewN' (Below.refl _ _) _)).set_ (q := ⟨rb, 2, none⟩) (.inl rfl) _, Out.none HPN.out _ _ _⟩
    · have hpn : pN s = some ((num (s.take 6) : Int) - 1, s.drop 6) := by unfold pN; rw [if_neg (by rw [HSS.out, List.length_drop, ← HM.out]; omega)]
      have hTl : (s.take 6).length = 6 := by rw [List.length_take, HSS.out, List.length_drop, ← HM.out]; omega
      have hTa : ∀ k, k < 6 → at_ (s.take 6) k = at_ b (p + k) := fun k hk => by rw [at_take hk, HSS.out, at_drop]
      have hnl := num_lt6 hTl
      have hdr : s.drop 6 = b.drop (p + 6) := by rw [HSS.out, List.drop_drop]
      obtain ⟨T, hT⟩ : ∃ T, T = s.take 6 := ⟨_, rfl⟩
      rw [← hT] at hpn hTl hTa hnl
      obtain ⟨bb, off, rfl, hbb, ht⟩ := HT.out (by intro e; rw [e] at HM; have := HM.out; simp at this; omega)
      have HG : Hid (∀ w', Below w.heap.size w w' → ∀ q, q < m → w'.cell? ⟨bb, off + q, none⟩ = some (.int .u8 (at_ b q))) := Lib.hid fun w' hw q hq => by
        obtain ⟨A0, cap0, hv, hl0, ht0⟩ := HS.out.below (hw.mono (by omega))
        injection hv with h1 h2 h3
        subst h1
        obtain ⟨b', off', hA', _, ht0⟩ := ht0 (by intro e; rw [e] at HM; have := HM.out; simp at this; omega)
        injection hA' with h4
        injection h4 with h5 h6 h7
        subst h5 h6
        exact ht0 q (by rw [← HM.out]; exact hq)
      have HPN := Lib.hid hpn
      have HTl := Lib.hid hTl
      have HTa := Lib.hid hTa
      have HDR := Lib.hid hdr
      have HNL := Lib.hid hnl
      clear hpn hTl hTa hT ht hdr hnl HT
      go_enter Try.func44, Try.ntmps44
      go_wp2
      go_quiet (fail)
      go_wp2
      go_loopw [3, 4] (fun a i wr' => ∃ k : Nat, k ≤ 6 ∧ i = .int .i64 k ∧ a = .int .i64 (((num (T.take k)) : Nat) : Int) ∧ num (T.take k) < 256 ^ k ∧ Hid (Below w.heap.size w wr')) (fun _ i _ => 6 - (intOf i).toNat)
      case atStart => exact ⟨0, Nat.zero_le _, rfl, rfl, by simp [num], Lib.hid (Below.drewN' (Below.refl _ _) _)⟩
      case round =>
        obtain ⟨k, hk, rfl, rfl, hb, HBl⟩ := hrel
        have HBr := Lib.hid (HB.out.on HBl.out)
        have d0 := HBr.out.cell 0
        have d1 := HBr.out.cell 1
        have g1 := HBr.out.frozen 1
        have l1 := HBr.out.lt
        by_cases hlt6 : k < 6
        · obtain ⟨q, hq⟩ : ∃ q, q = p + k := ⟨_, rfl⟩
          have g := HG.out _ HBl.out q (by omega)
          have hqi : (p : Int) + (k : Int) = (q : Int) := by omega
          have hqt : ((q : Int)).toNat = q := by omega
          have ha : at_ T k = at_ b q := by rw [HTa.out k hlt6, hq]
          have c9 := at_lt b q
          have st := num_step T k (by rw [HTl.out]; exact hlt6)
          rw [ha] at st
          have hb2 : num (T.take k) < 1099511627776 := Nat.lt_of_lt_of_le hb (Nat.le_trans (Nat.pow_le_pow_right (by decide) (show k ≤ 5 by omega)) (by decide))
          generalize num (T.take k) = N at *
          generalize at_ b q = x at *
          have ST := Lib.hid st
          have HN := Lib.hid hb
          have HQ := Lib.hid hq
          have hq2 : q < m := by omega
          have hq3 : (q : Int) < (m : Int) := by omega
          clear st hb ha hq
          have hw1 : IntKind.i64.wrap ((N : Int) * 256) = (N : Int) * 256 := IntWalk.i64_in _ (by omega)
          have hw2 : IntKind.i64.wrap ((N : Int) * 256 + (x : Int)) = (N : Int) * 256 + (x : Int) := IntWalk.i64_in _ (by omega)
          have hw3 : IntKind.i64.wrap (q : Int) = (q : Int) := IntWalk.i64_in _ (by omega)
          have hw4 : IntKind.i64.wrap (x : Int) = (x : Int) := IntWalk.i64_in _ (by omega)
          go_wp2
          go_quiet (fail)
          go_wp2
          go_roundw
          case rel => exact ⟨k + 1, by omega, by go_num, by rw [ST.out]; first | rfl | push_cast; rfl, by rw [ST.out, Nat.pow_succ]; have := HN.out; omega, Lib.hid (Below.drewN' HBl.out _)⟩
          case measure => simp [intOf]; omega
        · obtain rfl : k = 6 := by omega
          have e6 : T.take 6 = T := List.take_of_length_le (by rw [HTl.out]; omega)
          rw [e6]
          have hb2 : num T < 281474976710656 := HNL.out
          clear hb
          go_wp2
          go_ret
          refine ⟨_, _, false, _, rfl, ⟨rfl, by omega, by omega⟩, ⟨p + 6, ?_, ?_, hn0, by rw [← HM.out]; omega, by rw [← HM.out]; omega, HDR.out⟩, (FrR.of_below HBl.out).set_ (q := ⟨rb, 1, none⟩) (.inl rfl) _, by rw [HPN.out]; exact Out.pure _ _ _⟩
          · have := HBr.out.set_ 1 (.int .i64 ((p : Int) + 6))
            simpa using this
          · exact (HS.out.below (HBl.out.mono (by omega))).below ((Below.refl n₀ _).setCell hn0 _)
end Go.Proofs.Ytiheeafmplccoaa
