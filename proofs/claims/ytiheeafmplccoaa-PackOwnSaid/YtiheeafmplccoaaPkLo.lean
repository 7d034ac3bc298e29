/- PackOwn: the law's walk. -/
import Derived.Test.YtiheeafmplccoaaPkT
import Derived.Test.YtiheeafmplccoaaPkLa
namespace Go.Proofs.Ytiheeafmplccoaa
open Go.RowKit
variable {w w' : World}

theorem xor255 (c : Nat) (hc : c < 256) : ∃ y : UInt8, bits .xor .u8 (c : Int) 255 = ((y.toNat : Nat) : Int) := by
  have hlt : c ^^^ 255 < 256 := Nat.xor_lt_two_pow (n := 8) hc (by decide)
  refine ⟨(c ^^^ 255).toUInt8, ?_⟩
  rw [u8 _ hlt]
  show IntKind.u8.wrap (((BitVec.ofInt 8 (c : Int)) ^^^ (BitVec.ofInt 8 ((255 : Nat) : Int))).toNat : Int) = _
  rw [BitVec.ofInt_natCast, BitVec.ofInt_natCast, BitVec.toNat_xor, BitVec.toNat_ofNat, BitVec.toNat_ofNat, Nat.mod_eq_of_lt (by omega), Nat.mod_eq_of_lt (by omega)]
  simp [IntKind.wrap, IntKind.bits, IntKind.signed]
  omega
theorem Own.set_ {base g n c k : Nat} {T : List UInt8} (h : Own w base (.slice (some ⟨g, 0, none⟩) n c) T) (hn : T.length = n) (y : UInt8) : Own (w.setCell ⟨g, k, none⟩ (.int .u8 (y.toNat : Int))) base (.slice (some ⟨g, 0, none⟩) n c) (T.set k y) := by
  unfold Own at h ⊢
  rw [hn] at h
  rw [List.length_set, hn]
  have := (World.ownsRow.stored h k (.int .u8 (y.toNat : Int))).1
  rwa [show Lib.byteCells (T.set k y) = (Lib.byteCells T).set k (.int .u8 (y.toNat : Int)) by simp [Lib.byteCells, List.map_set]]
theorem Own.at_ {base g n c k : Nat} {T : List UInt8} (h : Own w base (.slice (some ⟨g, 0, none⟩) n c) T) (hn : T.length = n) (hk : k < n) : w.cell? ⟨g, k, none⟩ = some (.int .u8 ((Go.Proofs.Ytiheeafmplccoaa.at_ T k : Nat) : Int)) := by
  obtain ⟨A', cp', hv, _, ht⟩ := h.bytes
  injection hv with h1 h2 h3
  obtain ⟨b, off, hA, _, hc⟩ := ht (by rintro rfl; simp at hn; omega)
  rw [← h1] at hA
  injection hA with hA
  injection hA with e1 e2 e3
  subst e1 e2
  have := hc k (by omega)
  rwa [Nat.zero_add] at this
theorem Own.blk {base g n c : Nat} {T : List UInt8} (h : Own w base (.slice (some ⟨g, 0, none⟩) n c) T) : ∃ cs z, w.heap[g]? = some (.cells cs 5 z) := by
  rcases h.2 with ⟨hv, _⟩ | ⟨g', _, cur, hv, _, hh, _⟩
  · simp at hv
  · simp only [Value.slice.injEq, Option.some.injEq, Addr.mk.injEq, and_true] at hv
    obtain ⟨rfl, _⟩ := hv
    exact ⟨cur, _, hh⟩
/-- What a store of bytes leaves of a row of entries. -/
theorem OwnE.fr8 {te tr : TypeId} {base g : Nat} {v : Value} {l : List En} (h : OwnE te tr base w v l) (k : FrR g w w') (hg : ∃ cs z, w.heap[g]? = some (.cells cs 5 z)) (h1 : te ≠ 5) (h2 : tr ≠ 5) : OwnE te tr base w' v l := by
  obtain ⟨L, hL, h, hx⟩ := h
  obtain ⟨cs0, z0, hg⟩ := hg
  refine ⟨L, hL, own_kept h fun i hi _ ⟨_, _, hh⟩ => k.block i hi (ne_of_types hh hg h1), fun x hm => ?_⟩
  obtain ⟨q1, q2⟩ := hx x hm
  exact ⟨own_kept q1 fun i hi _ ⟨_, _, hh⟩ => k.block i hi (ne_of_types hh hg h2), own_kept q2 fun i hi _ ⟨_, _, hh⟩ => k.block i hi (ne_of_types hh hg (by decide))⟩
set_option maxRecDepth 100000 in
set_option maxHeartbeats 16000000 in
theorem packOwn_law (m : Ms) (c : Value) (W : World) (hV : EntsV W.heap.size W c m.log) (hm : m.log.length ≤ 9223372036854775807) :
    Calls Try.prog 9 #[m.val c] W fun e w' => e = .returned (.bool true) ∧ Below W.heap.size W w' := by
  obtain ⟨A, cp, rfl⟩ := hV.form
  have B0 := Lib.hid ((Below.refl W.heap.size W).alloc (Nat.le_refl _) (.cells #[.int .i64 m.k, .int .i64 m.vi, .int .i64 m.fr, .int .i64 m.to, .int .i64 m.op, .int .i64 m.co, .int .i64 m.no, .slice A m.log.length cp] 24))
  have HX := Lib.hid (Blk.new W 24 #[.int .i64 m.k, .int .i64 m.vi, .int .i64 m.fr, .int .i64 m.to, .int .i64 m.op, .int .i64 m.co, .int .i64 m.no, .slice A m.log.length cp])
  have HV := Lib.hid hV
  have HM := Lib.hid hm
  have hs0 : W.heap.size < (W.alloc (.cells #[.int .i64 m.k, .int .i64 m.vi, .int .i64 m.fr, .int .i64 m.to, .int .i64 m.op, .int .i64 m.co, .int .i64 m.no, .slice A m.log.length cp] 24)).heap.size := by simp
  clear hV hm
  go_enter Try.func9, Try.ntmps9
  go_upto_region 1 with (fail)
  generalize W.alloc _ = w0 at *
  go_wp2_with fail
  refine (anchor11_any _).mono ?_
  rintro e w1 ⟨rfl, b1⟩
  have B1 := Lib.hid (B0.out.trans (b1.mono (by omega)))
  have X1 := Lib.hid (HX.out.on b1)
  have x7 := X1.out.cell 7
  have hs1 : W.heap.size < w1.heap.size := Nat.lt_of_lt_of_le hs0 b1.size
  clear b1
  go_wp2_with fail
  refine (small_any _ m.log w1 HM.out ((HV.out.below B1.out).more (by omega))).mono ?_
  rintro e w2 ⟨rfl, b2⟩
  have B2 := Lib.hid (B1.out.trans (b2.mono (by omega)))
  have X2 := Lib.hid (X1.out.on b2)
  have hs2 : W.heap.size < w2.heap.size := Nat.lt_of_lt_of_le hs1 b2.size
  clear b2 x7
  cases hsm : smallL m.log
  · go_wp2
    go_ret
    exact ⟨rfl, B2.out⟩
  have HS := Lib.hid (smallL_iff.1 hsm)
  clear hsm
  have x0 := X2.out.cell 0
  have x1 := X2.out.cell 1
  have x2 := X2.out.cell 2
  have x3 := X2.out.cell 3
  have x4 := X2.out.cell 4
  have x5 := X2.out.cell 5
  have x6 := X2.out.cell 6
  have x7 := X2.out.cell 7
  have HE := Lib.hid (encM_any m _ w2 ((HV.out.below B2.out).more (by omega)))
  go_wp2_with fail
  refine HE.out.mono ?_
  intro e w3 he
  obtain ⟨b3, he⟩ := he.cases
  have B3 := Lib.hid (B2.out.trans (b3.mono (by omega)))
  have X3 := Lib.hid (X2.out.on b3)
  have hs3 : W.heap.size < w3.heap.size := Nat.lt_of_lt_of_le hs2 b3.size
  clear b3 HE x0 x1 x2 x3 x4 x5 x6 x7
  rcases he with ⟨hok, hl, A3, c3, rfl, ho⟩ | ⟨hok, rfl⟩ | ⟨hok, hl, rfl⟩
  rotate_left
  · go_wp2
    go_ret
    exact ⟨rfl, B3.out⟩
  · go_wp2
    go_ret
    exact ⟨rfl, B3.out⟩
  obtain ⟨n, hn⟩ : ∃ n, n = (eM m).length := ⟨_, rfl⟩
  rw [← hn] at ho hl ⊢
  have hpos : 48 ≤ n := by rw [hn]; exact eM_pos m
  obtain ⟨g, rfl⟩ : ∃ g, A3 = some ⟨g, 0, none⟩ := by
    rcases ho.2 with ⟨hv, _⟩ | ⟨g, _, _, hv, _⟩
    · injection hv with h1 h2 h3; omega
    · injection hv with h1 h2 h3; exact ⟨g, h1⟩
  have hg : W.heap.size < g ∧ g < w3.heap.size := by
    have := World.ownsRow.lt ho g (own_block g n c3)
    omega
  have HD := Lib.hid (decM_any _ _ _ w3 (Nat.le_refl _) ho.bytes)
  have HO := Lib.hid ho
  have HN := Lib.hid hn
  have hdm : dM (eM m) = some m := dM_some.2 ⟨by rw [← hn]; exact hl, hok, rfl⟩
  rw [hdm] at HD
  clear ho hok hn hdm
  go_wp2_with fail
  refine HD.out.mono ?_
  rintro e w4 ⟨b4, (⟨m', v, hd, rfl, A6, c6, rfl, o6⟩ | ⟨hd, _⟩)⟩
  rotate_left
  · cases hd
  obtain rfl : m = m' := Option.some.inj hd
  clear hd HD he
  have B5 := Lib.hid ((B3.out.trans (b4.mono (by omega))).alloc (by have := b4.size; omega) (.cells #[.int .i64 m.k, .int .i64 m.vi, .int .i64 m.fr, .int .i64 m.to, .int .i64 m.op, .int .i64 m.co, .int .i64 m.no, .slice A6 m.log.length c6] 24))
  have X5 := Lib.hid ((X3.out.on b4).alloc (.cells #[.int .i64 m.k, .int .i64 m.vi, .int .i64 m.fr, .int .i64 m.to, .int .i64 m.op, .int .i64 m.co, .int .i64 m.no, .slice A6 m.log.length c6] 24))
  have XN := Lib.hid (Blk.new w4 24 #[.int .i64 m.k, .int .i64 m.vi, .int .i64 m.fr, .int .i64 m.to, .int .i64 m.op, .int .i64 m.co, .int .i64 m.no, .slice A6 m.log.length c6])
  have O5 := Lib.hid (own_on HO.out (b4.alloc b4.size (.cells #[.int .i64 m.k, .int .i64 m.vi, .int .i64 m.fr, .int .i64 m.to, .int .i64 m.op, .int .i64 m.co, .int .i64 m.no, .slice A6 m.log.length c6] 24)))
  have N5 := Lib.hid (o6.alloc (.cells #[.int .i64 m.k, .int .i64 m.vi, .int .i64 m.fr, .int .i64 m.to, .int .i64 m.op, .int .i64 m.co, .int .i64 m.no, .slice A6 m.log.length c6] 24))
  have hs4 : w3.heap.size ≤ w4.heap.size := b4.size
  have hs5 : w4.heap.size < (w4.alloc (.cells #[.int .i64 m.k, .int .i64 m.vi, .int .i64 m.fr, .int .i64 m.to, .int .i64 m.op, .int .i64 m.co, .int .i64 m.no, .slice A6 m.log.length c6] 24)).heap.size := by simp
  clear b4 o6 HO
  go_upto_region 9 with (fail)
  generalize w4.alloc _ = w6 at *
  go_wp2
  go_loopw [28] (fun i wr => ∃ (k : Nat) (T : List UInt8), k ≤ n ∧ i = .int .i64 k ∧ Hid (T.length = n) ∧ Hid (Own wr w2.heap.size (.slice (some ⟨g, 0, none⟩) n c3) T) ∧ Hid (FrR g w6 wr)) (fun i _ => n - (intOf i).toNat)
  case atStart => exact ⟨0, _, Nat.zero_le _, rfl, Lib.hid HN.out.symm, O5, Lib.hid (FrR.refl _)⟩
  case round =>
    obtain ⟨k, T, hk, rfl, HT, HO, HF⟩ := hrel
    by_cases hlt : k < n
    · have hc9 := at_lt T k
      obtain ⟨y, hy⟩ := xor255 (at_ T k) hc9
      have hg8 := HO.out.blk
      have c0 : wr.cell? ⟨g, k, none⟩ = some (.int .u8 ((at_ T k : Nat) : Int)) := by
        exact HO.out.at_ HT.out hlt
      have f0 : wr.frozen? ⟨g, k, none⟩ = false := by
        have h := HO.out
        unfold Own at h
        rw [HT.out] at h
        exact World.ownsRow.frozenAt h k
      have hgl : g < wr.heap.size := by have := HF.out.size; omega
      clear hg8
      go_wp2
      go_roundw
      case rel => exact ⟨k + 1, T.set k y, by omega, by go_num, Lib.hid (by rw [List.length_set, HT.out]), Lib.hid (HO.out.set_ HT.out y), Lib.hid (HF.out.set_ (q := ⟨g, k, none⟩) (.inl rfl) _)⟩
      case measure => simp [intOf]; omega
    · obtain rfl : k = n := by omega
      have hg8 := O5.out.blk
      have XA7 : Hid (Blk wr W.heap.size 24 #[.int .i64 m.k, .int .i64 m.vi, .int .i64 m.fr, .int .i64 m.to, .int .i64 m.op, .int .i64 m.co, .int .i64 m.no, .slice A m.log.length cp]) := Lib.hid (HF.out.blk X5.out (by omega))
      have XN7 : Hid (Blk wr w4.heap.size 24 #[.int .i64 m.k, .int .i64 m.vi, .int .i64 m.fr, .int .i64 m.to, .int .i64 m.op, .int .i64 m.co, .int .i64 m.no, .slice A6 m.log.length c6]) := Lib.hid (HF.out.blk XN.out (by omega))
      have N7 := Lib.hid (OwnE.read (N5.out.fr8 HF.out hg8 (by decide) (by decide)))
      have B7 : Hid (Below W.heap.size W wr) := Lib.hid (B5.out.trans ((HF.out.old (by omega)).mono (by omega)))
      have hs7 : W.heap.size ≤ wr.heap.size := B7.out.size
      have MB : Hid (∀ w8, Below wr.heap.size wr w8 → Calls Try.prog 12 #[m.val (.slice A m.log.length cp)] w8 fun e w' => ∃ V, e = .returned V ∧ XMsgV W.heap.size w8.heap.size w' V m ∧ Below w8.heap.size w8 w') := Lib.hid fun w8 h8 =>
        madeMsg_any W.heap.size m _ w8 (Nat.le_trans hs7 h8.size) HS.out.2 HS.out.1 (HV.out.below (B7.out.trans (h8.mono hs7)))
      have LK : Hid (∀ w8 v, Below wr.heap.size wr w8 → EntsV w8.heap.size w8 v m.log → Calls Try.prog 18 #[m.val (.slice A6 m.log.length c6), m.val v] w8 fun e w' => e = .returned (.bool true) ∧ Below w8.heap.size w8 w') := Lib.hid fun w8 v h8 hv =>
        (likeMsg_any m m _ v w8 HS.out.2 HS.out.1 (fun e he => smallE_len (HS.out.1 e he)) (N7.out.on h8) hv).mono (by rintro e w' ⟨c, rfl, hc, hB⟩; exact ⟨by rw [hc.2 rfl], hB⟩)
      clear hg8
      go_wp2_with fail
      refine wp_region_held_drew (S := fun w' => Below wr.heap.size wr w') (by kernel_rfl) (Below.drewN' (Below.refl _ wr) 1) (fun hHeld => ?_)
      refine take_d 0 38 (.int .i64 0) _ rfl rfl (by kernel_rfl) (by kernel_rfl) (by kernel_rfl) (fun _ _ _ h => h) (Or.inl ⟨by rfl, fun w' hSw => ?_⟩) hHeld ?_
      · go_simp
      simp only [List.setIfInBounds_toArray, List.set_cons_zero, List.set_cons_succ]
      refine take_d 1 39 (.bool true) _ rfl rfl (by kernel_rfl) (by kernel_rfl) (by kernel_rfl) (fun _ _ _ h => h) (Or.inl ⟨by rfl, fun w' hSw => ?_⟩) hHeld ?_
      · go_simp
      simp only [List.setIfInBounds_toArray, List.set_cons_zero, List.set_cons_succ]
      refine take_d 2 40 (.bool true) _ rfl rfl (by kernel_rfl) (by kernel_rfl) (by kernel_rfl) (fun _ _ _ h => h) (Or.inl ⟨by rfl, fun w' hSw => ?_⟩) hHeld ?_
      · go_simp
      simp only [List.setIfInBounds_toArray, List.set_cons_zero, List.set_cons_succ]
      refine take_d 3 41 (.agg #[.int .i64 m.k, .int .i64 m.vi, .int .i64 m.fr, .int .i64 m.to, .int .i64 m.op, .int .i64 m.co, .int .i64 m.no, .slice A6 m.log.length c6]) _ rfl rfl (by kernel_rfl) (by kernel_rfl) (by kernel_rfl) (fun _ _ _ h => h) (Or.inl ⟨by rfl, fun w' hSw => ?_⟩) hHeld ?_
      · have q0 := Blk.cell (XN7.out.on hSw) 0
        have q1 := Blk.cell (XN7.out.on hSw) 1
        have q2 := Blk.cell (XN7.out.on hSw) 2
        have q3 := Blk.cell (XN7.out.on hSw) 3
        have q4 := Blk.cell (XN7.out.on hSw) 4
        have q5 := Blk.cell (XN7.out.on hSw) 5
        have q6 := Blk.cell (XN7.out.on hSw) 6
        have q7 := Blk.cell (XN7.out.on hSw) 7
        go_simp
      simp only [List.setIfInBounds_toArray, List.set_cons_zero, List.set_cons_succ]
      refine take_d 4 42 (.agg #[.int .i64 m.k, .int .i64 m.vi, .int .i64 m.fr, .int .i64 m.to, .int .i64 m.op, .int .i64 m.co, .int .i64 m.no, .slice A m.log.length cp]) _ rfl rfl (by kernel_rfl) (by kernel_rfl) (by kernel_rfl) (fun _ _ _ h => h) (Or.inl ⟨by rfl, fun w' hSw => ?_⟩) hHeld ?_
      · have q0 := Blk.cell (XA7.out.on hSw) 0
        have q1 := Blk.cell (XA7.out.on hSw) 1
        have q2 := Blk.cell (XA7.out.on hSw) 2
        have q3 := Blk.cell (XA7.out.on hSw) 3
        have q4 := Blk.cell (XA7.out.on hSw) 4
        have q5 := Blk.cell (XA7.out.on hSw) 5
        have q6 := Blk.cell (XA7.out.on hSw) 6
        have q7 := Blk.cell (XA7.out.on hSw) 7
        go_simp
      simp only [List.setIfInBounds_toArray, List.set_cons_zero, List.set_cons_succ]
      refine wpAnyH_ready (rs := [5]) (by kernel_rfl) (by simp) ?_
      refine AllReadyH.cons rfl (fun K hK => ?_) AllReadyH.nil
      go_simp
      refine (MB.out _ hHeld).mono ?_
      rintro e w8 ⟨_, rfl, ⟨A8, c8, rfl, o8⟩, hB8⟩
      have hS8 := Below.trans hHeld (hB8.mono hHeld.size)
      have HB8 := Lib.hid (o8.read (Nat.le_trans hs7 (Nat.le_trans hHeld.size hB8.size)))
      refine hK.out _ _ hS8 (fun hHeld => ?_)
      clear hK K hB8 o8 hS8
      refine wpAnyH_ready (rs := [6]) (by kernel_rfl) (by simp) ?_
      refine AllReadyH.cons rfl (fun K hK => ?_) AllReadyH.nil
      go_simp
      refine (LK.out _ _ hHeld HB8.out).mono ?_
      rintro e w9 ⟨rfl, hB9⟩
      have hS9 := Below.trans hHeld (hB9.mono hHeld.size)
      refine hK.out _ _ hS9 (fun hHeld => ?_)
      clear hK K hB9 hS9
      refine take_d 7 45 (.bool true) _ rfl rfl (by kernel_rfl) (by kernel_rfl) (by kernel_rfl) (fun _ _ _ h => h) (Or.inl ⟨by rfl, fun w' hSw => ?_⟩) hHeld ?_
      · go_simp
      simp only [List.setIfInBounds_toArray, List.set_cons_zero, List.set_cons_succ]
      refine take_d 8 2 (.bool true) _ rfl rfl (by kernel_rfl) (by kernel_rfl) (by kernel_rfl) (fun _ _ _ h => h) (Or.inl ⟨by rfl, fun w' hSw => ?_⟩) hHeld ?_
      · go_simp
      simp only [List.setIfInBounds_toArray, List.set_cons_zero, List.set_cons_succ]
      refine wpAnyH_done (by kernel_rfl) ?_ _
      go_wp2
      go_ret
      exact ⟨rfl, B7.out.trans (Below.mono hHeld hs7)⟩
end Go.Proofs.Ytiheeafmplccoaa
