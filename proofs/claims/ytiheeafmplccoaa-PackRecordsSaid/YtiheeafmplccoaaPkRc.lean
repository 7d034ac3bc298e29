/- The document's reader: a rule. -/
import Derived.Test.YtiheeafmplccoaaPkRb
namespace Go.Proofs.Ytiheeafmplccoaa
open Go.RowKit
variable {w w' w'' : World} {n₀ rb : Nat} {V : Value} {b s : List UInt8} {wr : Bool}

theorem xsl {A : Option Addr} {m cap p k : Nat} (h : Bytes n₀ w (.slice A m cap) b) (hp : p + k ≤ m) (A' : Option Addr) (c : Nat) (hA : 0 < k → A' = A.map (·.add p)) (hc : k ≤ c) : Bytes n₀ w (.slice A' k c) ((b.drop p).take k) := by
  obtain ⟨A0, cap0, hv, hl, ht⟩ := h
  injection hv with h1 h2 h3
  subst h1 h2 h3
  have hlen : ((b.drop p).take k).length = k := by rw [List.length_take, List.length_drop]; omega
  refine ⟨A', c, by rw [hlen], by rw [hlen]; exact hc, fun hs => ?_⟩
  have hk : 0 < k := by rw [← hlen]; exact List.length_pos_iff.2 hs
  obtain ⟨g, off, hA', hb, hcl⟩ := ht (by rintro rfl; simp at hp; omega)
  have hadd : (⟨g, off, none⟩ : Addr).add p = ⟨g, off + p, none⟩ := by unfold Addr.add; split <;> simp_all
  refine ⟨g, off + p, by rw [hA hk, hA']; simp [hadd], hb, fun j hj => ?_⟩
  rw [hlen] at hj
  rw [Nat.add_assoc, hcl (p + j) (by omega), at_take hj, at_drop]
set_option maxRecDepth 100000 in
set_option maxHeartbeats 8000000 in
theorem xrrule_any (h : Rx n₀ rb V b w s wr) : Calls Try.prog 74 #[.pointer (some ⟨rb, 0, none⟩)] w (RxP n₀ rb V b w (pR s) wr (RulV w.heap.size)) := by
  have hrb := h.lt
  have H0 := Lib.hid (h.alloc (.cells #[.int .i64 0, .int .i64 0, .int .i64 0, .int .i64 0, .string ⟨#[]⟩] 104))
  have F0 := Lib.hid ((FrR.refl (rb := rb) w).alloc (.cells #[.int .i64 0, .int .i64 0, .int .i64 0, .int .i64 0, .string ⟨#[]⟩] 104))
  have Z0 := Lib.hid (Blk.new w 104 #[.int .i64 0, .int .i64 0, .int .i64 0, .int .i64 0, .string ⟨#[]⟩])
  clear h
  have s0 : w.heap.size < (w.alloc (.cells #[.int .i64 0, .int .i64 0, .int .i64 0, .int .i64 0, .string ⟨#[]⟩] 104)).heap.size := by simp
  go_enter Try.func74, Try.ntmps74
  go_upto_region 1 with (fail)
  generalize w.alloc _ = w0 at *
  go_wp2_with fail
  refine (xrnum_any H0.out).mono ?_
  rintro e w1 ⟨x1, t1, wr1, _, rfl, ⟨rfl, _, _⟩, h1, h2, h3⟩
  have H1 := Lib.hid h1
  have F1 := Lib.hid (F0.out.trans h2)
  have Z1 := Lib.hid (Z0.out.blk0 h2 hrb)
  have O1 := Lib.hid h3
  have s1 : w.heap.size < w1.heap.size := Nat.lt_of_lt_of_le s0 h2.size
  clear h1 h2 h3
  go_wp2_with fail
  refine (xrnum_any H1.out).mono ?_
  rintro e w2 ⟨x2, t2, wr2, _, rfl, ⟨rfl, _, _⟩, h1, h2, h3⟩
  have H2 := Lib.hid h1
  have F2 := Lib.hid (F1.out.trans h2)
  have Z2 := Lib.hid (Z1.out.blk0 h2 hrb)
  have O2 := Lib.hid h3
  have s2 : w.heap.size < w2.heap.size := Nat.lt_of_lt_of_le s1 h2.size
  clear h1 h2 h3
  go_wp2_with fail
  refine (xrnum_any H2.out).mono ?_
  rintro e w3 ⟨x3, t3, wr3, _, rfl, ⟨rfl, _, _⟩, h1, h2, h3⟩
  have H3 := Lib.hid h1
  have F3 := Lib.hid (F2.out.trans h2)
  have Z3 := Lib.hid (Z2.out.blk0 h2 hrb)
  have O3 := Lib.hid h3
  have s3 : w.heap.size < w3.heap.size := Nat.lt_of_lt_of_le s2 h2.size
  clear h1 h2 h3
  go_wp2_with fail
  refine (xrnum_any H3.out).mono ?_
  rintro e w4 ⟨x4, t4, wr4, _, rfl, ⟨rfl, _, _⟩, h1, h2, h3⟩
  have H4 := Lib.hid h1
  have F4 := Lib.hid (F3.out.trans h2)
  have Z4 := Lib.hid (Z3.out.blk0 h2 hrb)
  have O4 := Lib.hid h3
  have s4 : w.heap.size < w4.heap.size := Nat.lt_of_lt_of_le s3 h2.size
  clear h1 h2 h3
  go_upto_region 2 with (fail)
  have hn : n₀ ≤ rb := by obtain ⟨_, _, _, h, _⟩ := H4.out; exact h
  have H5 := Lib.hid (H4.out.alloc (.cells #[.int .i64 x1, .int .i64 x2, .int .i64 x3, .int .i64 x4, .string ⟨#[]⟩] 104))
  have F5 := Lib.hid (F4.out.alloc (.cells #[.int .i64 x1, .int .i64 x2, .int .i64 x3, .int .i64 x4, .string ⟨#[]⟩] 104))
  have Z5 := Lib.hid (Z4.out.alloc (.cells #[.int .i64 x1, .int .i64 x2, .int .i64 x3, .int .i64 x4, .string ⟨#[]⟩] 104))
  have Y5 := Lib.hid (Blk.new w4 104 #[.int .i64 x1, .int .i64 x2, .int .i64 x3, .int .i64 x4, .string ⟨#[]⟩])
  have s5 : w4.heap.size < (w4.alloc (.cells #[.int .i64 x1, .int .i64 x2, .int .i64 x3, .int .i64 x4, .string ⟨#[]⟩] 104)).heap.size := by simp
  generalize w4.alloc _ = w5 at *
  obtain ⟨yb, hyb⟩ : ∃ yb, yb = w4.heap.size := ⟨_, rfl⟩
  rw [← hyb] at Y5 s5 s4 ⊢
  clear hyb H4 F4 Z4
  go_wp2_with fail
  refine (xrcount_any H5.out).mono ?_
  rintro e w6 ⟨k, t6, wr6, rfl, hk, h1, h2, h3⟩
  have H6 := Lib.hid h1
  have F6 := Lib.hid (F5.out.trans h2)
  have Z6 := Lib.hid (Z5.out.blk0 h2 hrb)
  have Y6 := Lib.hid (Y5.out.blk0 h2 (by omega))
  have O6 := Lib.hid h3
  have s6 : yb < w6.heap.size := Nat.lt_of_lt_of_le s5 h2.size
  clear h2 h3 H5 F5 Z5 Y5
  obtain ⟨p, hB, hS, hn0, hp, hl, hs⟩ := h1
  obtain ⟨A, cap, hv, hcap, ht⟩ := id hS
  obtain ⟨m, hm⟩ : ∃ m, m = b.length := ⟨_, rfl⟩
  have c0 := hB.cell 0
  rw [hv, ← hm] at c0
  have c1 := hB.cell 1
  have c2 := hB.cell 2
  have f1 := hB.frozen 1
  have hlt := hB.lt
  rw [← hm] at hp hl hcap
  have HBR := Lib.hid hB
  have hkt : p + k ≤ m := by rw [hs, List.length_drop] at hk; omega
  have HST := Lib.hid hs
  have HSV := Lib.hid hS
  have HM := Lib.hid hm
  have HVV := Lib.hid hv
  clear hB ht hs hS hk hv hm
  have y0 := Y6.out.cell 0
  have y1 := Y6.out.cell 1
  have y2 := Y6.out.cell 2
  have y3 := Y6.out.cell 3
  have y4 := Y6.out.cell 4
  have gy := Y6.out.frozen
  have ly := Y6.out.lt
  have z0 := Z6.out.cell 0
  have z1 := Z6.out.cell 1
  have z2 := Z6.out.cell 2
  have z3 := Z6.out.cell 3
  have z4 := Z6.out.cell 4
  have gz := Z6.out.frozen
  have lz := Z6.out.lt
  cases wr6 with
  | true =>
    have OT : Hid (∀ (x : S) (u : S), Out (pT t4) wr4 x u true) := Lib.hid fun x u => by unfold pT; exact Out.bind O6.out (Out.wrong _ _)
    go_wp2
    refine bodyPost_ret (v := .agg #[.int .i64 x1, .int .i64 x2, .int .i64 x3, .int .i64 x4, .string ⟨#[]⟩]) (by simp [results, Try.results74, go_sem, *]) rfl ⟨⟨x1, x2, x3, x4, ⟨#[]⟩⟩, _, true, _, rfl, rfl, (((((H6.out).far (q := ⟨w.heap.size, 0, none⟩) (by simp only; omega) _).far (q := ⟨w.heap.size, 1, none⟩) (by simp only; omega) _).far (q := ⟨w.heap.size, 2, none⟩) (by simp only; omega) _).far (q := ⟨w.heap.size, 3, none⟩) (by simp only; omega) _).far (q := ⟨w.heap.size, 4, none⟩) (by simp only; omega) _, (((((F6.out).set_ (q := ⟨w.heap.size, 0, none⟩) (.inr (Nat.le_refl _)) _).set_ (q := ⟨w.heap.size, 1, none⟩) (.inr (Nat.le_refl _)) _).set_ (q := ⟨w.heap.size, 2, none⟩) (.inr (Nat.le_refl _)) _).set_ (q := ⟨w.heap.size, 3, none⟩) (.inr (Nat.le_refl _)) _).set_ (q := ⟨w.heap.size, 4, none⟩) (.inr (Nat.le_refl _)) _, Out.bind O1.out (Out.bind O2.out (Out.bind O3.out (Out.bind O4.out (Out.bind (y := (⟨x1, x2, x3, x4, ⟨#[]⟩⟩ : Ru)) (OT.out [] t6) (Out.wrong _ _)))))⟩
  | false =>
    have OT : Hid (Out (pT t4) wr4 (t6.take k) (t6.drop k) false) := Lib.hid (by unfold pT; exact Out.bind O6.out (Out.pure _ _ _))
    obtain ⟨q, hq⟩ : ∃ q, q = p + k := ⟨_, rfl⟩
    have hqi : (p : Int) + (k : Int) = (q : Int) := by omega
    have hw3 : IntKind.i64.wrap (q : Int) = (q : Int) := IntWalk.i64_in _ (by omega)
    have hqm : q ≤ m := by omega
    have hpq : p ≤ q := by omega
    have hqp : q - p = k := by omega
    have hqc : q ≤ cap := by omega
    have HQ := Lib.hid hq
    clear hq
    have hne : yb ≠ rb := by omega
    have hne2 : yb ≠ w.heap.size := by omega
    have hne3 : rb ≠ w.heap.size := by omega
    obtain ⟨SS, hSS⟩ : ∃ SS : ByteArray, SS = ⟨(t6.take k).toArray⟩ := ⟨_, rfl⟩
    have HSS := Lib.hid hSS
    have hSV2 : Bytes n₀ w6.drew V b := HSV.out.below (Below.drewN' (Below.refl n₀ w6) 1)
    rw [HVV.out, ← HM.out] at hSV2
    have HSV2 := Lib.hid hSV2
    have fin : Rx n₀ rb V b (((((((w6.setCell ⟨yb, 4, none⟩ (.string SS)).setCell ⟨rb, 1, none⟩ (.int .i64 (q : Int))).setCell ⟨w.heap.size, 0, none⟩ (.int .i64 x1)).setCell ⟨w.heap.size, 1, none⟩ (.int .i64 x2)).setCell ⟨w.heap.size, 2, none⟩ (.int .i64 x3)).setCell ⟨w.heap.size, 3, none⟩ (.int .i64 x4)).setCell ⟨w.heap.size, 4, none⟩ (.string SS)).drew (t6.drop k) false ∧ FrR rb w (((((((w6.setCell ⟨yb, 4, none⟩ (.string SS)).setCell ⟨rb, 1, none⟩ (.int .i64 (q : Int))).setCell ⟨w.heap.size, 0, none⟩ (.int .i64 x1)).setCell ⟨w.heap.size, 1, none⟩ (.int .i64 x2)).setCell ⟨w.heap.size, 2, none⟩ (.int .i64 x3)).setCell ⟨w.heap.size, 3, none⟩ (.int .i64 x4)).setCell ⟨w.heap.size, 4, none⟩ (.string SS)).drew := by
      refine ⟨Rx.on (w := ((((((w6.setCell ⟨yb, 4, none⟩ (.string SS)).setCell ⟨rb, 1, none⟩ (.int .i64 (q : Int))).setCell ⟨w.heap.size, 0, none⟩ (.int .i64 x1)).setCell ⟨w.heap.size, 1, none⟩ (.int .i64 x2)).setCell ⟨w.heap.size, 2, none⟩ (.int .i64 x3)).setCell ⟨w.heap.size, 3, none⟩ (.int .i64 x4)).setCell ⟨w.heap.size, 4, none⟩ (.string SS)) ((((((?_ : Rx n₀ rb V b ((w6.setCell ⟨yb, 4, none⟩ (.string SS)).setCell ⟨rb, 1, none⟩ (.int .i64 (q : Int))) (t6.drop k) false).far (q := ⟨w.heap.size, 0, none⟩) (by simp only; omega) _).far (q := ⟨w.heap.size, 1, none⟩) (by simp only; omega) _).far (q := ⟨w.heap.size, 2, none⟩) (by simp only; omega) _).far (q := ⟨w.heap.size, 3, none⟩) (by simp only; omega) _).far (q := ⟨w.heap.size, 4, none⟩) (by simp only; omega) _) (Below.drewN' (Below.refl _ _) 1), ((((((((F6.out.set_ (q := ⟨yb, 4, none⟩) (.inr (by simp only; omega)) _).set_ (q := ⟨rb, 1, none⟩) (.inl rfl) _)).set_ (q := ⟨w.heap.size, 0, none⟩) (.inr (Nat.le_refl _)) _).set_ (q := ⟨w.heap.size, 1, none⟩) (.inr (Nat.le_refl _)) _).set_ (q := ⟨w.heap.size, 2, none⟩) (.inr (Nat.le_refl _)) _).set_ (q := ⟨w.heap.size, 3, none⟩) (.inr (Nat.le_refl _)) _).set_ (q := ⟨w.heap.size, 4, none⟩) (.inr (Nat.le_refl _)) _).drew⟩
      refine ⟨q, ?_, ?_, hn0, by rw [← HM.out]; omega, by rw [← HM.out]; exact hl, by rw [HST.out, List.drop_drop, HQ.out]⟩
      · have h1 : Blk (w6.setCell ⟨yb, 4, none⟩ (.string SS)) rb 91 #[V, .int .i64 (p : Int), .bool false] := HBR.out.far (p := ⟨yb, 4, none⟩) (by simp only; omega) _
        have := h1.set_ 1 (.int .i64 (q : Int))
        simpa using this
      · exact ((HSV.out.below ((Below.refl n₀ _).setCell (p := ⟨yb, 4, none⟩) (by simp only; omega) (.string SS))).below ((Below.refl n₀ _).setCell (p := ⟨rb, 1, none⟩) hn0 (.int .i64 (q : Int))))
    have FIN := Lib.hid fin
    clear hSS hSV2 fin
    cases A with
    | none =>
      have QS := run_string_bytes (xsl HSV2.out (k := k) hkt none (cap - p) (fun _ => rfl) (by omega))
      rw [← HST.out, ← HSS.out] at QS
      clear hkt
      go_wp2
      go_region
      go_wp2
      refine bodyPost_ret (v := .agg #[.int .i64 x1, .int .i64 x2, .int .i64 x3, .int .i64 x4, .string SS]) (by simp [results, Try.results74, go_sem, *]) rfl ⟨⟨x1, x2, x3, x4, SS⟩, t6.drop k, false, _, rfl, rfl, FIN.out.1, FIN.out.2, ?_⟩
      rw [HSS.out]
      exact Out.bind O1.out (Out.bind O2.out (Out.bind O3.out (Out.bind O4.out (Out.bind OT.out (Out.pure _ _ _)))))
    | some a =>
      by_cases hc : cap = p
      · obtain rfl := hc
        have QS := run_string_bytes (xsl HSV2.out (k := k) hkt (some a) (0) (fun h => by omega) (by omega))
        rw [← HST.out, ← HSS.out] at QS
        clear hkt
        go_wp2
        go_region
        go_wp2
        refine bodyPost_ret (v := .agg #[.int .i64 x1, .int .i64 x2, .int .i64 x3, .int .i64 x4, .string SS]) (by simp [results, Try.results74, go_sem, *]) rfl ⟨⟨x1, x2, x3, x4, SS⟩, t6.drop k, false, _, rfl, rfl, FIN.out.1, FIN.out.2, ?_⟩
        rw [HSS.out]
        exact Out.bind O1.out (Out.bind O2.out (Out.bind O3.out (Out.bind O4.out (Out.bind OT.out (Out.pure _ _ _)))))
      · have hc' : ¬ p = cap := fun h => hc h.symm
        have QS := run_string_bytes (xsl HSV2.out (k := k) hkt (some (a.add p)) (cap - p) (fun _ => rfl) (by omega))
        rw [← HST.out, ← HSS.out] at QS
        clear hkt
        go_wp2
        go_region
        go_wp2
        refine bodyPost_ret (v := .agg #[.int .i64 x1, .int .i64 x2, .int .i64 x3, .int .i64 x4, .string SS]) (by simp [results, Try.results74, go_sem, *]) rfl ⟨⟨x1, x2, x3, x4, SS⟩, t6.drop k, false, _, rfl, rfl, FIN.out.1, FIN.out.2, ?_⟩
        rw [HSS.out]
        exact Out.bind O1.out (Out.bind O2.out (Out.bind O3.out (Out.bind O4.out (Out.bind OT.out (Out.pure _ _ _)))))
end Go.Proofs.Ytiheeafmplccoaa
