/- The reader: a rule, a list of rules, a list of numbers, a delta. -/
import Derived.Test.YtefgobmpleoafaaGreatPkI
namespace Go.Proofs.YtefgobmpleoafaaGreat
open Go.RowKit
variable {w w' : World} {n₀ rb : Nat} {s : List UInt8} {wr : Bool}

theorem Blk.blk0 {b : Nat} {t : TypeId} {cs : Array Value} (h : Blk w b t cs) (k : FrR rb w w') (hb : rb < b) : Blk w' b t cs := k.blk h (by omega)
def RulV (_ : Nat) (_ : World) (v : Value) (x : Ru) : Prop := v = .agg #[.int .i64 x.id, .int .i64 x.pr, .int .i64 x.ac, .int .i64 x.sc, .string x.pat]
set_option maxRecDepth 100000 in
set_option maxHeartbeats 4000000 in
theorem rrule_any (h : Rd n₀ rb w s wr) : Calls Tryz.prog 91 #[.pointer (some ⟨rb, 0, none⟩)] w (RdP n₀ rb w (pR s) wr (RulV w.heap.size)) := by
  have hrb := h.lt
  have H0 := Lib.hid (h.alloc (.cells #[.int .i64 0, .int .i64 0, .int .i64 0, .int .i64 0, .string ⟨#[]⟩] 114))
  have F0 := Lib.hid ((FrR.refl (rb := rb) w).alloc (.cells #[.int .i64 0, .int .i64 0, .int .i64 0, .int .i64 0, .string ⟨#[]⟩] 114))
  have Z0 := Lib.hid (Blk.new w 114 #[.int .i64 0, .int .i64 0, .int .i64 0, .int .i64 0, .string ⟨#[]⟩])
  clear h
  have s0 : w.heap.size < (w.alloc (.cells #[.int .i64 0, .int .i64 0, .int .i64 0, .int .i64 0, .string ⟨#[]⟩] 114)).heap.size := by simp
  go_enter Tryz.func91, Tryz.ntmps91
  go_upto_region 1 with (fail)
  generalize w.alloc _ = w0 at *
  go_wp2_with fail
  refine (rnum_any H0.out).mono ?_
  rintro e w1 ⟨x1, t1, wr1, _, rfl, ⟨rfl, _, _⟩, h1, h2, h3⟩
  have H1 := Lib.hid h1
  have F1 := Lib.hid (F0.out.trans h2)
  have Z1 := Lib.hid (Z0.out.blk0 h2 hrb)
  have O1 := Lib.hid h3
  have s1 : w.heap.size < w1.heap.size := Nat.lt_of_lt_of_le s0 h2.size
  clear h1 h2 h3
  go_wp2_with fail
  refine (rnum_any H1.out).mono ?_
  rintro e w2 ⟨x2, t2, wr2, _, rfl, ⟨rfl, _, _⟩, h1, h2, h3⟩
  have H2 := Lib.hid h1
  have F2 := Lib.hid (F1.out.trans h2)
  have Z2 := Lib.hid (Z1.out.blk0 h2 hrb)
  have O2 := Lib.hid h3
  have s2 : w.heap.size < w2.heap.size := Nat.lt_of_lt_of_le s1 h2.size
  clear h1 h2 h3
  go_wp2_with fail
  refine (rnum_any H2.out).mono ?_
  rintro e w3 ⟨x3, t3, wr3, _, rfl, ⟨rfl, _, _⟩, h1, h2, h3⟩
  have H3 := Lib.hid h1
  have F3 := Lib.hid (F2.out.trans h2)
  have Z3 := Lib.hid (Z2.out.blk0 h2 hrb)
  have O3 := Lib.hid h3
  have s3 : w.heap.size < w3.heap.size := Nat.lt_of_lt_of_le s2 h2.size
  clear h1 h2 h3
  go_wp2_with fail
  refine (rnum_any H3.out).mono ?_
  rintro e w4 ⟨x4, t4, wr4, _, rfl, ⟨rfl, _, _⟩, h1, h2, h3⟩
  have H4 := Lib.hid h1
  have F4 := Lib.hid (F3.out.trans h2)
  have Z4 := Lib.hid (Z3.out.blk0 h2 hrb)
  have O4 := Lib.hid h3
  have s4 : w.heap.size < w4.heap.size := Nat.lt_of_lt_of_le s3 h2.size
  clear h1 h2 h3
  go_wp2_with fail
  refine (rtext_any H4.out).mono ?_
  rintro e w5 ⟨x5, t5, wr5, _, rfl, rfl, h1, h2, h3⟩
  have H5 := Lib.hid h1
  have F5 := Lib.hid (F4.out.trans h2)
  have Z5 := Lib.hid (Z4.out.blk0 h2 hrb)
  have O5 := Lib.hid h3
  have s5 : w.heap.size < w5.heap.size := Nat.lt_of_lt_of_le s4 h2.size
  clear h1 h2 h3
  have z0 := Z5.out.cell 0
  have z1 := Z5.out.cell 1
  have z2 := Z5.out.cell 2
  have z3 := Z5.out.cell 3
  have z4 := Z5.out.cell 4
  have f := Z5.out.frozen
  have hl := Z5.out.lt
  go_wp2
  refine bodyPost_ret (v := .agg #[.int .i64 x1, .int .i64 x2, .int .i64 x3, .int .i64 x4, .string ⟨x5.toArray⟩]) (by simp [results, Tryz.results91, go_sem, *]) rfl ⟨⟨x1, x2, x3, x4, ⟨x5.toArray⟩⟩, _, wr5, _, rfl, ?_, (((((H5.out).far (q := ⟨w.heap.size, 0, none⟩) hrb _).far (q := ⟨w.heap.size, 1, none⟩) hrb _).far (q := ⟨w.heap.size, 2, none⟩) hrb _).far (q := ⟨w.heap.size, 3, none⟩) hrb _).far (q := ⟨w.heap.size, 4, none⟩) hrb _, (((((F5.out).set_ (q := ⟨w.heap.size, 0, none⟩) (.inr (Nat.le_refl _)) _).set_ (q := ⟨w.heap.size, 1, none⟩) (.inr (Nat.le_refl _)) _).set_ (q := ⟨w.heap.size, 2, none⟩) (.inr (Nat.le_refl _)) _).set_ (q := ⟨w.heap.size, 3, none⟩) (.inr (Nat.le_refl _)) _).set_ (q := ⟨w.heap.size, 4, none⟩) (.inr (Nat.le_refl _)) _, Out.bind O1.out (Out.bind O2.out (Out.bind O3.out (Out.bind O4.out (Out.bind O5.out (Out.pure _ _ _)))))⟩
  rfl

theorem orow_fr {base : Nat} {e : TypeId} {size n : Nat} {v : Value} {xs : List Value} (h : w.ownsRow base e size v n xs) (k : FrR rb w w') (hb : rb < base) : w'.ownsRow base e size v n xs := k.own h hb
theorem orow_set {base : Nat} {e : TypeId} {size n : Nat} {v : Value} {xs : List Value} (h : w.ownsRow base e size v n xs) {q : Addr} (hq : q.block < base) (u : Value) : (w.setCell q u).ownsRow base e size v n xs :=
  own_keep h fun i hi => Below.heap_setCell _ _ _ _ (by have := (World.ownsRow.lt h i hi.symm).1; omega)
theorem orow_low {a b : Nat} {e : TypeId} {size n : Nat} {v : Value} {xs : List Value} (h : w.ownsRow a e size v n xs) (hb : b ≤ a) : w.ownsRow b e size v n xs := by
  refine ⟨h.1, ?_⟩
  rcases h.2 with h0 | ⟨g, cap, cur, hv, hg, hr⟩
  · exact .inl h0
  · exact .inr ⟨g, cap, cur, hv, by omega, hr⟩
theorem orow_form {a : Nat} {e : TypeId} {size n : Nat} {v : Value} {xs : List Value} (h : w.ownsRow a e size v n xs) : ∃ A c, v = .slice A n c := by
  rcases h.2 with ⟨hv, hn⟩ | ⟨g, c, cur, hv, _⟩
  · exact ⟨none, 0, by rw [hv, hn]⟩
  · exact ⟨_, c, hv⟩
theorem k_none {α : Type} {p : S → Option (α × S)} {t : S} : ∀ {n k : Nat}, pK p k t = none → k ≤ n → pK p n t = none
  | 0, k, h, hk => by obtain rfl : k = 0 := by omega
                      exact h
  | n + 1, k, h, hk => by
    rcases Nat.lt_or_ge k (n + 1) with h' | h'
    · have := k_none h (show k ≤ n by omega)
      unfold pK
      rw [this]
      rfl
    · obtain rfl : k = n + 1 := by omega
      exact h
theorem out_gone {α : Type} {p : S → Option (α × S)} {wr1 : Bool} {k n : Nat} {l : List α} {t0 t : S} (h : Out (pK p k t0) wr1 l t true) (hk : k ≤ n) (l' : List α) (t' : S) : Out (pK p n t0) wr1 l' t' true :=
  ⟨fun h' => Bool.noConfusion h', fun _ => by
    rcases h.2 rfl with h1 | h1
    · exact .inl h1
    · exact .inr (k_none h1 hk)⟩
theorem out_snoc {α : Type} {p : S → Option (α × S)} {wr1 wr2 wr3 : Bool} {k : Nat} {l : List α} {x : α} {t0 t u : S} (h : Out (pK p k t0) wr1 l t wr2) (h2 : Out (p t) wr2 x u wr3) : Out (pK p (k + 1) t0) wr1 (l ++ [x]) u wr3 := Out.bind h (Out.bind h2 (Out.pure _ _ _))
def LRulV (base : Nat) (w : World) (v : Value) (l : List Ru) : Prop := OwnU w base 114 v l
def LIntV (base : Nat) (w : World) (v : Value) (l : List Int) : Prop := w.ownsRow base 3 1 v l.length (zI l)
theorem info_rule : (Tryz.prog.info? 114).map (fun i => (i.zero, i.size, i.bytes)) = some (some (.agg #[.int .i64 0, .int .i64 0, .int .i64 0, .int .i64 0, .string ⟨#[]⟩]), 5, 48) := by kernel_rfl
set_option maxRecDepth 100000 in
set_option maxHeartbeats 4000000 in
theorem rlR_any (h : Rd n₀ rb w s wr) : Calls Tryz.prog 90 #[.pointer (some ⟨rb, 0, none⟩), mv 91 rb] w (RdP n₀ rb w (pL pR s) wr (LRulV w.heap.size)) := by
  have H := Lib.hid h
  have hrb := h.lt
  obtain ⟨i0, hi, hz0, hz1, hz2⟩ := info_three info_rule
  clear h
  go_enter Tryz.func90, Tryz.ntmps90
  go_wp2_with fail
  refine (rcount_any H.out).mono ?_
  rintro e w1 ⟨n, t0, wr1, rfl, hn, h1, h2, h3⟩
  have H1 := Lib.hid h1
  have H2 := Lib.hid h2
  have H3 := Lib.hid h3
  have hn2 : n ≤ 65536 := by obtain ⟨_, _, _, _, hl⟩ := h1; omega
  clear h1 h2 h3 hn
  go_wp2
  go_loopw [5, 8] (fun V i wr => ∃ (k : Nat) (l : List Ru) (t : S) (wrk : Bool), k ≤ n ∧ i = .int .i64 (k : Int) ∧ Hid (l.length = k) ∧ Hid (LRulV w.heap.size wr V l) ∧ Hid (Rd n₀ rb wr t wrk) ∧ Hid (FrR rb w wr) ∧ Hid (Out (pK pR k t0) wr1 l t wrk)) (fun _ i _ => n - (intOf i).toNat)
  case atStart => exact ⟨0, [], t0, wr1, Nat.zero_le _, rfl, Lib.hid rfl, Lib.hid (OwnU.nil _ _ _), H1, H2, Lib.hid (Out.pure _ _ _)⟩
  case round =>
    obtain ⟨k, l, t, wrk, hk, rfl, HL, HV, HR, HF, HO⟩ := hrel
    by_cases hlt : k < n
    · obtain ⟨v0, hB, _⟩ := HR.out
      have c1 := hB.cell 1
      have hlt0 := hB.lt
      clear hB
      cases wrk
      · have hsz : w.heap.size ≤ wr.heap.size := HF.out.size
        go_wp2_with fail
        refine (rrule_any HR.out).mono ?_
        rintro e w2 ⟨x, u, wr2, v2, rfl, rfl, h1, h2, h3⟩
        have HR2 := Lib.hid h1
        have HF2 := Lib.hid (HF.out.trans h2)
        have HO2 := Lib.hid (out_snoc HO.out h3)
        have HV2 : Hid (LRulV w.heap.size w2 u5 l) := Lib.hid (orow_fr HV.out h2 hrb)
        have hsz2 : w.heap.size ≤ w2.heap.size := HF2.out.size
        have HL1 : Hid ((l ++ [x]).length = k + 1) := Lib.hid (by have := HL.out; simp; omega)
        clear h1 h2 h3
        go_wp2_with (at_builtin
                     refine wpList_append_rule _ rfl (.tmp 14) (.tmp 17) 89 rfl w.heap.size 114 i0 (.agg #[.int .i64 0, .int .i64 0, .int .i64 0, .int .i64 0, .string ⟨#[]⟩]) 48 Tryz.underlying89 hi hz0 hz1 hz2 rfl u5 l rfl (World.ownsRow.alloc HV2.out _) _ 1 x rfl (Blk.at_new _ _ rfl _ _) (by have := HL.out; omega) (by decide) (by simp; omega) ?_
                     intro V' w3 hown' hgrow
                     have HR3 := Lib.hid (Rd.grown (HR2.out.alloc (.cells #[.int .i64 x.id, .int .i64 x.pr, .int .i64 x.ac, .int .i64 x.sc, .string x.pat] 114)) hgrow (fun k hk => by have := (World.ownsRow.lt (HV2.out) k hk.symm).1; omega))
                     have HF3 := Lib.hid ((HF2.out.alloc (.cells #[.int .i64 x.id, .int .i64 x.pr, .int .i64 x.ac, .int .i64 x.sc, .string x.pat] 114)).grown hgrow (fun k hk => by have := (World.ownsRow.lt (HV2.out) k hk.symm).1; omega))
                     have HV3 : Hid (LRulV w.heap.size w3 V' (l ++ [x])) := Lib.hid hown'
                     clear hgrow hown')
        go_roundw
        case rel => exact ⟨k + 1, l ++ [x], u, wr2, by omega, by go_num, HL1, HV3, HR3, HF3, HO2⟩
        case measure => simp [intOf]; omega
      · go_wp2
        go_ret
        exact ⟨[], t, true, _, rfl, OwnU.nil _ _ _, HR.out, HF.out, Out.bind H3.out (out_gone HO.out hk _ _)⟩
    · obtain rfl : k = n := by omega
      obtain ⟨A, c, hv⟩ := orow_form HV.out
      subst hv
      rw [HL.out] at HV ⊢
      go_wp2
      go_ret
      exact ⟨l, t, wrk, _, rfl, HV.out, HR.out, HF.out, Out.bind H3.out HO.out⟩
theorem info_ints : (Tryz.prog.info? 3).map (fun i => (i.zero, i.size, i.bytes)) = some (some (.int .i64 0), 1, 8) := info_int
set_option maxRecDepth 100000 in
set_option maxHeartbeats 4000000 in
theorem rlI_any (h : Rd n₀ rb w s wr) : Calls Tryz.prog 92 #[.pointer (some ⟨rb, 0, none⟩), mv 70 rb] w (RdP n₀ rb w (pL pN s) wr (LIntV w.heap.size)) := by
  have H := Lib.hid h
  have hrb := h.lt
  obtain ⟨i0, hi, hz0, hz1, hz2⟩ := info_three info_ints
  clear h
  go_enter Tryz.func92, Tryz.ntmps92
  go_wp2_with fail
  refine (rcount_any H.out).mono ?_
  rintro e w1 ⟨n, t0, wr1, rfl, hn, h1, h2, h3⟩
  have H1 := Lib.hid h1
  have H2 := Lib.hid h2
  have H3 := Lib.hid h3
  have hn2 : n ≤ 65536 := by obtain ⟨_, _, _, _, hl⟩ := h1; omega
  clear h1 h2 h3 hn
  go_wp2
  go_loopw [5, 8] (fun V i wr => ∃ (k : Nat) (l : List Int) (t : S) (wrk : Bool), k ≤ n ∧ i = .int .i64 (k : Int) ∧ Hid (l.length = k) ∧ Hid (LIntV w.heap.size wr V l) ∧ Hid (Rd n₀ rb wr t wrk) ∧ Hid (FrR rb w wr) ∧ Hid (Out (pK pN k t0) wr1 l t wrk)) (fun _ i _ => n - (intOf i).toNat)
  case atStart => exact ⟨0, [], t0, wr1, Nat.zero_le _, rfl, Lib.hid rfl, Lib.hid (World.ownsRow_nil _ _ _ _), H1, H2, Lib.hid (Out.pure _ _ _)⟩
  case round =>
    obtain ⟨k, l, t, wrk, hk, rfl, HL, HV, HR, HF, HO⟩ := hrel
    by_cases hlt : k < n
    · obtain ⟨v0, hB, _⟩ := HR.out
      have c1 := hB.cell 1
      have hlt0 := hB.lt
      clear hB
      cases wrk
      · have hsz : w.heap.size ≤ wr.heap.size := HF.out.size
        go_wp2_with fail
        refine (rnum_any HR.out).mono ?_
        rintro e w2 ⟨x, u, wr2, v2, rfl, ⟨rfl, _, _⟩, h1, h2, h3⟩
        have HR2 := Lib.hid h1
        have HF2 := Lib.hid (HF.out.trans h2)
        have HO2 := Lib.hid (out_snoc HO.out h3)
        have HV2 : Hid (LIntV w.heap.size w2 u5 l) := Lib.hid (orow_fr HV.out h2 hrb)
        have hsz2 : w.heap.size ≤ w2.heap.size := HF2.out.size
        have HL1 : Hid ((l ++ [x]).length = k + 1) := Lib.hid (by have := HL.out; simp; omega)
        clear h1 h2 h3
        go_wp2_with (at_builtin
                     refine wpList_append_row _ rfl (.tmp 14) (.tmp 17) 74 rfl w.heap.size 3 i0 (.int .i64 0) 8 Tryz.underlying74 hi hz0 hz1 hz2 rfl u5 l.length (zI l) rfl (World.ownsRow.alloc HV2.out _) (w2.heap.size + 1) _ [.int .i64 x] rfl (Row.lit w2 #[.int .i64 x] 3 (0, 0)) (by intro y hy; simp at hy; subst hy; rfl) (by have := HL.out; unfold maxLen; simp; omega) (by have := HL.out; simp; omega) (by simp; omega) ?_
                     intro V' w3 hown' hgrow
                     have HR3 := Lib.hid (Rd.grown (HR2.out.alloc (.cells #[.int .i64 x] 3)) hgrow (fun k hk => by have := (World.ownsRow.lt (HV2.out) k hk.symm).1; omega))
                     have HF3 := Lib.hid ((HF2.out.alloc (.cells #[.int .i64 x] 3)).grown hgrow (fun k hk => by have := (World.ownsRow.lt (HV2.out) k hk.symm).1; omega))
                     have HV3 : Hid (LIntV w.heap.size w3 V' (l ++ [x])) := Lib.hid (by unfold LIntV; rw [List.length_append, show zI (l ++ [x]) = zI l ++ [.int .i64 x] by simp [zI]]; exact hown')
                     clear hgrow hown')
        go_roundw
        case rel => exact ⟨k + 1, l ++ [x], u, wr2, by omega, by go_num, HL1, HV3, HR3, HF3, HO2⟩
        case measure => simp [intOf]; omega
      · go_wp2
        go_ret
        exact ⟨[], t, true, _, rfl, World.ownsRow_nil _ _ _ _, HR.out, HF.out, Out.bind H3.out (out_gone HO.out hk _ _)⟩
    · obtain rfl : k = n := by omega
      obtain ⟨A, c, hv⟩ := orow_form HV.out
      subst hv
      rw [HL.out] at HV ⊢
      go_wp2
      go_ret
      exact ⟨l, t, wrk, _, rfl, HV.out, HR.out, HF.out, Out.bind H3.out HO.out⟩
def DelV (base : Nat) (w : World) (v : Value) (x : Dl) : Prop := ∃ A c B d, v = x.val (.slice A x.put.length c) (.slice B x.drop.length d) ∧ LRulV base w (.slice A x.put.length c) x.put ∧ LIntV base w (.slice B x.drop.length d) x.drop
set_option maxRecDepth 100000 in
set_option maxHeartbeats 4000000 in
theorem rdelta_any (h : Rd n₀ rb w s wr) : Calls Tryz.prog 83 #[.pointer (some ⟨rb, 0, none⟩)] w (RdP n₀ rb w (pD s) wr (DelV w.heap.size)) := by
  have hrb := h.lt
  have H0 := Lib.hid (h.alloc (.cells #[.int .i64 0, .int .i64 0, .int .i64 0, .int .i64 0, .slice none 0 0, .slice none 0 0] 91))
  have F0 := Lib.hid ((FrR.refl (rb := rb) w).alloc (.cells #[.int .i64 0, .int .i64 0, .int .i64 0, .int .i64 0, .slice none 0 0, .slice none 0 0] 91))
  have Z0 := Lib.hid (Blk.new w 91 #[.int .i64 0, .int .i64 0, .int .i64 0, .int .i64 0, .slice none 0 0, .slice none 0 0])
  clear h
  have s0 : w.heap.size < (w.alloc (.cells #[.int .i64 0, .int .i64 0, .int .i64 0, .int .i64 0, .slice none 0 0, .slice none 0 0] 91)).heap.size := by simp
  go_enter Tryz.func83, Tryz.ntmps83
  go_upto_region 1 with (fail)
  generalize w.alloc _ = w0 at *
  go_wp2_with fail
  refine (rnum_any H0.out).mono ?_
  rintro e w1 ⟨x1, t1, wr1, _, rfl, ⟨rfl, _, _⟩, h1, h2, h3⟩
  have H1 := Lib.hid h1
  have F1 := Lib.hid (F0.out.trans h2)
  have Z1 := Lib.hid (Z0.out.blk0 h2 hrb)
  have O1 := Lib.hid h3
  have s1 : w.heap.size < w1.heap.size := Nat.lt_of_lt_of_le s0 h2.size
  clear h1 h2 h3
  go_wp2_with fail
  refine (rnum_any H1.out).mono ?_
  rintro e w2 ⟨x2, t2, wr2, _, rfl, ⟨rfl, _, _⟩, h1, h2, h3⟩
  have H2 := Lib.hid h1
  have F2 := Lib.hid (F1.out.trans h2)
  have Z2 := Lib.hid (Z1.out.blk0 h2 hrb)
  have O2 := Lib.hid h3
  have s2 : w.heap.size < w2.heap.size := Nat.lt_of_lt_of_le s1 h2.size
  clear h1 h2 h3
  go_wp2_with fail
  refine (rnum_any H2.out).mono ?_
  rintro e w3 ⟨x3, t3, wr3, _, rfl, ⟨rfl, _, _⟩, h1, h2, h3⟩
  have H3 := Lib.hid h1
  have F3 := Lib.hid (F2.out.trans h2)
  have Z3 := Lib.hid (Z2.out.blk0 h2 hrb)
  have O3 := Lib.hid h3
  have s3 : w.heap.size < w3.heap.size := Nat.lt_of_lt_of_le s2 h2.size
  clear h1 h2 h3
  go_wp2_with fail
  refine (rnum_any H3.out).mono ?_
  rintro e w4 ⟨x4, t4, wr4, _, rfl, ⟨rfl, _, _⟩, h1, h2, h3⟩
  have H4 := Lib.hid h1
  have F4 := Lib.hid (F3.out.trans h2)
  have Z4 := Lib.hid (Z3.out.blk0 h2 hrb)
  have O4 := Lib.hid h3
  have s4 : w.heap.size < w4.heap.size := Nat.lt_of_lt_of_le s3 h2.size
  clear h1 h2 h3
  go_wp2_with fail
  refine (rlR_any H4.out).mono ?_
  rintro e w5 ⟨x5, t5, wr5, v5, rfl, hv5, h1, h2, h3⟩
  obtain ⟨A5, c5, rfl⟩ := orow_form hv5
  have H5 := Lib.hid h1
  have F5 := Lib.hid (F4.out.trans h2)
  have Z5 := Lib.hid (Z4.out.blk0 h2 hrb)
  have O5 := Lib.hid h3
  have s5 : w.heap.size < w5.heap.size := Nat.lt_of_lt_of_le s4 h2.size
  have V5 := Lib.hid hv5
  clear h1 h2 h3 hv5
  go_wp2_with fail
  refine (rlI_any H5.out).mono ?_
  rintro e w6 ⟨x6, t6, wr6, v6, rfl, hv6, h1, h2, h3⟩
  obtain ⟨A6, c6, rfl⟩ := orow_form hv6
  have H6 := Lib.hid h1
  have F6 := Lib.hid (F5.out.trans h2)
  have Z6 := Lib.hid (Z5.out.blk0 h2 hrb)
  have O6 := Lib.hid h3
  have s6 : w.heap.size < w6.heap.size := Nat.lt_of_lt_of_le s5 h2.size
  have V5 := Lib.hid (orow_fr V5.out h2 (by omega))
  have V6 := Lib.hid hv6
  clear h1 h2 h3 hv6
  have z0 := Z6.out.cell 0
  have z1 := Z6.out.cell 1
  have z2 := Z6.out.cell 2
  have z3 := Z6.out.cell 3
  have z4 := Z6.out.cell 4
  have z5 := Z6.out.cell 5
  have f := Z6.out.frozen
  have hl := Z6.out.lt
  go_wp2
  refine bodyPost_ret (v := .agg #[.int .i64 x1, .int .i64 x2, .int .i64 x3, .int .i64 x4, .slice A5 x5.length c5, .slice A6 x6.length c6]) (by simp [results, Tryz.results83, go_sem, *]) rfl ⟨⟨x1, x2, x3, x4, x5, x6⟩, _, wr6, _, rfl, ?_, ((((((H6.out).far (q := ⟨w.heap.size, 0, none⟩) hrb _).far (q := ⟨w.heap.size, 1, none⟩) hrb _).far (q := ⟨w.heap.size, 2, none⟩) hrb _).far (q := ⟨w.heap.size, 3, none⟩) hrb _).far (q := ⟨w.heap.size, 4, none⟩) hrb _).far (q := ⟨w.heap.size, 5, none⟩) hrb _, ((((((F6.out).set_ (q := ⟨w.heap.size, 0, none⟩) (.inr (Nat.le_refl _)) _).set_ (q := ⟨w.heap.size, 1, none⟩) (.inr (Nat.le_refl _)) _).set_ (q := ⟨w.heap.size, 2, none⟩) (.inr (Nat.le_refl _)) _).set_ (q := ⟨w.heap.size, 3, none⟩) (.inr (Nat.le_refl _)) _).set_ (q := ⟨w.heap.size, 4, none⟩) (.inr (Nat.le_refl _)) _).set_ (q := ⟨w.heap.size, 5, none⟩) (.inr (Nat.le_refl _)) _, Out.bind O1.out (Out.bind O2.out (Out.bind O3.out (Out.bind O4.out (Out.bind O5.out (Out.bind O6.out (Out.pure _ _ _))))))⟩
  have V5s := orow_low (orow_set (orow_set (orow_set (orow_set (orow_set (orow_set (V5.out) (q := ⟨w.heap.size, 0, none⟩) (by simp only; omega) (.int .i64 x1)) (q := ⟨w.heap.size, 1, none⟩) (by simp only; omega) (.int .i64 x2)) (q := ⟨w.heap.size, 2, none⟩) (by simp only; omega) (.int .i64 x3)) (q := ⟨w.heap.size, 3, none⟩) (by simp only; omega) (.int .i64 x4)) (q := ⟨w.heap.size, 4, none⟩) (by simp only; omega) (.slice A5 x5.length c5)) (q := ⟨w.heap.size, 5, none⟩) (by simp only; omega) (.slice A6 x6.length c6)) (b := w.heap.size) (by omega)
  have V6s := orow_low (orow_set (orow_set (orow_set (orow_set (orow_set (orow_set (V6.out) (q := ⟨w.heap.size, 0, none⟩) (by simp only; omega) (.int .i64 x1)) (q := ⟨w.heap.size, 1, none⟩) (by simp only; omega) (.int .i64 x2)) (q := ⟨w.heap.size, 2, none⟩) (by simp only; omega) (.int .i64 x3)) (q := ⟨w.heap.size, 3, none⟩) (by simp only; omega) (.int .i64 x4)) (q := ⟨w.heap.size, 4, none⟩) (by simp only; omega) (.slice A5 x5.length c5)) (q := ⟨w.heap.size, 5, none⟩) (by simp only; omega) (.slice A6 x6.length c6)) (b := w.heap.size) (by omega)
  exact ⟨A5, c5, A6, c6, rfl, V5s, V6s⟩
def EntV (base : Nat) (w : World) (v : Value) (x : En) : Prop := ∃ A c B d, v = x.val (.slice A x.d.put.length c) (.slice B x.d.drop.length d) ∧ LRulV base w (.slice A x.d.put.length c) x.d.put ∧ LIntV base w (.slice B x.d.drop.length d) x.d.drop
set_option maxRecDepth 100000 in
set_option maxHeartbeats 4000000 in
theorem rentry_any (h : Rd n₀ rb w s wr) : Calls Tryz.prog 72 #[.pointer (some ⟨rb, 0, none⟩)] w (RdP n₀ rb w (pE s) wr (EntV w.heap.size)) := by
  have hrb := h.lt
  have H0 := Lib.hid (h.alloc (.cells #[.int .i64 0, .int .i64 0, .int .i64 0, .int .i64 0, .int .i64 0, .int .i64 0, .int .i64 0, .slice none 0 0, .slice none 0 0] 93))
  have F0 := Lib.hid ((FrR.refl (rb := rb) w).alloc (.cells #[.int .i64 0, .int .i64 0, .int .i64 0, .int .i64 0, .int .i64 0, .int .i64 0, .int .i64 0, .slice none 0 0, .slice none 0 0] 93))
  have Z0 := Lib.hid (Blk.new w 93 #[.int .i64 0, .int .i64 0, .int .i64 0, .int .i64 0, .int .i64 0, .int .i64 0, .int .i64 0, .slice none 0 0, .slice none 0 0])
  clear h
  have s0 : w.heap.size < (w.alloc (.cells #[.int .i64 0, .int .i64 0, .int .i64 0, .int .i64 0, .int .i64 0, .int .i64 0, .int .i64 0, .slice none 0 0, .slice none 0 0] 93)).heap.size := by simp
  go_enter Tryz.func72, Tryz.ntmps72
  go_upto_region 1 with (fail)
  generalize w.alloc _ = w0 at *
  go_wp2_with fail
  refine (rnum_any H0.out).mono ?_
  rintro e w1 ⟨x1, t1, wr1, _, rfl, ⟨rfl, _, _⟩, h1, h2, h3⟩
  have H1 := Lib.hid h1
  have F1 := Lib.hid (F0.out.trans h2)
  have Z1 := Lib.hid (Z0.out.blk0 h2 hrb)
  have O1 := Lib.hid h3
  have s1 : w.heap.size < w1.heap.size := Nat.lt_of_lt_of_le s0 h2.size
  clear h1 h2 h3
  go_wp2_with fail
  refine (rnum_any H1.out).mono ?_
  rintro e w2 ⟨x2, t2, wr2, _, rfl, ⟨rfl, _, _⟩, h1, h2, h3⟩
  have H2 := Lib.hid h1
  have F2 := Lib.hid (F1.out.trans h2)
  have Z2 := Lib.hid (Z1.out.blk0 h2 hrb)
  have O2 := Lib.hid h3
  have s2 : w.heap.size < w2.heap.size := Nat.lt_of_lt_of_le s1 h2.size
  clear h1 h2 h3
  go_wp2_with fail
  refine (rnum_any H2.out).mono ?_
  rintro e w3 ⟨x3, t3, wr3, _, rfl, ⟨rfl, _, _⟩, h1, h2, h3⟩
  have H3 := Lib.hid h1
  have F3 := Lib.hid (F2.out.trans h2)
  have Z3 := Lib.hid (Z2.out.blk0 h2 hrb)
  have O3 := Lib.hid h3
  have s3 : w.heap.size < w3.heap.size := Nat.lt_of_lt_of_le s2 h2.size
  clear h1 h2 h3
  go_wp2_with fail
  refine (rdelta_any H3.out).mono ?_
  rintro e w4 ⟨x4, t4, wr4, _, rfl, ⟨A4, c4, B4, d4, rfl, hv4, hu4⟩, h1, h2, h3⟩
  have H4 := Lib.hid h1
  have F4 := Lib.hid (F3.out.trans h2)
  have Z4 := Lib.hid (Z3.out.blk0 h2 hrb)
  have O4 := Lib.hid h3
  have s4 : w.heap.size < w4.heap.size := Nat.lt_of_lt_of_le s3 h2.size
  have V4 := Lib.hid hv4
  have U4 := Lib.hid hu4
  clear h1 h2 h3 hv4 hu4
  have z0 := Z4.out.cell 0
  have z1 := Z4.out.cell 1
  have z2 := Z4.out.cell 2
  have z3 := Z4.out.cell 3
  have z4 := Z4.out.cell 4
  have z5 := Z4.out.cell 5
  have z6 := Z4.out.cell 6
  have z7 := Z4.out.cell 7
  have z8 := Z4.out.cell 8
  have f := Z4.out.frozen
  have hl := Z4.out.lt
  go_wp2
  refine bodyPost_ret (v := .agg #[.int .i64 x1, .int .i64 x2, .int .i64 x3, .int .i64 x4.de, .int .i64 x4.cl, .int .i64 x4.fu, .int .i64 x4.st, .slice A4 x4.put.length c4, .slice B4 x4.drop.length d4]) (by simp [results, Tryz.results72, go_sem, *]) rfl ⟨⟨x1, x2, x3, x4⟩, _, wr4, _, rfl, ?_, (((((((((H4.out).far (q := ⟨w.heap.size, 0, none⟩) hrb _).far (q := ⟨w.heap.size, 1, none⟩) hrb _).far (q := ⟨w.heap.size, 2, none⟩) hrb _).far (q := ⟨w.heap.size, 3, none⟩) hrb _).far (q := ⟨w.heap.size, 4, none⟩) hrb _).far (q := ⟨w.heap.size, 5, none⟩) hrb _).far (q := ⟨w.heap.size, 6, none⟩) hrb _).far (q := ⟨w.heap.size, 7, none⟩) hrb _).far (q := ⟨w.heap.size, 8, none⟩) hrb _, (((((((((F4.out).set_ (q := ⟨w.heap.size, 0, none⟩) (.inr (Nat.le_refl _)) _).set_ (q := ⟨w.heap.size, 1, none⟩) (.inr (Nat.le_refl _)) _).set_ (q := ⟨w.heap.size, 2, none⟩) (.inr (Nat.le_refl _)) _).set_ (q := ⟨w.heap.size, 3, none⟩) (.inr (Nat.le_refl _)) _).set_ (q := ⟨w.heap.size, 4, none⟩) (.inr (Nat.le_refl _)) _).set_ (q := ⟨w.heap.size, 5, none⟩) (.inr (Nat.le_refl _)) _).set_ (q := ⟨w.heap.size, 6, none⟩) (.inr (Nat.le_refl _)) _).set_ (q := ⟨w.heap.size, 7, none⟩) (.inr (Nat.le_refl _)) _).set_ (q := ⟨w.heap.size, 8, none⟩) (.inr (Nat.le_refl _)) _, Out.bind O1.out (Out.bind O2.out (Out.bind O3.out (Out.bind O4.out (Out.pure _ _ _))))⟩
  have V4s := orow_low (orow_set (orow_set (orow_set (orow_set (orow_set (orow_set (orow_set (orow_set (orow_set (V4.out) (q := ⟨w.heap.size, 0, none⟩) (by simp only; omega) (.int .i64 x1)) (q := ⟨w.heap.size, 1, none⟩) (by simp only; omega) (.int .i64 x2)) (q := ⟨w.heap.size, 2, none⟩) (by simp only; omega) (.int .i64 x3)) (q := ⟨w.heap.size, 3, none⟩) (by simp only; omega) (.int .i64 x4.de)) (q := ⟨w.heap.size, 4, none⟩) (by simp only; omega) (.int .i64 x4.cl)) (q := ⟨w.heap.size, 5, none⟩) (by simp only; omega) (.int .i64 x4.fu)) (q := ⟨w.heap.size, 6, none⟩) (by simp only; omega) (.int .i64 x4.st)) (q := ⟨w.heap.size, 7, none⟩) (by simp only; omega) (.slice A4 x4.put.length c4)) (q := ⟨w.heap.size, 8, none⟩) (by simp only; omega) (.slice B4 x4.drop.length d4)) (b := w.heap.size) (by omega)
  have U4s := orow_low (orow_set (orow_set (orow_set (orow_set (orow_set (orow_set (orow_set (orow_set (orow_set (U4.out) (q := ⟨w.heap.size, 0, none⟩) (by simp only; omega) (.int .i64 x1)) (q := ⟨w.heap.size, 1, none⟩) (by simp only; omega) (.int .i64 x2)) (q := ⟨w.heap.size, 2, none⟩) (by simp only; omega) (.int .i64 x3)) (q := ⟨w.heap.size, 3, none⟩) (by simp only; omega) (.int .i64 x4.de)) (q := ⟨w.heap.size, 4, none⟩) (by simp only; omega) (.int .i64 x4.cl)) (q := ⟨w.heap.size, 5, none⟩) (by simp only; omega) (.int .i64 x4.fu)) (q := ⟨w.heap.size, 6, none⟩) (by simp only; omega) (.int .i64 x4.st)) (q := ⟨w.heap.size, 7, none⟩) (by simp only; omega) (.slice A4 x4.put.length c4)) (q := ⟨w.heap.size, 8, none⟩) (by simp only; omega) (.slice B4 x4.drop.length d4)) (b := w.heap.size) (by omega)
  exact ⟨A4, c4, B4, d4, rfl, V4s, U4s⟩
end Go.Proofs.YtefgobmpleoafaaGreat
