/- Layer 13: reading a tape's bytes. -/
import Derived.Test.YtefgobmpleoafaaGreatMLq
import Derived.Test.YtefgobmpleoafaaGreatPkN
import Derived.Test.YtefgobmpleoafaaGreatMFr
import Derived.WalkMore
namespace Go.Proofs.YtefgobmpleoafaaGreat
open Go.RowKit
variable {w w' : World}

theorem bad_below13 {wr : World} {x : Nat} {e : Ending} {w1 : World} (h : RdBad wr x e w1) : e = .returned (.tuple #[.slice none 0 0, .int .i64 0, .int .i64 (x : Int)]) ∧ Below wr.heap.size wr w1 := by
  obtain ⟨h1, m, rfl⟩ := h
  exact ⟨h1, Below.drewN' (Below.refl _ _) m⟩
theorem bytes_from13 {n₀ n b : Nat} {w : World} {s : List UInt8} (hsn : s.length = n) (hb : b < n₀) (ht : ∀ j, j < n → w.cell? ⟨b, j, none⟩ = some (.int .u8 ((at_ s j : Nat) : Int))) {u : Nat} (hu : u ≤ n) : Bytes n₀ w (.slice (some ⟨b, u, none⟩) (n - u) (n - u)) (s.drop u) := by
  have := Bytes.sub (n₀ := n₀) (w := w) (b := b) (off := 0) (s := s) hb (fun j hj => by rw [Nat.zero_add]; exact ht j (by omega)) u (n - u) (n - u) (by omega) (Nat.le_refl _)
  rw [Nat.zero_add, List.take_of_length_le (by simp; omega)] at this
  exact this
theorem one_none {s : St} {b : List UInt8} (h : rdE b ≠ 0) : one13 s b = none := by unfold one13; rw [if_neg h]
theorem one_bad {s : St} {b : List UInt8} (h : dC (rdB b) = none) : one13 s b = none := by
  unfold one13
  split
  · rw [h]; rfl
  · rfl
theorem one_unfit {s : St} {b : List UInt8} {r : Rc} (h : dC (rdB b) = some r) (hf : fits s r = false) : one13 s b = none := by
  unfold one13
  split
  · rw [h, Option.bind_some, hf]; rfl
  · rfl
theorem one_good {s : St} {b : List UInt8} {r : Rc} (h0 : rdE b = 0) (h : dC (rdB b) = some r) (hf : fits s r = true) : one13 s b = some (chg s r, 10 + (rdB b).length) := by
  unfold one13
  rw [if_pos h0, h, Option.bind_some, if_pos hf]
theorem pre_snoc {z s t : St} {b : List UInt8} {u v : Nat} (h : ∃ n, pre z b n = some (s, u)) (k : one13 s (b.drop u) = some (t, v)) : ∃ n, pre z b n = some (t, u + v) := by
  obtain ⟨n, hn⟩ := h
  refine ⟨n + 1, ?_⟩
  unfold pre
  rw [hn, Option.bind_some]
  simp only
  rw [k]
  rfl
def ReadP (w : World) (s : List UInt8) (e : Ending) (w' : World) : Prop :=
  ∃ (t : St) (u : Nat) (A : Option Addr) (m c : Nat), e = .returned (.tuple #[t.val (.slice A m c), .int .i64 (u : Int)]) ∧ Reads s t u ∧ LogV (fun i => i < w.heap.size) w' (.slice A m c) t.log ∧ m = t.log.length ∧ Below w.heap.size w w'
/-- How far it is read. -/
def RdI (w wr : World) (s : List UInt8) (i : Value) : Prop :=
  ∃ (t : St) (u : Nat) (A : Option Addr) (m c : Nat), i = .int .i64 (u : Int) ∧ u ≤ s.length ∧ Hid (∃ k, pre .zero s k = some (t, u)) ∧ Hid (t.ok = true) ∧ Hid (Blk wr w.heap.size 41 #[.int .i64 t.vi, .int .i64 t.no, .int .i64 t.co, .int .i64 t.ac, .slice A m c]) ∧ Hid (LogV (fun i => i ≤ w.heap.size) wr (.slice A m c) t.log) ∧ Hid (m = t.log.length) ∧ Hid (Below w.heap.size w wr)
set_option maxRecDepth 100000 in
set_option maxHeartbeats 16000000 in
theorem read13_any (b n : Nat) (s : List UInt8) (hsn : s.length = n) (hm : n ≤ 1100000) (w : World) (hb : b < w.heap.size) (ht : ∀ j, j < n → w.cell? ⟨b, j, none⟩ = some (.int .u8 ((at_ s j : Nat) : Int))) :
    Calls Tryz.prog 22 #[.slice (some ⟨b, 0, none⟩) n n] w (ReadP w s) := by
  have HN := Lib.hid hsn
  have HT := Lib.hid ht
  clear ht hsn
  go_enter Tryz.func22, Tryz.ntmps22
  have BZ := Lib.hid ((Below.refl w.heap.size w).alloc (Nat.le_refl _) (.cells #[.int .i64 0, .int .i64 0, .int .i64 0, .int .i64 0, .slice none 0 0] 41))
  have XZ := Lib.hid (Blk.new w 41 #[.int .i64 0, .int .i64 0, .int .i64 0, .int .i64 0, .slice none 0 0])
  go_wp2
  go_step3
  go_wp2
  go_step3
  go_wp2
  go_loopw [3] (fun i wr => RdI w wr s i) (fun i _ => n - (intOf i).toNat)
  case atStart => exact ⟨.zero, 0, none, 0, 0, rfl, Nat.zero_le _, Lib.hid ⟨0, rfl⟩, Lib.hid St.zero_ok, XZ, Lib.hid (LogV.nil _ _), Lib.hid rfl, BZ⟩
  case round =>
    obtain ⟨t, u, A, m, c, rfl, hu, HP, HTo, HX, HL, HM, HW⟩ := hrel
    have hun : u ≤ n := by have := HN.out; omega
    have hsz : w.heap.size < wr.heap.size := HX.out.lt
    have cells : Hid (∀ j, j < n → wr.cell? ⟨b, j, none⟩ = some (.int .u8 ((at_ s j : Nat) : Int))) := Lib.hid fun j hj => (HW.out.cell (p := ⟨b, j, none⟩) (by show b < _; omega)).trans (HT.out j hj)
    by_cases hlt : u < n
    · have hlti : (u : Int) < (n : Int) := by omega
      have hne : ¬ n = u := by omega
      have hBy : Hid (Bytes w.heap.size wr (.slice (some ⟨b, u, none⟩) (n - u) (n - u)) (s.drop u)) := Lib.hid (bytes_from13 HN.out hb cells.out hun)
      have hsl : (s.drop u).length ≤ 140737488351232 := by have := HN.out; simp; omega
      by_cases hE : rdE (s.drop u) = 0
      · have HE := Lib.hid hE
        clear hE
        have RO := Lib.hid (read_ok w.heap.size _ (s.drop u) hsl wr (by omega) hBy.out HE.out)
        clear hsl
        go_wp2_with fail
        refine RO.out.mono ?_
        rintro e w1 ⟨v1, rfl, o1, b1⟩
        have B1 := Lib.hid b1
        have DC := Lib.hid (decC_any w1.heap.size v1 (rdB (s.drop u)) w1 (Nat.le_refl _) o1.bytes)
        have hrl : u + (10 + (rdB (s.drop u)).length) ≤ n := by
          have h1 := (rdE_ok HE.out).2.2.2.2.1
          have h2 := rdB_len HE.out
          have := HN.out
          simp at h1
          omega
        obtain ⟨q, hq⟩ : ∃ q, q = 10 + (rdB (s.drop u)).length := ⟨_, rfl⟩
        rw [← hq] at hrl ⊢
        have HQ := Lib.hid hq
        have hsz1 : wr.heap.size ≤ w1.heap.size := b1.size
        clear RO b1 o1 hq
        go_wp2_with fail
        refine DC.out.mono ?_
        rintro e w2 ⟨b2, ⟨r, v2, hr, rfl, Ar, cr, rfl, he⟩ | ⟨hr, rfl⟩⟩
        · have HR := Lib.hid hr
          have W2 := Lib.hid (B1.out.trans (b2.mono hsz1))
          have hro := (dC_some.1 hr).2.1
          have HRo := Lib.hid hro
          obtain ⟨nr, hnr⟩ : ∃ nr, nr = r.log.length := ⟨_, rfl⟩
          rw [← hnr] at he ⊢
          have HLr : Hid (LogV (fun i => i ≤ w.heap.size) w2 (.slice Ar nr cr) r.log) := Lib.hid (LogV.of_own he (fun i hi => by omega))
          have X2 := Lib.hid (HX.out.on W2.out)
          have x0 := X2.out.cell 0
          have x1 := X2.out.cell 1
          have x2 := X2.out.cell 2
          have x3 := X2.out.cell 3
          have x4 := X2.out.cell 4
          have xl := X2.out.lt
          have hs2 : wr.heap.size ≤ w2.heap.size := W2.out.size
          have AP : Hid (∀ W, Calls Tryz.prog 37 #[t.val (.slice A m c), r.val (.slice Ar nr cr)] W fun e w' => e = .returned (.bool (fits t r)) ∧ Below W.heap.size W w') := Lib.hid fun W => applies_any t r A Ar m c nr cr HM.out W
          have BA : Hid (∀ o, Below wr.heap.size wr (w2.alloc o)) := Lib.hid fun o => W2.out.alloc hs2 o
          clear hr b2 hro he hnr DC B1
          cases hf : fits t r with
          | false =>
            have HF := Lib.hid hf
            clear hf
            go_wp2_with fail
            refine (AP.out _).mono ?_
            rintro e w3 ⟨rfl, hb3⟩
            rw [HF.out]
            have W3 := Lib.hid ((BA.out _).trans (hb3.mono (by simp; omega)))
            have X3 := Lib.hid (HX.out.on W3.out)
            clear hb3 x0 x1 x2 x3 x4 xl
            have x0 := X3.out.cell 0
            have x1 := X3.out.cell 1
            have x2 := X3.out.cell 2
            have x3 := X3.out.cell 3
            have x4 := X3.out.cell 4
            have xl := X3.out.lt
            have xf := X3.out.frozen
            go_wp2
            (try rw [Exit.noGoto_ret])
            refine bodyPost_ret (v := .tuple #[.agg #[.int .i64 t.vi, .int .i64 t.no, .int .i64 t.co, .int .i64 t.ac, .slice A m c], .int .i64 (u : Int)]) (by simp [results, Tryz.results22, go_sem, *]) rfl ⟨t, u, A, m, c, rfl, ⟨HP.out, one_unfit HR.out HF.out⟩, ?_, HM.out, ((((((HW.out.trans (W3.out.mono (by omega))).setCell (p := ⟨w.heap.size, 0, none⟩) (Nat.le_refl _) (.int .i64 t.vi)).setCell (p := ⟨w.heap.size, 1, none⟩) (Nat.le_refl _) (.int .i64 t.no)).setCell (p := ⟨w.heap.size, 2, none⟩) (Nat.le_refl _) (.int .i64 t.co)).setCell (p := ⟨w.heap.size, 3, none⟩) (Nat.le_refl _) (.int .i64 t.ac)).setCell (p := ⟨w.heap.size, 4, none⟩) (Nat.le_refl _) (.slice A m c))⟩
            exact ((HL.out.on W3.out).next ((((((Fr.refl (S := fun i => i ≤ w.heap.size) w3).set_ (q := ⟨w.heap.size, 0, none⟩) (.inl (Nat.le_refl _)) (.int .i64 t.vi)).set_ (q := ⟨w.heap.size, 1, none⟩) (.inl (Nat.le_refl _)) (.int .i64 t.no)).set_ (q := ⟨w.heap.size, 2, none⟩) (.inl (Nat.le_refl _)) (.int .i64 t.co)).set_ (q := ⟨w.heap.size, 3, none⟩) (.inl (Nat.le_refl _)) (.int .i64 t.ac)).set_ (q := ⟨w.heap.size, 4, none⟩) (.inl (Nat.le_refl _)) (.slice A m c))).sub fun i hi => .inl (Nat.le_of_lt hi)
          | true =>
            have HF := Lib.hid hf
            clear hf
            go_wp2_with fail
            refine (AP.out _).mono ?_
            rintro e w3 ⟨rfl, hb3⟩
            rw [HF.out]
            have W3 := Lib.hid ((BA.out (.cells #[.int .i64 r.k, .int .i64 r.a, .int .i64 r.b, .slice Ar nr cr] 82)).trans (hb3.mono (by simp; omega)))
            have R3 := Lib.hid ((Blk.new w2 82 #[.int .i64 r.k, .int .i64 r.a, .int .i64 r.b, .slice Ar nr cr]).on hb3)
            have X3 := Lib.hid (HX.out.on W3.out)
            have CH : Hid (Calls Tryz.prog 38 #[t.val (.slice A m c), r.val (.slice Ar nr cr)] w3 fun e w' => ∃ A' n' c', e = .returned ((chg t r).val (.slice A' n' c')) ∧ LogV (fun i => i ≤ w.heap.size) w' (.slice A' n' c') (chg t r).log ∧ n' = (chg t r).log.length ∧ Below w3.heap.size w3 w') := Lib.hid
              (change_any t r A Ar m c nr cr w3 HTo.out HRo.out HF.out (HL.out.on W3.out) ((HLr.out.alloc (.cells #[.int .i64 r.k, .int .i64 r.a, .int .i64 r.b, .slice Ar nr cr] 82)).on hb3) (fun i hi => by have := X3.out.lt; omega))
            clear hb3 x0 x1 x2 x3 x4 xl
            have x0 := X3.out.cell 0
            have x1 := X3.out.cell 1
            have x2 := X3.out.cell 2
            have x3 := X3.out.cell 3
            have x4 := X3.out.cell 4
            have xl := X3.out.lt
            have c0 := R3.out.cell 0
            have c1 := R3.out.cell 1
            have c2 := R3.out.cell 2
            have c3 := R3.out.cell 3
            have cl := R3.out.lt
            go_wp2_with fail
            refine CH.out.mono ?_
            rintro e w4 ⟨A4, n4, c4, rfl, l4, hn4, hb4⟩
            have W4 := Lib.hid (W3.out.trans (hb4.mono W3.out.size))
            have X4 := Lib.hid (HX.out.on W4.out)
            have B4 := Lib.hid (HW.out.trans (W4.out.mono (by omega)))
            have L4 := Lib.hid l4
            have N4 := Lib.hid hn4
            have HPn := Lib.hid (pre_snoc HP.out (one_good HE.out HR.out HF.out))
            have HTn := Lib.hid (chg_ok HTo.out HRo.out HF.out)
            rw [← HQ.out] at HPn
            generalize chg t r = t2 at *
            clear hb4 l4 hn4 x0 x1 x2 x3 x4 xl c0 c1 c2 c3 cl
            have x0 := X4.out.cell 0
            have x1 := X4.out.cell 1
            have x2 := X4.out.cell 2
            have x3 := X4.out.cell 3
            have x4 := X4.out.cell 4
            have xl := X4.out.lt
            have xf := X4.out.frozen
            have hun2 : (u : Int) + (q : Int) ≤ (n : Int) := by omega
            have hu2 : u + q ≤ s.length := by have := HN.out; omega
            have hw : IntKind.i64.wrap ((u : Int) + (q : Int)) = ((u + q : Nat) : Int) := by rw [IntWalk.i64_in] <;> omega
            go_wp2
            go_roundw
            case rel => exact ⟨t2, u + q, A4, n4, c4, by first | rfl | go_num | (rw [← hw]) | (simp [hw]), hu2, HPn, HTn, Lib.hid (by simpa using (((((X4.out.set_ 0 (.int .i64 t2.vi)).set_ 1 (.int .i64 t2.no)).set_ 2 (.int .i64 t2.co)).set_ 3 (.int .i64 t2.ac)).set_ 4 (.slice A4 n4 c4))), Lib.hid (L4.out.next ((((((Fr.refl (S := fun i => i ≤ w.heap.size) w4).set_ (q := ⟨w.heap.size, 0, none⟩) (.inl (Nat.le_refl _)) (.int .i64 t2.vi)).set_ (q := ⟨w.heap.size, 1, none⟩) (.inl (Nat.le_refl _)) (.int .i64 t2.no)).set_ (q := ⟨w.heap.size, 2, none⟩) (.inl (Nat.le_refl _)) (.int .i64 t2.co)).set_ (q := ⟨w.heap.size, 3, none⟩) (.inl (Nat.le_refl _)) (.int .i64 t2.ac)).set_ (q := ⟨w.heap.size, 4, none⟩) (.inl (Nat.le_refl _)) (.slice A4 n4 c4))), N4, Lib.hid (((((B4.out.setCell (p := ⟨w.heap.size, 0, none⟩) (Nat.le_refl _) (.int .i64 t2.vi)).setCell (p := ⟨w.heap.size, 1, none⟩) (Nat.le_refl _) (.int .i64 t2.no)).setCell (p := ⟨w.heap.size, 2, none⟩) (Nat.le_refl _) (.int .i64 t2.co)).setCell (p := ⟨w.heap.size, 3, none⟩) (Nat.le_refl _) (.int .i64 t2.ac)).setCell (p := ⟨w.heap.size, 4, none⟩) (Nat.le_refl _) (.slice A4 n4 c4))⟩
            case measure => have := HQ.out; simp [intOf]; omega
        · have HR := Lib.hid hr
          have W2 := Lib.hid (B1.out.trans (b2.mono hsz1))
          have X2 := Lib.hid (HX.out.on W2.out)
          have BA : Hid (∀ o, Below wr.heap.size wr (w2.alloc o)) := Lib.hid fun o => W2.out.alloc W2.out.size o
          have X3 : Hid (∀ o, Blk (w2.alloc o) w.heap.size 41 #[.int .i64 t.vi, .int .i64 t.no, .int .i64 t.co, .int .i64 t.ac, .slice A m c]) := Lib.hid fun o => X2.out.alloc o
          clear b2 B1 DC hr
          have x0 := (X3.out (.cells #[.int .i64 0, .int .i64 0, .int .i64 0, .slice none 0 0] 82)).cell 0
          have x1 := (X3.out (.cells #[.int .i64 0, .int .i64 0, .int .i64 0, .slice none 0 0] 82)).cell 1
          have x2 := (X3.out (.cells #[.int .i64 0, .int .i64 0, .int .i64 0, .slice none 0 0] 82)).cell 2
          have x3 := (X3.out (.cells #[.int .i64 0, .int .i64 0, .int .i64 0, .slice none 0 0] 82)).cell 3
          have x4 := (X3.out (.cells #[.int .i64 0, .int .i64 0, .int .i64 0, .slice none 0 0] 82)).cell 4
          have xf := (X3.out (.cells #[.int .i64 0, .int .i64 0, .int .i64 0, .slice none 0 0] 82)).frozen
          have xl := (X3.out (.cells #[.int .i64 0, .int .i64 0, .int .i64 0, .slice none 0 0] 82)).lt
          have W3 := Lib.hid (BA.out (.cells #[.int .i64 0, .int .i64 0, .int .i64 0, .slice none 0 0] 82))
          go_wp2
          (try rw [Exit.noGoto_ret])
          refine bodyPost_ret (v := .tuple #[.agg #[.int .i64 t.vi, .int .i64 t.no, .int .i64 t.co, .int .i64 t.ac, .slice A m c], .int .i64 (u : Int)]) (by simp [results, Tryz.results22, go_sem, *]) rfl ⟨t, u, A, m, c, rfl, ⟨HP.out, one_bad HR.out⟩, ?_, HM.out, ((((((HW.out.trans (W3.out.mono (by omega))).setCell (p := ⟨w.heap.size, 0, none⟩) (Nat.le_refl _) (.int .i64 t.vi)).setCell (p := ⟨w.heap.size, 1, none⟩) (Nat.le_refl _) (.int .i64 t.no)).setCell (p := ⟨w.heap.size, 2, none⟩) (Nat.le_refl _) (.int .i64 t.co)).setCell (p := ⟨w.heap.size, 3, none⟩) (Nat.le_refl _) (.int .i64 t.ac)).setCell (p := ⟨w.heap.size, 4, none⟩) (Nat.le_refl _) (.slice A m c))⟩
          exact ((HL.out.on W3.out).next ((((((Fr.refl (S := fun i => i ≤ w.heap.size) (w2.alloc (.cells #[.int .i64 0, .int .i64 0, .int .i64 0, .slice none 0 0] 82))).set_ (q := ⟨w.heap.size, 0, none⟩) (.inl (Nat.le_refl _)) (.int .i64 t.vi)).set_ (q := ⟨w.heap.size, 1, none⟩) (.inl (Nat.le_refl _)) (.int .i64 t.no)).set_ (q := ⟨w.heap.size, 2, none⟩) (.inl (Nat.le_refl _)) (.int .i64 t.co)).set_ (q := ⟨w.heap.size, 3, none⟩) (.inl (Nat.le_refl _)) (.int .i64 t.ac)).set_ (q := ⟨w.heap.size, 4, none⟩) (.inl (Nat.le_refl _)) (.slice A m c))).sub fun i hi => .inl (Nat.le_of_lt hi)
      · have HE := Lib.hid hE
        clear hE
        have RB := Lib.hid (read_bad w.heap.size _ (s.drop u) hsl wr hBy.out HE.out)
        have hx : ((rdE (s.drop u) : Int) == 0) = false := by have := HE.out; simp; omega
        have hx2 : ¬ (rdE (s.drop u) : Int) = 0 := by have := HE.out; omega
        clear hsl
        go_wp2_with fail
        refine RB.out.mono ?_
        intro e w1 h1
        obtain ⟨rfl, hB1⟩ := bad_below13 h1
        have W1 := Lib.hid hB1
        have X1 := Lib.hid (HX.out.on hB1)
        clear h1 hB1 RB
        have x0 := X1.out.cell 0
        have x1 := X1.out.cell 1
        have x2 := X1.out.cell 2
        have x3 := X1.out.cell 3
        have x4 := X1.out.cell 4
        have xl := X1.out.lt
        have xf := X1.out.frozen
        go_wp2
        (try rw [Exit.noGoto_ret])
        refine bodyPost_ret (v := .tuple #[.agg #[.int .i64 t.vi, .int .i64 t.no, .int .i64 t.co, .int .i64 t.ac, .slice A m c], .int .i64 (u : Int)]) (by simp [results, Tryz.results22, go_sem, *]) rfl ⟨t, u, A, m, c, rfl, ⟨HP.out, one_none HE.out⟩, ?_, HM.out, ((((((HW.out.trans (W1.out.mono (by omega))).setCell (p := ⟨w.heap.size, 0, none⟩) (Nat.le_refl _) (.int .i64 t.vi)).setCell (p := ⟨w.heap.size, 1, none⟩) (Nat.le_refl _) (.int .i64 t.no)).setCell (p := ⟨w.heap.size, 2, none⟩) (Nat.le_refl _) (.int .i64 t.co)).setCell (p := ⟨w.heap.size, 3, none⟩) (Nat.le_refl _) (.int .i64 t.ac)).setCell (p := ⟨w.heap.size, 4, none⟩) (Nat.le_refl _) (.slice A m c))⟩
        exact ((HL.out.on W1.out).next ((((((Fr.refl (S := fun i => i ≤ w.heap.size) w1).set_ (q := ⟨w.heap.size, 0, none⟩) (.inl (Nat.le_refl _)) (.int .i64 t.vi)).set_ (q := ⟨w.heap.size, 1, none⟩) (.inl (Nat.le_refl _)) (.int .i64 t.no)).set_ (q := ⟨w.heap.size, 2, none⟩) (.inl (Nat.le_refl _)) (.int .i64 t.co)).set_ (q := ⟨w.heap.size, 3, none⟩) (.inl (Nat.le_refl _)) (.int .i64 t.ac)).set_ (q := ⟨w.heap.size, 4, none⟩) (.inl (Nat.le_refl _)) (.slice A m c))).sub fun i hi => .inl (Nat.le_of_lt hi)
    · obtain rfl : u = n := by omega
      have hE : rdE (s.drop u) = 11 := by rw [List.drop_of_length_le (by have := HN.out; omega), rdE_nil]
      have HE := Lib.hid hE
      clear hE
      have RB := Lib.hid (fun A => read_11 A 0 0 (by omega) wr)
      go_wp2_with fail
      refine (RB.out _).mono ?_
      intro e w1 h1
      obtain ⟨rfl, hB1⟩ := bad_below13 h1
      have W1 := Lib.hid hB1
      have X1 := Lib.hid (HX.out.on hB1)
      clear h1 hB1 RB
      have x0 := X1.out.cell 0
      have x1 := X1.out.cell 1
      have x2 := X1.out.cell 2
      have x3 := X1.out.cell 3
      have x4 := X1.out.cell 4
      have xl := X1.out.lt
      have xf := X1.out.frozen
      go_wp2
      (try rw [Exit.noGoto_ret])
      refine bodyPost_ret (v := .tuple #[.agg #[.int .i64 t.vi, .int .i64 t.no, .int .i64 t.co, .int .i64 t.ac, .slice A m c], .int .i64 (u : Int)]) (by simp [results, Tryz.results22, go_sem, *]) rfl ⟨t, u, A, m, c, rfl, ⟨HP.out, one_none (by rw [HE.out]; decide)⟩, ?_, HM.out, ((((((HW.out.trans (W1.out.mono (by omega))).setCell (p := ⟨w.heap.size, 0, none⟩) (Nat.le_refl _) (.int .i64 t.vi)).setCell (p := ⟨w.heap.size, 1, none⟩) (Nat.le_refl _) (.int .i64 t.no)).setCell (p := ⟨w.heap.size, 2, none⟩) (Nat.le_refl _) (.int .i64 t.co)).setCell (p := ⟨w.heap.size, 3, none⟩) (Nat.le_refl _) (.int .i64 t.ac)).setCell (p := ⟨w.heap.size, 4, none⟩) (Nat.le_refl _) (.slice A m c))⟩
      exact ((HL.out.on W1.out).next ((((((Fr.refl (S := fun i => i ≤ w.heap.size) w1).set_ (q := ⟨w.heap.size, 0, none⟩) (.inl (Nat.le_refl _)) (.int .i64 t.vi)).set_ (q := ⟨w.heap.size, 1, none⟩) (.inl (Nat.le_refl _)) (.int .i64 t.no)).set_ (q := ⟨w.heap.size, 2, none⟩) (.inl (Nat.le_refl _)) (.int .i64 t.co)).set_ (q := ⟨w.heap.size, 3, none⟩) (.inl (Nat.le_refl _)) (.int .i64 t.ac)).set_ (q := ⟨w.heap.size, 4, none⟩) (.inl (Nat.le_refl _)) (.slice A m c))).sub fun i hi => .inl (Nat.le_of_lt hi)
end Go.Proofs.YtefgobmpleoafaaGreat
