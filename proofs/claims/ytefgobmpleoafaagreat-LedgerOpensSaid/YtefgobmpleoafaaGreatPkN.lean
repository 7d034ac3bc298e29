/- Package pack: DecodeRecord. -/
import Derived.Test.YtefgobmpleoafaaGreatPkK
namespace Go.Proofs.YtefgobmpleoafaaGreat
open Go.RowKit
variable {w w' : World} {n₀ rb : Nat} {s : List UInt8} {wr : Bool}

theorem dC_none (hl : s.length ≤ 65536) (h : pRc s = none) : dC s = none := by unfold dC; rw [if_neg (by omega), h]
theorem dC_at {x : Rc} (hl : s.length ≤ 65536) (h : pRc s = some (x, [])) : dC s = if x.ok then some x else none := by unfold dC; rw [if_neg (by omega), h]
theorem dC_rest {x : Rc} {t : S} (hl : s.length ≤ 65536) (h : pRc s = some (x, t)) (ht : t ≠ []) : dC s = none := by
  unfold dC
  rw [if_neg (by omega), h]
  cases t with
  | nil => exact absurd rfl ht
  | cons a t => rfl
/-- What decode answers, with a reader of its own. -/
def DecRC (rb : Nat) (w : World) (r : Option Rc) (e : Ending) (w' : World) : Prop :=
  FrR rb w w' ∧ ((∃ m v, r = some m ∧ e = .returned (.tuple #[v, .int .i64 0]) ∧ RecV w.heap.size w' v m) ∨ (r = none ∧ e = .returned (.tuple #[.agg #[.int .i64 0, .int .i64 0, .int .i64 0, .slice none 0 0], .int .i64 10])))
/-- What Decode answers. -/
def DecPC (w : World) (r : Option Rc) (e : Ending) (w' : World) : Prop :=
  Below w.heap.size w w' ∧ ((∃ m v, r = some m ∧ e = .returned (.tuple #[v, .int .i64 0]) ∧ RecV w.heap.size w' v m) ∨ (r = none ∧ e = .returned (.tuple #[.agg #[.int .i64 0, .int .i64 0, .int .i64 0, .slice none 0 0], .int .i64 10])))
set_option maxRecDepth 100000 in
set_option maxHeartbeats 4000000 in
theorem decodeC_big (v : Value) (hB : Blk w rb 106 #[v, .bool false]) (hS : Bytes n₀ w v s) (hl : 65536 < s.length) :
    Calls Tryz.prog 54 #[.pointer (some ⟨rb, 0, none⟩), mv 55 rb] w (DecRC rb w (dC s)) := by
  have hd : dC s = none := by unfold dC; rw [if_pos hl]
  have HD := Lib.hid hd
  obtain ⟨A, cap, rfl, _, _⟩ := hS
  have hrb := hB.lt
  have c0 := ((hB.alloc (.cells #[.int .i64 0, .int .i64 0, .int .i64 0, .slice none 0 0] 82)).alloc (.cells #[.int .i64 0, .int .i64 0, .int .i64 0, .slice none 0 0] 82)).cell 0
  have B1 : Blk ((w.alloc (.cells #[.int .i64 0, .int .i64 0, .int .i64 0, .slice none 0 0] 82)).alloc (.cells #[.int .i64 0, .int .i64 0, .int .i64 0, .slice none 0 0] 82)) w.heap.size 82 #[.int .i64 0, .int .i64 0, .int .i64 0, .slice none 0 0] := (Blk.new _ _ _).alloc _
  have B2 : Blk ((w.alloc (.cells #[.int .i64 0, .int .i64 0, .int .i64 0, .slice none 0 0] 82)).alloc (.cells #[.int .i64 0, .int .i64 0, .int .i64 0, .slice none 0 0] 82)) (w.heap.size + 1) 82 #[.int .i64 0, .int .i64 0, .int .i64 0, .slice none 0 0] := Blk.at_new _ _ (by simp) _ _
  have F0 := Lib.hid (((FrR.refl (rb := rb) w).alloc (.cells #[.int .i64 0, .int .i64 0, .int .i64 0, .slice none 0 0] 82)).alloc (.cells #[.int .i64 0, .int .i64 0, .int .i64 0, .slice none 0 0] 82))
  obtain ⟨m, hm⟩ : ∃ m, m = s.length := ⟨_, rfl⟩
  rw [← hm] at c0 hl
  have hs : w.heap.size + 1 < ((w.alloc (.cells #[.int .i64 0, .int .i64 0, .int .i64 0, .slice none 0 0] 82)).alloc (.cells #[.int .i64 0, .int .i64 0, .int .i64 0, .slice none 0 0] 82)).heap.size := by simp
  clear hd hB hm
  go_enter Tryz.func54, Tryz.ntmps54
  go_upto_region 2 with (fail)
  generalize (w.alloc _).alloc _ = w0 at *
  have z0 := B1.cell 0
  have y0 := B2.cell 0
  have z1 := B1.cell 1
  have y1 := B2.cell 1
  have z2 := B1.cell 2
  have y2 := B2.cell 2
  have z3 := B1.cell 3
  have y3 := B2.cell 3
  have f := B1.frozen
  have hl1 := B1.lt
  have hl2 := B2.lt
  go_wp2
  refine bodyPost_ret (v := .tuple #[.agg #[.int .i64 0, .int .i64 0, .int .i64 0, .slice none 0 0], .int .i64 10]) (by simp [results, Tryz.results54, go_sem, *]) rfl ⟨((((F0.out).set_ (q := ⟨w.heap.size, 0, none⟩) (.inr (Nat.le_refl _)) _).set_ (q := ⟨w.heap.size, 1, none⟩) (.inr (Nat.le_refl _)) _).set_ (q := ⟨w.heap.size, 2, none⟩) (.inr (Nat.le_refl _)) _).set_ (q := ⟨w.heap.size, 3, none⟩) (.inr (Nat.le_refl _)) _, .inr ⟨HD.out, rfl⟩⟩
set_option maxRecDepth 100000 in
set_option maxHeartbeats 4000000 in
theorem decodeC_any (h : Rd n₀ rb w s false) :
    Calls Tryz.prog 54 #[.pointer (some ⟨rb, 0, none⟩), mv 55 rb] w (DecRC rb w (dC s)) := by
  have hrb := h.lt
  have B1 := Lib.hid (show Blk ((w.alloc (.cells #[.int .i64 0, .int .i64 0, .int .i64 0, .slice none 0 0] 82)).alloc (.cells #[.int .i64 0, .int .i64 0, .int .i64 0, .slice none 0 0] 82)) w.heap.size 82 #[.int .i64 0, .int .i64 0, .int .i64 0, .slice none 0 0] from (Blk.new _ _ _).alloc _)
  have B2 := Lib.hid (show Blk ((w.alloc (.cells #[.int .i64 0, .int .i64 0, .int .i64 0, .slice none 0 0] 82)).alloc (.cells #[.int .i64 0, .int .i64 0, .int .i64 0, .slice none 0 0] 82)) (w.heap.size + 1) 82 #[.int .i64 0, .int .i64 0, .int .i64 0, .slice none 0 0] from Blk.at_new _ _ (by simp) _ _)
  have F0 := Lib.hid (((FrR.refl (rb := rb) w).alloc (.cells #[.int .i64 0, .int .i64 0, .int .i64 0, .slice none 0 0] 82)).alloc (.cells #[.int .i64 0, .int .i64 0, .int .i64 0, .slice none 0 0] 82))
  have H0 := Lib.hid ((h.alloc (.cells #[.int .i64 0, .int .i64 0, .int .i64 0, .slice none 0 0] 82)).alloc (.cells #[.int .i64 0, .int .i64 0, .int .i64 0, .slice none 0 0] 82))
  have hs : w.heap.size + 1 < ((w.alloc (.cells #[.int .i64 0, .int .i64 0, .int .i64 0, .slice none 0 0] 82)).alloc (.cells #[.int .i64 0, .int .i64 0, .int .i64 0, .slice none 0 0] 82)).heap.size := by simp
  have hsm : s.length ≤ 65536 := by obtain ⟨_, _, _, _, h4⟩ := h; exact h4
  have HSM := Lib.hid hsm
  clear h
  go_enter Tryz.func54, Tryz.ntmps54
  go_upto_region 2 with (fail)
  generalize (w.alloc _).alloc _ = w0 at *
  obtain ⟨v, hB, hS, _, _⟩ := H0.out
  obtain ⟨A, cap, rfl, _, _⟩ := hS
  have c0 := hB.cell 0
  obtain ⟨m, hm⟩ : ∃ m, m = s.length := ⟨_, rfl⟩
  rw [← hm] at c0 hsm
  clear hB hm
  go_wp2_with fail
  refine (rrecord_any H0.out).mono ?_
  rintro e w1 ⟨x, t, wr1, _, rfl, ⟨A, c, rfl, hV⟩, h1, h2, h3⟩
  have HV := Lib.hid (hV.alloc (.cells #[.int .i64 x.k, .int .i64 x.a, .int .i64 x.b, .slice A x.log.length c] 82))
  have HF := Lib.hid ((F0.out.trans h2).alloc (.cells #[.int .i64 x.k, .int .i64 x.a, .int .i64 x.b, .slice A x.log.length c] 82))
  have HX := Lib.hid (Blk.new w1 82 #[.int .i64 x.k, .int .i64 x.a, .int .i64 x.b, .slice A x.log.length c])
  have HB1 := Lib.hid ((h2.blk B1.out (by omega)).alloc (.cells #[.int .i64 x.k, .int .i64 x.a, .int .i64 x.b, .slice A x.log.length c] 82))
  have HB2 := Lib.hid ((h2.blk B2.out (by omega)).alloc (.cells #[.int .i64 x.k, .int .i64 x.a, .int .i64 x.b, .slice A x.log.length c] 82))
  have h1' := h1.alloc (.cells #[.int .i64 x.k, .int .i64 x.a, .int .i64 x.b, .slice A x.log.length c] 82)
  have HO := Lib.hid h3
  have hs1 : w0.heap.size ≤ w1.heap.size := h2.size
  obtain ⟨v, hB, hS, _, hl⟩ := h1'
  obtain ⟨A', cap', rfl, _, _⟩ := hS
  have c0 := hB.cell 0
  have c1 := hB.cell 1
  obtain ⟨m, hm⟩ : ∃ m, m = t.length := ⟨_, rfl⟩
  rw [← hm] at c0 hl
  have HM := Lib.hid hm
  clear hB hV h1 h2 h3 hm
  cases wr1
  case true =>
    have hd : dC s = none := dC_none HSM.out (by rcases HO.out.2 rfl with h | h; cases h; exact h)
    have HD := Lib.hid hd
    clear hd
    have z0 := HB1.out.cell 0
    have z1 := HB1.out.cell 1
    have z2 := HB1.out.cell 2
    have z3 := HB1.out.cell 3
    have y0 := HB2.out.cell 0
    have y1 := HB2.out.cell 1
    have y2 := HB2.out.cell 2
    have y3 := HB2.out.cell 3
    have f := HB1.out.frozen
    have hl1 := HB1.out.lt
    have hl2 := HB2.out.lt
    go_wp2
    refine bodyPost_ret (v := .tuple #[.agg #[.int .i64 0, .int .i64 0, .int .i64 0, .slice none 0 0], .int .i64 10]) (by simp [results, Tryz.results54, go_sem, *]) rfl ⟨((((HF.out).set_ (q := ⟨w.heap.size, 0, none⟩) (.inr (Nat.le_refl _)) _).set_ (q := ⟨w.heap.size, 1, none⟩) (.inr (Nat.le_refl _)) _).set_ (q := ⟨w.heap.size, 2, none⟩) (.inr (Nat.le_refl _)) _).set_ (q := ⟨w.heap.size, 3, none⟩) (.inr (Nat.le_refl _)) _, .inr ⟨HD.out, rfl⟩⟩
  case false =>
    have hp := (HO.out.1 rfl).2
    by_cases hm0 : 0 < m
    · have hd : dC s = none := dC_rest HSM.out hp (by rintro rfl; have := HM.out; simp at this; omega)
      have HD := Lib.hid hd
      clear hd hp
      have z0 := HB1.out.cell 0
      have z1 := HB1.out.cell 1
      have z2 := HB1.out.cell 2
      have z3 := HB1.out.cell 3
      have y0 := HB2.out.cell 0
      have y1 := HB2.out.cell 1
      have y2 := HB2.out.cell 2
      have y3 := HB2.out.cell 3
      have f := HB1.out.frozen
      have hl1 := HB1.out.lt
      have hl2 := HB2.out.lt
      go_wp2
      refine bodyPost_ret (v := .tuple #[.agg #[.int .i64 0, .int .i64 0, .int .i64 0, .slice none 0 0], .int .i64 10]) (by simp [results, Tryz.results54, go_sem, *]) rfl ⟨((((HF.out).set_ (q := ⟨w.heap.size, 0, none⟩) (.inr (Nat.le_refl _)) _).set_ (q := ⟨w.heap.size, 1, none⟩) (.inr (Nat.le_refl _)) _).set_ (q := ⟨w.heap.size, 2, none⟩) (.inr (Nat.le_refl _)) _).set_ (q := ⟨w.heap.size, 3, none⟩) (.inr (Nat.le_refl _)) _, .inr ⟨HD.out, rfl⟩⟩
    · obtain rfl : m = 0 := by omega
      have ht : t = [] := List.length_eq_zero_iff.1 HM.out.symm
      subst ht
      have HP := Lib.hid hp
      clear hp hm0
      have x0 := HX.out.cell 0
      have x1 := HX.out.cell 1
      have x2 := HX.out.cell 2
      have x3 := HX.out.cell 3
      go_wp2_with fail
      refine (prec_any x _ _ HV.out.read).mono ?_
      rintro e w3 ⟨rfl, hb3⟩
      have HF3 := Lib.hid (HF.out.trans (FrR.of_below hb3))
      have HB13 := Lib.hid (HB1.out.on hb3)
      have HB23 := Lib.hid (HB2.out.on hb3)
      have HX3 := Lib.hid (HX.out.on hb3)
      have HV3 := Lib.hid (HV.out.on hb3)
      clear hb3 x0 x1 x2 x3
      cases hok : x.ok
      · have hd : dC s = none := by rw [dC_at HSM.out HP.out, hok]; rfl
        have HD := Lib.hid hd
        clear hd hok
        have z0 := HB13.out.cell 0
        have z1 := HB13.out.cell 1
        have z2 := HB13.out.cell 2
        have z3 := HB13.out.cell 3
        have y0 := HB23.out.cell 0
        have y1 := HB23.out.cell 1
        have y2 := HB23.out.cell 2
        have y3 := HB23.out.cell 3
        have f := HB13.out.frozen
        have hl1 := HB13.out.lt
        have hl2 := HB23.out.lt
        go_wp2
        refine bodyPost_ret (v := .tuple #[.agg #[.int .i64 0, .int .i64 0, .int .i64 0, .slice none 0 0], .int .i64 10]) (by simp [results, Tryz.results54, go_sem, *]) rfl ⟨((((HF3.out).set_ (q := ⟨w.heap.size, 0, none⟩) (.inr (Nat.le_refl _)) _).set_ (q := ⟨w.heap.size, 1, none⟩) (.inr (Nat.le_refl _)) _).set_ (q := ⟨w.heap.size, 2, none⟩) (.inr (Nat.le_refl _)) _).set_ (q := ⟨w.heap.size, 3, none⟩) (.inr (Nat.le_refl _)) _, .inr ⟨HD.out, rfl⟩⟩
      · have hd : dC s = some x := by rw [dC_at HSM.out HP.out, hok]; rfl
        have HD := Lib.hid hd
        clear hd hok
        have z0 := HB13.out.cell 0
        have z1 := HB13.out.cell 1
        have z2 := HB13.out.cell 2
        have z3 := HB13.out.cell 3
        have y0 := HB23.out.cell 0
        have y1 := HB23.out.cell 1
        have y2 := HB23.out.cell 2
        have y3 := HB23.out.cell 3
        have f := HB13.out.frozen
        have hl1 := HB13.out.lt
        have hl2 := HB23.out.lt
        have x0 := HX3.out.cell 0
        have x1 := HX3.out.cell 1
        have x2 := HX3.out.cell 2
        have x3 := HX3.out.cell 3
        go_wp2
        refine bodyPost_ret (v := .tuple #[.agg #[.int .i64 x.k, .int .i64 x.a, .int .i64 x.b, .slice A x.log.length c], .int .i64 0]) (by simp [results, Tryz.results54, go_sem, *]) rfl ⟨((((HF3.out).set_ (q := ⟨w.heap.size, 0, none⟩) (.inr (Nat.le_refl _)) _).set_ (q := ⟨w.heap.size, 1, none⟩) (.inr (Nat.le_refl _)) _).set_ (q := ⟨w.heap.size, 2, none⟩) (.inr (Nat.le_refl _)) _).set_ (q := ⟨w.heap.size, 3, none⟩) (.inr (Nat.le_refl _)) _, .inl ⟨x, _, HD.out, rfl, A, c, rfl, (((((HV3.out).set_ (q := ⟨w.heap.size, 0, none⟩) (by simp only; omega) (.int .i64 x.k)).set_ (q := ⟨w.heap.size, 1, none⟩) (by simp only; omega) (.int .i64 x.a)).set_ (q := ⟨w.heap.size, 2, none⟩) (by simp only; omega) (.int .i64 x.b)).set_ (q := ⟨w.heap.size, 3, none⟩) (by simp only; omega) (.slice A x.log.length c)).low (b := w.heap.size) (by omega)⟩⟩
set_option maxRecDepth 100000 in
set_option maxHeartbeats 4000000 in
theorem decC_any (n₀ : Nat) (v : Value) (s : List UInt8) (w : World) (hn : n₀ ≤ w.heap.size) (h : Bytes n₀ w v s) :
    Calls Tryz.prog 36 #[v] w (DecPC w (dC s)) := by
  have h' := h
  obtain ⟨A, cap, rfl, _, _⟩ := h'
  have B0 : Below w.heap.size w (w.alloc (.cells #[.int .i64 0, .int .i64 0, .int .i64 0, .slice none 0 0] 82)) := (Below.refl _ _).alloc (Nat.le_refl _) _
  have B1 := B0.alloc (by simp) (.cells #[.slice A s.length cap, .bool false] 106)
  have HB1 := Lib.hid B1
  have HX : Hid (Blk ((w.alloc (.cells #[.int .i64 0, .int .i64 0, .int .i64 0, .slice none 0 0] 82)).alloc (.cells #[.slice A s.length cap, .bool false] 106)) (w.heap.size + 1) 106 #[.slice A s.length cap, .bool false]) := Lib.hid (Blk.at_new _ _ (by simp) _ _)
  have HR : Hid (Blk ((w.alloc (.cells #[.int .i64 0, .int .i64 0, .int .i64 0, .slice none 0 0] 82)).alloc (.cells #[.slice A s.length cap, .bool false] 106)) w.heap.size 82 #[.int .i64 0, .int .i64 0, .int .i64 0, .slice none 0 0]) := Lib.hid ((Blk.new _ _ _).alloc _)
  have HS := Lib.hid (h.below (B1.mono hn))
  have hs1 : ((w.alloc (.cells #[.int .i64 0, .int .i64 0, .int .i64 0, .slice none 0 0] 82)).alloc (.cells #[.slice A s.length cap, .bool false] 106)).heap.size = w.heap.size + 2 := by simp
  clear h B0 B1
  have HC : Hid (Calls Tryz.prog 54 #[.pointer (some ⟨w.heap.size + 1, 0, none⟩), mv 55 (w.heap.size + 1)] ((w.alloc (.cells #[.int .i64 0, .int .i64 0, .int .i64 0, .slice none 0 0] 82)).alloc (.cells #[.slice A s.length cap, .bool false] 106)) (DecRC (w.heap.size + 1) ((w.alloc (.cells #[.int .i64 0, .int .i64 0, .int .i64 0, .slice none 0 0] 82)).alloc (.cells #[.slice A s.length cap, .bool false] 106)) (dC s))) := Lib.hid (by
    by_cases hl : s.length ≤ 65536
    · exact decodeC_any ⟨_, HX.out, HS.out, by omega, hl⟩
    · exact decodeC_big _ HX.out HS.out (by omega))
  go_enter Tryz.func36, Tryz.ntmps36
  go_wp2_with fail
  refine HC.out.mono ?_
  rintro e w1 ⟨hF, (⟨m, v, hd, rfl, A', c', rfl, hV⟩ | ⟨hd, rfl⟩)⟩
  · have HD := Lib.hid hd
    have hr := hF.blk HR.out (by omega)
    have HF := Lib.hid (show Below w.heap.size w w1 from HB1.out.trans ((hF.old (by omega)).mono (by omega)))
    have HV := Lib.hid hV
    have f := hr.frozen
    have hl := hr.lt
    have z0 := hr.cell 0
    have z1 := hr.cell 1
    have z2 := hr.cell 2
    have z3 := hr.cell 3
    clear hF hV hd hr
    go_wp2
    refine bodyPost_ret (v := .tuple #[.agg #[.int .i64 m.k, .int .i64 m.a, .int .i64 m.b, .slice A' m.log.length c'], .int .i64 0]) (by simp [results, Tryz.results36, go_sem, *]) rfl ⟨((((HF.out).setCell (p := ⟨w.heap.size, 0, none⟩) (Nat.le_refl _) _).setCell (p := ⟨w.heap.size, 1, none⟩) (Nat.le_refl _) _).setCell (p := ⟨w.heap.size, 2, none⟩) (Nat.le_refl _) _).setCell (p := ⟨w.heap.size, 3, none⟩) (Nat.le_refl _) _, .inl ⟨m, _, HD.out, rfl, A', c', rfl, (((((HV.out).set_ (q := ⟨w.heap.size, 0, none⟩) (by simp only; omega) (.int .i64 m.k)).set_ (q := ⟨w.heap.size, 1, none⟩) (by simp only; omega) (.int .i64 m.a)).set_ (q := ⟨w.heap.size, 2, none⟩) (by simp only; omega) (.int .i64 m.b)).set_ (q := ⟨w.heap.size, 3, none⟩) (by simp only; omega) (.slice A' m.log.length c')).low (b := w.heap.size) (by omega)⟩⟩
  · have HD := Lib.hid hd
    have hr := hF.blk HR.out (by omega)
    have HF := Lib.hid (show Below w.heap.size w w1 from HB1.out.trans ((hF.old (by omega)).mono (by omega)))
    have f := hr.frozen
    have hl := hr.lt
    have z0 := hr.cell 0
    have z1 := hr.cell 1
    have z2 := hr.cell 2
    have z3 := hr.cell 3
    clear hF hd hr
    go_wp2
    refine bodyPost_ret (v := .tuple #[.agg #[.int .i64 0, .int .i64 0, .int .i64 0, .slice none 0 0], .int .i64 10]) (by simp [results, Tryz.results36, go_sem, *]) rfl ⟨((((HF.out).setCell (p := ⟨w.heap.size, 0, none⟩) (Nat.le_refl _) _).setCell (p := ⟨w.heap.size, 1, none⟩) (Nat.le_refl _) _).setCell (p := ⟨w.heap.size, 2, none⟩) (Nat.le_refl _) _).setCell (p := ⟨w.heap.size, 3, none⟩) (Nat.le_refl _) _, .inr ⟨HD.out, rfl⟩⟩
end Go.Proofs.YtefgobmpleoafaaGreat
