/- Joined: PkC, PkD. -/
import Derived.Test.YtefgobmpleoafaaGreatMWr
/- The writer: a rule, lists of rules and of numbers, a delta. -/
namespace Go.Proofs.YtefgobmpleoafaaGreat
open Go.RowKit
variable {w w' : World} {wb : Nat} {s : List UInt8}

/-- A writer's method as a value. -/
abbrev mv (f wb : Nat) : Value := .func (.func f) #[.pointer (some ⟨wb, 0, none⟩)] #[]
theorem Blk.at_new (w : World) (n : Nat) (h : w.heap.size = n) (t : TypeId) (cs : Array Value) : Blk (w.alloc (.cells cs t)) n t cs := h ▸ Blk.new w t cs
set_option maxRecDepth 100000 in
set_option maxHeartbeats 2000000 in
theorem wrule_any (r : Ru) (hok : r.ok = true) (h : Wt wb w s) (hl : s.length ≤ 700000000) :
    Calls Tryz.prog 97 #[.pointer (some ⟨wb, 0, none⟩), .agg #[.int .i64 r.id, .int .i64 r.pr, .int .i64 r.ac, .int .i64 r.sc, .string r.pat]] w fun e w' => e = .returned (.tuple #[]) ∧ Wt wb w' (s ++ eR r) ∧ FrW wb w w' := by
  obtain ⟨id, pr, ac, sc, pat⟩ := r
  simp only [Ru.ok, decide_eq_true_eq] at hok
  obtain ⟨h1, h2, h3, h4, h5, h6, h7, h8, h9⟩ := hok
  have H := Lib.hid h
  have hwb := h.lt
  clear h
  have HN : Hid (∀ z ∈ [id, pr, ac, sc], -1 ≤ z ∧ z ≤ 1099511627776) := Lib.hid (by intro z hz; simp at hz; rcases hz with rfl | rfl | rfl | rfl <;> omega)
  have HF : Hid (FrW wb w ((w.alloc (.cells #[.int .i64 id, .int .i64 pr, .int .i64 ac, .int .i64 sc, .string pat] 114)).alloc (.cells #[.int .i64 id, .int .i64 pr, .int .i64 ac, .int .i64 sc] 3))) := Lib.hid (((FrW.refl w).alloc _).alloc _)
  have HB : Hid (Blk (w.alloc (.cells #[.int .i64 id, .int .i64 pr, .int .i64 ac, .int .i64 sc, .string pat] 114)) w.heap.size 114 #[.int .i64 id, .int .i64 pr, .int .i64 ac, .int .i64 sc, .string pat]) := Lib.hid (Blk.new _ _ _)
  clear h1 h2 h3 h4 h5 h6 h7 h8
  simp only at h9 ⊢
  go_enter Tryz.func97, Tryz.ntmps97
  go_wp2_with fail
  refine (wnums_any [id, pr, ac, sc] (w.heap.size + 1) 4 rfl (by omega) (Blk.at_new _ _ (by simp) _ _) HN.out ((H.out.alloc _).alloc _) (by omega) (by omega)).mono ?_
  rintro e w1 ⟨rfl, h1, h2⟩
  have H1 := Lib.hid h1
  have H2 := Lib.hid (HF.out.trans h2)
  have c4 := (h2.blk (HB.out.alloc _) (by decide) (by omega)).cell 4
  clear h1 h2
  go_wp2_with fail
  refine (wtext_any pat H1.out (by omega) (by simp [n6_len]; omega)).mono ?_
  rintro e w2 ⟨rfl, h1, h2⟩
  have H3 := Lib.hid h1
  have H4 := Lib.hid (H2.out.trans h2)
  clear h1 h2
  go_wp2
  go_end0
  refine ⟨rfl, ?_, H4.out⟩
  have := H3.out
  simpa [eR, pt] using this
theorem RulesV.take_flat {l : List Ru} (h : ∀ r ∈ l, r.ok = true) (hl : l.length ≤ 16) (k : Nat) : ((l.take k).flatMap eR).length ≤ 4576 := by
  have := flat_bound (e := eR) (b := 286) (l := l.take k) fun r hr => Ru.ok_len (h r (List.mem_of_mem_take hr))
  have : (l.take k).length ≤ 16 := by simp; omega
  omega
set_option maxRecDepth 100000 in
set_option maxHeartbeats 2000000 in
theorem wlR_any (v : Value) (l : List Ru) (hV : RulesV wb w v l) (hok : ∀ r ∈ l, r.ok = true) (hm : l.length ≤ 16) (h : Wt wb w s) (hl : s.length ≤ 600000000) :
    Calls Tryz.prog 96 #[.pointer (some ⟨wb, 0, none⟩), v, mv 97 wb] w fun e w' => e = .returned (.tuple #[]) ∧ Wt wb w' (s ++ eL eR l) ∧ FrW wb w w' := by
  obtain ⟨A, cap, rfl⟩ := hV.form
  have H := Lib.hid h
  have HV := Lib.hid hV
  have HO := Lib.hid hok
  have hwb0 := h.lt
  clear h hV hok
  go_enter Tryz.func96, Tryz.ntmps96
  go_wp2_with fail
  refine (wnum_any (l.length : Int) (by omega) H.out (by omega)).mono ?_
  rintro e w1 ⟨rfl, h1, h2⟩
  have H1 := Lib.hid h1
  have H2 := Lib.hid h2
  clear h1 h2
  go_wp2
  go_loopw [14] (fun i wr => ∃ k : Nat, k ≤ l.length ∧ i = .int .i64 (k : Int) ∧ Hid (Wt wb wr (s ++ (n6 (l.length : Int) ++ (l.take k).flatMap eR))) ∧ Hid (FrW wb w wr)) (fun i _ => l.length - (intOf i).toNat)
  case atStart => exact ⟨0, by omega, rfl, Lib.hid (by simpa using H1.out), H2⟩
  case round =>
    obtain ⟨k, hk, rfl, HW, HF⟩ := hrel
    by_cases hlt : k < l.length
    · obtain ⟨b, off, rfl, hb, c0, c1, c2, c3, c4⟩ := (HV.out.below (HF.out.old (by omega))).at_ hlt
      have HG := Lib.hid (List.getElem?_eq_getElem hlt)
      have hr := HO.out l[k] (List.getElem_mem _)
      generalize l[k] = r at HG hr c0 c1 c2 c3 c4
      have HR := Lib.hid hr
      have hwb := HW.out.lt
      have HS : Hid ((s ++ (n6 (l.length : Int) ++ (l.take k).flatMap eR)).length ≤ 700000000) := Lib.hid (by
        have := RulesV.take_flat HO.out hm k
        simp only [List.length_append, n6_len]
        omega)
      clear hr
      go_wp2_with fail
      refine (wrule_any r HR.out (HW.out.alloc _) HS.out).mono ?_
      rintro e w2 ⟨rfl, h1, h2⟩
      have H3 := Lib.hid h1
      have H4 := Lib.hid ((HF.out.alloc _).trans h2)
      clear h1 h2
      go_wp2
      go_roundw
      case rel => exact ⟨k + 1, by omega, by go_num, by rw [flat_take HG.out]; simpa only [List.append_assoc] using H3, H4⟩
      case measure => simp [intOf]; omega
    · obtain rfl : k = l.length := by omega
      go_wp2
      go_end0
      exact ⟨rfl, by have := HW.out; rwa [List.take_length] at this, HF.out⟩
theorem Row.form {n₀ : Nat} {v : Value} {xs : List Value} (h : Row n₀ w v xs) : ∃ A cap, v = .slice A xs.length cap := by
  obtain ⟨A, cap, hv, _⟩ := h
  exact ⟨A, cap, hv⟩
theorem zI_len (l : List Int) : (zI l).length = l.length := by simp [zI]
theorem Row.at_ {n₀ n cap k : Nat} {A : Option Addr} {l : List Int} (h : Row n₀ w (.slice A n cap) (zI l)) (hk : k < l.length) :
    ∃ b off, A = some ⟨b, off, none⟩ ∧ b < n₀ ∧ w.cell? ⟨b, off + k, none⟩ = some (.int .i64 l[k]) := by
  obtain ⟨A', cap', hv, _, h⟩ := h
  have : A = A' := by injection hv
  subst this
  obtain ⟨b, off, hA, hb, ht⟩ := h (by rintro e; have := congrArg List.length e; rw [zI_len] at this; simp at this; subst this; simp at hk)
  exact ⟨b, off, hA, hb, ht k _ (zI_get (List.getElem?_eq_getElem hk))⟩
set_option maxRecDepth 100000 in
set_option maxHeartbeats 2000000 in
theorem wlI_any (v : Value) (l : List Int) (hV : Row wb w v (zI l)) (hok : ∀ n ∈ l, 1 ≤ n ∧ n ≤ 1099511627776) (hm : l.length ≤ 16) (h : Wt wb w s) (hl : s.length ≤ 600000000) :
    Calls Tryz.prog 98 #[.pointer (some ⟨wb, 0, none⟩), v, mv 88 wb] w fun e w' => e = .returned (.tuple #[]) ∧ Wt wb w' (s ++ eL n6 l) ∧ FrW wb w w' := by
  obtain ⟨A, cap, rfl⟩ := hV.form
  have H := Lib.hid h
  have HV := Lib.hid hV
  have HO := Lib.hid hok
  have hwb0 := h.lt
  obtain ⟨n, hn⟩ : ∃ n, n = l.length := ⟨_, rfl⟩
  rw [zI_len] at HV ⊢
  rw [← hn] at HV hm ⊢
  have HL := Lib.hid hn
  clear h hV hok hn
  go_enter Tryz.func98, Tryz.ntmps98
  go_wp2_with fail
  refine (wnum_any (n : Int) (by omega) H.out (by omega)).mono ?_
  rintro e w1 ⟨rfl, h1, h2⟩
  have H1 := Lib.hid h1
  have H2 := Lib.hid h2
  clear h1 h2
  go_wp2
  go_loopw [14] (fun i wr => ∃ k : Nat, k ≤ n ∧ i = .int .i64 (k : Int) ∧ Hid (Wt wb wr (s ++ (n6 (n : Int) ++ (l.take k).flatMap n6))) ∧ Hid (FrW wb w wr)) (fun i _ => n - (intOf i).toNat)
  case atStart => exact ⟨0, by omega, rfl, Lib.hid (by simpa using H1.out), H2⟩
  case round =>
    obtain ⟨k, hk, rfl, HW, HF⟩ := hrel
    by_cases hlt : k < n
    · have hkl : k < l.length := by rw [← HL.out]; exact hlt
      obtain ⟨b, off, rfl, hb, c0⟩ := (HV.out.below (HF.out.old (by omega))).at_ hkl
      have HG := Lib.hid (List.getElem?_eq_getElem hkl)
      have hr := HO.out l[k] (List.getElem_mem _)
      generalize l[k] = r at HG hr c0
      have HR : Hid (-1 ≤ r ∧ r ≤ 1099511627776) := Lib.hid (by omega)
      have HS : Hid ((s ++ (n6 (n : Int) ++ (l.take k).flatMap n6)).length ≤ 900000000) := Lib.hid (by
        simp only [List.length_append, n6_len, flat6, List.length_take]
        omega)
      clear hr hkl
      go_wp2_with fail
      refine (wnum_any r HR.out HW.out HS.out).mono ?_
      rintro e w2 ⟨rfl, h1, h2⟩
      have H3 := Lib.hid h1
      have H4 := Lib.hid (HF.out.trans h2)
      clear h1 h2
      go_wp2
      go_roundw
      case rel => exact ⟨k + 1, by omega, by go_num, by rw [flat_take HG.out]; simpa only [List.append_assoc] using H3, H4⟩
      case measure => simp [intOf]; omega
    · obtain rfl : k = n := by omega
      go_wp2
      go_end0
      exact ⟨rfl, by have := HW.out; rw [List.take_of_length_le (by rw [← HL.out]; omega)] at this; unfold eL; rw [← HL.out]; exact this, HF.out⟩
end Go.Proofs.YtefgobmpleoafaaGreat

/- Entries in memory; the writer: a delta, an entry, a list of entries, a message, a record. -/
namespace Go.Proofs.YtefgobmpleoafaaGreat
open Go.RowKit
variable {w w' : World} {wb n₀ n₁ : Nat} {s : List UInt8}

def En.cells (e : En) (p d : Value) : List Value := [.int .i64 e.vi, .int .i64 e.cl, .int .i64 e.re, .int .i64 e.d.de, .int .i64 e.d.cl, .int .i64 e.d.fu, .int .i64 e.d.st, p, d]
abbrev En.val (e : En) (p d : Value) : Value := .agg #[.int .i64 e.vi, .int .i64 e.cl, .int .i64 e.re, .int .i64 e.d.de, .int .i64 e.d.cl, .int .i64 e.d.fu, .int .i64 e.d.st, p, d]
abbrev Dl.val (x : Dl) (p d : Value) : Value := .agg #[.int .i64 x.de, .int .i64 x.cl, .int .i64 x.fu, .int .i64 x.st, p, d]
/-- The nine cells of an entry. -/
def EnAt (w : World) (b o : Nat) (e : En) (p d : Value) : Prop :=
  w.cell? ⟨b, o, none⟩ = some (.int .i64 e.vi) ∧ w.cell? ⟨b, o + 1, none⟩ = some (.int .i64 e.cl) ∧ w.cell? ⟨b, o + 2, none⟩ = some (.int .i64 e.re) ∧ w.cell? ⟨b, o + 3, none⟩ = some (.int .i64 e.d.de) ∧ w.cell? ⟨b, o + 4, none⟩ = some (.int .i64 e.d.cl) ∧ w.cell? ⟨b, o + 5, none⟩ = some (.int .i64 e.d.fu) ∧ w.cell? ⟨b, o + 6, none⟩ = some (.int .i64 e.d.st) ∧ w.cell? ⟨b, o + 7, none⟩ = some p ∧ w.cell? ⟨b, o + 8, none⟩ = some d
theorem EnAt.below {b o : Nat} {e : En} {p d : Value} (h : EnAt w b o e p d) (hb : b < n₀) (hB : Below n₀ w w') : EnAt w' b o e p d := by
  obtain ⟨h0, h1, h2, h3, h4, h5, h6, h7, h8⟩ := h
  exact ⟨(hB.cell (p := ⟨b, o, none⟩) hb).trans h0, (hB.cell (p := ⟨b, o + 1, none⟩) hb).trans h1, (hB.cell (p := ⟨b, o + 2, none⟩) hb).trans h2, (hB.cell (p := ⟨b, o + 3, none⟩) hb).trans h3, (hB.cell (p := ⟨b, o + 4, none⟩) hb).trans h4, (hB.cell (p := ⟨b, o + 5, none⟩) hb).trans h5, (hB.cell (p := ⟨b, o + 6, none⟩) hb).trans h6, (hB.cell (p := ⟨b, o + 7, none⟩) hb).trans h7, (hB.cell (p := ⟨b, o + 8, none⟩) hb).trans h8⟩
/-- A slice value that reads as a list of entries. -/
def EntsV (n₀ : Nat) (w : World) (v : Value) (l : List En) : Prop :=
  ∃ A cap, v = .slice A l.length cap ∧ l.length ≤ cap ∧ (l ≠ [] → ∃ b off, A = some ⟨b, off, none⟩ ∧ b < n₀ ∧ ∀ i e, l[i]? = some e → ∃ p d, EnAt w b (off + i * 9) e p d ∧ RulesV n₀ w p e.d.put ∧ Row n₀ w d (zI e.d.drop))
theorem EntsV.below {v : Value} {l : List En} (h : EntsV n₀ w v l) (hB : Below n₀ w w') : EntsV n₀ w' v l := by
  obtain ⟨A, cap, hv, hc, h⟩ := h
  refine ⟨A, cap, hv, hc, fun hs => ?_⟩
  obtain ⟨b, off, hA, hb, ht⟩ := h hs
  refine ⟨b, off, hA, hb, fun i e he => ?_⟩
  obtain ⟨p, d, h1, h2, h3⟩ := ht i e he
  exact ⟨p, d, h1.below hb hB, h2.below hB, h3.below hB⟩
theorem EntsV.more {v : Value} {l : List En} (h : EntsV n₀ w v l) (hn : n₀ ≤ n₁) : EntsV n₁ w v l := by
  obtain ⟨A, cap, hv, hc, h⟩ := h
  refine ⟨A, cap, hv, hc, fun hs => ?_⟩
  obtain ⟨b, off, hA, hb, ht⟩ := h hs
  refine ⟨b, off, hA, by omega, fun i e he => ?_⟩
  obtain ⟨p, d, h1, h2, h3⟩ := ht i e he
  exact ⟨p, d, h1, h2.more hn, h3.more hn⟩
theorem EntsV.on {v : Value} {l : List En} (h : EntsV w.heap.size w v l) (hB : Below w.heap.size w w') : EntsV w'.heap.size w' v l := (h.below hB).more hB.size
theorem EntsV.nil (n₀ : Nat) (w : World) : EntsV n₀ w (.slice none 0 0) [] := ⟨none, 0, rfl, Nat.le_refl _, fun h => absurd rfl h⟩
theorem EntsV.form {v : Value} {l : List En} (h : EntsV n₀ w v l) : ∃ A cap, v = .slice A l.length cap := by
  obtain ⟨A, cap, hv, _⟩ := h
  exact ⟨A, cap, hv⟩
theorem EntsV.at_ {n cap k : Nat} {A : Option Addr} {l : List En} (h : EntsV n₀ w (.slice A n cap) l) (hk : k < l.length) :
    ∃ b off p d, A = some ⟨b, off, none⟩ ∧ b < n₀ ∧ EnAt w b (off + k * 9) l[k] p d ∧ RulesV n₀ w p l[k].d.put ∧ Row n₀ w d (zI l[k].d.drop) := by
  obtain ⟨A', cap', hv, _, h⟩ := h
  have : A = A' := by injection hv
  subst this
  obtain ⟨b, off, hA, hb, ht⟩ := h (by rintro rfl; simp at hk)
  obtain ⟨p, d, h1, h2, h3⟩ := ht k l[k] (List.getElem?_eq_getElem hk)
  exact ⟨b, off, p, d, hA, hb, h1, h2, h3⟩
theorem RulesV.len {A : Option Addr} {n c : Nat} {l : List Ru} (h : RulesV n₀ w (.slice A n c) l) : n = l.length := by
  obtain ⟨_, _, hv, _⟩ := h
  injection hv
theorem Row.len {A : Option Addr} {n c : Nat} {l : List Int} (h : Row n₀ w (.slice A n c) (zI l)) : n = l.length := by
  obtain ⟨_, _, hv, _⟩ := h
  injection hv with _ h1 _
  rw [h1, zI_len]

theorem eD_app (x : Dl) (s : List UInt8) : s ++ eD x = s ++ [x.de, x.cl, x.fu, x.st].flatMap n6 ++ eL eR x.put ++ eL n6 x.drop := by simp [eD]
theorem eE_app (x : En) (s : List UInt8) : s ++ eE x = s ++ [x.vi, x.cl, x.re].flatMap n6 ++ eD x.d := by simp [eE]
set_option maxRecDepth 100000 in
set_option maxHeartbeats 2000000 in
theorem wdelta_any (x : Dl) (p d : Value) (hok : x.okP = true) (hp : RulesV wb w p x.put) (hd : Row wb w d (zI x.drop)) (h : Wt wb w s) (hl : s.length ≤ 500000000) :
    Calls Tryz.prog 89 #[.pointer (some ⟨wb, 0, none⟩), x.val p d] w fun e w' => e = .returned (.tuple #[]) ∧ Wt wb w' (s ++ eD x) ∧ FrW wb w w' := by
  rw [eD_app]
  obtain ⟨⟨h1, h2, h3, h4⟩, h5, h6, h7, h8⟩ := Dl.okP_iff.1 hok
  obtain ⟨de, cl, fu, st, put, drop⟩ := x
  simp only at h1 h2 h3 h4 h5 h6 h7 h8 hp hd ⊢
  have HP := Lib.hid hp
  have HD := Lib.hid hd
  have HPo := Lib.hid h6
  have HDo := Lib.hid h8
  obtain ⟨Ap, cp, rfl⟩ := hp.form
  obtain ⟨Ad, cd, rfl⟩ := hd.form
  rw [zI_len] at HD ⊢
  have H := Lib.hid h
  have hwb := h.lt
  have HN : Hid (∀ z ∈ [de, cl, fu, st], -1 ≤ z ∧ z ≤ 1099511627776) := Lib.hid (by intro z hz; simp at hz; rcases hz with rfl | rfl | rfl | rfl <;> omega)
  have HF : Hid (FrW wb w ((w.alloc (.cells #[.int .i64 de, .int .i64 cl, .int .i64 fu, .int .i64 st, .slice Ap put.length cp, .slice Ad drop.length cd] 91)).alloc (.cells #[.int .i64 de, .int .i64 cl, .int .i64 fu, .int .i64 st] 3))) := Lib.hid (((FrW.refl w).alloc _).alloc _)
  have HB : Hid (Blk (w.alloc (.cells #[.int .i64 de, .int .i64 cl, .int .i64 fu, .int .i64 st, .slice Ap put.length cp, .slice Ad drop.length cd] 91)) w.heap.size 91 #[.int .i64 de, .int .i64 cl, .int .i64 fu, .int .i64 st, .slice Ap put.length cp, .slice Ad drop.length cd]) := Lib.hid (Blk.new _ _ _)
  have f4 : ([de, cl, fu, st].flatMap n6).length = 24 := flat6
  have fp : (eL eR put).length ≤ 4582 := by
    have := RulesV.take_flat h6 h5 put.length
    rw [List.take_length] at this
    simp only [eL, List.length_append, n6_len]; omega
  clear h1 h2 h3 h4 h6 h8 h hp hd hok
  go_enter Tryz.func89, Tryz.ntmps89
  go_wp2_with fail
  refine (wnums_any [de, cl, fu, st] (w.heap.size + 1) 4 rfl (by omega) (Blk.at_new _ _ (by simp) _ _) HN.out ((H.out.alloc _).alloc _) (by omega) (by omega)).mono ?_
  rintro e w1 ⟨rfl, h1, h2⟩
  have H1 := Lib.hid h1
  have H2 := Lib.hid (HF.out.trans h2)
  have B1 := Lib.hid (h2.blk (HB.out.alloc _) (by decide) (by omega))
  have c4 := B1.out.cell 4
  have hw1 := h1.lt
  clear h1 h2
  go_wp2_with fail
  refine (wlR_any _ put (HP.out.below (H2.out.old (by omega))) HPo.out h5 H1.out (by rw [List.length_append]; omega)).mono ?_
  rintro e w2 ⟨rfl, h1, h2⟩
  have H3 := Lib.hid h1
  have H4 := Lib.hid (H2.out.trans h2)
  have c5 := (h2.blk B1.out (by decide) (by omega)).cell 5
  clear h1 h2
  go_wp2_with fail
  refine (wlI_any _ drop (HD.out.below (H4.out.old (by omega))) HDo.out h7 H3.out (by rw [List.length_append, List.length_append]; omega)).mono ?_
  rintro e w3 ⟨rfl, h1, h2⟩
  have H5 := Lib.hid h1
  have H6 := Lib.hid (H4.out.trans h2)
  clear h1 h2
  go_wp2
  go_end0
  exact ⟨rfl, H5.out, H6.out⟩
set_option maxRecDepth 100000 in
set_option maxHeartbeats 2000000 in
theorem wentry_any (x : En) (p d : Value) (hok : x.ok = true) (hp : RulesV wb w p x.d.put) (hd : Row wb w d (zI x.d.drop)) (h : Wt wb w s) (hl : s.length ≤ 400000000) :
    Calls Tryz.prog 79 #[.pointer (some ⟨wb, 0, none⟩), x.val p d] w fun e w' => e = .returned (.tuple #[]) ∧ Wt wb w' (s ++ eE x) ∧ FrW wb w w' := by
  rw [eE_app]
  obtain ⟨h1, h2, h3, h4⟩ := En.ok_iff.1 hok
  have HP := Lib.hid hp
  have HD := Lib.hid hd
  have HK := Lib.hid h4
  obtain ⟨Ap, cp, rfl⟩ := hp.form
  obtain ⟨Ad, cd, rfl⟩ := hd.form
  obtain ⟨vi, cl, re, x⟩ := x
  have HX := Lib.hid (rfl : x = x)
  obtain ⟨de, dcl, fu, st, put, drop⟩ := x
  simp only at h1 h2 h3 HP HD HK ⊢
  clear HX
  rw [zI_len] at HD ⊢
  have H := Lib.hid h
  have hwb := h.lt
  have HN : Hid (∀ z ∈ [vi, cl, re], -1 ≤ z ∧ z ≤ 1099511627776) := Lib.hid (by intro z hz; simp at hz; rcases hz with rfl | rfl | rfl <;> omega)
  have HF : Hid (FrW wb w ((w.alloc (.cells #[.int .i64 vi, .int .i64 cl, .int .i64 re, .int .i64 de, .int .i64 dcl, .int .i64 fu, .int .i64 st, .slice Ap put.length cp, .slice Ad drop.length cd] 93)).alloc (.cells #[.int .i64 vi, .int .i64 cl, .int .i64 re] 3))) := Lib.hid (((FrW.refl w).alloc _).alloc _)
  have HB : Hid (Blk (w.alloc (.cells #[.int .i64 vi, .int .i64 cl, .int .i64 re, .int .i64 de, .int .i64 dcl, .int .i64 fu, .int .i64 st, .slice Ap put.length cp, .slice Ad drop.length cd] 93)) w.heap.size 93 #[.int .i64 vi, .int .i64 cl, .int .i64 re, .int .i64 de, .int .i64 dcl, .int .i64 fu, .int .i64 st, .slice Ap put.length cp, .slice Ad drop.length cd]) := Lib.hid (Blk.new _ _ _)
  have f4 : ([vi, cl, re].flatMap n6).length = 18 := flat6
  clear h1 h2 h3 h4 h hp hd hok
  go_enter Tryz.func79, Tryz.ntmps79
  go_wp2_with fail
  refine (wnums_any [vi, cl, re] (w.heap.size + 1) 3 rfl (by omega) (Blk.at_new _ _ (by simp) _ _) HN.out ((H.out.alloc _).alloc _) (by omega) (by omega)).mono ?_
  rintro e w1 ⟨rfl, h1, h2⟩
  have H1 := Lib.hid h1
  have H2 := Lib.hid (HF.out.trans h2)
  have B1 := h2.blk (HB.out.alloc _) (by decide) (by omega)
  have c3 := B1.cell 3
  have c4 := B1.cell 4
  have c5 := B1.cell 5
  have c6 := B1.cell 6
  have c7 := B1.cell 7
  have c8 := B1.cell 8
  clear h1 h2 B1
  go_wp2_with fail
  refine (wdelta_any ⟨de, dcl, fu, st, put, drop⟩ _ _ HK.out (HP.out.below (H2.out.old (by omega))) (HD.out.below (H2.out.old (by omega))) H1.out (by rw [List.length_append]; omega)).mono ?_
  rintro e w3 ⟨rfl, h1, h2⟩
  have H5 := Lib.hid h1
  have H6 := Lib.hid (H2.out.trans h2)
  clear h1 h2
  go_wp2
  go_end0
  exact ⟨rfl, H5.out, H6.out⟩
theorem ents_flat {l : List En} (h : ∀ e ∈ l, e.ok = true) (hl : l.length ≤ 64) (k : Nat) : ((l.take k).flatMap eE).length ≤ 302464 := by
  have := flat_bound (e := eE) (b := 4726) (l := l.take k) fun r hr => En.ok_len (h r (List.mem_of_mem_take hr))
  have : (l.take k).length ≤ 64 := by simp; omega
  omega
set_option maxRecDepth 100000 in
set_option maxHeartbeats 2000000 in
theorem wlE_any (v : Value) (l : List En) (hV : EntsV wb w v l) (hok : ∀ r ∈ l, r.ok = true) (hm : l.length ≤ 64) (h : Wt wb w s) (hl : s.length ≤ 300000000) :
    Calls Tryz.prog 78 #[.pointer (some ⟨wb, 0, none⟩), v, mv 79 wb] w fun e w' => e = .returned (.tuple #[]) ∧ Wt wb w' (s ++ eL eE l) ∧ FrW wb w w' := by
  obtain ⟨A, cap, rfl⟩ := hV.form
  have H := Lib.hid h
  have HV := Lib.hid hV
  have HO := Lib.hid hok
  have hwb0 := h.lt
  clear h hV hok
  go_enter Tryz.func78, Tryz.ntmps78
  go_wp2_with fail
  refine (wnum_any (l.length : Int) (by omega) H.out (by omega)).mono ?_
  rintro e w1 ⟨rfl, h1, h2⟩
  have H1 := Lib.hid h1
  have H2 := Lib.hid h2
  clear h1 h2
  go_wp2
  go_loopw [14] (fun i wr => ∃ k : Nat, k ≤ l.length ∧ i = .int .i64 (k : Int) ∧ Hid (Wt wb wr (s ++ (n6 (l.length : Int) ++ (l.take k).flatMap eE))) ∧ Hid (FrW wb w wr)) (fun i _ => l.length - (intOf i).toNat)
  case atStart => exact ⟨0, by omega, rfl, Lib.hid (by simpa using H1.out), H2⟩
  case round =>
    obtain ⟨k, hk, rfl, HW, HF⟩ := hrel
    by_cases hlt : k < l.length
    · obtain ⟨b, off, p, d, rfl, hb, ⟨c0, c1, c2, c3, c4, c5, c6, c7, c8⟩, hp, hd⟩ := (HV.out.below (HF.out.old (by omega))).at_ hlt
      have HG := Lib.hid (List.getElem?_eq_getElem hlt)
      have hr := HO.out l[k] (List.getElem_mem _)
      generalize l[k] = r at HG hr c0 c1 c2 c3 c4 c5 c6 c7 c8 hp hd
      have HR := Lib.hid hr
      have hwb := HW.out.lt
      have HS : Hid ((s ++ (n6 (l.length : Int) ++ (l.take k).flatMap eE)).length ≤ 400000000) := Lib.hid (by
        have := ents_flat HO.out hm k
        simp only [List.length_append, n6_len]
        omega)
      have HP := Lib.hid hp
      have HD := Lib.hid hd
      obtain ⟨Ap, cp, rfl⟩ := hp.form
      obtain ⟨Ad, cd, rfl⟩ := hd.form
      have hF1 : Hid (∀ o, Below wb wr (wr.alloc o)) := Lib.hid fun o => (Below.refl _ _).alloc (by omega) o
      clear hr hp hd
      go_wp2_with fail
      refine (wentry_any r _ _ HR.out (HP.out.below (hF1.out _)) (HD.out.below (hF1.out _)) (HW.out.alloc _) HS.out).mono ?_
      rintro e w2 ⟨rfl, h1, h2⟩
      have H3 := Lib.hid h1
      have H4 := Lib.hid ((HF.out.alloc _).trans h2)
      clear h1 h2
      go_wp2
      go_roundw
      case rel => exact ⟨k + 1, by omega, by go_num, by rw [flat_take HG.out]; simpa only [List.append_assoc] using H3, H4⟩
      case measure => simp [intOf]; omega
    · obtain rfl : k = l.length := by omega
      go_wp2
      go_end0
      exact ⟨rfl, by have := HW.out; rwa [List.take_length] at this, HF.out⟩
abbrev Ms.val (m : Ms) (l : Value) : Value := .agg #[.int .i64 m.k, .int .i64 m.vi, .int .i64 m.fr, .int .i64 m.to, .int .i64 m.op, .int .i64 m.co, .int .i64 m.no, l]
abbrev Rc.val (r : Rc) (l : Value) : Value := .agg #[.int .i64 r.k, .int .i64 r.a, .int .i64 r.b, l]
theorem eM_app (m : Ms) (s : List UInt8) : s ++ eM m = s ++ [m.k, m.vi, m.fr, m.to, m.op, m.co, m.no].flatMap n6 ++ eL eE m.log := by simp [eM]
theorem eC_app (r : Rc) (s : List UInt8) : s ++ eC r = s ++ [r.k, r.a, r.b].flatMap n6 ++ eL eE r.log := by simp [eC]
set_option maxRecDepth 100000 in
set_option maxHeartbeats 2000000 in
theorem wrecord_any (m : Rc) (v : Value) (hok : m.ok = true) (hV : EntsV wb w v m.log) (h : Wt wb w s) (hl : s.length ≤ 200000000) :
    Calls Tryz.prog 66 #[.pointer (some ⟨wb, 0, none⟩), m.val v] w fun e w' => e = .returned (.tuple #[]) ∧ Wt wb w' (s ++ eC m) ∧ FrW wb w w' := by
  rw [eC_app]
  have hlen := (Rc.ok_len hok).1
  obtain ⟨h1, h2, h3, h8, h9⟩ := Rc.ok_iff.1 hok
  have HV := Lib.hid hV
  have HK := Lib.hid h9
  obtain ⟨A, c, rfl⟩ := hV.form
  obtain ⟨k, a, b, log⟩ := m
  simp only at h1 h2 h3 HV HK hlen ⊢
  have H := Lib.hid h
  have hwb := h.lt
  have HN : Hid (∀ z ∈ [k, a, b], -1 ≤ z ∧ z ≤ 1099511627776) := Lib.hid (by intro z hz; simp at hz; rcases hz with rfl | rfl | rfl <;> omega)
  have HF : Hid (FrW wb w ((w.alloc (.cells #[.int .i64 k, .int .i64 a, .int .i64 b, .slice A log.length c] 82)).alloc (.cells #[.int .i64 k, .int .i64 a, .int .i64 b] 3))) := Lib.hid (((FrW.refl w).alloc _).alloc _)
  have HB : Hid (Blk (w.alloc (.cells #[.int .i64 k, .int .i64 a, .int .i64 b, .slice A log.length c] 82)) w.heap.size 82 #[.int .i64 k, .int .i64 a, .int .i64 b, .slice A log.length c]) := Lib.hid (Blk.new _ _ _)
  have f4 : ([k, a, b].flatMap n6).length = 18 := flat6
  clear h1 h2 h3 h8 h9 h hV hok
  go_enter Tryz.func66, Tryz.ntmps66
  go_wp2_with fail
  refine (wnums_any [k, a, b] (w.heap.size + 1) 3 rfl (by omega) (Blk.at_new _ _ (by simp) _ _) HN.out ((H.out.alloc _).alloc _) (by omega) (by omega)).mono ?_
  rintro e w1 ⟨rfl, h1, h2⟩
  have H1 := Lib.hid h1
  have H2 := Lib.hid (HF.out.trans h2)
  have B1 := h2.blk (HB.out.alloc _) (by decide) (by omega)
  have c3 := B1.cell 3
  clear h1 h2 B1
  go_wp2_with fail
  refine (wlE_any _ log (HV.out.below (H2.out.old (by omega))) HK.out (by omega) H1.out (by rw [List.length_append]; omega)).mono ?_
  rintro e w3 ⟨rfl, h1, h2⟩
  have H5 := Lib.hid h1
  have H6 := Lib.hid (H2.out.trans h2)
  clear h1 h2
  go_wp2
  go_end0
  exact ⟨rfl, H5.out, H6.out⟩
end Go.Proofs.YtefgobmpleoafaaGreat

