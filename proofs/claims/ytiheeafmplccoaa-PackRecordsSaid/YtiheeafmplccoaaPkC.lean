/- The writer: a rule, lists of rules and of numbers, a delta. -/
import Derived.Test.YtiheeafmplccoaaPkB
namespace Go.Proofs.Ytiheeafmplccoaa
open Go.RowKit
variable {w w' : World} {wb : Nat} {s : List UInt8}

/-- A writer's method as a value. -/
abbrev mv (f wb : Nat) : Value := .func (.func f) #[.pointer (some ⟨wb, 0, none⟩)] #[]
theorem Blk.at_new (w : World) (n : Nat) (h : w.heap.size = n) (t : TypeId) (cs : Array Value) : Blk (w.alloc (.cells cs t)) n t cs := h ▸ Blk.new w t cs
set_option maxRecDepth 100000 in
set_option maxHeartbeats 2000000 in
theorem wrule_any (r : Ru) (hok : r.ok = true) (h : Wt wb w s) (hl : s.length ≤ 700000000) :
    Calls Try.prog 78 #[.pointer (some ⟨wb, 0, none⟩), .agg #[.int .i64 r.id, .int .i64 r.pr, .int .i64 r.ac, .int .i64 r.sc, .string r.pat]] w fun e w' => e = .returned (.tuple #[]) ∧ Wt wb w' (s ++ eR r) ∧ FrW wb w w' := by
  obtain ⟨id, pr, ac, sc, pat⟩ := r
  simp only [Ru.ok, decide_eq_true_eq] at hok
  obtain ⟨h1, h2, h3, h4, h5, h6, h7, h8, h9⟩ := hok
  have H := Lib.hid h
  have hwb := h.lt
  clear h
  have HN : Hid (∀ z ∈ [id, pr, ac, sc], -1 ≤ z ∧ z ≤ 1099511627776) := Lib.hid (by intro z hz; simp at hz; rcases hz with rfl | rfl | rfl | rfl <;> omega)
  have HF : Hid (FrW wb w ((w.alloc (.cells #[.int .i64 id, .int .i64 pr, .int .i64 ac, .int .i64 sc, .string pat] 72)).alloc (.cells #[.int .i64 id, .int .i64 pr, .int .i64 ac, .int .i64 sc] 3))) := Lib.hid (((FrW.refl w).alloc _).alloc _)
  have HB : Hid (Blk (w.alloc (.cells #[.int .i64 id, .int .i64 pr, .int .i64 ac, .int .i64 sc, .string pat] 72)) w.heap.size 72 #[.int .i64 id, .int .i64 pr, .int .i64 ac, .int .i64 sc, .string pat]) := Lib.hid (Blk.new _ _ _)
  clear h1 h2 h3 h4 h5 h6 h7 h8
  simp only at h9 ⊢
  go_enter Try.func78, Try.ntmps78
  go_wp2_with fail
  refine (wnums_any [id, pr, ac, sc] (w.heap.size + 1) 4 rfl (by omega) (Blk.at_new _ _ (by simp) _ _) HN.out ((H.out.alloc _).alloc _) (by omega) (by omega)).mono ?_
  rintro e w1 ⟨rfl, h1, h2⟩
  have H1 := Lib.hid h1
  have H2 := Lib.hid (HF.out.trans h2)
  have c4 := (h2.blk (HB.out.alloc _) (by decide) (by omega)).cell 4
  clear h1 h2
  go_wp2_with fail
  refine (wtext_any pat H1.out (by omega) (by simp [n6_len]; omega)).mono ?_
  rintro e w2 ⟨rfl, h1, h2⟩
  have H3 := Lib.hid h1
  have H4 := Lib.hid (H2.out.trans h2)
  clear h1 h2
  go_wp2
  go_end0
  refine ⟨rfl, ?_, H4.out⟩
  have := H3.out
  simpa [eR, pt] using this
theorem RulesV.take_flat {l : List Ru} (h : ∀ r ∈ l, r.ok = true) (hl : l.length ≤ 16) (k : Nat) : ((l.take k).flatMap eR).length ≤ 4576 := by
  have := flat_bound (e := eR) (b := 286) (l := l.take k) fun r hr => Ru.ok_len (h r (List.mem_of_mem_take hr))
  have : (l.take k).length ≤ 16 := by simp; omega
  omega
set_option maxRecDepth 100000 in
set_option maxHeartbeats 2000000 in
theorem wlR_any (v : Value) (l : List Ru) (hV : RulesV wb w v l) (hok : ∀ r ∈ l, r.ok = true) (hm : l.length ≤ 16) (h : Wt wb w s) (hl : s.length ≤ 600000000) :
    Calls Try.prog 77 #[.pointer (some ⟨wb, 0, none⟩), v, mv 78 wb] w fun e w' => e = .returned (.tuple #[]) ∧ Wt wb w' (s ++ eL eR l) ∧ FrW wb w w' := by
  obtain ⟨A, cap, rfl⟩ := hV.form
  have H := Lib.hid h
  have HV := Lib.hid hV
  have HO := Lib.hid hok
  have hwb0 := h.lt
  clear h hV hok
  go_enter Try.func77, Try.ntmps77
  go_wp2_with fail
  refine (wnum_any (l.length : Int) (by omega) H.out (by omega)).mono ?_
  rintro e w1 ⟨rfl, h1, h2⟩
  have H1 := Lib.hid h1
  have H2 := Lib.hid h2
  clear h1 h2
  go_wp2
  go_loopw [14] (fun i wr => ∃ k : Nat, k ≤ l.length ∧ i = .int .i64 (k : Int) ∧ Hid (Wt wb wr (s ++ (n6 (l.length : Int) ++ (l.take k).flatMap eR))) ∧ Hid (FrW wb w wr)) (fun i _ => l.length - (intOf i).toNat)
  case atStart => exact ⟨0, by omega, rfl, Lib.hid (by simpa using H1.out), H2⟩
  case round =>
    obtain ⟨k, hk, rfl, HW, HF⟩ := hrel
    by_cases hlt : k < l.length
    · obtain ⟨b, off, rfl, hb, c0, c1, c2, c3, c4⟩ := (HV.out.below (HF.out.old (by omega))).at_ hlt
      have HG := Lib.hid (List.getElem?_eq_getElem hlt)
      have hr := HO.out l[k] (List.getElem_mem _)
      generalize l[k] = r at HG hr c0 c1 c2 c3 c4
      have HR := Lib.hid hr
      have hwb := HW.out.lt
      have HS : Hid ((s ++ (n6 (l.length : Int) ++ (l.take k).flatMap eR)).length ≤ 700000000) := Lib.hid (by
        have := RulesV.take_flat HO.out hm k
        simp only [List.length_append, n6_len]
        omega)
      clear hr
      go_wp2_with fail
      refine (wrule_any r HR.out (HW.out.alloc _) HS.out).mono ?_
      rintro e w2 ⟨rfl, h1, h2⟩
      have H3 := Lib.hid h1
      have H4 := Lib.hid ((HF.out.alloc _).trans h2)
      clear h1 h2
      go_wp2
      go_roundw
      case rel => exact ⟨k + 1, by omega, by go_num, by rw [flat_take HG.out]; simpa only [List.append_assoc] using H3, H4⟩
      case measure => simp [intOf]; omega
    · obtain rfl : k = l.length := by omega
      go_wp2
      go_end0
      exact ⟨rfl, by have := HW.out; rwa [List.take_length] at this, HF.out⟩
theorem Row.form {n₀ : Nat} {v : Value} {xs : List Value} (h : Row n₀ w v xs) : ∃ A cap, v = .slice A xs.length cap := by
  obtain ⟨A, cap, hv, _⟩ := h
  exact ⟨A, cap, hv⟩
theorem zI_len (l : List Int) : (zI l).length = l.length := by simp [zI]
theorem Row.at_ {n₀ n cap k : Nat} {A : Option Addr} {l : List Int} (h : Row n₀ w (.slice A n cap) (zI l)) (hk : k < l.length) :
    ∃ b off, A = some ⟨b, off, none⟩ ∧ b < n₀ ∧ w.cell? ⟨b, off + k, none⟩ = some (.int .i64 l[k]) := by
  obtain ⟨A', cap', hv, _, h⟩ := h
  have : A = A' := by injection hv
  subst this
  obtain ⟨b, off, hA, hb, ht⟩ := h (by rintro e; have := congrArg List.length e; rw [zI_len] at this; simp at this; subst this; simp at hk)
  exact ⟨b, off, hA, hb, ht k _ (zI_get (List.getElem?_eq_getElem hk))⟩
set_option maxRecDepth 100000 in
set_option maxHeartbeats 2000000 in
theorem wlI_any (v : Value) (l : List Int) (hV : Row wb w v (zI l)) (hok : ∀ n ∈ l, 1 ≤ n ∧ n ≤ 1099511627776) (hm : l.length ≤ 16) (h : Wt wb w s) (hl : s.length ≤ 600000000) :
    Calls Try.prog 79 #[.pointer (some ⟨wb, 0, none⟩), v, mv 69 wb] w fun e w' => e = .returned (.tuple #[]) ∧ Wt wb w' (s ++ eL n6 l) ∧ FrW wb w w' := by
  obtain ⟨A, cap, rfl⟩ := hV.form
  have H := Lib.hid h
  have HV := Lib.hid hV
  have HO := Lib.hid hok
  have hwb0 := h.lt
  obtain ⟨n, hn⟩ : ∃ n, n = l.length := ⟨_, rfl⟩
  rw [zI_len] at HV ⊢
  rw [← hn] at HV hm ⊢
  have HL := Lib.hid hn
  clear h hV hok hn
  go_enter Try.func79, Try.ntmps79
  go_wp2_with fail
  refine (wnum_any (n : Int) (by omega) H.out (by omega)).mono ?_
  rintro e w1 ⟨rfl, h1, h2⟩
  have H1 := Lib.hid h1
  have H2 := Lib.hid h2
  clear h1 h2
  go_wp2
  go_loopw [14] (fun i wr => ∃ k : Nat, k ≤ n ∧ i = .int .i64 (k : Int) ∧ Hid (Wt wb wr (s ++ (n6 (n : Int) ++ (l.take k).flatMap n6))) ∧ Hid (FrW wb w wr)) (fun i _ => n - (intOf i).toNat)
  case atStart => exact ⟨0, by omega, rfl, Lib.hid (by simpa using H1.out), H2⟩
  case round =>
    obtain ⟨k, hk, rfl, HW, HF⟩ := hrel
    by_cases hlt : k < n
    · have hkl : k < l.length := by rw [← HL.out]; exact hlt
      obtain ⟨b, off, rfl, hb, c0⟩ := (HV.out.below (HF.out.old (by omega))).at_ hkl
      have HG := Lib.hid (List.getElem?_eq_getElem hkl)
      have hr := HO.out l[k] (List.getElem_mem _)
      generalize l[k] = r at HG hr c0
      have HR : Hid (-1 ≤ r ∧ r ≤ 1099511627776) := Lib.hid (by omega)
      have HS : Hid ((s ++ (n6 (n : Int) ++ (l.take k).flatMap n6)).length ≤ 900000000) := Lib.hid (by
        simp only [List.length_append, n6_len, flat6, List.length_take]
        omega)
      clear hr hkl
      go_wp2_with fail
      refine (wnum_any r HR.out HW.out HS.out).mono ?_
      rintro e w2 ⟨rfl, h1, h2⟩
      have H3 := Lib.hid h1
      have H4 := Lib.hid (HF.out.trans h2)
      clear h1 h2
      go_wp2
      go_roundw
      case rel => exact ⟨k + 1, by omega, by go_num, by rw [flat_take HG.out]; simpa only [List.append_assoc] using H3, H4⟩
      case measure => simp [intOf]; omega
    · obtain rfl : k = n := by omega
      go_wp2
      go_end0
      exact ⟨rfl, by have := HW.out; rw [List.take_of_length_le (by rw [← HL.out]; omega)] at this; unfold eL; rw [← HL.out]; exact this, HF.out⟩
end Go.Proofs.Ytiheeafmplccoaa
