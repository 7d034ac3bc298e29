/- The writer: numbers, text. -/
import Derived.Test.YtiheeafmplccoaaPkA
import Derived.Lib.AppendStr
namespace Go.Proofs.Ytiheeafmplccoaa
open Go.RowKit
variable {w w' : World} {wb : Nat} {s : List UInt8}

theorem flat6 {l : List Int} : (l.flatMap n6).length = l.length * 6 := by
  induction l with
  | nil => rfl
  | cons x l ih => simp only [List.flatMap_cons, List.length_append, n6_len, List.length_cons, ih]; omega
theorem flat_take {α : Type} {e : α → List UInt8} {l : List α} {k : Nat} {x : α} (h : l[k]? = some x) : (l.take (k + 1)).flatMap e = (l.take k).flatMap e ++ e x := by
  obtain ⟨hk, rfl⟩ := List.getElem?_eq_some_iff.1 h
  rw [List.take_succ_eq_append_getElem hk, List.flatMap_append, List.flatMap_singleton]
set_option maxRecDepth 100000 in
set_option maxHeartbeats 2000000 in
theorem wnums_any (l : List Int) (g : Nat) (n : Nat) (hln : l.length = n) (hg : g ≠ wb) (hb : Blk w g 3 (zI l).toArray) (hn : ∀ z ∈ l, -1 ≤ z ∧ z ≤ 1099511627776) (h : Wt wb w s) (hm : n ≤ 100) (hl : s.length ≤ 800000000) :
    Calls Try.prog 57 #[.pointer (some ⟨wb, 0, none⟩), .slice (some ⟨g, 0, none⟩) n n] w fun e w' => e = .returned (.tuple #[]) ∧ Wt wb w' (s ++ l.flatMap n6) ∧ FrW wb w w' := by
  have H := Lib.hid h
  have HB := Lib.hid hb
  have HN := Lib.hid hn
  have HL := Lib.hid hln
  have HG := Lib.hid hg
  clear h hb hn hln hg
  go_enter Try.func57, Try.ntmps57
  go_wp2
  go_loopw [8] (fun i wr => ∃ k : Nat, k ≤ n ∧ i = .int .i64 (k : Int) ∧ Hid (Wt wb wr (s ++ (l.take k).flatMap n6)) ∧ Hid (FrW wb w wr)) (fun i _ => n - (intOf i).toNat)
  case atStart => exact ⟨0, by omega, rfl, Lib.hid (by simpa using H.out), Lib.hid (FrW.refl w)⟩
  case round =>
    obtain ⟨k, hk, rfl, HW, HF⟩ := hrel
    by_cases hlt : k < n
    · have hkl : k < l.length := by rw [HL.out]; exact hlt
      have hx : l[k]? = some l[k] := List.getElem?_eq_getElem hkl
      have hr := HN.out l[k] (List.getElem_mem _)
      have c0 := (HF.out.blk HB.out (by decide) HG.out).cell k
      rw [List.getElem?_toArray, zI_get hx] at c0
      generalize l[k] = x at *
      have HX := Lib.hid hx
      have HR := Lib.hid hr
      have HS : Hid ((s ++ (l.take k).flatMap n6).length ≤ 900000000) := Lib.hid (by rw [List.length_append, flat6]; simp; omega)
      clear hx hr hkl
      go_wp2_with fail
      refine (wnum_any x HR.out HW.out HS.out).mono ?_
      rintro e w1 ⟨rfl, h1, h2⟩
      have H1 := Lib.hid h1
      have H2 := Lib.hid (HF.out.trans h2)
      clear h1 h2
      go_wp2
      go_roundw
      case rel => exact ⟨k + 1, by omega, by go_num, by rw [flat_take HX.out, ← List.append_assoc]; exact H1, H2⟩
      case measure => simp [intOf]; omega
    · obtain rfl : k = n := by omega
      go_wp2
      go_end0
      exact ⟨rfl, by have := HW.out; rwa [List.take_of_length_le (by rw [HL.out]; omega)] at this, HF.out⟩
set_option maxRecDepth 100000 in
set_option maxHeartbeats 2000000 in
theorem wtext_any (p : ByteArray) (h : Wt wb w s) (hp : p.size ≤ 100000000) (hl : s.length ≤ 800000000) :
    Calls Try.prog 83 #[.pointer (some ⟨wb, 0, none⟩), .string p] w fun e w' => e = .returned (.tuple #[]) ∧ Wt wb w' (s ++ (n6 (p.size : Int) ++ p.data.toList)) ∧ FrW wb w w' := by
  obtain ⟨i0, hi, hz0, hz1, hz2⟩ := info_three info_u8
  have H := Lib.hid h
  clear h
  go_enter Try.func83, Try.ntmps83
  go_wp2_with fail
  refine (wnum_any (p.size : Int) (by omega) H.out (by omega)).mono ?_
  rintro e w1 ⟨rfl, h1, h2⟩
  obtain ⟨v, hB, hO⟩ := h1
  obtain ⟨T, hT⟩ : ∃ T, T = s ++ n6 (p.size : Int) := ⟨_, rfl⟩
  have hTl : T.length ≤ 800000006 := by rw [hT]; simp [n6_len]; omega
  rw [← hT] at hO
  obtain ⟨A, cp, rfl⟩ := one_slice hO
  have HO := Lib.hid hO
  have HB := Lib.hid hB
  have HF := Lib.hid h2
  have HT := Lib.hid hT
  have c0 := hB.cell 0
  have hwb := hB.lt
  clear hO hB h2 hT
  go_wp2_with (at_builtin
               refine Lib.wpList_append_own_string _ rfl (.tmp 12) (.tmp 13) 31 9 rfl wb 5 i0 Try.underlying31 Try.underlying9 hi hz0 hz1 hz2 _ T.length (Lib.byteCells T) rfl HO.out p rfl (by unfold maxLen; omega) (by omega) (by omega) ?_
               intro v' w4 hown' hgrow _
               have hown2 : w4.ownsRow wb 5 1 v' (T.length + p.data.toList.length) (Lib.byteCells T ++ Lib.byteCells p.data.toList) := hown'
               have hB4 := HB.out.grown hgrow (fun e => own_ne HO.out HB.out (by decide) e.symm)
               have c4 := hB4.cell 0
               have f4 := hB4.frozen 0
               have l4 := hB4.lt
               obtain ⟨hP, hQ⟩ := Wt.push HB.out HO.out hgrow hown2
               have HP := Lib.hid hP
               have HQ := Lib.hid (HF.out.trans hQ)
               obtain ⟨A', cp', hv'⟩ : ∃ A' cp', v' = .slice A' (T.length + p.size) cp' := by rcases hown'.2 with ⟨hv, hn⟩ | ⟨g, c, cur, hv, _⟩; exact ⟨none, 0, by rw [hv, hn]⟩; exact ⟨_, _, hv⟩
               subst hv'
               clear hown' hown2 hgrow hB4 hP hQ)
  go_end0
  exact ⟨rfl, by rw [← List.append_assoc, ← HT.out]; exact HP.out, HQ.out⟩
end Go.Proofs.Ytiheeafmplccoaa
