/- The reader's steps together; the references, when the text has ended. -/
import Derived.Test.YthipgidddgdojaaDoorPT
namespace Go.Proofs.YthipgidddgdojaaDoor
open Go.RowKit
variable {n₀ rb tb cap d : Nat} {s : List UInt8} {w w' : World} {σ σ1 : St} {fc fa : Int} {bv v : Value}

theorem all_any (N : Nat) : (AltC n₀ rb tb cap s fc fa N ∧ RowC n₀ rb tb cap s fc fa N) ∧ QuaC n₀ rb tb cap s fc fa N ∧ ParC n₀ rb tb cap s fc fa N := by
  induction N using Nat.strongRecOn with
  | ind N ih =>
    refine ⟨⟨alts_step N fun m hm => (ih m hm).1.2, row_step N fun m hm => (ih m hm).2.1⟩, ?_, ?_⟩
    · cases N with
      | zero =>
        intro d σ w bv hn hN hR
        have := len_ne hn
        omega
      | succ n => exact quant_step n (ih n (Nat.lt_succ_self n)).2.2
    · cases N with
      | zero =>
        intro d σ w bv hc hN hR
        have := len_ne (at_ne (t := σ.t) (by omega))
        omega
      | succ n => exact paren_step n (ih n (Nat.lt_succ_self n)).1.1

/-- What the look at the references leaves. -/
def CPost (n₀ rb : Nat) (w : World) (r : Option (Nat × Nat)) (e : Ending) (w' : World) : Prop :=
  match r with
  | some b => e = .returned (.bool false) ∧ Bad w' rb (26, b.2) ∧ Fr n₀ rb w w'
  | none => e = .returned (.bool true) ∧ Below w.heap.size w w'
theorem find_take {l : List (Nat × Nat)} {k g : Nat} (hk : k < l.length) (h : ∀ x ∈ l.take k, ¬ g < x.1) :
    (g < l[k].1 → l.find? (fun b => decide (g < b.1)) = some l[k]) ∧ (¬ g < l[k].1 → ∀ x ∈ l.take (k + 1), ¬ g < x.1) := by
  refine ⟨fun hx => ?_, fun hx x hm => ?_⟩
  · have e : l = l.take k ++ l[k] :: l.drop (k + 1) := by rw [← List.drop_eq_getElem_cons hk, List.take_append_drop]
    have hn : (l.take k).find? (fun b => decide (g < b.1)) = none := List.find?_eq_none.2 fun x hx => by simpa using h x hx
    conv => lhs; rw [e]
    rw [List.find?_append, hn]
    simp [List.find?, hx]
  · rw [List.take_succ_eq_append_getElem hk] at hm
    rcases List.mem_append.1 hm with hm | hm
    · exact h x hm
    · obtain rfl := List.mem_singleton.1 hm
      exact hx

set_option maxRecDepth 100000 in
set_option maxHeartbeats 4000000 in
theorem checkBacks_any (hR : Rd n₀ rb tb cap s w σ d fc fa bv) : Calls Tryd.prog 23 #[.pointer (some ⟨rb, 0, none⟩)] w (CPost n₀ rb w (σ.bk.find? fun b => decide (σ.g < b.1))) := by
  have hO := (own_bk hR.own).set
  obtain ⟨A, cp, hbv, hcp, _⟩ := id hO
  rw [List.length_map] at hbv hcp
  subst hbv
  have c4 := hR.c4
  have HO := Lib.hid hO
  have HR := Lib.hid hR
  have hlen : σ.bk.length ≤ 256 := by have := hR.bnd; have := hR.pos; have := hR.len; omega
  have hg9 := hR.bnd.2.1
  have hbkr : Hid (∀ x ∈ σ.bk, x.1 ≤ 1000000) ∨ True := .inr trivial
  clear hO hR hbkr
  obtain ⟨r, hr⟩ : ∃ r, r = σ.bk.find? fun b => decide (σ.g < b.1) := ⟨_, rfl⟩
  rw [← hr]
  have HRr := Lib.hid hr
  clear hr
  go_enter Tryd.func23, Tryd.ntmps23
  go_wp2
  go_loopw [10] (fun i wr => ∃ k : Nat, k ≤ σ.bk.length ∧ i = .int .i64 k ∧ Hid (∀ x ∈ σ.bk.take k, ¬ σ.g < x.1) ∧ Below w.heap.size w wr) (fun i _ => σ.bk.length - (intOf i).toNat)
  case atStart => exact ⟨0, Nat.zero_le _, rfl, Lib.hid (by simp), Below.refl _ _⟩
  case round =>
    obtain ⟨k, hk, rfl, HH, hbel⟩ := hrel
    have hsz := hbel.size
    have HRr2 := Lib.hid (HR.out.on hbel)
    by_cases hlt : k < σ.bk.length
    · obtain ⟨b, off, lo, hi, rfl, hb, hget, c0, c1⟩ := (HO.out.below hbel).at_ (k := k) (by rw [List.length_map]; exact hlt)
      rw [List.getElem?_map, List.getElem?_eq_getElem hlt] at hget
      simp only [Option.map_some, Option.some.injEq, Prod.mk.injEq] at hget
      obtain ⟨g1, g2⟩ := hget
      subst g1 g2
      have HFT := Lib.hid (find_take (g := σ.g) hlt HH.out)
      have c3 := (HRr2.out.alloc (.cells #[.int .i64 (σ.bk[k].1 : Nat), .int .i64 (σ.bk[k].2 : Nat)] 59)).c3
      have c3r := HRr2.out.c3
      have hrl := HRr2.out.blk.lt
      obtain ⟨x, hx⟩ : ∃ x, x = σ.bk[k].1 := ⟨_, rfl⟩
      obtain ⟨y, hy⟩ : ∃ y, y = σ.bk[k].2 := ⟨_, rfl⟩
      have HX := Lib.hid hx
      have HY := Lib.hid hy
      rw [← hx] at c0 c3
      rw [← hy] at c1 c3
      clear hx hy HH
      by_cases hgt : σ.g < x
      · have hgt' : (σ.g : Int) < (x : Int) := by omega
        have HF : Hid (some (σ.bk[k].1, σ.bk[k].2) = r) := Lib.hid (by rw [HRr.out]; exact (HFT.out.1 (by rw [← HX.out]; exact hgt)).symm)
        rw [← HY.out] at HF
        have hF := HF.out
        subst hF
        clear HFT
        go_wp2
        go_quiet (fail)
        go_wp2_with fail
        refine (refuse_bad 26 y ((HRr2.out.alloc _).drewN _)).mono ?_
        rintro e w3 ⟨rfl, hB, hF3⟩
        go_wp2
        go_ret
        exact ⟨rfl, hB, (((Fr.refl w).trans ⟨hbel.os, hbel.tape, hbel.output, hbel.size, fun i hi _ => hbel.block i hi⟩).alloc _ |>.drewN _).trans hF3⟩
      · have hgt' : ¬ (σ.g : Int) < (x : Int) := by omega
        have HT := Lib.hid (HFT.out.2 (by rw [← HX.out]; exact hgt))
        clear HFT
        go_wp2
        go_quiet (fail)
        go_wp2
        go_roundw
        case rel => exact ⟨k + 1, by omega, by go_num, HT, (hbel.alloc hsz _).trans (Below.mono (bdrew _ _) (by simp; omega))⟩
        case measure => simp [intOf]; omega
    · obtain rfl : k = σ.bk.length := by omega
      have HF : Hid (none = r) := Lib.hid (by
        rw [HRr.out]
        exact (List.find?_eq_none.2 fun x hx => by simpa using HH.out x (by rw [List.take_length]; exact hx)).symm)
      have hF := HF.out
      subst hF
      go_wp2
      go_ret
      exact ⟨rfl, hbel⟩

end Go.Proofs.YthipgidddgdojaaDoor
