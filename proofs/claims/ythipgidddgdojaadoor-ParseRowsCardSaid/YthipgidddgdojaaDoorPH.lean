/- A class. -/
import Derived.Test.YthipgidddgdojaaDoorPN
namespace Go.Proofs.YthipgidddgdojaaDoor
open Go.RowKit
open Go.Proofs.YthipgidddgdojaaDoor.Cl (Rg SetV SetAt rgCells Norm Rt gaps GivesO not_own make_own rgCells_get rgCells_len mkSet_norm wpList_append_set info_three)
variable {n₀ rb tb cap d : Nat} {s : List UInt8} {w w' : World} {σ σ1 : St} {fc fa : Int} {bv v : Value} {l : List Rg}

def nodeOf (rm : Except Flt (List Rg × St)) : R := match rm with | .error e => .error e | .ok (l, σ1) => .ok (setN l, σ1)
theorem SetR.st7 {g : Nat} {cs : Array Value} {c0 c1 c2 c3 c4 c5 c6 : Value} (h : SetR w v l) (hg : Blk w g 27 cs) : SetR (st7 w g c0 c1 c2 c3 c4 c5 c6) v l := SetK.keep h fun b hb => by
  obtain ⟨cs', z, hh⟩ := hb
  have hs := st7_heap (w := w) (c0 := c0) (c1 := c1) (c2 := c2) (c3 := c3) (c4 := c4) (c5 := c5) (c6 := c6) (ne_of_types hh hg (by decide))
  exact ⟨⟨cs', z, hs.trans hh⟩, hs⟩
theorem len_ne0 {l : List Rg} (h : l ≠ []) : 1 ≤ l.length := by cases l <;> simp_all
/-- What a round of the class's loop keeps. -/
def BRel (n₀ rb tb cap : Nat) (s : List UInt8) (d : Nat) (fc fa : Int) (bv : Value) (op : Nat) (neg : Bool) (w : World) (r : Except Flt (List Rg × St)) (g : Nat) (m : Value) (wr : World) : Prop :=
  ∃ (k : Nat) (acc : List Rg) (σ' : St), σ'.t.length ≤ g ∧ σ'.t.length + 1 ≤ k ∧ acc.length + 5 * σ'.t.length ≤ 5 * s.length ∧ members op neg k acc σ' = r ∧ Cl.Own wr (w.heap.size + 1) 39 m acc ∧ (∀ x ∈ acc, Rt x) ∧
    Rd n₀ rb tb cap s wr σ' d fc fa bv ∧ Fr n₀ rb w wr ∧ Blk wr w.heap.size 27 zeros

set_option maxRecDepth 100000 in
set_option maxHeartbeats 4000000 in
theorem brackets_any (hc : at_ σ.t 0 = 91) (hR : Rd n₀ rb tb cap s w σ d fc fa bv) : Calls Tryd.prog 34 #[.pointer (some ⟨rb, 0, none⟩)] w (NPost n₀ rb tb cap s d fc fa w (brackets σ)) := by
  have c1 := (hR.alloc (.cells zeros 27)).c1
  unfold zeros at c1
  have hl0 := len_ne (at_ne (t := σ.t) (by omega))
  have ht := hR.tl
  have HT1 := Lib.hid (fun W (hW : Rd n₀ rb tb cap s W σ d fc fa bv) => take_yes [91] (by rw [pre_one 91 _ (by decide)]; simpa using hc) hW)
  have HR := Lib.hid hR
  obtain ⟨rm, hrm⟩ : ∃ rm, rm = members σ.pos (negAt σ) 300 [] (behindNeg σ) := ⟨_, rfl⟩
  have hbr : brackets σ = nodeOf rm := by rw [hrm]; rfl
  obtain ⟨r, hr⟩ : ∃ r, r = brackets σ := ⟨_, rfl⟩
  rw [← hr] at hbr ⊢
  have HBR := Lib.hid hbr
  have HRM := Lib.hid hrm
  clear hbr hr hrm hR hc
  obtain ⟨i0, hi, hz0, hz1, hz2⟩ := info_three Cl.info46
  go_enter Tryd.func34, Tryd.ntmps34
  go_wp2_with fail
  refine (HT1.out _ (HR.out.alloc _)).mono ?_
  rintro e w1 ⟨rfl, hR1, hF1⟩
  replace hR1 : Rd n₀ rb tb cap s w1 (σ.adv 1) d fc fa bv := hR1
  have hB1 := hF1.blk (HR.out.alloc _) (Blk.new w 27 zeros) (by decide) (by decide)
  replace hF1 : Fr n₀ rb w w1 := ((Fr.refl w).alloc (.cells zeros 27)).trans hF1
  have HR1 := Lib.hid hR1
  clear hR1
  obtain ⟨neg, hneg⟩ : ∃ neg, neg = negAt σ := ⟨_, rfl⟩
  have key : Calls Tryd.prog 19 #[.pointer (some ⟨rb, 0, none⟩), .string ⟨[94].toArray⟩] w1 fun e w' => e = .returned (.bool neg) ∧ Rd n₀ rb tb cap s w' (behindNeg σ) d fc fa bv ∧ Fr n₀ rb w1 w' := by
    unfold behindNeg
    rw [← hneg]
    cases neg with
    | true =>
      have : at_ (σ.adv 1).t 0 = 94 := by simpa [negAt] using hneg.symm
      exact (take_yes [94] (by rw [pre_one 94 _ (by decide)]; simpa using this) HR1.out).mono fun _ _ h => h
    | false =>
      have : ¬ at_ (σ.adv 1).t 0 = 94 := by simpa [negAt] using hneg.symm
      exact (take_no [94] (by rw [pre_one 94 _ (by decide)]; simpa using this) HR1.out).mono fun _ _ ⟨h1, h2⟩ => ⟨h1, HR1.out.on h2, Fr.of_below h2⟩
  have hbl : (behindNeg σ).t.length ≤ σ.t.length - 1 := by
    unfold behindNeg
    split
    · rw [adv_len, adv_len]; omega
    · rw [adv_len]; omega
  have KEY := Lib.hid key
  rw [← hneg] at HRM
  clear key hneg
  obtain ⟨σ0, hσ0⟩ : ∃ σ0, σ0 = behindNeg σ := ⟨_, rfl⟩
  rw [← hσ0] at HRM KEY hbl
  clear hσ0
  go_wp2_with fail
  refine KEY.out.mono ?_
  rintro e w2 ⟨rfl, hR2, hF2⟩
  have hB2 := hF2.blk HR1.out hB1 (by decide) (by decide)
  replace hF1 := hF1.trans hF2
  have hpos := HR.out.pos
  have hl := HR.out.len
  have h0 : BRel n₀ rb tb cap s d fc fa bv σ.pos neg w rm s.length (.slice none 0 0) w2 :=
    ⟨300, [], σ0, by omega, by omega, by simp; omega, HRM.out.symm, Cl.Own.nil _ _ _, by simp, hR2, hF1, hB2⟩
  have H0 := Lib.hid h0
  clear h0 hR2 hF2 hB1 hB2 hF1 hbl hpos
  go_wp2
  go_loopg [6] s.length (fun g m wr => BRel n₀ rb tb cap s d fc fa bv σ.pos neg w rm g m wr)
  case atStart => exact H0.out
  case round =>
    clear H0 HRM KEY HT1 c1
    obtain ⟨k, acc, σ', hg, hk, hacc, hmem, hown, hRt, hRr, hFr, hBr⟩ := hrel
    obtain ⟨k, rfl⟩ : ∃ k', k = k' + 1 := ⟨k - 1, by omega⟩
    rw [members] at hmem
    have hlenw : w.heap.size < wr.heap.size := hBr.lt
    obtain ⟨A6, cp6, rfl, hcp6, hx6⟩ := id hown.set
    clear hx6
    have HRR := Lib.hid hRr
    have HO := Lib.hid hown
    have HF := Lib.hid hFr
    have HBk := Lib.hid hBr
    have HRT := Lib.hid hRt
    have HME := Lib.hid hmem
    have hRd := hRr
    clear hRr hown hFr hBr hRt hmem
    by_cases c93 : at_ σ'.t 0 = 93
    · have HS := Lib.hid (sees_one 93 true (by decide) (by simpa using c93) hRd)
      have hm := HME.out
      rw [if_pos c93] at hm
      have hS0 := Lib.hid (SetR.of_own HO.out)
      by_cases hacc0 : acc = []
      · subst hacc0
        rw [if_pos (show ([] : List Rg).isEmpty = true from rfl)] at hm
        have hr := HBR.out
        rw [← hm] at hr
        subst hr
        clear hm HBR HME hRd c93
        go_wp2_with fail
        refine HS.out.mono ?_
        rintro e w3 ⟨rfl, hb3⟩
        go_wp2_with fail
        refine (refuse_bad 22 σ.pos (HRR.out.on hb3)).mono ?_
        rintro e w5 ⟨rfl, hB, hF5⟩
        have hB5 := hF5.blk (HRR.out.on hb3) (HBk.out.on hb3) (by decide) (by decide)
        have hz := hB5.zero
        have hfz := hB5.frozen
        go_wp2
        exact ret_node rfl rfl rfl rfl (st7_blk hB5) ⟨rfl, hB.st7 (by have := HR.out.blk.lt; omega), (((HF.out.trans (Fr.of_below hb3))).trans hF5).st7 (Nat.le_refl _)⟩
      · have hne := len_ne0 hacc0
        rw [if_neg (by simpa using hacc0)] at hm
        have hr := HBR.out
        rw [← hm] at hr
        have HBR := Lib.hid hr
        have hT := Lib.hid (fun W (hW : Rd n₀ rb tb cap s W σ' d fc fa bv) => take_yes [93] (by rw [pre_one 93 _ (by decide)]; simpa using c93) hW)
        have hl5 : acc.length ≤ 5 * 256 := by omega
        have HMK := Lib.hid (mkSet_norm HRT.out)
        have hne' : ((acc.length : Int) == 0) = false := by simp; omega
        clear hm HME hRd c93 hr hacc0
        go_wp2_with fail
        refine HS.out.mono ?_
        rintro e w3 ⟨rfl, hb3⟩
        have hR3 := Lib.hid (HRR.out.on hb3)
        have hB3 := Lib.hid (HBk.out.on hb3)
        have hS3 := Lib.hid (hS0.out.on hb3)
        go_wp2_with fail
        refine (hT.out _ hR3.out).mono ?_
        rintro e w4 ⟨rfl, hR4', hF4⟩
        have hR4 : Hid (Rd n₀ rb tb cap s w4 (σ'.adv 1) d fc fa bv) := Lib.hid hR4'
        have hB4 := Lib.hid (hF4.blk hR3.out hB3.out (by decide) (by decide))
        have hS4 := Lib.hid (hS3.out.fr hR3.out hF4)
        have hF := (HF.out.trans (Fr.of_below hb3)).trans hF4
        clear hR4'
        go_wp2_with fail
        refine (make_own _ acc _ (by omega) HRT.out hS4.out.setV).mono ?_
        rintro e w5 ⟨v5, rfl, hO5, hb5⟩
        obtain ⟨A5, p5, rfl, hp5, hx5⟩ := id hO5.set
        clear hp5 hx5
        have hS5 := Lib.hid (SetR.of_own hO5)
        have hR5 := Lib.hid (hR4.out.on hb5)
        have hB5 := Lib.hid (hB4.out.on hb5)
        replace hF := hF.trans (Fr.of_below hb5)
        clear hO5
        cases neg with
        | false =>
          have hr := HBR.out
          rw [if_neg (by decide)] at hr
          subst hr
          have hz := hB5.out.zero
          have hfz := hB5.out.frozen
          go_wp2
          exact ret_node rfl rfl rfl rfl (st7_blk hB5.out) ⟨_, _, bv, rfl, NodeV.leaf ((hS5.out.st7 hB5.out).ok (hR5.out.st7 hB5.out HR.out.size)) (by have := HMK.out.2; omega), hR5.out.st7 hB5.out HR.out.size, hF.st7 (Nat.le_refl _)⟩
        | true =>
          have hr := HBR.out
          rw [if_pos rfl] at hr
          subst hr
          go_wp2_with fail
          refine (not_own _ (mkSet acc) _ (by have := HMK.out.2; omega) hS5.out.setV HMK.out.1).mono ?_
          rintro e w6 ⟨v6, rfl, hO6, hb6⟩
          obtain ⟨A7, p7, rfl, hp7, hx7⟩ := id hO6.set
          clear hp7 hx7
          have hS6 := Lib.hid (SetR.of_own hO6)
          have hR6 := Lib.hid (hR5.out.on hb6)
          have hB6 := Lib.hid (hB5.out.on hb6)
          replace hF := hF.trans (Fr.of_below hb6)
          clear hO6
          have hz := hB6.out.zero
          have hfz := hB6.out.frozen
          go_wp2
          exact ret_node rfl rfl rfl rfl (st7_blk hB6.out) ⟨_, _, bv, rfl, NodeV.leaf ((hS6.out.st7 hB6.out).ok (hR6.out.st7 hB6.out HR.out.size)) (by have := HMK.out.2; have := Cl.gaps_len (mkSet acc) 0; omega), hR6.out.st7 hB6.out HR.out.size, hF.st7 (Nat.le_refl _)⟩
    · have HS := Lib.hid (sees_one 93 false (by decide) (by simpa using c93) hRd)
      have hm := HME.out
      rw [if_neg c93] at hm
      cases he : σ'.t.isEmpty with
      | true =>
        rw [if_pos he] at hm
        have hr := HBR.out
        rw [← hm] at hr
        subst hr
        have HE := Lib.hid (fun W (hW : Rd n₀ rb tb cap s W σ' d fc fa bv) => by have := ended_any hW; rw [he] at this; exact this)
        clear hm HBR HME hRd he c93
        go_wp2_with fail
        refine HS.out.mono ?_
        rintro e w3 ⟨rfl, hb3⟩
        have hR3 := Lib.hid (HRR.out.on hb3)
        go_wp2_with fail
        refine (HE.out _ hR3.out).mono ?_
        rintro e w4 ⟨rfl, hb4⟩
        go_wp2_with fail
        refine (refuse_bad 22 σ.pos (hR3.out.on hb4)).mono ?_
        rintro e w5 ⟨rfl, hB, hF5⟩
        have hB5 := hF5.blk (hR3.out.on hb4) ((HBk.out.on hb3).on hb4) (by decide) (by decide)
        have hz := hB5.zero
        have hfz := hB5.frozen
        go_wp2
        exact ret_node rfl rfl rfl rfl (st7_blk hB5) ⟨rfl, hB.st7 (by have := HR.out.blk.lt; omega), ((((HF.out.trans (Fr.of_below hb3)).trans (Fr.of_below hb4)).trans hF5)).st7 (Nat.le_refl _)⟩
      | false =>
        have hn : σ'.t ≠ [] := by rintro e; rw [e] at he; cases he
        rw [if_neg (by rw [he]; decide)] at hm
        have HE := Lib.hid (fun W (hW : Rd n₀ rb tb cap s W σ' d fc fa bv) => by have := ended_any hW; rw [he] at this; exact this)
        have HMb := Lib.hid (fun W (hW : Rd n₀ rb tb cap s W σ' d fc fa bv) => member_any hn hW)
        have hml := fun l σa (h : member σ' = .ok (l, σa)) => member_len h hn
        obtain ⟨rx, hrx⟩ : ∃ rx, rx = member σ' := ⟨_, rfl⟩
        rw [← hrx] at hm HMb hml
        have HM := Lib.hid hm
        have HML := Lib.hid hml
        clear hm HME hRd he c93 hn hrx hml
        go_wp2_with fail
        refine HS.out.mono ?_
        rintro e w3 ⟨rfl, hb3⟩
        have hR3 := Lib.hid (HRR.out.on hb3)
        have hB3 := Lib.hid (HBk.out.on hb3)
        have hO3 : Hid (Cl.Own w3 (w.heap.size + 1) 39 (.slice A6 acc.length cp6) acc) := Lib.hid (HO.out.below hb3)
        go_wp2_with fail
        refine (HE.out _ hR3.out).mono ?_
        rintro e w4 ⟨rfl, hb4⟩
        have hR4 := Lib.hid (hR3.out.on hb4)
        have hB4 := Lib.hid (hB3.out.on hb4)
        have hO4 : Hid (Cl.Own w4 (w.heap.size + 1) 39 (.slice A6 acc.length cp6) acc) := Lib.hid (hO3.out.below hb4)
        have hF := (HF.out.trans (Fr.of_below hb3)).trans (Fr.of_below hb4)
        go_wp2_with fail
        refine (HMb.out _ hR4.out).mono ?_
        rintro e w5 hP
        cases rx with
        | error f =>
          obtain ⟨rfl, hB, hF5⟩ := hP
          have hr := HBR.out
          have hm := HM.out
          simp only at hm
          rw [← hm] at hr
          subst hr
          have hB5 := hF5.blk hR4.out hB4.out (by decide) (by decide)
          have hz := hB5.zero
          have hfz := hB5.frozen
          replace hF := hF.trans hF5
          clear hm
          go_wp2
          exact ret_node rfl rfl rfl rfl (st7_blk hB5) ⟨rfl, hB.st7 (by have := HR.out.blk.lt; omega), hF.st7 (Nat.le_refl _)⟩
        | ok y =>
          obtain ⟨lm, σa⟩ := y
          obtain ⟨vm, rfl, hSm, hR5, hF5⟩ := hP
          obtain ⟨A8, p8, rfl, hp8, hx8⟩ := id hSm
          clear hp8 hx8
          obtain ⟨m1, m2, m3, _⟩ := HML.out lm σa rfl
          have hB5 := Lib.hid (hF5.blk hR4.out hB4.out (by decide) (by decide))
          have hO5 : Hid (Cl.Own w5 (w.heap.size + 1) 39 (.slice A6 acc.length cp6) acc) := Lib.hid (own_keep hO4.out fun i hi => by
            have h0 : w4.ownsRow (w.heap.size + 1) 39 2 (.slice A6 acc.length cp6) acc.length (rgCells acc) := hO4.out
            rcases h0.2 with ⟨hv, _⟩ | ⟨g, c', cur, hv, _, hh, _⟩
            · rw [hv] at hi; simp [Value.ownBlock] at hi
            · rw [hv] at hi
              have : i = g := by simpa [Value.ownBlock] using hi
              subst this
              exact hF5.same (okB.of_type hh (by decide) (ne_of_types hh hR4.out.blk (by decide))))
          replace hF := hF.trans hF5
          have hSV := Lib.hid (SetR.setV hSm)
          have HR5 := Lib.hid hR5
          have HM2 := Lib.hid (And.intro m2 (And.intro HM.out HRT.out))
          have hsz5 : w.heap.size + 1 ≤ w5.heap.size := hB5.out.lt
          have hl5 : acc.length + lm.length ≤ 5 * 256 := by omega
          clear hSm hR5 m2 HM HRT hF5
          go_wp2_with (at_builtin; refine wpList_append_set _ rfl _ _ 24 rfl (w.heap.size + 1) 39 i0 (.agg #[.int .i64 0, .int .i64 0]) 16 Tryd.underlying24 hi hz0 hz1 hz2 rfl _ _ rfl hO5.out _ _ _ rfl hSV.out (by unfold maxLen; omega) (by omega) hsz5 ?_; intro v' w6 hown' hgrow)
          go_roundg σa.t.length
          case measure => omega
          case rel =>
            have h0 : w5.ownsRow (w.heap.size + 1) 39 2 (.slice A6 acc.length cp6) acc.length (rgCells acc) := hO5.out
            refine ⟨k, acc ++ lm, σa, Nat.le_refl _, by omega, by rw [List.length_append]; omega, HM2.out.2.1, hown', ?_, HR5.out.grown h0 (by decide) (by decide) (by decide) (by have := HR.out.size; omega) hgrow, hF.grown hgrow (fun k hk => by have := (h0.lt k hk).1; omega), hB5.out.grown hgrow (fun e => own_ne h0 hB5.out (by decide) e.symm)⟩
            intro x hx
            rcases List.mem_append.1 hx with hx | hx
            · exact HM2.out.2.2 x hx
            · exact HM2.out.1 x hx

end Go.Proofs.YthipgidddgdojaaDoor
