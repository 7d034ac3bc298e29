/- An escape that stands outside brackets. -/
import Derived.Test.YthipgidddgdojaaDoorPH
namespace Go.Proofs.YthipgidddgdojaaDoor
open Go.RowKit
open Go.Proofs.YthipgidddgdojaaDoor.Cl (Rg SetV SetAt rgCells Norm Rt gaps rgCells_get rgCells_len wpList_append_one info_three cell_two_at)
variable {n₀ rb tb cap d : Nat} {s : List UInt8} {w w' w2 : World} {σ σ1 : St} {fc fa : Int} {bv v : Value} {l : List Rg}

theorem pre_esc (c : UInt8) (t : List UInt8) (hc : c ≠ 0) : pre [92, c] t = decide (sign t = c.toNat) := by
  have hc' : ¬ (0 : Nat) = c.toNat := fun e => hc (by apply UInt8.toNat_inj.1; simpa using e.symm)
  match t with
  | [] => simp [pre, sign, at_nil, hc']
  | [a] =>
    have e1 : at_ [a] 1 = 0 := at_out (by simp)
    have e0 : at_ [a] 0 = a.toNat := rfl
    simp [pre, List.isPrefixOf, sign, e1, hc']
  | a :: b :: r =>
    have e1 : at_ (a :: b :: r) 1 = b.toNat := rfl
    have e0 : at_ (a :: b :: r) 0 = a.toNat := rfl
    rw [Bool.eq_iff_iff, decide_eq_true_eq]
    simp only [pre, List.isPrefixOf, Bool.and_true, Bool.and_eq_true, beq_iff_eq, sign, e0, e1]
    have ha : (92 : UInt8) = a ↔ a.toNat = 92 := ⟨fun e => by rw [← e]; rfl, fun e => (UInt8.toNat_inj.1 (by simpa using e)).symm⟩
    rw [ha]
    by_cases h : a.toNat = 92
    · rw [if_pos h]
      exact ⟨fun x => by rw [x.2], fun x => ⟨h, (UInt8.toNat_inj.1 x).symm⟩⟩
    · rw [if_neg h]
      exact ⟨fun x => absurd x.1 h, fun x => absurd x hc'⟩

theorem bk_rg (l : List (Nat × Nat)) : bkCells l = rgCells (l.map fun x => ((x.1 : Int), (x.2 : Int))) := by
  simp [bkCells, rgCells, List.flatMap_map]
theorem own_bk {base : Nat} {l : List (Nat × Nat)} (h : w.ownsRow base 59 2 v l.length (bkCells l)) : Cl.Own w base 59 v (l.map fun x => ((x.1 : Int), (x.2 : Int))) := by
  unfold Cl.Own
  rw [List.length_map, ← bk_rg]
  exact h
theorem bk_own {base : Nat} {l : List (Nat × Nat)} (h : Cl.Own w base 59 v (l.map fun x => ((x.1 : Int), (x.2 : Int)))) : w.ownsRow base 59 2 v l.length (bkCells l) := by
  unfold Cl.Own at h
  rwa [List.length_map, ← bk_rg] at h
theorem info59 : (Tryd.prog.info? 59).map (fun i => (i.zero, i.size, i.bytes)) = some (some (.agg #[.int .i64 0, .int .i64 0]), 2, 16) := by kernel_rfl

/-- A reference more: what lies elsewhere stays. -/
theorem push_keep (hR : Rd n₀ rb tb cap s w σ d fc fa bv) (hg : w.grownBy w2 bv.ownBlock) {i : Nat} (hi : i < w.heap.size) (hc : i < n₀ ∨ ¬ isBk w i) : w2.heap[i]? = w.heap[i]? :=
  hg.block i hi (by
    rcases hR.own.2 with ⟨rfl, _⟩ | ⟨g, c, cur, rfl, hb, hh, _⟩
    · simp [Value.ownBlock]
    · intro e
      have : i = g := by simpa [Value.ownBlock] using e
      subst this
      rcases hc with hc | hc
      · omega
      · exact hc ⟨cur, _, hh⟩)
theorem not_bk_of {i : Nat} {t : TypeId} {cs : Array Value} {z : Nat × Nat} (h : w.heap[i]? = some (.cells cs t z)) (ht : t ≠ 59) : ¬ isBk w i := fun ⟨_, _, hh⟩ => ne_of_types h hh ht rfl
theorem Rd.push (hR : Rd n₀ rb tb cap s w σ d fc fa bv) (hg : w.grownBy w2 bv.ownBlock) {x : Nat × Nat} {v' : Value} (hO : w2.ownsRow n₀ 59 2 v' (σ.bk ++ [x]).length (bkCells (σ.bk ++ [x]))) (hl : σ.bk.length + 1 ≤ σ.pos) :
    Rd n₀ rb tb cap s (w2.setCell ⟨rb, 4, none⟩ v') { pos := σ.pos, t := σ.t, g := σ.g, bk := σ.bk ++ [x] } d fc fa v' := by
  have hb : Blk w2 rb 51 _ := (push_keep hR hg hR.blk.lt (.inr (not_bk_of hR.blk (by decide)))).trans hR.blk
  have hb4 := hb.set_ 4 v'
  obtain ⟨ct, zt, ht⟩ := hR.tok
  have htr : tb ≠ rb := fun e => ne_of_types ht hR.blk (by decide) e
  have hk : ∀ i, i ≠ rb → i < w.heap.size → (i < n₀ ∨ ¬ isBk w i) → (w2.setCell ⟨rb, 4, none⟩ v').heap[i]? = w.heap[i]? := fun i h1 h2 h3 => (Below.heap_setCell _ _ _ _ h1).trans (push_keep hR hg h2 h3)
  have htb := hk tb htr (lt_of_some ht) (.inr (not_bk_of ht (by decide)))
  have hs := hR.size
  have hlow := hR.low
  have h1 := hR.tabs.1
  refine ⟨by simpa using hb4, fun j hj => (cell_same htb _).trans (hR.txt j hj), ⟨ct, zt, htb.trans ht⟩, hR.len, ?_, hR.pos, hR.suf, ⟨hR.bnd.1, hR.bnd.2.1, by simpa using hl⟩, hR.low, ?_⟩
  · exact own_keep hO fun _ hi => Below.heap_setCell _ _ _ _ (fun e => own_ne hO hb (by decide) (by rw [← hi, e]))
  · exact ⟨h1, fun c hc => (cell_same (hk 0 (by omega) (by omega) (.inl (by omega))) c).trans (hR.tabs.2.1 c hc),
      fun i hi => ⟨(cell_same (hk 1 (by omega) (by omega) (.inl h1)) _).trans (hR.tabs.2.2 i hi).1, (cell_same (hk 1 (by omega) (by omega) (.inl h1)) _).trans (hR.tabs.2.2 i hi).2⟩⟩
theorem own_slice {base n : Nat} {e : TypeId} {v : Value} {xs : List Value} {size : Nat} (h : w.ownsRow base e size v n xs) (hn : 0 < n) : ∃ g c, v = .slice (some ⟨g, 0, none⟩) n c := by
  rcases h.2 with ⟨_, h0⟩ | ⟨g, c, _, hv, _⟩
  · omega
  · exact ⟨g, c, hv⟩
theorem bk_push {base a p : Nat} {l : List (Nat × Nat)} (h : Cl.Own w base 59 v ((l.map fun x => ((x.1 : Int), (x.2 : Int))) ++ [((a : Int), (p : Int))])) : w.ownsRow base 59 2 v (l ++ [(a, p)]).length (bkCells (l ++ [(a, p)])) :=
  bk_own (by rw [List.map_append]; exact h)
theorem own_more {base : Nat} {x : Nat × Nat} {l : List (Nat × Nat)} {xs : List Value} (h : w.ownsRow base 59 2 v (l ++ [x]).length xs) : ∃ g c, v = .slice (some ⟨g, 0, none⟩) (l.length + 1) c := by
  obtain ⟨g, c, hv⟩ := own_slice h (by simp)
  exact ⟨g, c, by rw [hv, List.length_append]; rfl⟩
theorem Fr.push (hR : Rd n₀ rb tb cap s w σ d fc fa bv) (hg : w.grownBy w2 bv.ownBlock) : Fr n₀ rb w w2 :=
  ⟨hg.os, hg.tape, hg.output, hg.size, fun _ hi hc => push_keep hR hg hi (hc.imp id (fun h => h.2))⟩

theorem push_cell (hR : Rd n₀ rb tb cap s w σ d fc fa bv) (hg : w.grownBy w2 bv.ownBlock) : w2.cell? ⟨rb, 4, none⟩ = some bv ∧ w2.frozen? ⟨rb, 4, none⟩ = false := by
  have hb : Blk w2 rb 51 _ := (push_keep hR hg hR.blk.lt (.inr (not_bk_of hR.blk (by decide)))).trans hR.blk
  exact ⟨hb.cell 4, hb.frozen 4⟩
theorem push_zero (hR : Rd n₀ rb tb cap s w σ d fc fa bv) (hg : w.grownBy w2 bv.ownBlock) {g : Nat} (hB : Blk w g 27 zeros) : ∀ u, Blk (w2.setCell ⟨rb, 4, none⟩ u) g 27 zeros := fun u => by
  have hb : Blk w2 g 27 zeros := (push_keep hR hg hB.lt (.inr (not_bk_of hB (by decide)))).trans hB
  exact hb.far (p := ⟨rb, 4, none⟩) (ne_of_types hB hR.blk (by decide)) u

set_option maxRecDepth 100000 in
set_option maxHeartbeats 4000000 in
theorem escape_any (hR : Rd n₀ rb tb cap s w σ d fc fa bv) : Calls Tryd.prog 35 #[.pointer (some ⟨rb, 0, none⟩)] w (NPost n₀ rb tb cap s d fc fa w (escape σ)) := by
  have c1 := (hR.alloc (.cells zeros 27)).c1
  have c1' := hR.c1
  unfold zeros at c1
  have hrl := hR.blk.lt
  have HB0 := Lib.hid (Blk.new w 27 zeros)
  have HR0 := Lib.hid (hR.alloc (.cells zeros 27))
  have HF0 : Hid (Fr n₀ rb w (w.alloc (.cells zeros 27))) := Lib.hid ((Fr.refl w).alloc _)
  have HR := Lib.hid hR
  by_cases h1 : sign σ.t = 98
  · have hr : escape σ = .ok (edgeN 2, σ.adv 2) := by unfold escape; rw [if_pos h1]
    rw [hr]
    have HT := Lib.hid (take_yes [92, 98] (by rw [pre_esc 98 _ (by decide)]; simpa using h1) HR0.out)
    clear hR h1 hr
    go_enter Tryd.func35, Tryd.ntmps35
    go_wp2_with fail
    refine HT.out.mono ?_
    rintro e w1 ⟨rfl, hR1, hF1⟩
    have hB1 := hF1.blk HR0.out HB0.out (by decide) (by decide)
    have hz := hB1.zero
    have hfz := hB1.frozen
    have HR1 : Hid (Rd n₀ rb tb cap s w1 (σ.adv 2) d fc fa bv) := Lib.hid hR1
    clear hR1
    go_wp2
    exact ret_node rfl rfl rfl rfl (st7_blk hB1) ⟨_, _, bv, rfl, NodeV.leaf (SetK.nil _ _) (by simp), HR1.out.st7 hB1 HR.out.size, (HF0.out.trans hF1).st7 (Nat.le_refl _)⟩
  · have HN1 := Lib.hid (take_no [92, 98] (by rw [pre_esc 98 _ (by decide)]; simpa using h1) HR0.out)
    by_cases h2 : sign σ.t = 66
    · have hr : escape σ = .ok (edgeN 3, σ.adv 2) := by unfold escape; rw [if_neg h1, if_pos h2]
      rw [hr]
      have HT := Lib.hid (fun W (hW : Rd n₀ rb tb cap s W σ d fc fa bv) => take_yes [92, 66] (by rw [pre_esc 66 _ (by decide)]; simpa using h2) hW)
      clear hR h1 h2 hr
      go_enter Tryd.func35, Tryd.ntmps35
      go_wp2_with fail
      refine HN1.out.mono ?_
      rintro e w1 ⟨rfl, hb1⟩
      have hR1 := Lib.hid (HR0.out.on hb1)
      have hB1 := Lib.hid (HB0.out.on hb1)
      go_wp2_with fail
      refine (HT.out _ hR1.out).mono ?_
      rintro e w2 ⟨rfl, hR2, hF2⟩
      have hB2 := hF2.blk hR1.out hB1.out (by decide) (by decide)
      have hz := hB2.zero
      have hfz := hB2.frozen
      have HR2 : Hid (Rd n₀ rb tb cap s w2 (σ.adv 2) d fc fa bv) := Lib.hid hR2
      clear hR2
      go_wp2
      exact ret_node rfl rfl rfl rfl (st7_blk hB2) ⟨_, _, bv, rfl, NodeV.leaf (SetK.nil _ _) (by simp), HR2.out.st7 hB2 HR.out.size, ((HF0.out.trans (Fr.of_below hb1)).trans hF2).st7 (Nat.le_refl _)⟩
    · have HN2 := Lib.hid (fun W (hW : Rd n₀ rb tb cap s W σ d fc fa bv) => take_no [92, 66] (by rw [pre_esc 66 _ (by decide)]; simpa using h2) hW)
      by_cases h3 : 49 ≤ sign σ.t ∧ sign σ.t ≤ 57
      · have hr : escape σ = .ok (backN (sign σ.t - 48), refAt σ) := by unfold escape; rw [if_neg h1, if_neg h2, if_pos h3]
        rw [hr]
        have HG := Lib.hid (fun W (hW : Rd n₀ rb tb cap s W σ d fc fa bv) => group_yes h3 hW)
        have hl2 := (sign_len (t := σ.t) (by omega)).1
        have hl := hR.len
        have hbk := hR.bnd
        have hpos := hR.pos
        obtain ⟨c, hc⟩ : ∃ c, c = sign σ.t - 48 := ⟨_, rfl⟩
        rw [← hc] at HG ⊢
        have HC := Lib.hid hc
        obtain ⟨i0, hi, hz0, hz1, hz2⟩ := info_three info59
        clear hR h1 h2 h3 hr hc
        go_enter Tryd.func35, Tryd.ntmps35
        go_wp2_with fail
        refine HN1.out.mono ?_
        rintro e w1 ⟨rfl, hb1⟩
        have hR1 := Lib.hid (HR0.out.on hb1)
        have hB1 := Lib.hid (HB0.out.on hb1)
        go_wp2_with fail
        refine (HN2.out _ hR1.out).mono ?_
        rintro e w2 ⟨rfl, hb2⟩
        have hR2 := Lib.hid (hR1.out.on hb2)
        have hB2 := Lib.hid (hB1.out.on hb2)
        go_wp2_with fail
        refine (HG.out _ hR2.out).mono ?_
        rintro e w3 ⟨rfl, hR3, hF3⟩
        have hB3 := Lib.hid (hF3.blk hR2.out hB2.out (by decide) (by decide))
        have hF := ((HF0.out.trans (Fr.of_below hb1)).trans (Fr.of_below hb2)).trans hF3
        have c4 := hR3.c4
        have f4 := hR3.fz 4
        have hrl3 := hR3.blk.lt
        have hn3 := hR3.size
        have hO3 := Lib.hid (own_bk (hR3.alloc (.cells #[.int .i64 (c : Nat), .int .i64 (σ.pos : Nat)] 59)).own)
        have HR3 := Lib.hid hR3
        have hlen3 : (List.map (fun x : Nat × Nat => ((x.1 : Int), (x.2 : Int))) (σ.adv 2).bk).length ≤ 256 := by rw [List.length_map]; show σ.bk.length ≤ 256; omega
        clear hR3 hF3
        have HRa := Lib.hid (HR3.out.alloc (.cells #[.int .i64 (c : Nat), .int .i64 (σ.pos : Nat)] 59))
        have HBa := Lib.hid (hB3.out.alloc (.cells #[.int .i64 (c : Nat), .int .i64 (σ.pos : Nat)] 59))
        go_wp2_with (at_builtin; go_loud (refine wpList_append_one _ rfl _ _ 49 rfl n₀ 59 i0 (.agg #[.int .i64 0, .int .i64 0]) 16 Tryd.underlying49 hi hz0 hz1 hz2 rfl _ _ rfl hO3.out w3.heap.size 1 ((c : Int), (σ.pos : Int)) rfl (cell_two_at _ _ _ _ _ rfl) (by omega) rfl (by simp; omega) ?_; intro v' w4 hown' hgrow; have hO4 := bk_push hown'; clear hown'; obtain ⟨g9, c9, rfl⟩ := own_more hO4; have HO4 := Lib.hid hO4; clear hO4; obtain ⟨c44, f44⟩ := push_cell HRa.out hgrow; have hB5 := push_zero HRa.out hgrow HBa.out; have hz := fun u => (hB5 u).zero; have hfz := fun u => (hB5 u).frozen))
        have hRf := HRa.out.push hgrow HO4.out (show σ.bk.length + 1 ≤ σ.pos + 2 by omega)
        have hsf : refAt σ = { pos := (σ.adv 2).pos, t := (σ.adv 2).t, g := (σ.adv 2).g, bk := (σ.adv 2).bk ++ [(c, σ.pos)] } := by unfold refAt; rw [← HC.out]; rfl
        rw [← hsf] at hRf
        exact ret_node rfl rfl rfl rfl (st7_blk (hB5 _)) ⟨_, _, _, rfl, NodeV.leaf (SetK.nil _ _) (by simp), hRf.st7 (hB5 _) HR.out.size, (((hF.alloc _).trans (Fr.push HRa.out hgrow)).set_ HR.out.low (.inr rfl) _).st7 (Nat.le_refl _)⟩
      · have HG := Lib.hid (fun W (hW : Rd n₀ rb tb cap s W σ d fc fa bv) => group_no h3 hW)
        have HS := Lib.hid (fun W (hW : Rd n₀ rb tb cap s W σ d fc fa bv) => shorthand_any hW)
        have HU := Lib.hid (fun W (hW : Rd n₀ rb tb cap s W σ d fc fa bv) => escUnit_any hW)
        obtain ⟨r, hr⟩ : ∃ r, r = escape σ := ⟨_, rfl⟩
        have he : escape σ = (match units (sign σ.t) with
          | some l => .ok (setN l, σ.adv 2)
          | none => match escUnit σ with
            | .error e => .error e
            | .ok (u, σ1) => .ok (setN [((u : Int), (u : Int))], σ1)) := by unfold escape; rw [if_neg h1, if_neg h2, if_neg h3]; rfl
        have hul := fun l (h : units (sign σ.t) = some l) => (units_ok h).2
        rw [← hr] at he ⊢
        obtain ⟨ru, hru⟩ : ∃ ru, ru = units (sign σ.t) := ⟨_, rfl⟩
        obtain ⟨rm, hrm⟩ : ∃ rm, rm = escUnit σ := ⟨_, rfl⟩
        rw [← hru] at HS he hul
        rw [← hrm] at HU he
        have HE := Lib.hid he
        have HUL := Lib.hid hul
        clear hR h1 h2 h3 hr he hru hrm hul
        go_enter Tryd.func35, Tryd.ntmps35
        go_wp2_with fail
        refine HN1.out.mono ?_
        rintro e w1 ⟨rfl, hb1⟩
        have hR1 := Lib.hid (HR0.out.on hb1)
        have hB1 := Lib.hid (HB0.out.on hb1)
        go_wp2_with fail
        refine (HN2.out _ hR1.out).mono ?_
        rintro e w2 ⟨rfl, hb2⟩
        have hR2 := Lib.hid (hR1.out.on hb2)
        have hB2 := Lib.hid (hB1.out.on hb2)
        go_wp2_with fail
        refine (HG.out _ hR2.out).mono ?_
        rintro e w3 ⟨rfl, hb3⟩
        have hR3 := Lib.hid (hR2.out.on hb3)
        have hB3 := Lib.hid (hB2.out.on hb3)
        have hF := ((HF0.out.trans (Fr.of_below hb1)).trans (Fr.of_below hb2)).trans (Fr.of_below hb3)
        go_wp2_with fail
        refine (HS.out _ hR3.out).mono ?_
        rintro e w4 hP
        cases ru with
        | some l =>
          obtain ⟨v, rfl, hS, hR4, hF4⟩ := hP
          obtain ⟨A4, p4, rfl, hp4, hx4⟩ := id hS
          clear hp4 hx4
          have hB4 := hF4.blk hR3.out hB3.out (by decide) (by decide)
          have hz := hB4.zero
          have hfz := hB4.frozen
          have HP := Lib.hid (And.intro hS (And.intro hR4 (hF.trans hF4)))
          have he := HE.out
          simp only at he
          subst he
          have hll := HUL.out l rfl
          clear hS hR4 hF4 hF
          go_wp2
          exact ret_node rfl rfl rfl rfl (st7_blk hB4) ⟨_, _, bv, rfl, NodeV.leaf ((HP.out.1.st7 hB4).ok (HP.out.2.1.st7 hB4 HR.out.size)) (by omega), HP.out.2.1.st7 hB4 HR.out.size, HP.out.2.2.st7 (Nat.le_refl _)⟩
        | none =>
          obtain ⟨rfl, hb4⟩ := hP
          have hR4 := Lib.hid (hR3.out.on hb4)
          have hB4 := Lib.hid (hB3.out.on hb4)
          replace hF := hF.trans (Fr.of_below hb4)
          go_wp2_with fail
          refine (HU.out _ hR4.out).mono ?_
          rintro e w5 hP
          cases rm with
          | error f =>
            obtain ⟨rfl, hB, hF5⟩ := hP
            have he := HE.out
            simp only at he
            subst he
            have hB5 := hF5.blk hR4.out hB4.out (by decide) (by decide)
            have hz := hB5.zero
            have hfz := hB5.frozen
            go_wp2
            exact ret_node rfl rfl rfl rfl (st7_blk hB5) ⟨rfl, hB.st7 (by omega), (hF.trans hF5).st7 (Nat.le_refl _)⟩
          | ok y =>
            obtain ⟨u, σa⟩ := y
            obtain ⟨rfl, hR5, hF5⟩ := hP
            have he := HE.out
            simp only at he
            subst he
            have hB5 := Lib.hid (hF5.blk hR4.out hB4.out (by decide) (by decide))
            replace hF := hF.trans hF5
            have HR5 : Hid (Rd n₀ rb tb cap s w5 σa d fc fa bv) := Lib.hid hR5
            clear hR5 hF5
            go_wp2_with fail
            refine (one_any u _).mono ?_
            rintro e w6 ⟨sv, rfl, hS, hb6⟩
            obtain ⟨A4, p4, rfl, hp4, hx4⟩ := id hS
            clear hp4 hx4
            have hB6 := hB5.out.on hb6
            have hz := hB6.zero
            have hfz := hB6.frozen
            have hR6 := Lib.hid (HR5.out.on hb6)
            have HS := Lib.hid hS
            clear hS
            go_wp2
            exact ret_node rfl rfl rfl rfl (st7_blk hB6) ⟨_, _, bv, rfl, NodeV.leaf ((HS.out.st7 hB6).ok (hR6.out.st7 hB6 HR.out.size)) (by simp), hR6.out.st7 hB6 HR.out.size, (hF.trans (Fr.of_below hb6)).st7 (Nat.le_refl _)⟩

end Go.Proofs.YthipgidddgdojaaDoor
