/- Joined: VdM, VdP, VdR, VdC. -/
import Derived.Test.YtefgobmpleoafaaGreatDoorJRc
import Derived.Test.YtefgobmpleoafaaGreatDoorJSf
import Derived.Test.YtefgobmpleoafaaGreatDoorJModel
import Derived.Test.YtefgobmpleoafaaGreatDoorJRb
/- Layer 8, as functions over a pattern's verdict: a set's, and a change's. Of no program. -/
namespace Go.Proofs.YtefgobmpleoafaaGreatDoor

/-- of the first rule whose pattern isn't right: code, ID, byte -/
def badR (p : ByteArray → Int × Int) : List Ru → Int × Int × Int
  | [] => (0, 0, 0)
  | r :: l => if (p r.pat).1 = 0 then badR p l else ((p r.pat).1, r.id, (p r.pat).2)
def rulesM (p : ByteArray → Int × Int) (s : RS) : Int × Int × Int := if s.Ok then badR p s.rs else (10, 0, 0)
def changeM (p : ByteArray → Int × Int) (s : RS) (d : Dl) : RS × (Int × Int × Int) :=
  if (applyM s d).2 = 0 then (if (rulesM p (applyM s d).1).1 = 0 then ((applyM s d).1, (0, 0, 0)) else (.zero, rulesM p (applyM s d).1)) else (.zero, ((applyM s d).2, 0, 0))
section
variable {p : ByteArray → Int × Int}
theorem badR_zero {l : List Ru} : (badR p l).1 = 0 ↔ ∀ r ∈ l, (p r.pat).1 = 0 := by
  induction l with
  | nil => simp [badR]
  | cons r l ih =>
    unfold badR
    by_cases h : (p r.pat).1 = 0
    · rw [if_pos h, ih]; simp [h]
    · rw [if_neg h]; simp [h]
theorem badR_none {l : List Ru} (h : ∀ r ∈ l, (p r.pat).1 = 0) : badR p l = (0, 0, 0) := by
  induction l with
  | nil => rfl
  | cons r l ih =>
    unfold badR
    rw [if_pos (h r (List.mem_cons_self ..))]
    exact ih fun x hx => h x (List.mem_cons_of_mem _ hx)
theorem badR_take {l : List Ru} {k : Nat} {r : Ru} (h : l[k]? = some r) (hn : ∀ x ∈ l.take k, (p x.pat).1 = 0) (hr : (p r.pat).1 ≠ 0) : badR p l = ((p r.pat).1, r.id, (p r.pat).2) := by
  induction l generalizing k with
  | nil => simp at h
  | cons x l ih =>
    cases k with
    | zero =>
      simp at h
      subst h
      unfold badR
      rw [if_neg hr]
    | succ k =>
      unfold badR
      rw [if_pos (hn x (by simp))]
      exact ih (by simpa using h) fun y hy => hn y (by simp [hy])
theorem badR_some {l : List Ru} (h : (badR p l).1 ≠ 0) : ∃ k r, l[k]? = some r ∧ (∀ x ∈ l.take k, (p x.pat).1 = 0) ∧ (p r.pat).1 ≠ 0 ∧ badR p l = ((p r.pat).1, r.id, (p r.pat).2) := by
  induction l with
  | nil => exact absurd rfl h
  | cons x l ih =>
    by_cases hx : (p x.pat).1 = 0
    · have e : badR p (x :: l) = badR p l := by
        show (if _ then _ else _) = _
        rw [if_pos hx]
      rw [e] at h ⊢
      obtain ⟨k, r, h1, h2, h3, h4⟩ := ih h
      refine ⟨k + 1, r, by simpa using h1, fun y hy => ?_, h3, h4⟩
      rw [List.take_succ_cons] at hy
      rcases List.mem_cons.1 hy with rfl | hy
      · exact hx
      · exact h2 y hy
    · exact ⟨0, x, rfl, by simp, hx, by show (if _ then _ else _) = _; rw [if_neg hx]⟩
theorem rulesM_ok {s : RS} : (rulesM p s).1 = 0 ↔ s.Ok ∧ ∀ r ∈ s.rs, (p r.pat).1 = 0 := by
  unfold rulesM
  by_cases h : s.Ok
  · rw [if_pos h, badR_zero]; simp [h]
  · rw [if_neg h]; simp [h]
theorem rulesM_none {s : RS} (h : (rulesM p s).1 = 0) : rulesM p s = (0, 0, 0) := by
  obtain ⟨h1, h2⟩ := rulesM_ok.1 h
  unfold rulesM
  rw [if_pos h1, badR_none h2]
/-- VerdictKeeps -/
theorem keepsV {s : RS} {d : Dl} (h : (rulesM p s).1 = 0) (hp : d.put = []) : (changeM p s d).2 = ((applyM s d).2, 0, 0) := by
  obtain ⟨h1, h2⟩ := rulesM_ok.1 h
  unfold changeM
  by_cases h3 : (applyM s d).2 = 0
  · rw [if_pos h3]
    have ht := taken_iff.1 h3
    have e := taken_eq ht
    have hr : (rulesM p (applyM s d).1).1 = 0 := by
      rw [e]
      refine rulesM_ok.2 ⟨ht.right, fun r hr => ?_⟩
      rcases (mem_after ht).1 hr with hr | ⟨hr, _⟩
      · rw [hp] at hr; simp at hr
      · exact h2 r hr
    rw [if_pos hr, h3]
  · rw [if_neg h3]
/-- VerdictPuts: the rule's own pattern is right. -/
theorem putsV_ok {s : RS} {x : Ru} (h : (rulesM p s).1 = 0) (hx : x.ok = true) (hf : (ins x s.rs).length ≤ 16) (hw : (p x.pat).1 = 0) : changeM p s ⟨-1, -1, -1, -1, [x], []⟩ = ({ s with rs := ins x s.rs }, (0, 0, 0)) := by
  obtain ⟨h1, h2⟩ := rulesM_ok.1 h
  unfold changeM
  rw [drop1_ok h1 hx hf]
  simp only [if_true]
  have hr : (rulesM p { s with rs := ins x s.rs }).1 = 0 := rulesM_ok.2 ⟨drop1_right h1 hx hf, fun r hr => by
    rcases mem_ins.1 hr with rfl | ⟨hr, _⟩
    · exact hw
    · exact h2 r hr⟩
  rw [if_pos hr]
theorem badR_ins {l : List Ru} {x : Ru} (h2 : ∀ r ∈ l, (p r.pat).1 = 0) (hw : (p x.pat).1 ≠ 0) : badR p (ins x l) = ((p x.pat).1, x.id, (p x.pat).2) := by
  refine badR_take (k := (l.filter fun y => decide (y.id < x.id)).length) ?_ (fun y hy => ?_) hw
  · unfold ins
    rw [List.getElem?_append_right (Nat.le_refl _), Nat.sub_self]
    rfl
  · unfold ins at hy
    rw [List.take_left] at hy
    exact h2 y (List.mem_filter.1 hy).1
theorem putsV_bad {s : RS} {x : Ru} (h : (rulesM p s).1 = 0) (hx : x.ok = true) (hf : (ins x s.rs).length ≤ 16) (hw : (p x.pat).1 ≠ 0) : changeM p s ⟨-1, -1, -1, -1, [x], []⟩ = (.zero, ((p x.pat).1, x.id, (p x.pat).2)) := by
  obtain ⟨h1, h2⟩ := rulesM_ok.1 h
  unfold changeM
  rw [drop1_ok h1 hx hf]
  simp only [if_true]
  have hr : rulesM p { s with rs := ins x s.rs } = ((p x.pat).1, x.id, (p x.pat).2) := by
    unfold rulesM
    rw [if_pos (drop1_right h1 hx hf)]
    exact badR_ins h2 hw
  rw [hr, if_neg hw]
theorem putsV_full {s : RS} {x : Ru} (h : (rulesM p s).1 = 0) (hx : x.ok = true) (hf : ¬ (ins x s.rs).length ≤ 16) : changeM p s ⟨-1, -1, -1, -1, [x], []⟩ = (.zero, (33, 0, 0)) ∧ x.id ∉ s.rs.map Ru.id ∧ s.rs.length = 16 := by
  obtain ⟨h1, h2⟩ := rulesM_ok.1 h
  obtain ⟨e1, e2, e3⟩ := drop1_full h1 hx hf
  refine ⟨?_, e2, e3⟩
  unfold changeM
  rw [e1, if_neg (by decide)]
/-- VerdictFirst: a step. -/
theorem firstV {s : RS} {last : Int} (h : s.Ok) (h0 : (rulesM p s).1 ≠ 0) (hl : ∀ r ∈ s.rs, (p r.pat).1 ≠ 0 → last < r.id) :
    last < (rulesM p s).2.1 ∧ (rulesM p s).2.1 ∈ s.rs.map Ru.id ∧ (∀ r ∈ gone (rulesM p s).2.1 s.rs, (p r.pat).1 ≠ 0 → (rulesM p s).2.1 < r.id) ∧ (gone (rulesM p s).2.1 s.rs).length + 1 = s.rs.length := by
  have e : rulesM p s = badR p s.rs := by unfold rulesM; rw [if_pos h]
  rw [e] at h0 ⊢
  obtain ⟨k, r, h1, h2, h3, h4⟩ := badR_some h0
  rw [h4]
  have hm : r ∈ s.rs := List.mem_of_getElem? h1
  have hi : r.id ∈ s.rs.map Ru.id := List.mem_map_of_mem hm
  refine ⟨hl r hm h3, hi, fun x hx hb => ?_, ?_⟩
  · obtain ⟨hx1, hx2⟩ := mem_gone.1 hx
    obtain ⟨j, hj⟩ := List.mem_iff_getElem?.1 hx1
    obtain ⟨hjl, ej⟩ := List.getElem?_eq_some_iff.1 hj
    obtain ⟨hkl, ek⟩ := List.getElem?_eq_some_iff.1 h1
    rcases Nat.lt_trichotomy j k with hlt | heq | hgt
    · exact absurd (h2 x (List.mem_take_iff_getElem.2 ⟨j, by omega, ej⟩)) hb
    · subst heq
      rw [ej] at ek
      exact absurd (congrArg Ru.id ek) hx2
    · have := List.pairwise_iff_getElem.1 h.2.2.2 k j hkl hjl hgt
      rw [ej, ek] at this
      exact this
  · have := gone_len (i := r.id) h.2.2.2
    rw [if_pos hi] at this
    exact this
end

end Go.Proofs.YtefgobmpleoafaaGreatDoor

/- Package verdict: Pattern. -/
namespace Go.Proofs.YtefgobmpleoafaaGreatDoor
open Go.RowKit
open Go.Proofs.YtefgobmpleoafaaGreatDoor.Cl (Rg)
variable {w w' : World}

/-- a pattern's verdict: code and byte -/
def pvR : Except Flt (Nd × Nat × Bool) → Int × Int
  | .error f => (((f.1 : Nat) : Int), ((f.2 : Nat) : Int))
  | .ok y => (((verdictN y.1 : Nat) : Int), 0)
def pvM (x : ByteArray) : Int × Int := pvR (parse 1026 x.data.toList)
theorem rul_on {n₀ : Nat} {v : Value} {l : List Ru} (h : RulesV n₀ w v l) (hB : Below n₀ w w') (hn : n₀ ≤ w'.heap.size) : RulesV w'.heap.size w' v l := (h.below hB).more hn

set_option maxRecDepth 100000 in
set_option maxHeartbeats 4000000 in
theorem vpat_any (x : ByteArray) (hx : x.size ≤ 1000000) (w : World) (hT : TabsAt w.heap.size w) :
    Calls Tryz.prog 38 #[.string x] w fun e w' => e = .returned (.agg #[.int .i64 (pvM x).1, .int .i64 0, .int .i64 (pvM x).2]) ∧ Below w.heap.size w w' := by
  have hb0 : Below w.heap.size w (w.alloc (.cells #[.int .i64 0, .int .i64 0, .int .i64 0] 42)) := (Below.refl _ _).alloc (Nat.le_refl _) _
  have hz0 : Blk (w.alloc (.cells #[.int .i64 0, .int .i64 0, .int .i64 0] 42)) w.heap.size 42 #[.int .i64 0, .int .i64 0, .int .i64 0] := Blk.new _ _ _
  have HT := Lib.hid (tabs_on hT hb0 hb0.size)
  have HB0 := Lib.hid hb0
  have HZ0 := Lib.hid hz0
  clear hb0 hz0 hT
  have HP : Hid (∀ W : World, TabsAt W.heap.size W → Calls Tryz.prog 51 #[.string x] W (ParsePost W (parse 1026 x.data.toList))) := Lib.hid (fun W hW => parse_any (s := x.data.toList) 1026 (by omega) (by have : x.data.toList.length = x.size := rfl; omega) hW)
  obtain ⟨v, hv⟩ : ∃ v, v = pvM x := ⟨_, rfl⟩
  rw [← hv]
  obtain ⟨r, hr⟩ : ∃ r, r = parse 1026 x.data.toList := ⟨_, rfl⟩
  have HV : Hid (v = pvR r) := Lib.hid (by rw [hv, hr]; rfl)
  rw [← hr] at HP
  have HR := Lib.hid hr
  clear hv hr
  go_enter Tryz.func38, Tryz.ntmps38
  go_wp2_with fail
  generalize w.alloc (.cells #[.int .i64 0, .int .i64 0, .int .i64 0] 42) = w0 at *
  refine (HP.out _ HT.out).mono ?_
  clear HP
  cases r with
  | error f =>
    rintro e w1 ⟨rfl, hb1⟩
    have hf : f.1 ≠ 0 := parse_code (Nat.le_refl _) HR.out.symm
    have hf1 : ((f.1 : Int) != 0) = true := by simp [hf]
    have HV1 : Hid (v = (((f.1 : Nat) : Int), ((f.2 : Nat) : Int))) := HV
    unfold zero9
    have P1 := Lib.hid (put_new w0 w1 #[.int .i64 0, .int .i64 0, .int .i64 0, .int .i64 0, .int .i64 0, .slice none 0 0, .slice none 0 0, .int .i64 0, .bool false] #[.int .i64 (f.1 : Nat), .int .i64 (f.2 : Nat)] hb1)
    go_upto_region 2 with (fail)
    generalize (w1.alloc (.cells #[.int .i64 0, .int .i64 0, .int .i64 0, .int .i64 0, .int .i64 0, .slice none 0 0, .slice none 0 0, .int .i64 0, .bool false] 119)).alloc (.cells #[.int .i64 (f.1 : Nat), .int .i64 (f.2 : Nat)] 121) = v1 at *
    have hc0 := P1.out.flt.cell 0
    have hc1 := P1.out.flt.cell 1
    have hlt := P1.out.flt.lt
    have hz := HZ0.out.on P1.out.keep
    have z0 := hz.cell 0
    have z1 := hz.cell 1
    have z2 := hz.cell 2
    have fz := hz.frozen
    have hlz := hz.lt
    have HBv := Lib.hid (HB0.out.trans (P1.out.keep.mono HB0.out.size))
    clear hz hf
    go_wp2
    refine bodyPost_ret (v := .agg #[.int .i64 (f.1 : Nat), .int .i64 0, .int .i64 (f.2 : Nat)]) (by simp [results, Tryz.results38, go_sem, *]) rfl ⟨by rw [HV1.out], ?_⟩
    exact ((HBv.out.setCell (Nat.le_refl _) _).setCell (Nat.le_refl _) _).setCell (Nat.le_refl _) _
  | ok y =>
    rintro e w1 ⟨A1, A2, p1, p2, rfl, hN, hb1⟩
    have HV1 : Hid (v = (((verdictN y.1 : Nat) : Int), 0)) := HV
    obtain ⟨nd, g, fo⟩ := y
    simp only at hN HV1 ⊢
    have HW := Lib.hid (parse_wf HR.out.symm)
    unfold pCells
    have P1 := Lib.hid (put_new w0 w1 #[.int .i64 nd.kind, .int .i64 nd.lo, .int .i64 nd.hi, .int .i64 nd.mode, .int .i64 nd.ref, .slice A1 nd.set.length p1, .slice A2 nd.kids.length p2, .int .i64 (g : Nat), .bool fo] #[.int .i64 0, .int .i64 0] hb1)
    have HN1 := Lib.hid (hN.on (put_on w1 #[.int .i64 nd.kind, .int .i64 nd.lo, .int .i64 nd.hi, .int .i64 nd.mode, .int .i64 nd.ref, .slice A1 nd.set.length p1, .slice A2 nd.kids.length p2, .int .i64 (g : Nat), .bool fo] #[.int .i64 0, .int .i64 0]))
    clear hN HR HV
    go_upto_region 2 with (fail)
    generalize (w1.alloc (.cells #[.int .i64 nd.kind, .int .i64 nd.lo, .int .i64 nd.hi, .int .i64 nd.mode, .int .i64 nd.ref, .slice A1 nd.set.length p1, .slice A2 nd.kids.length p2, .int .i64 (g : Nat), .bool fo] 119)).alloc (.cells #[.int .i64 0, .int .i64 0] 121) = v1 at *
    have hc0 := P1.out.flt.cell 0
    have hn := P1.out.node.nine
    have hln := P1.out.node.lt
    have hlt := P1.out.flt.lt
    have HC := Lib.hid (check_any nd HW.out (g : Nat) fo v1 A1 A2 p1 p2 HN1.out)
    obtain ⟨vc, hvc⟩ : ∃ vc, vc = verdictN nd := ⟨_, rfl⟩
    rw [← hvc] at HC HV1
    clear hvc
    have HBv := Lib.hid (HB0.out.trans (P1.out.keep.mono HB0.out.size))
    have HZ1 := Lib.hid (HZ0.out.on P1.out.keep)
    go_wp2_with fail
    refine HC.out.mono ?_
    rintro e w2 ⟨rfl, hb2⟩
    have hz := HZ1.out.on hb2
    have z0 := hz.cell 0
    have z1 := hz.cell 1
    have z2 := hz.cell 2
    have fz := hz.frozen
    have hlz := hz.lt
    have HB2 := Lib.hid (HBv.out.trans (hb2.mono HBv.out.size))
    clear hz hc0 hn hln hlt
    go_wp2
    refine bodyPost_ret (v := .agg #[.int .i64 (vc : Nat), .int .i64 0, .int .i64 0]) (by simp [results, Tryz.results38, go_sem, *]) rfl ⟨by rw [HV1.out], ?_⟩
    exact ((HB2.out.setCell (Nat.le_refl _) _).setCell (Nat.le_refl _) _).setCell (Nat.le_refl _) _

end Go.Proofs.YtefgobmpleoafaaGreatDoor

/- Package verdict: Rules. -/
namespace Go.Proofs.YtefgobmpleoafaaGreatDoor
open Go.RowKit
variable {w w' : World}

theorem rule_small {r : Ru} (h : r.ok = true) : r.pat.size ≤ 1000000 := by
  simp only [Ru.ok, decide_eq_true_eq] at h
  omega

set_option maxRecDepth 100000 in
set_option maxHeartbeats 4000000 in
theorem vrules_any (s : RS) (v : Value) (w : World) (hmax : s.rs.length ≤ 1000000) (hT : TabsAt w.heap.size w) (hS : RulesV w.heap.size w v s.rs) :
    Calls Tryz.prog 26 #[.agg #[.int .i64 s.de, .int .i64 s.cl, .int .i64 s.fu, .int .i64 s.st, v]] w
      fun e w' => e = .returned (.agg #[.int .i64 (rulesM pvM s).1, .int .i64 (rulesM pvM s).2.1, .int .i64 (rulesM pvM s).2.2]) ∧ Below w.heap.size w w' := by
  obtain ⟨A, cap, rfl⟩ := hS.form
  obtain ⟨w0, hw0⟩ : ∃ w0, w0 = ((w.alloc (.cells #[.int .i64 s.de, .int .i64 s.cl, .int .i64 s.fu, .int .i64 s.st, .slice A s.rs.length cap] 54)).alloc (.cells #[.int .i64 0, .int .i64 0, .int .i64 0] 42)) := ⟨_, rfl⟩
  have hb0 : Below w.heap.size w w0 := by rw [hw0]; exact ((Below.refl _ _).alloc (Nat.le_refl _) _).alloc (by simp) _
  have hx0 : Blk w0 w.heap.size 54 #[.int .i64 s.de, .int .i64 s.cl, .int .i64 s.fu, .int .i64 s.st, .slice A s.rs.length cap] := by rw [hw0]; exact (Blk.new _ _ _).alloc _
  have hz0 : Blk w0 (w.heap.size + 1) 42 #[.int .i64 0, .int .i64 0, .int .i64 0] := by rw [hw0]; exact Blk.at_new _ _ (by simp) _ _
  have HT0 := Lib.hid (tabs_on hT hb0 hb0.size)
  have HS0 := Lib.hid (hS.on hb0)
  have HB0 := Lib.hid hb0
  have HX0 := Lib.hid hx0
  have HZ0 := Lib.hid hz0
  clear hS hT hb0 hx0 hz0
  obtain ⟨V, hV⟩ : ∃ V, V = rulesM pvM s := ⟨_, rfl⟩
  rw [← hV]
  have HV := Lib.hid hV
  clear hV
  go_enter Tryz.func26, Tryz.ntmps26
  go_wp2_with fail
  rw [← hw0]
  clear hw0
  refine (setRight_any s _ w0 hmax HS0.out).mono ?_
  rintro e w1 ⟨rfl, hb1⟩
  have HT1 := Lib.hid (tabs_on HT0.out hb1 hb1.size)
  have HS1 := Lib.hid (HS0.out.on hb1)
  have HB1 := Lib.hid (HB0.out.trans (hb1.mono HB0.out.size))
  have HX1 := Lib.hid (HX0.out.on hb1)
  have HZ1 := Lib.hid (HZ0.out.on hb1)
  clear hb1 HT0 HS0 HB0 HX0 HZ0
  by_cases h1 : s.Ok
  · rw [decide_eq_true h1]
    have H1 := Lib.hid h1
    have HVb : Hid (V = badR pvM s.rs) := Lib.hid (by rw [HV.out]; unfold rulesM; rw [if_pos h1])
    clear h1 HV
    have x4 := HX1.out.cell 4
    have hlx := HX1.out.lt
    go_wp2
    clear x4 hlx
    go_loopw [13] (fun i wr => ∃ k : Nat, k ≤ s.rs.length ∧ i = .int .i64 k ∧ Hid (∀ x ∈ s.rs.take k, (pvM x.pat).1 = 0) ∧ Hid (Below w1.heap.size w1 wr)) (fun i _ => s.rs.length - (intOf i).toNat)
    case atStart => exact ⟨0, Nat.zero_le _, rfl, Lib.hid (by simp), Lib.hid (Below.refl _ _)⟩
    case round =>
      obtain ⟨k, hk, rfl, HN, HB⟩ := hrel
      have hsz := HB.out.size
      by_cases hlt : k < s.rs.length
      · obtain ⟨b, off, rfl, hb, c0, c1, c2, c3, c4⟩ := (HS1.out.below HB.out).at_ hlt
        have HG := Lib.hid (List.getElem?_eq_getElem hlt)
        have HRo := Lib.hid (rule_small (H1.out.2.2.1 _ (List.getElem_mem hlt)))
        generalize s.rs[k] = r at HG HRo c0 c1 c2 c3 c4
        have HLt := Lib.hid hlt
        have hb2 : Below w1.heap.size w1 (wr.alloc (.cells #[.int .i64 r.id, .int .i64 r.pr, .int .i64 r.ac, .int .i64 r.sc, .string r.pat] 72)) := HB.out.alloc hsz _
        have hr2 : Blk (wr.alloc (.cells #[.int .i64 r.id, .int .i64 r.pr, .int .i64 r.ac, .int .i64 r.sc, .string r.pat] 72)) wr.heap.size 72 #[.int .i64 r.id, .int .i64 r.pr, .int .i64 r.ac, .int .i64 r.sc, .string r.pat] := Blk.new _ _ _
        go_upto_region 6 with (fail)
        have hs2 : (wr.alloc (.cells #[.int .i64 r.id, .int .i64 r.pr, .int .i64 r.ac, .int .i64 r.sc, .string r.pat] 72)).heap.size = wr.heap.size + 1 := by simp
        generalize wr.alloc (.cells #[.int .i64 r.id, .int .i64 r.pr, .int .i64 r.ac, .int .i64 r.sc, .string r.pat] 72) = w2 at *
        have HB2 := Lib.hid hb2
        have HR2 := Lib.hid hr2
        have HT2 := Lib.hid (tabs_on HT1.out hb2 hb2.size)
        have r4 := hr2.cell 4
        have hlr := hr2.lt
        clear hb2 hr2 c0 c1 c2 c3 c4
        have HPt := Lib.hid (vpat_any r.pat HRo.out w2 HT2.out)
        obtain ⟨c, hc⟩ : ∃ c, c = (pvM r.pat).1 := ⟨_, rfl⟩
        obtain ⟨a, ha⟩ : ∃ a, a = (pvM r.pat).2 := ⟨_, rfl⟩
        rw [← hc, ← ha] at HPt
        have HC := Lib.hid hc
        have HA := Lib.hid ha
        clear hc ha
        go_wp2_with fail
        refine HPt.out.mono ?_
        rintro e w3 ⟨rfl, hb3⟩
        have HB3 := Lib.hid (HB2.out.trans (hb3.mono HB2.out.size))
        have HR3 := Lib.hid (HR2.out.on hb3)
        have hs3 := hb3.size
        clear hb3 r4 hlr HPt
        by_cases h0 : c = 0
        · have h0' : (c != 0) = false := by simp [h0]
          have H0 := Lib.hid h0
          clear h0
          go_wp2
          go_roundw
          case rel => exact ⟨k + 1, HLt.out, by go_num, Lib.hid (by
            rw [ru_take HG.out]
            intro x hx
            rcases List.mem_append.1 hx with h | h
            · exact HN.out x h
            · rw [List.mem_singleton.1 h, ← HC.out]; exact H0.out), Lib.hid (HB3.out.alloc HB3.out.size _)⟩
          case measure => have := HLt.out; simp [intOf]; omega
        · have h0' : (c != 0) = true := by simp [h0]
          have HBad : Hid (V = (c, r.id, a)) := Lib.hid (by
            rw [HVb.out, badR_take HG.out HN.out (by rw [← HC.out]; exact h0), ← HC.out, ← HA.out])
          clear h0
          have r0 := HR3.out.cell 0
          have hlr := HR3.out.lt
          go_upto_region 9 with (fail)
          have hz3 := HZ1.out.on HB3.out
          have hzl := hz3.lt
          obtain ⟨W, hW⟩ : ∃ W, W = w3.alloc (.cells #[.int .i64 c, .int .i64 r.id, .int .i64 a] 42) := ⟨_, rfl⟩
          rw [← hW]
          have hvW : Blk W w3.heap.size 42 #[.int .i64 c, .int .i64 r.id, .int .i64 a] := by rw [hW]; exact Blk.new _ _ _
          have hzW : Blk W (w.heap.size + 1) 42 #[.int .i64 0, .int .i64 0, .int .i64 0] := by rw [hW]; exact hz3.alloc _
          have hBW : Below w.heap.size w W := by
            have h1 := HB1.out.size
            rw [hW]
            exact HB1.out.trans ((HB3.out.alloc HB3.out.size _).mono h1)
          have HBW := Lib.hid hBW
          clear hW hBW r0 hlr hzl
          have v0 := hvW.cell 0
          have v1 := hvW.cell 1
          have v2 := hvW.cell 2
          have z0 := hzW.cell 0
          have z1 := hzW.cell 1
          have z2 := hzW.cell 2
          have fz := hzW.frozen
          have hlz := hzW.lt
          have hlv := hvW.lt
          clear hz3
          go_wp2
          refine bodyPost_ret (v := .agg #[.int .i64 c, .int .i64 r.id, .int .i64 a]) (by simp [results, Tryz.results26, go_sem, *]) rfl ⟨by rw [HBad.out], ?_⟩
          exact ((HBW.out.setCell (show w.heap.size ≤ w.heap.size + 1 by omega) _).setCell (show w.heap.size ≤ w.heap.size + 1 by omega) _).setCell (show w.heap.size ≤ w.heap.size + 1 by omega) _
      · obtain rfl : k = s.rs.length := by omega
        have HBad : Hid (V = (0, 0, 0)) := Lib.hid (by
          have := HN.out
          rw [List.take_length] at this
          rw [HVb.out, badR_none this])
        have hz := HZ1.out.on HB.out
        have z0 := hz.cell 0
        have z1 := hz.cell 1
        have z2 := hz.cell 2
        have fz := hz.frozen
        have hlz := hz.lt
        clear hz
        have HBW := Lib.hid (HB1.out.trans (HB.out.mono HB1.out.size))
        go_wp2
        refine bodyPost_ret (v := .agg #[.int .i64 0, .int .i64 0, .int .i64 0]) (by simp [results, Tryz.results26, go_sem, *]) rfl ⟨by rw [HBad.out], ?_⟩
        exact ((HBW.out.setCell (show w.heap.size ≤ w.heap.size + 1 by omega) _).setCell (show w.heap.size ≤ w.heap.size + 1 by omega) _).setCell (show w.heap.size ≤ w.heap.size + 1 by omega) _
  · rw [decide_eq_false h1]
    have HBad : Hid (V = (10, 0, 0)) := Lib.hid (by rw [HV.out]; unfold rulesM; rw [if_neg h1])
    clear h1 HV
    have hz := HZ1.out
    have z0 := hz.cell 0
    have z1 := hz.cell 1
    have z2 := hz.cell 2
    have fz := hz.frozen
    have hlz := hz.lt
    clear hz
    go_wp2
    refine bodyPost_ret (v := .agg #[.int .i64 10, .int .i64 0, .int .i64 0]) (by simp [results, Tryz.results26, go_sem, *]) rfl ⟨by rw [HBad.out], ?_⟩
    exact ((HB1.out.setCell (show w.heap.size ≤ w.heap.size + 1 by omega) _).setCell (show w.heap.size ≤ w.heap.size + 1 by omega) _).setCell (show w.heap.size ≤ w.heap.size + 1 by omega) _

end Go.Proofs.YtefgobmpleoafaaGreatDoor

/- Package verdict: Change. -/
namespace Go.Proofs.YtefgobmpleoafaaGreatDoor
open Go.RowKit
variable {w w' : World}

theorem far3 {W1 : World} {g b : Nat} {t : TypeId} {cs : Array Value} {c0 c1 c2 : Value} (h : Blk W1 g t cs) (hne : g ≠ b) : Blk (((W1.setCell ⟨b, 0, none⟩ c0).setCell ⟨b, 1, none⟩ c1).setCell ⟨b, 2, none⟩ c2) g t cs := by
  have k : ∀ {W : World}, Blk W g t cs → ∀ (i : Nat) (u : Value), Blk (W.setCell ⟨b, i, none⟩ u) g t cs := fun h i u => h.far (p := ⟨b, i, none⟩) hne u
  exact k (k (k h 0 c0) 1 c1) 2 c2
/-- stores into two blocks of the call's own -/
theorem below8 {w W : World} {g : Nat} {a0 a1 a2 a3 a4 b0 b1 b2 : Value} (h : Below w.heap.size w W) (hg : w.heap.size ≤ g) : Below w.heap.size w ((((((((W.setCell ⟨g, 0, none⟩ a0).setCell ⟨g, 1, none⟩ a1).setCell ⟨g, 2, none⟩ a2).setCell ⟨g, 3, none⟩ a3).setCell ⟨g, 4, none⟩ a4).setCell ⟨g + 1, 0, none⟩ b0).setCell ⟨g + 1, 1, none⟩ b1).setCell ⟨g + 1, 2, none⟩ b2) := by
  have k : ∀ {V : World}, Below w.heap.size w V → ∀ (b i : Nat) (u : Value), w.heap.size ≤ b → Below w.heap.size w (V.setCell ⟨b, i, none⟩ u) := fun h b i u hb => h.setCell (p := ⟨b, i, none⟩) hb u
  exact k (k (k (k (k (k (k (k h g 0 a0 hg) g 1 a1 hg) g 2 a2 hg) g 3 a3 hg) g 4 a4 hg) (g + 1) 0 b0 (by omega)) (g + 1) 1 b1 (by omega)) (g + 1) 2 b2 (by omega)
theorem rules8 {W : World} {n base g : Nat} {v : Value} {l : List Ru} {a0 a1 a2 a3 a4 b0 b1 b2 : Value} (h : RulesV n W v l) (hf : Far base v) (hg : g + 1 < base) : RulesV n ((((((((W.setCell ⟨g, 0, none⟩ a0).setCell ⟨g, 1, none⟩ a1).setCell ⟨g, 2, none⟩ a2).setCell ⟨g, 3, none⟩ a3).setCell ⟨g, 4, none⟩ a4).setCell ⟨g + 1, 0, none⟩ b0).setCell ⟨g + 1, 1, none⟩ b1).setCell ⟨g + 1, 2, none⟩ b2) v l := by
  have k : ∀ {V : World}, RulesV n V v l → ∀ (b i : Nat) (u : Value), b < base → RulesV n (V.setCell ⟨b, i, none⟩ u) v l := fun h b i u hb => h.store (g := b) (i := i) (u := u) hf hb
  exact k (k (k (k (k (k (k (k h g 0 a0 (by omega)) g 1 a1 (by omega)) g 2 a2 (by omega)) g 3 a3 (by omega)) g 4 a4 (by omega)) (g + 1) 0 b0 hg) (g + 1) 1 b1 hg) (g + 1) 2 b2 hg

theorem applyM_zero {s : RS} {d : Dl} (h : (applyM s d).2 ≠ 0) : (applyM s d).1 = .zero := by
  unfold applyM at h ⊢
  split
  · rfl
  split
  · rfl
  split
  · rfl
  split
  · rfl
  split
  · rfl
  · rename_i h1 h2 h3 h4 h5
    rw [if_neg h1, if_neg h2, if_neg h3, if_neg h4, if_neg h5] at h
    exact absurd rfl h

set_option maxRecDepth 100000 in
set_option maxHeartbeats 8000000 in
theorem vchange_any (s : RS) (d : Dl) (v pv dv : Value) (w : World) (hmax : s.rs.length ≤ 1000) (hm1 : d.put.length ≤ 1000) (hm2 : d.drop.length ≤ 1000) (hdr : ∀ z ∈ d.drop, (Lit.int .i64 z).wf = true) (hT : TabsAt w.heap.size w)
    (hS : RulesV w.heap.size w v s.rs) (hP : RulesV w.heap.size w pv d.put) (hD : Row w.heap.size w dv (zI d.drop)) :
    Calls Tryz.prog 25 #[.agg #[.int .i64 s.de, .int .i64 s.cl, .int .i64 s.fu, .int .i64 s.st, v], .agg #[.int .i64 d.de, .int .i64 d.cl, .int .i64 d.fu, .int .i64 d.st, pv, dv]] w
      fun e w' => ∃ rv, e = .returned (.tuple #[.agg #[.int .i64 (changeM pvM s d).1.de, .int .i64 (changeM pvM s d).1.cl, .int .i64 (changeM pvM s d).1.fu, .int .i64 (changeM pvM s d).1.st, rv], .agg #[.int .i64 (changeM pvM s d).2.1, .int .i64 (changeM pvM s d).2.2.1, .int .i64 (changeM pvM s d).2.2.2]]) ∧
        RulesV w'.heap.size w' rv (changeM pvM s d).1.rs ∧ Far w.heap.size rv ∧ Below w.heap.size w w' := by
  obtain ⟨A, cap, rfl⟩ := hS.form
  obtain ⟨PA, pcap, rfl⟩ := hP.form
  obtain ⟨DA, dcap, hdv⟩ := hD.form
  rw [zI_len] at hdv
  subst hdv
  obtain ⟨w0, hw0⟩ : ∃ w0, w0 = ((((w.alloc (.cells #[.int .i64 s.de, .int .i64 s.cl, .int .i64 s.fu, .int .i64 s.st, .slice A s.rs.length cap] 54)).alloc (.cells #[.int .i64 d.de, .int .i64 d.cl, .int .i64 d.fu, .int .i64 d.st, .slice PA d.put.length pcap, .slice DA d.drop.length dcap] 37)).alloc (.cells #[.int .i64 0, .int .i64 0, .int .i64 0, .int .i64 0, .slice none 0 0] 54)).alloc (.cells #[.int .i64 0, .int .i64 0, .int .i64 0] 42)) := ⟨_, rfl⟩
  have hb0 : Below w.heap.size w w0 := by rw [hw0]; exact ((((Below.refl _ _).alloc (Nat.le_refl _) _).alloc (by simp) _).alloc (by simp; omega) _).alloc (by simp; omega) _
  have hy0 : Blk w0 (w.heap.size + 2) 54 #[.int .i64 0, .int .i64 0, .int .i64 0, .int .i64 0, .slice none 0 0] := by rw [hw0]; exact (Blk.at_new _ _ (by simp) _ _).alloc _
  have hz0 : Blk w0 (w.heap.size + 3) 42 #[.int .i64 0, .int .i64 0, .int .i64 0] := by rw [hw0]; exact Blk.at_new _ _ (by simp) _ _
  have hs0 : w0.heap.size = w.heap.size + 4 := by rw [hw0]; simp
  have HT0 := Lib.hid (tabs_on hT hb0 hb0.size)
  have HS0 := Lib.hid (hS.on hb0)
  have HP0 := Lib.hid (hP.on hb0)
  have HD0 := Lib.hid ((hD.below hb0).more hb0.size)
  have HB0 := Lib.hid hb0
  have HY0 := Lib.hid hy0
  have HZ0 := Lib.hid hz0
  clear hS hP hD hT hb0 hy0 hz0
  have hap := apply_any s d (.slice A s.rs.length cap) (.slice PA d.put.length pcap) (.slice DA d.drop.length dcap) w0 hmax hm1 hm2 hdr HS0.out HP0.out HD0.out
  obtain ⟨R, hR⟩ : ∃ R, R = changeM pvM s d := ⟨_, rfl⟩
  rw [← hR]
  obtain ⟨X, hX⟩ : ∃ X, X = applyM s d := ⟨_, rfl⟩
  rw [← hX] at hap
  have HR : Hid (R = if X.2 = 0 then (if (rulesM pvM X.1).1 = 0 then (X.1, (0, 0, 0)) else (.zero, rulesM pvM X.1)) else (.zero, (X.2, 0, 0))) := Lib.hid (by rw [hR, hX]; rfl)
  have HXl : Hid (X.1.rs.length ≤ 1000000) := Lib.hid (by
    rw [hX]
    by_cases h0 : (applyM s d).2 = 0
    · have := (taken_iff.1 h0).few
      rw [taken_eq (taken_iff.1 h0)]
      simp only
      omega
    · rw [applyM_zero h0]
      simp [RS.zero])
  have HAp := Lib.hid hap
  clear hap hR hX
  go_enter Tryz.func25, Tryz.ntmps25
  go_wp2_with fail
  rw [← hw0]
  clear hw0
  refine HAp.out.mono ?_
  rintro e w1 ⟨rv, rfl, hrv, hfar, hb1⟩
  obtain ⟨RA, rcap, rfl⟩ := hrv.form
  obtain ⟨⟨xde, xcl, xfu, xst, xrs⟩, xe⟩ := X
  simp only at hrv HR HXl ⊢
  have HRv := Lib.hid hrv
  have HFa := Lib.hid hfar
  have HT1 := Lib.hid (tabs_on HT0.out hb1 hb1.size)
  have HB1 := Lib.hid (HB0.out.trans (hb1.mono HB0.out.size))
  have HY1 := Lib.hid (HY0.out.on hb1)
  have HZ1 := Lib.hid (HZ0.out.on hb1)
  have hs1 := hb1.size
  clear hrv hfar hb1 HT0 HS0 HP0 HD0 HB0 HY0 HZ0 HAp
  go_upto_region 2 with (fail)
  have hb2 : Below w1.heap.size w1 (w1.alloc (.cells #[.int .i64 xde, .int .i64 xcl, .int .i64 xfu, .int .i64 xst, .slice RA xrs.length rcap] 54)) := (Below.refl _ _).alloc (Nat.le_refl _) _
  have hx2 : Blk (w1.alloc (.cells #[.int .i64 xde, .int .i64 xcl, .int .i64 xfu, .int .i64 xst, .slice RA xrs.length rcap] 54)) w1.heap.size 54 #[.int .i64 xde, .int .i64 xcl, .int .i64 xfu, .int .i64 xst, .slice RA xrs.length rcap] := Blk.new _ _ _
  generalize w1.alloc (.cells #[.int .i64 xde, .int .i64 xcl, .int .i64 xfu, .int .i64 xst, .slice RA xrs.length rcap] 54) = w2 at *
  have HRv2 := Lib.hid (HRv.out.on hb2)
  have HT2 := Lib.hid (tabs_on HT1.out hb2 hb2.size)
  have HB2 := Lib.hid (HB1.out.trans (hb2.mono HB1.out.size))
  have HY2 := Lib.hid (HY1.out.on hb2)
  have HZ2 := Lib.hid (HZ1.out.on hb2)
  have HX2 := Lib.hid hx2
  have hs2 := hb2.size
  clear hb2 hx2 HT1 HB1 HY1 HZ1 HRv
  by_cases he : xe = 0
  · have he' : (xe != 0) = false := by simp [he]
    have HR1 : Hid (R = if (rulesM pvM ⟨xde, xcl, xfu, xst, xrs⟩).1 = 0 then (⟨xde, xcl, xfu, xst, xrs⟩, (0, 0, 0)) else (.zero, rulesM pvM ⟨xde, xcl, xfu, xst, xrs⟩)) := Lib.hid (by rw [HR.out, if_pos he])
    clear HR he
    have HRu := Lib.hid (vrules_any ⟨xde, xcl, xfu, xst, xrs⟩ (.slice RA xrs.length rcap) w2 HXl.out HT2.out HRv2.out)
    obtain ⟨V, hV⟩ : ∃ V, V = rulesM pvM ⟨xde, xcl, xfu, xst, xrs⟩ := ⟨_, rfl⟩
    rw [← hV] at HRu HR1
    clear hV
    obtain ⟨vc, vr, va⟩ := V
    simp only at HRu HR1
    obtain ⟨x0, x1, x2, x3, x4⟩ := HX2.out.c5
    have hlx := HX2.out.lt
    go_wp2_with fail
    refine HRu.out.mono ?_
    rintro e w3 ⟨rfl, hb3⟩
    have HRv3 := Lib.hid (HRv2.out.on hb3)
    have HB3 := Lib.hid (HB2.out.trans (hb3.mono HB2.out.size))
    have HY3 := Lib.hid (HY2.out.on hb3)
    have HZ3 := Lib.hid (HZ2.out.on hb3)
    have HX3 := Lib.hid (HX2.out.on hb3)
    have hs3 := hb3.size
    clear hb3 x0 x1 x2 x3 x4 hlx HRu HRv2 HB2 HY2 HZ2 HX2 HT2
    go_upto_region 5 with (fail)
    have hb4 : Below w3.heap.size w3 (w3.alloc (.cells #[.int .i64 vc, .int .i64 vr, .int .i64 va] 42)) := (Below.refl _ _).alloc (Nat.le_refl _) _
    have hv4 : Blk (w3.alloc (.cells #[.int .i64 vc, .int .i64 vr, .int .i64 va] 42)) w3.heap.size 42 #[.int .i64 vc, .int .i64 vr, .int .i64 va] := Blk.new _ _ _
    generalize w3.alloc (.cells #[.int .i64 vc, .int .i64 vr, .int .i64 va] 42) = w4 at *
    have HRv4 := Lib.hid (HRv3.out.on hb4)
    have HB4 := Lib.hid (HB3.out.trans (hb4.mono HB3.out.size))
    have hy := HY3.out.on hb4
    have hz := HZ3.out.on hb4
    have hx := HX3.out.on hb4
    clear HRv3 HB3 HY3 HZ3 HX3
    obtain ⟨y0, y1, y2, y3, y4⟩ := hy.c5
    have fy := hy.frozen
    have z0 := hz.cell 0
    have z1 := hz.cell 1
    have z2 := hz.cell 2
    have fz := hz.frozen
    have v0 := hv4.cell 0
    have v1 := hv4.cell 1
    have v2 := hv4.cell 2
    have hly := hy.lt
    have hlz := hz.lt
    have hlv := hv4.lt
    by_cases h0 : vc = 0
    · have h0' : (vc != 0) = false := by simp [h0]
      have HR2 : Hid (R = (⟨xde, xcl, xfu, xst, xrs⟩, (0, 0, 0))) := Lib.hid (by rw [HR1.out, if_pos h0])
      obtain ⟨x0, x1, x2, x3, x4⟩ := hx.c5
      have hlx := hx.lt
      clear h0 HR1
      go_wp2
      refine bodyPost_ret (v := .tuple #[.agg #[.int .i64 xde, .int .i64 xcl, .int .i64 xfu, .int .i64 xst, .slice RA xrs.length rcap], .agg #[.int .i64 0, .int .i64 0, .int .i64 0]]) (by simp [results, Tryz.results25, go_sem, *]) rfl ⟨_, by rw [HR2.out], ?_, HFa.out.mono (by omega), below8 HB4.out (by omega)⟩
      rw [HR2.out]
      exact RulesV.more (rules8 HRv4.out HFa.out (by omega)) (by simp [World.setCell])
    · have h0' : (vc != 0) = true := by simp [h0]
      have HR2 : Hid (R = (.zero, (vc, vr, va))) := Lib.hid (by rw [HR1.out, if_neg h0])
      clear h0 HR1
      have hn1 : ¬ w3.heap.size = w.heap.size + 2 := by omega
      have hn2 : ¬ w.heap.size + 2 = w3.heap.size := by omega
      have hn3 : ¬ w3.heap.size = w.heap.size + 3 := by omega
      have hn4 : ¬ w.heap.size + 3 = w3.heap.size := by omega
      go_upto_region 6 with (fail)
      go_region
      go_wp2
      refine bodyPost_ret (v := .tuple #[.agg #[.int .i64 0, .int .i64 0, .int .i64 0, .int .i64 0, .slice none 0 0], .agg #[.int .i64 vc, .int .i64 vr, .int .i64 va]]) (by simp [results, Tryz.results25, go_sem, *]) rfl ⟨.slice none 0 0, by rw [HR2.out]; rfl, by rw [HR2.out]; exact RulesV.nil _ _, Far.nil _, (below8 HB4.out (by omega)).drew⟩
  · have he' : (xe != 0) = true := by simp [he]
    have HR1 : Hid (R = (.zero, (xe, 0, 0))) := Lib.hid (by rw [HR.out, if_neg he])
    clear HR he
    have hy := HY2.out
    have hz := HZ2.out
    obtain ⟨y0, y1, y2, y3, y4⟩ := hy.c5
    have fy := hy.frozen
    have z0 := hz.cell 0
    have z1 := hz.cell 1
    have z2 := hz.cell 2
    have fz := hz.frozen
    have hly := hy.lt
    have hlz := hz.lt
    clear hy hz
    go_wp2
    refine bodyPost_ret (v := .tuple #[.agg #[.int .i64 0, .int .i64 0, .int .i64 0, .int .i64 0, .slice none 0 0], .agg #[.int .i64 xe, .int .i64 0, .int .i64 0]]) (by simp [results, Tryz.results25, go_sem, *]) rfl ⟨.slice none 0 0, by rw [HR1.out]; rfl, by rw [HR1.out]; exact RulesV.nil _ _, Far.nil _, below8 HB2.out (by omega)⟩

end Go.Proofs.YtefgobmpleoafaaGreatDoor

