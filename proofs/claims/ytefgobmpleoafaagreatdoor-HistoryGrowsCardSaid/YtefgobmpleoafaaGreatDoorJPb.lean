/- Joined: PE, PF, PG, PN, PH, PI. -/
import Derived.Test.YtefgobmpleoafaaGreatDoorJPa
import Derived.Test.YtefgobmpleoafaaGreatDoorJClasses
import Derived.Test.YtefgobmpleoafaaGreatDoorJModel
import Derived.Deep.LoopGhost
/- An escape that stands for one unit; a unit of a class. -/
namespace Go.Proofs.YtefgobmpleoafaaGreatDoor
open Go.RowKit
variable {n₀ rb tb cap d : Nat} {s : List UInt8} {w w' : World} {σ σ1 : St} {fc fa : Int} {bv : Value}

/-- What a call that reads a unit leaves. -/
def UPost (n₀ rb tb cap : Nat) (s : List UInt8) (d : Nat) (fc fa : Int) (bv : Value) (w : World) (r : Except Flt (Nat × St)) (e : Ending) (w' : World) : Prop :=
  match r with
  | .ok x => e = .returned (.tuple #[.int .i64 (x.1 : Nat), .bool true]) ∧ Rd n₀ rb tb cap s w' x.2 d fc fa bv ∧ Fr n₀ rb w w'
  | .error f => e = .returned (.tuple #[.int .i64 0, .bool false]) ∧ Bad w' rb f ∧ Fr n₀ rb w w'

theorem hexUnit_any (hs : sign σ.t = 120) (hR : Rd n₀ rb tb cap s w σ d fc fa bv) : Calls Tryz.prog 178 #[.pointer (some ⟨rb, 0, none⟩)] w (UPost n₀ rb tb cap s d fc fa bv w (escUnit σ)) := by
  unfold escUnit
  rw [if_pos hs]
  by_cases h : σ.t.length < 4
  · rw [if_pos h]
    exact (hexUnit_short h hR).mono fun _ _ h => h
  · rw [if_neg h]
    refine (hexUnit_long (by omega) _ _ rfl rfl hR).mono fun e w' hp => ?_
    rcases hp with ⟨h2, h3, he, hr, hf⟩ | ⟨hb, he, hr, hf⟩
    · rw [h2, h3]
      exact ⟨he, hr, hf⟩
    · rw [hb]
      exact ⟨he, hr, hf⟩

set_option maxRecDepth 100000 in
set_option maxHeartbeats 1000000 in
theorem escUnit_any (hR : Rd n₀ rb tb cap s w σ d fc fa bv) : Calls Tryz.prog 160 #[.pointer (some ⟨rb, 0, none⟩)] w (UPost n₀ rb tb cap s d fc fa bv w (escUnit σ)) := by
  have hsg := sign_any hR
  have hx := at_lt σ.t 1
  have hlt : sign σ.t < 256 := by unfold sign; split <;> omega
  have hp := hR.pos
  have ht := hR.tl
  have hl := hR.len
  have HR := Lib.hid hR
  have hmk := isMark_any (sign σ.t)
  by_cases h1 : sign σ.t = 120
  · have hh := fun W (h : Rd n₀ rb tb cap s W σ d fc fa bv) => hexUnit_any h1 h
    obtain ⟨r, hr⟩ : ∃ r, r = escUnit σ := ⟨_, rfl⟩
    rw [← hr] at hh ⊢
    rw [h1] at hsg
    have H := Lib.hid hh
    have HS := Lib.hid hsg
    clear hh hsg hmk hR h1 hr
    go_enter Tryz.func160, Tryz.ntmps160
    go_wp2_with fail
    refine HS.out.mono ?_
    rintro e w1 ⟨rfl, hb⟩
    have hR1 := Lib.hid (HR.out.on hb)
    go_wp2_with fail
    refine (H.out _ hR1.out).mono ?_
    rintro e w2 hP
    cases r with
    | ok x =>
      obtain ⟨rfl, hR2, hF⟩ := hP
      have HR2 := Lib.hid hR2
      clear hR2
      go_wp2
      go_ret2
      exact ⟨rfl, HR2.out, (Fr.of_below hb).trans hF⟩
    | error f =>
      obtain ⟨rfl, hB, hF⟩ := hP
      go_wp2
      go_ret2
      exact ⟨rfl, hB, (Fr.of_below hb).trans hF⟩
  · by_cases h2 : sign σ.t = 110
    · have hr : escUnit σ = .ok (10, σ.adv 2) := by unfold escUnit; rw [if_neg h1, if_pos h2]
      have hl2 := (sign_len (t := σ.t) (by omega)).1
      rw [hr]
      rw [h2] at hsg
      have HS := Lib.hid hsg
      clear hsg hmk hR h1 h2 hr
      go_enter Tryz.func160, Tryz.ntmps160
      go_wp2_with fail
      refine HS.out.mono ?_
      rintro e w1 ⟨rfl, hb⟩
      have hR1 := HR.out.on hb
      have c1 := hR1.c1
      have f1 := hR1.fz 1
      have HR1 := Lib.hid hR1
      clear hR1
      go_wp2
      go_ret2
      exact ⟨rfl, HR1.out.step' (n := 2) hl2, HR1.out.below_set (Fr.of_below hb) _ _⟩
    · by_cases h3 : sign σ.t = 116
      · have hr : escUnit σ = .ok (9, σ.adv 2) := by unfold escUnit; rw [if_neg h1, if_neg h2, if_pos h3]
        have hl2 := (sign_len (t := σ.t) (by omega)).1
        rw [hr]
        rw [h3] at hsg
        have HS := Lib.hid hsg
        clear hsg hmk hR h1 h2 h3 hr
        go_enter Tryz.func160, Tryz.ntmps160
        go_wp2_with fail
        refine HS.out.mono ?_
        rintro e w1 ⟨rfl, hb⟩
        have hR1 := HR.out.on hb
        have c1 := hR1.c1
        have f1 := hR1.fz 1
        have HR1 := Lib.hid hR1
        clear hR1
        go_wp2
        go_ret2
        exact ⟨rfl, HR1.out.step' (n := 2) hl2, HR1.out.below_set (Fr.of_below hb) _ _⟩
      · by_cases h4 : sign σ.t = 114
        · have hr : escUnit σ = .ok (13, σ.adv 2) := by unfold escUnit; rw [if_neg h1, if_neg h2, if_neg h3, if_pos h4]
          have hl2 := (sign_len (t := σ.t) (by omega)).1
          rw [hr]
          rw [h4] at hsg
          have HS := Lib.hid hsg
          clear hsg hmk hR h1 h2 h3 h4 hr
          go_enter Tryz.func160, Tryz.ntmps160
          go_wp2_with fail
          refine HS.out.mono ?_
          rintro e w1 ⟨rfl, hb⟩
          have hR1 := HR.out.on hb
          have c1 := hR1.c1
          have f1 := hR1.fz 1
          have HR1 := Lib.hid hR1
          clear hR1
          go_wp2
          go_ret2
          exact ⟨rfl, HR1.out.step' (n := 2) hl2, HR1.out.below_set (Fr.of_below hb) _ _⟩
        · have e1 : ((sign σ.t : Int) == 120) = false := by simp; omega
          have e2 : ((sign σ.t : Int) == 110) = false := by simp; omega
          have e3 : ((sign σ.t : Int) == 116) = false := by simp; omega
          have e4 : ((sign σ.t : Int) == 114) = false := by simp; omega
          cases h5 : isMark (sign σ.t) with
          | true =>
            have hl2 := (sign_len (t := σ.t) (by intro e; rw [e] at h5; simp [isMark] at h5)).1
            have hr : escUnit σ = .ok (sign σ.t, σ.adv 2) := by unfold escUnit; rw [if_neg h1, if_neg h2, if_neg h3, if_neg h4, if_pos h5]
            rw [hr]
            obtain ⟨c, hc⟩ : ∃ c, c = sign σ.t := ⟨_, rfl⟩
            rw [h5] at hmk
            rw [← hc] at hmk hsg e1 e2 e3 e4 hlt ⊢
            have HS := Lib.hid hsg
            clear hsg hR h1 h2 h3 h4 h5 hr hc
            go_enter Tryz.func160, Tryz.ntmps160
            go_wp2_with fail
            refine HS.out.mono ?_
            rintro e w1 ⟨rfl, hb⟩
            have hR1 := HR.out.on hb
            have c1 := hR1.c1
            have f1 := hR1.fz 1
            have HR1 := Lib.hid hR1
            clear hR1
            go_wp2_with (go_at_call 179; refine (hmk _).mono ?_; rintro e w' ⟨rfl, rfl⟩)
            go_ret2
            exact ⟨rfl, HR1.out.step' (n := 2) hl2, HR1.out.below_set (Fr.of_below hb) _ _⟩
          | false =>
            have hr : escUnit σ = .error (21, σ.pos) := by unfold escUnit; rw [if_neg h1, if_neg h2, if_neg h3, if_neg h4, if_neg (by rw [h5]; decide)]
            rw [hr]
            obtain ⟨c, hc⟩ : ∃ c, c = sign σ.t := ⟨_, rfl⟩
            rw [h5] at hmk
            rw [← hc] at hmk hsg e1 e2 e3 e4 hlt
            have HS := Lib.hid hsg
            clear hsg hR h1 h2 h3 h4 h5 hr hc
            go_enter Tryz.func160, Tryz.ntmps160
            go_wp2_with fail
            refine HS.out.mono ?_
            rintro e w1 ⟨rfl, hb⟩
            have hR1 := HR.out.on hb
            have c1 := hR1.c1
            have HR1 := Lib.hid hR1
            clear hR1
            go_wp2_with (first | (go_at_call 179; refine (hmk _).mono ?_; rintro e w' ⟨rfl, rfl⟩) | (go_at_call 78; refine (refuse_bad 21 σ.pos HR1.out).mono ?_; rintro e w2 ⟨rfl, hB, hF⟩))
            go_ret2
            exact ⟨rfl, hB, (Fr.of_below hb).trans hF⟩

set_option maxRecDepth 100000 in
set_option maxHeartbeats 1000000 in
theorem mUnit_any (hn : σ.t ≠ []) (hR : Rd n₀ rb tb cap s w σ d fc fa bv) : Calls Tryz.prog 167 #[.pointer (some ⟨rb, 0, none⟩)] w (UPost n₀ rb tb cap s d fc fa bv w (mUnit σ)) := by
  have hs := sees_any [92] hR
  rw [pre_one 92 _ (by decide)] at hs
  have HR := Lib.hid hR
  by_cases h : at_ σ.t 0 = 92
  · have hm : mUnit σ = escUnit σ := by unfold mUnit; rw [if_pos h]
    have hd : decide (at_ σ.t 0 = (92 : UInt8).toNat) = true := by simpa using h
    rw [hd] at hs
    rw [hm]
    have H := Lib.hid hs
    obtain ⟨r, hr⟩ : ∃ r, r = escUnit σ := ⟨_, rfl⟩
    have HE := Lib.hid (fun W (h : Rd n₀ rb tb cap s W σ d fc fa bv) => escUnit_any h)
    rw [← hr] at HE ⊢
    clear hs hR h hm hr hd
    go_enter Tryz.func167, Tryz.ntmps167
    go_wp2_with fail
    refine H.out.mono ?_
    rintro e w1 ⟨rfl, hb⟩
    go_wp2_with fail
    refine (HE.out _ (HR.out.on hb)).mono ?_
    rintro e w2 hP
    cases r with
    | ok x =>
      obtain ⟨rfl, hR2, hF⟩ := hP
      have HR2 := Lib.hid hR2
      clear hR2
      go_wp2
      go_ret2
      exact ⟨rfl, HR2.out, (Fr.of_below hb).trans hF⟩
    | error f =>
      obtain ⟨rfl, hB, hF⟩ := hP
      go_wp2
      go_ret2
      exact ⟨rfl, hB, (Fr.of_below hb).trans hF⟩
  · have hm : mUnit σ = .ok ((nx σ.t).1, σ.adv (nx σ.t).2) := by unfold mUnit; rw [if_neg h]
    have hd : decide (at_ σ.t 0 = (92 : UInt8).toNat) = false := by simpa using h
    rw [hd] at hs
    rw [hm]
    have H := Lib.hid hs
    have HE := Lib.hid (fun W (h : Rd n₀ rb tb cap s W σ d fc fa bv) => plain_any hn h)
    obtain ⟨u, hu⟩ : ∃ u, u = (nx σ.t).1 := ⟨_, rfl⟩
    rw [← hu] at HE ⊢
    clear hs hR h hm hu hd
    go_enter Tryz.func167, Tryz.ntmps167
    go_wp2_with fail
    refine H.out.mono ?_
    rintro e w1 ⟨rfl, hb⟩
    go_wp2_with fail
    refine (HE.out _ (HR.out.on hb)).mono ?_
    rintro e w2 ⟨rfl, hR2, hF⟩
    have HR2 := Lib.hid hR2
    clear hR2
    go_wp2
    go_ret2
    exact ⟨rfl, HR2.out, (Fr.of_below hb).trans hF⟩

end Go.Proofs.YtefgobmpleoafaaGreatDoor

/- Escapes that stand for many units; references; whether a unit comes next. -/
namespace Go.Proofs.YtefgobmpleoafaaGreatDoor
open Go.RowKit
open Go.Proofs.YtefgobmpleoafaaGreatDoor.Cl (Rg SetV SetAt rgCells Norm Rt gaps GivesO not_own make_own rgCells_get rgCells_len)
variable {n₀ rb tb cap d : Nat} {s : List UInt8} {w w' : World} {σ σ1 : St} {fc fa : Int} {bv v : Value} {l : List Rg}

/-! ### Sets in blocks of ranges -/
def isRg (w : World) (b : Nat) : Prop := ∃ cs z, w.heap[b]? = some (.cells cs 223 z)
def SetR (w : World) (v : Value) (l : List Rg) : Prop := SetK (isRg w) w v l
theorem isRg.keep {b : Nat} (h : isRg w b) (hk : w'.heap[b]? = w.heap[b]?) : isRg w' b := by
  obtain ⟨cs, z, h⟩ := h
  exact ⟨cs, z, hk.trans h⟩
theorem isRg.lt {b : Nat} (h : isRg w b) : b < w.heap.size := by
  obtain ⟨cs, z, h⟩ := h
  exact lt_of_some h
theorem SetR.nil (w : World) : SetR w (.slice none 0 0) [] := SetK.nil _ _
theorem SetR.on (h : SetR w v l) (hb : Below w.heap.size w w') : SetR w' v l := SetK.keep h fun b hb' => ⟨hb'.keep (hb.block b hb'.lt), hb.block b hb'.lt⟩
theorem SetR.alloc (h : SetR w v l) (o : Obj) : SetR (w.alloc o) v l := h.on ((Below.refl _ _).alloc (Nat.le_refl _) o)
theorem SetR.fr (h : SetR w v l) (hR : Rd n₀ rb tb cap s w σ d fc fa bv) (hF : Fr n₀ rb w w') : SetR w' v l := SetK.keep h fun b hb => by
  obtain ⟨cs, z, hh⟩ := hb
  have hs := hF.same (okB.of_type hh (by decide) (ne_of_types hh hR.blk (by decide)))
  exact ⟨⟨cs, z, hs.trans hh⟩, hs⟩
theorem SetR.far (h : SetR w v l) {g o : Nat} {t : TypeId} {cs : Array Value} {z : Nat × Nat} (hg : w.heap[g]? = some (.cells cs t z)) (ht : t ≠ 223) (u : Value) : SetR (w.setCell ⟨g, o, none⟩ u) v l := SetK.keep h fun b hb => by
  obtain ⟨cs', z', hh⟩ := hb
  have hs := Below.heap_setCell w ⟨g, o, none⟩ u b (ne_of_types hh hg (Ne.symm ht))
  exact ⟨⟨cs', z', hs.trans hh⟩, hs⟩
/-- A block that a node of a call's own may lie in: new since a world, or of ranges. -/
def KB (n₀ rb : Nat) (a w : World) (b : Nat) : Prop := okB n₀ rb w b ∧ (a.heap.size ≤ b ∨ isRg w b)
theorem SetR.ok (h : SetR w v l) (hR : Rd n₀ rb tb cap s w σ d fc fa bv) {a : World} : SetK (KB n₀ rb a w) w v l := SetK.keep h fun b hb => by
  obtain ⟨cs, z, hh⟩ := hb
  exact ⟨⟨okB.of_type hh (by decide) (ne_of_types hh hR.blk (by decide)), .inr ⟨cs, z, hh⟩⟩, rfl⟩
theorem NodeV.fr {a : World} {nd : Nd} {sv kv : Value} (h : NodeV (KB n₀ rb a w) w nd sv kv) (hF : Fr n₀ rb w w') : NodeV (KB n₀ rb a w') w' nd sv kv :=
  h.keep fun _ hb => ⟨⟨hF.ok hb.1, hb.2.imp id (fun h => h.keep (hF.same hb.1))⟩, hF.same hb.1⟩
theorem NodeV.low {a a' : World} {nd : Nd} {sv kv : Value} (h : NodeV (KB n₀ rb a w) w nd sv kv) (ha : a'.heap.size ≤ a.heap.size) : NodeV (KB n₀ rb a' w) w nd sv kv :=
  h.keep fun _ hb => ⟨⟨hb.1, hb.2.imp (fun h => Nat.le_trans ha h) id⟩, rfl⟩
theorem SetR.setV (h : SetR w v l) : SetV w.heap.size w v l := SetK.to_setV (SetK.keep h fun _ hb => ⟨hb.lt, rfl⟩)
theorem SetR.of_own {base : Nat} (h : Cl.Own w base 223 v l) : SetR w v l := by
  have hs := h.set
  obtain ⟨A, c, rfl, hc, hx⟩ := hs
  refine ⟨A, c, rfl, hc, fun hl => ?_⟩
  obtain ⟨b, off, rfl, _, ht⟩ := hx hl
  refine ⟨b, off, rfl, ?_, ht⟩
  have h0 : w.ownsRow base 223 2 (.slice (some ⟨b, off, none⟩) l.length c) l.length (rgCells l) := h
  rcases h0.2 with ⟨hv, _⟩ | ⟨g, c', cur, hv, _, hh, _⟩
  · cases hv
  · injection hv with e1
    injection e1 with e1
    injection e1 with e1
    subst e1
    exact ⟨cur, _, hh⟩
theorem setR_lit (w : World) (cs : Array Value) (l : List Rg) (n : Nat) (hn : n = l.length) (h : cs.toList = rgCells l) : SetR (w.alloc (.cells cs 223)) (.slice (some ⟨w.heap.size, 0, none⟩) n n) l := by
  subst hn
  refine ⟨_, _, rfl, Nat.le_refl _, fun _ => ⟨_, 0, rfl, ⟨cs, _, heap_alloc_new w _⟩, fun i r hi => ?_⟩⟩
  have hb : Blk (w.alloc (.cells cs 223)) w.heap.size 223 cs := Blk.new w 223 cs
  have hg := rgCells_get l i r hi
  rw [← h] at hg
  rw [Nat.zero_add, hb.cell, hb.cell]
  simpa using hg

/-! ### Escapes that stand for many units -/
def SPost (w : World) (r : Option (List Rg)) (e : Ending) (w' : World) : Prop :=
  match r with
  | some l => ∃ v, e = .returned (.tuple #[v, .bool true]) ∧ SetR w' v l ∧ Below w.heap.size w w'
  | none => e = .returned (.tuple #[.slice none 0 0, .bool false]) ∧ Below w.heap.size w w'

theorem unitsOf_100 (W : World) : Calls Tryz.prog 177 #[.int .u8 100] W (SPost W (some [(48, 57)])) := by
  go_enter Tryz.func177, Tryz.ntmps177
  go_wp2
  go_ret2
  exact ⟨_, rfl, setR_lit W #[.int .i64 48, .int .i64 57] _ _ rfl rfl, (Below.refl _ _).alloc (Nat.le_refl _) _⟩
theorem unitsOf_68 (W : World) : Calls Tryz.prog 177 #[.int .u8 68] W (SPost W (some (gaps 0 [(48, 57)]))) := by
  have hN : Norm [(48, 57)] := by simp [Norm, Rt]
  have HN := Lib.hid hN
  clear hN
  go_enter Tryz.func177, Tryz.ntmps177
  go_wp2_with fail
  refine (not_own _ [(48, 57)] _ (by decide) (setR_lit W #[.int .i64 48, .int .i64 57] _ 1 rfl rfl).setV HN.out).mono ?_
  rintro e w1 ⟨v1, rfl, hO, hb⟩
  have HO := Lib.hid (SetR.of_own hO)
  clear hO
  go_wp2
  go_ret2
  exact ⟨_, rfl, HO.out, ((Below.refl _ _).alloc (Nat.le_refl _) _).trans (hb.mono (by simp))⟩
theorem unitsOf_119 (W : World) : Calls Tryz.prog 177 #[.int .u8 119] W (SPost W (some [(48, 57), (65, 90), (95, 95), (97, 122)])) := by
  go_enter Tryz.func177, Tryz.ntmps177
  go_wp2
  go_ret2
  exact ⟨_, rfl, setR_lit W #[.int .i64 48, .int .i64 57, .int .i64 65, .int .i64 90, .int .i64 95, .int .i64 95, .int .i64 97, .int .i64 122] _ _ rfl rfl, (Below.refl _ _).alloc (Nat.le_refl _) _⟩
theorem unitsOf_87 (W : World) : Calls Tryz.prog 177 #[.int .u8 87] W (SPost W (some (gaps 0 [(48, 57), (65, 90), (95, 95), (97, 122)]))) := by
  have hN : Norm [(48, 57), (65, 90), (95, 95), (97, 122)] := by simp [Norm, Rt]
  have HN := Lib.hid hN
  clear hN
  go_enter Tryz.func177, Tryz.ntmps177
  go_wp2_with fail
  refine (not_own _ [(48, 57), (65, 90), (95, 95), (97, 122)] _ (by decide) (setR_lit W #[.int .i64 48, .int .i64 57, .int .i64 65, .int .i64 90, .int .i64 95, .int .i64 95, .int .i64 97, .int .i64 122] _ 4 rfl rfl).setV HN.out).mono ?_
  rintro e w1 ⟨v1, rfl, hO, hb⟩
  have HO := Lib.hid (SetR.of_own hO)
  clear hO
  go_wp2
  go_ret2
  exact ⟨_, rfl, HO.out, ((Below.refl _ _).alloc (Nat.le_refl _) _).trans (hb.mono (by simp))⟩
theorem unitsOf_115 (W : World) : Calls Tryz.prog 177 #[.int .u8 115] W (SPost W (some [(9, 13), (32, 32)])) := by
  go_enter Tryz.func177, Tryz.ntmps177
  go_wp2
  go_ret2
  exact ⟨_, rfl, setR_lit W #[.int .i64 9, .int .i64 13, .int .i64 32, .int .i64 32] _ _ rfl rfl, (Below.refl _ _).alloc (Nat.le_refl _) _⟩
theorem unitsOf_83 (W : World) : Calls Tryz.prog 177 #[.int .u8 83] W (SPost W (some (gaps 0 [(9, 13), (32, 32)]))) := by
  have hN : Norm [(9, 13), (32, 32)] := by simp [Norm, Rt]
  have HN := Lib.hid hN
  clear hN
  go_enter Tryz.func177, Tryz.ntmps177
  go_wp2_with fail
  refine (not_own _ [(9, 13), (32, 32)] _ (by decide) (setR_lit W #[.int .i64 9, .int .i64 13, .int .i64 32, .int .i64 32] _ 2 rfl rfl).setV HN.out).mono ?_
  rintro e w1 ⟨v1, rfl, hO, hb⟩
  have HO := Lib.hid (SetR.of_own hO)
  clear hO
  go_wp2
  go_ret2
  exact ⟨_, rfl, HO.out, ((Below.refl _ _).alloc (Nat.le_refl _) _).trans (hb.mono (by simp))⟩
theorem unitsOf_else (c : Nat) (W : World) (h : ¬ (c = 100 ∨ c = 68) ∧ ¬ (c = 119 ∨ c = 87) ∧ ¬ (c = 115 ∨ c = 83)) : Calls Tryz.prog 177 #[.int .u8 (c : Nat)] W (SPost W none) := by
  have e0 : ((c : Int) == 100) = false := by simp; omega
  have e1 : ((c : Int) == 68) = false := by simp; omega
  have e2 : ((c : Int) == 119) = false := by simp; omega
  have e3 : ((c : Int) == 87) = false := by simp; omega
  have e4 : ((c : Int) == 115) = false := by simp; omega
  have e5 : ((c : Int) == 83) = false := by simp; omega
  clear h
  go_enter Tryz.func177, Tryz.ntmps177
  go_wp2
  go_ret2
  exact ⟨rfl, Below.refl _ _⟩
theorem unitsOf_any (c : Nat) (W : World) : Calls Tryz.prog 177 #[.int .u8 (c : Nat)] W (SPost W (units c)) := by
  by_cases h1 : c = 100 ∨ c = 68
  · rcases h1 with rfl | rfl
    · exact unitsOf_100 W
    · exact unitsOf_68 W
  · by_cases h2 : c = 119 ∨ c = 87
    · rcases h2 with rfl | rfl
      · exact unitsOf_119 W
      · exact unitsOf_87 W
    · by_cases h3 : c = 115 ∨ c = 83
      · rcases h3 with rfl | rfl
        · exact unitsOf_115 W
        · exact unitsOf_83 W
      · have e : units c = none := by simp [units, lowOf, h1, h2, h3]
        rw [e]
        exact unitsOf_else c W ⟨h1, h2, h3⟩

def ShPost (n₀ rb tb cap : Nat) (s : List UInt8) (d : Nat) (fc fa : Int) (bv : Value) (σ : St) (w : World) (r : Option (List Rg)) (e : Ending) (w' : World) : Prop :=
  match r with
  | some l => ∃ v, e = .returned (.tuple #[v, .bool true]) ∧ SetR w' v l ∧ Rd n₀ rb tb cap s w' (σ.adv 2) d fc fa bv ∧ Fr n₀ rb w w'
  | none => e = .returned (.tuple #[.slice none 0 0, .bool false]) ∧ Below w.heap.size w w'

set_option maxRecDepth 100000 in
set_option maxHeartbeats 1000000 in
theorem shorthand_any (hR : Rd n₀ rb tb cap s w σ d fc fa bv) : Calls Tryz.prog 159 #[.pointer (some ⟨rb, 0, none⟩)] w (ShPost n₀ rb tb cap s d fc fa bv σ w (units (sign σ.t))) := by
  have hsg := sign_any hR
  have hu := unitsOf_any (sign σ.t)
  have hp := hR.pos
  have ht := hR.tl
  have hl := hR.len
  have HR := Lib.hid hR
  have hl2 : ∀ l, units (sign σ.t) = some l → 2 ≤ σ.t.length := fun l h => (sign_len (units_some h)).1
  obtain ⟨c, hc⟩ : ∃ c, c = sign σ.t := ⟨_, rfl⟩
  rw [← hc] at hsg hu hl2 ⊢
  obtain ⟨r, hr⟩ : ∃ r, r = units c := ⟨_, rfl⟩
  rw [← hr] at hu hl2 ⊢
  have HS := Lib.hid hsg
  have HU := Lib.hid hu
  have HL := Lib.hid hl2
  clear hsg hu hR hc hl2 hr
  go_enter Tryz.func159, Tryz.ntmps159
  go_wp2_with fail
  refine HS.out.mono ?_
  rintro e w1 ⟨rfl, hb⟩
  go_wp2_with fail
  refine (HU.out _).mono ?_
  rintro e w2 hP
  have hR1 := HR.out.on hb
  cases r with
  | some l =>
    obtain ⟨v, rfl, hS, hb2⟩ := hP
    have hl2 := HL.out l rfl
    have hR2 := hR1.on hb2
    have c1 := hR2.c1
    have f1 := hR2.fz 1
    have HR2 := Lib.hid hR2
    have HSS := Lib.hid hS
    clear hR2 hR1 hS
    go_wp2
    go_ret2
    exact ⟨_, rfl, HSS.out.far HR2.out.blk (by decide) _, HR2.out.step' (n := 2) hl2, HR2.out.below_set ((Fr.of_below hb).trans (Fr.of_below hb2)) _ _⟩
  | none =>
    obtain ⟨rfl, hb2⟩ := hP
    clear hR1
    go_wp2
    go_ret2
    exact ⟨rfl, hb.trans (hb2.mono hb.size)⟩

set_option maxRecDepth 100000 in
set_option maxHeartbeats 1000000 in
theorem group_no (h : ¬ (49 ≤ sign σ.t ∧ sign σ.t ≤ 57)) (hR : Rd n₀ rb tb cap s w σ d fc fa bv) :
    Calls Tryz.prog 158 #[.pointer (some ⟨rb, 0, none⟩)] w fun e w' => e = .returned (.tuple #[.int .i64 0, .bool false]) ∧ Below w.heap.size w w' := by
  have hsg := sign_any hR
  have hd := isDigit_any (sign σ.t)
  obtain ⟨c, hc⟩ : ∃ c, c = sign σ.t := ⟨_, rfl⟩
  rw [← hc] at hsg hd h
  have HS := Lib.hid hsg
  clear hsg hR hc
  by_cases h0 : c = 48
  · subst h0
    have e : dig 48 = true := by decide
    rw [e] at hd
    clear e h
    go_enter Tryz.func158, Tryz.ntmps158
    go_wp2_with fail
    refine HS.out.mono ?_
    rintro e w1 ⟨rfl, hb⟩
    go_wp2_with (go_at_call 176; refine (hd _).mono ?_; rintro e w' ⟨rfl, rfl⟩)
    go_ret2
    exact ⟨rfl, hb⟩
  · have e : dig c = false := by simp [dig]; omega
    rw [e] at hd
    clear e h
    go_enter Tryz.func158, Tryz.ntmps158
    go_wp2_with fail
    refine HS.out.mono ?_
    rintro e w1 ⟨rfl, hb⟩
    go_wp2_with (go_at_call 176; refine (hd _).mono ?_; rintro e w' ⟨rfl, rfl⟩)
    go_ret2
    exact ⟨rfl, hb⟩
set_option maxRecDepth 100000 in
set_option maxHeartbeats 1000000 in
theorem group_yes (h : 49 ≤ sign σ.t ∧ sign σ.t ≤ 57) (hR : Rd n₀ rb tb cap s w σ d fc fa bv) :
    Calls Tryz.prog 158 #[.pointer (some ⟨rb, 0, none⟩)] w fun e w' => e = .returned (.tuple #[.int .i64 (sign σ.t - 48 : Nat), .bool true]) ∧ Rd n₀ rb tb cap s w' (σ.adv 2) d fc fa bv ∧ Fr n₀ rb w w' := by
  have hsg := sign_any hR
  have hd := isDigit_any (sign σ.t)
  have hl2 := (sign_len (t := σ.t) (by omega)).1
  have hp := hR.pos
  have ht := hR.tl
  have hl := hR.len
  have HR := Lib.hid hR
  obtain ⟨c, hc⟩ : ∃ c, c = sign σ.t := ⟨_, rfl⟩
  rw [← hc] at hsg hd h ⊢
  obtain ⟨h1, h2⟩ := h
  have e : dig c = true := by simp [dig]; omega
  have e2 : ((c : Int) == 48) = false := by simp; omega
  rw [e] at hd
  have HS := Lib.hid hsg
  clear hsg hR hc e
  go_enter Tryz.func158, Tryz.ntmps158
  go_wp2_with fail
  refine HS.out.mono ?_
  rintro e w1 ⟨rfl, hb⟩
  have hR1 := HR.out.on hb
  have c1 := hR1.c1
  have f1 := hR1.fz 1
  have HR1 := Lib.hid hR1
  clear hR1
  go_wp2_with (go_at_call 176; refine (hd _).mono ?_; rintro e w' ⟨rfl, rfl⟩)
  go_ret2
  exact ⟨ret_int_bool (by omega) rfl, HR1.out.step' (n := 2) hl2, HR1.out.below_set (Fr.of_below hb) _ _⟩

set_option maxRecDepth 100000 in
set_option maxHeartbeats 1000000 in
theorem seesUnit_any (hR : Rd n₀ rb tb cap s w σ d fc fa bv) :
    Calls Tryz.prog 168 #[.pointer (some ⟨rb, 0, none⟩)] w fun e w' => e = .returned (.bool (seesUnit σ.t)) ∧ Below w.heap.size w w' := by
  have hen := ended_any hR
  have HR := Lib.hid hR
  cases hem : σ.t.isEmpty with
  | true =>
    have hs : seesUnit σ.t = false := by simp [seesUnit, hem]
    rw [hem] at hen
    rw [hs]
    have HE := Lib.hid hen
    clear hen hR hs hem
    go_enter Tryz.func168, Tryz.ntmps168
    go_wp2_with fail
    refine HE.out.mono ?_
    rintro e w1 ⟨rfl, hb⟩
    go_wp2
    go_ret
    exact ⟨rfl, hb⟩
  | false =>
    have hn : σ.t ≠ [] := by rintro e; rw [e] at hem; cases hem
    have hlen := len_ne hn
    have hx := at_lt σ.t 0
    have hp := hR.pos
    have ht := hR.tl
    have hl := hR.len
    have hlt : (σ.pos : Int) < (s.length : Int) := by omega
    have hge : (0 : Int) ≤ (σ.pos : Int) := by omega
    rw [hem] at hen
    have HE := Lib.hid hen
    have HC := Lib.hid (fun W (h : Rd n₀ rb tb cap s W σ d fc fa bv) => show W.cell? ⟨tb, σ.pos, none⟩ = some (.int .u8 ((at_ σ.t 0 : Nat) : Int)) by have := h.at_ (j := 0) hlen; rwa [Nat.zero_add, Nat.add_zero] at this)
    have HSG := Lib.hid (fun W (h : Rd n₀ rb tb cap s W σ d fc fa bv) => sign_any h)
    by_cases hb : at_ σ.t 0 = 91 ∨ at_ σ.t 0 = 93 ∨ at_ σ.t 0 = 45
    · have hs : seesUnit σ.t = false := by simp [seesUnit, hb]
      rw [hs]
      obtain ⟨c, hc⟩ : ∃ c, c = at_ σ.t 0 := ⟨_, rfl⟩
      rw [← hc] at hb hx HC
      clear hen hR hs hem hn hc
      rcases hb with rfl | rfl | rfl
      all_goals
        go_enter Tryz.func168, Tryz.ntmps168
        go_wp2_with fail
        refine HE.out.mono ?_
        rintro e w1 ⟨rfl, hb⟩
        have hR1 := HR.out.on hb
        have c0 := hR1.c0
        have c1 := hR1.c1
        have ct := HC.out _ hR1
        clear hR1
        go_wp2
        go_quiet (fail)
        go_wp2
        go_ret
        exact ⟨rfl, hb.trans (Below.mono (bdrew _ _) hb.size)⟩
    · have hs : seesUnit σ.t = (units (sign σ.t)).isNone := by simp [seesUnit, hem, hb]
      rw [hs]
      have e1 : ((at_ σ.t 0 : Int) == 91) = false := by simp; omega
      have e2 : ((at_ σ.t 0 : Int) == 93) = false := by simp; omega
      have e3 : ((at_ σ.t 0 : Int) == 45) = false := by simp; omega
      obtain ⟨c, hc⟩ : ∃ c, c = at_ σ.t 0 := ⟨_, rfl⟩
      rw [← hc] at hb hx HC e1 e2 e3
      have hu := unitsOf_any (sign σ.t)
      obtain ⟨g, hg⟩ : ∃ g, g = sign σ.t := ⟨_, rfl⟩
      rw [← hg] at hu HSG ⊢
      obtain ⟨r, hr⟩ : ∃ r, r = units g := ⟨_, rfl⟩
      rw [← hr] at hu ⊢
      have HU := Lib.hid hu
      clear hen hR hs hem hn hc hu hg hr hb
      go_enter Tryz.func168, Tryz.ntmps168
      go_wp2_with fail
      refine HE.out.mono ?_
      rintro e w1 ⟨rfl, hb⟩
      have hR1 := HR.out.on hb
      have c0 := hR1.c0
      have c1 := hR1.c1
      have ct := HC.out _ hR1
      have HR1 := Lib.hid hR1
      clear hR1
      go_wp2
      go_quiet (fail)
      go_wp2_with fail
      refine (HSG.out _ (HR1.out.drewN _)).mono ?_
      rintro e w2 ⟨rfl, hb2⟩
      go_wp2_with fail
      refine (HU.out _).mono ?_
      rintro e w3 hP
      have hbb : Below w.heap.size w w2 := hb.trans ((Below.mono (bdrew _ _) hb.size).trans (hb2.mono hb.size))
      cases r with
      | some l =>
        obtain ⟨v, rfl, _, hb3⟩ := hP
        go_wp2
        go_ret
        exact ⟨rfl, hbb.trans (hb3.mono hbb.size)⟩
      | none =>
        obtain ⟨rfl, hb3⟩ := hP
        go_wp2
        go_ret
        exact ⟨rfl, hbb.trans (hb3.mono hbb.size)⟩

end Go.Proofs.YtefgobmpleoafaaGreatDoor

/- A member of a class. -/
namespace Go.Proofs.YtefgobmpleoafaaGreatDoor
open Go.RowKit
open Go.Proofs.YtefgobmpleoafaaGreatDoor.Cl (Rg SetV SetAt rgCells Norm Rt gaps GivesO not_own make_own rgCells_get rgCells_len)
variable {n₀ rb tb cap d : Nat} {s : List UInt8} {w w' : World} {σ σ1 : St} {fc fa : Int} {bv v : Value} {l : List Rg}

def MPost (n₀ rb tb cap : Nat) (s : List UInt8) (d : Nat) (fc fa : Int) (bv : Value) (w : World) (r : Except Flt (List Rg × St)) (e : Ending) (w' : World) : Prop :=
  match r with
  | .ok x => ∃ v, e = .returned (.tuple #[v, .bool true]) ∧ SetR w' v x.1 ∧ Rd n₀ rb tb cap s w' x.2 d fc fa bv ∧ Fr n₀ rb w w'
  | .error f => e = .returned (.tuple #[.slice none 0 0, .bool false]) ∧ Bad w' rb f ∧ Fr n₀ rb w w'

theorem sees_one (c : UInt8) (b : Bool) (h0 : c ≠ 0) (h : decide (at_ σ.t 0 = c.toNat) = b) (hR : Rd n₀ rb tb cap s w σ d fc fa bv) :
    Calls Tryz.prog 92 #[.pointer (some ⟨rb, 0, none⟩), .string ⟨[c].toArray⟩] w fun e w' => e = .returned (.bool b) ∧ Below w.heap.size w w' := by
  have := sees_any [c] hR
  rwa [pre_one c _ h0, h] at this

set_option maxRecDepth 100000 in
set_option maxHeartbeats 2000000 in
theorem member_wrong (h : at_ σ.t 0 = 91 ∨ at_ σ.t 0 = 45) (hR : Rd n₀ rb tb cap s w σ d fc fa bv) :
    Calls Tryz.prog 155 #[.pointer (some ⟨rb, 0, none⟩)] w fun e w' => e = .returned (.tuple #[.slice none 0 0, .bool false]) ∧ Bad w' rb (22, σ.pos) ∧ Fr n₀ rb w w' := by
  have HR := Lib.hid hR
  have c1 := hR.c1
  rcases h with h | h
  · have H1 := Lib.hid (sees_one 91 true (by decide) (by simp [h]) hR)
    clear hR h
    go_enter Tryz.func155, Tryz.ntmps155
    go_wp2_with fail
    refine H1.out.mono ?_
    rintro e w1 ⟨rfl, hb⟩
    go_wp2_with fail
    refine (refuse_bad 22 σ.pos (HR.out.on hb)).mono ?_
    rintro e w2 ⟨rfl, hB, hF⟩
    go_wp2
    go_ret2
    exact ⟨rfl, hB, (Fr.of_below hb).trans hF⟩
  · have H1 := Lib.hid (sees_one 91 false (by decide) (by simp [h]) hR)
    have H2 := Lib.hid (fun W (hW : Rd n₀ rb tb cap s W σ d fc fa bv) => sees_one 45 true (by decide) (by simp [h]) hW)
    clear hR h
    go_enter Tryz.func155, Tryz.ntmps155
    go_wp2_with fail
    refine H1.out.mono ?_
    rintro e w1 ⟨rfl, hb⟩
    have hR1 := Lib.hid (HR.out.on hb)
    go_wp2_with fail
    refine (H2.out _ hR1.out).mono ?_
    rintro e w2 ⟨rfl, hb2⟩
    go_wp2_with fail
    refine (refuse_bad 22 σ.pos (hR1.out.on hb2)).mono ?_
    rintro e w3 ⟨rfl, hB, hF⟩
    go_wp2
    go_ret2
    exact ⟨rfl, hB, ((Fr.of_below hb).trans (Fr.of_below hb2)).trans hF⟩

set_option maxRecDepth 100000 in
set_option maxHeartbeats 4000000 in
theorem member_any (hn : σ.t ≠ []) (hR : Rd n₀ rb tb cap s w σ d fc fa bv) : Calls Tryz.prog 155 #[.pointer (some ⟨rb, 0, none⟩)] w (MPost n₀ rb tb cap s d fc fa bv w (member σ)) := by
  by_cases h : at_ σ.t 0 = 91 ∨ at_ σ.t 0 = 45
  · have e : member σ = .error (22, σ.pos) := by unfold member; rw [if_pos h]
    rw [e]
    exact member_wrong h hR
  have hm : member σ = (match units (sign σ.t) with
    | some l => .ok (l, σ.adv 2)
    | none => match mUnit σ with
      | .error e => .error e
      | .ok (lo, σ1) =>
        if at_ σ1.t 0 = 45 then
          if seesUnit (σ1.adv 1).t then
            match mUnit (σ1.adv 1) with
            | .error e => .error e
            | .ok (hi, σ3) => if hi < lo then .error (22, σ.pos) else .ok ([((lo : Int), (hi : Int))], σ3)
          else .error (22, σ.pos)
        else .ok ([((lo : Int), (lo : Int))], σ1)) := by unfold member; rw [if_neg h]; rfl
  have HR := Lib.hid hR
  have c1 := hR.c1
  have H1 := Lib.hid (sees_one 91 false (by decide) (by simp; omega) hR)
  have H2 := Lib.hid (fun W (hW : Rd n₀ rb tb cap s W σ d fc fa bv) => sees_one 45 false (by decide) (by simp; omega) hW)
  have HS := Lib.hid (fun W (hW : Rd n₀ rb tb cap s W σ d fc fa bv) => shorthand_any hW)
  have HU := Lib.hid (fun W (hW : Rd n₀ rb tb cap s W σ d fc fa bv) => mUnit_any hn hW)
  obtain ⟨r, hr⟩ : ∃ r, r = member σ := ⟨_, rfl⟩
  rw [← hr] at hm ⊢
  have HM := Lib.hid hm
  have hlo := fun u σ1 (h : mUnit σ = .ok (u, σ1)) => mUnit_len h hn
  obtain ⟨ru, hru⟩ : ∃ ru, ru = units (sign σ.t) := ⟨_, rfl⟩
  obtain ⟨rm, hrm⟩ : ∃ rm, rm = mUnit σ := ⟨_, rfl⟩
  rw [← hru] at HS HM
  rw [← hrm] at HU HM hlo
  have HL := Lib.hid hlo
  clear hR h hm hr hn hru hrm hlo
  go_enter Tryz.func155, Tryz.ntmps155
  go_wp2_with fail
  refine H1.out.mono ?_
  rintro e w1 ⟨rfl, hb1⟩
  have hR1 := Lib.hid (HR.out.on hb1)
  go_wp2_with fail
  refine (H2.out _ hR1.out).mono ?_
  rintro e w2 ⟨rfl, hb2⟩
  have hR2 := Lib.hid (hR1.out.on hb2)
  have hbb : Below w.heap.size w w2 := hb1.trans (hb2.mono hb1.size)
  go_wp2_with fail
  refine (HS.out _ hR2.out).mono ?_
  rintro e w3 hP
  cases ru with
  | some l =>
    obtain ⟨v, rfl, hS, hR3, hF⟩ := hP
    have HP := Lib.hid (And.intro hS (And.intro hR3 hF))
    clear hS hR3 hF
    have hm := HM.out
    simp only at hm
    subst hm
    go_wp2
    go_ret2
    exact ⟨_, rfl, HP.out.1, HP.out.2.1, (Fr.of_below hbb).trans HP.out.2.2⟩
  | none =>
    obtain ⟨rfl, hb3⟩ := hP
    have hR3 := Lib.hid (hR2.out.on hb3)
    replace hbb : Below w.heap.size w w3 := hbb.trans (hb3.mono hbb.size)
    go_wp2_with fail
    refine (HU.out _ hR3.out).mono ?_
    rintro e w4 hP
    cases rm with
    | error f =>
      obtain ⟨rfl, hB, hF⟩ := hP
      have hm := HM.out
      simp only at hm
      subst hm
      go_wp2
      go_ret2
      exact ⟨rfl, hB, (Fr.of_below hbb).trans hF⟩
    | ok x =>
      obtain ⟨lo, σa⟩ := x
      obtain ⟨rfl, hR4, hF⟩ := hP
      have hlo := (HL.out lo σa rfl).2.1
      replace hF := (Fr.of_below hbb).trans hF
      have hm := HM.out
      simp only at hm hR4
      have HR4 := Lib.hid hR4
      clear hR4 HM HL
      by_cases c45 : at_ σa.t 0 = 45
      · rw [if_pos c45] at hm
        have hT := Lib.hid (take_yes [45] (by rw [pre_one 45 _ (by decide)]; simpa using c45) HR4.out)
        have hl1 := len_ne (at_ne (t := σa.t) (by omega))
        clear c45
        have HM := Lib.hid hm
        clear hm
        go_wp2_with fail
        refine hT.out.mono ?_
        rintro e w5 ⟨rfl, hR5, hF5⟩
        replace hR5 : Rd n₀ rb tb cap s w5 (σa.adv 1) d fc fa bv := hR5
        have HSU := Lib.hid (seesUnit_any hR5)
        have HR5 := Lib.hid hR5
        replace hF := hF.trans hF5
        clear hR5 hF5
        obtain ⟨bs, hbs⟩ : ∃ bs, bs = seesUnit (σa.adv 1).t := ⟨_, rfl⟩
        rw [← hbs] at HSU HM
        cases bs with
        | false =>
          clear hbs
          have hm := HM.out
          rw [if_neg (by decide)] at hm
          subst hm
          go_wp2_with fail
          refine HSU.out.mono ?_
          rintro e w6 ⟨rfl, hb6⟩
          have c1 := (HR5.out.on hb6).c1
          go_wp2_with fail
          refine (refuse_bad 22 σ.pos (HR5.out.on hb6)).mono ?_
          rintro e w7 ⟨rfl, hB, hF7⟩
          go_wp2
          go_ret2
          exact ⟨rfl, hB, (hF.trans (Fr.of_below hb6)).trans hF7⟩
        | true =>
          have hn2 := seesUnit_ne hbs.symm
          clear hbs
          have hm := HM.out
          rw [if_pos rfl] at hm
          have HU2 := Lib.hid (fun W (hW : Rd n₀ rb tb cap s W (σa.adv 1) d fc fa bv) => mUnit_any hn2 hW)
          have hl2 := fun u σ1 (h : mUnit (σa.adv 1) = .ok (u, σ1)) => mUnit_len h hn2
          obtain ⟨rm, hrm⟩ : ∃ rm, rm = mUnit (σa.adv 1) := ⟨_, rfl⟩
          rw [← hrm] at HU2 hm hl2
          clear HM hn2 hrm
          have HM := Lib.hid hm
          have HL := Lib.hid hl2
          clear hm hl2
          go_wp2_with fail
          refine HSU.out.mono ?_
          rintro e w6 ⟨rfl, hb6⟩
          go_wp2_with fail
          refine (HU2.out _ (HR5.out.on hb6)).mono ?_
          rintro e w7 hP
          replace hF := hF.trans (Fr.of_below hb6)
          cases rm with
          | error f =>
            obtain ⟨rfl, hB, hF7⟩ := hP
            have hm := HM.out
            simp only at hm
            subst hm
            go_wp2
            go_ret2
            exact ⟨rfl, hB, hF.trans hF7⟩
          | ok y =>
            obtain ⟨hi, σb⟩ := y
            obtain ⟨rfl, hR7, hF7⟩ := hP
            have hhi := (HL.out hi σb rfl).2.1
            replace hF := hF.trans hF7
            have hm := HM.out
            simp only at hm hR7
            have c1 := hR7.c1
            have HR7 := Lib.hid hR7
            clear hR7 HM HL
            by_cases hlt : hi < lo
            · rw [if_pos hlt] at hm
              subst hm
              have hlt' : (hi : Int) < (lo : Int) := by omega
              go_wp2_with fail
              refine (refuse_bad 22 σ.pos HR7.out).mono ?_
              rintro e w8 ⟨rfl, hB, hF8⟩
              go_wp2
              go_ret2
              exact ⟨rfl, hB, hF.trans hF8⟩
            · rw [if_neg hlt] at hm
              subst hm
              have hlt' : ¬ (hi : Int) < (lo : Int) := by omega
              go_wp2
              go_ret2
              exact ⟨_, rfl, setR_lit _ #[.int .i64 (lo : Nat), .int .i64 (hi : Nat)] _ _ rfl rfl, HR7.out.alloc _, hF.alloc _⟩
      · rw [if_neg c45] at hm
        have hT := Lib.hid (take_no [45] (by rw [pre_one 45 _ (by decide)]; simpa using c45) HR4.out)
        clear c45
        subst hm
        go_wp2_with fail
        refine hT.out.mono ?_
        rintro e w5 ⟨rfl, hb5⟩
        go_wp2
        go_ret2
        exact ⟨_, rfl, setR_lit _ #[.int .i64 (lo : Nat), .int .i64 (lo : Nat)] _ _ rfl rfl, (HR4.out.on hb5).alloc _, (hF.trans (Fr.of_below hb5)).alloc _⟩

end Go.Proofs.YtefgobmpleoafaaGreatDoor

/- Nodes that are made; a result that is a node. -/
namespace Go.Proofs.YtefgobmpleoafaaGreatDoor
open Go.RowKit
open Go.Proofs.YtefgobmpleoafaaGreatDoor.Cl (Rg SetV SetAt rgCells Norm Rt gaps GivesO not_own make_own rgCells_get rgCells_len mkSet_norm wpList_append_set info_three)
variable {n₀ rb tb cap d : Nat} {s : List UInt8} {w w' : World} {σ σ1 : St} {fc fa : Int} {bv v : Value} {l : List Rg}

theorem setR_at (w : World) (g : Nat) (hg : g = w.heap.size) (cs : Array Value) (l : List Rg) (n : Nat) (hn : n = l.length) (h : cs.toList = rgCells l) : SetR (w.alloc (.cells cs 223)) (.slice (some ⟨g, 0, none⟩) n n) l := by
  subst hg
  exact setR_lit w cs l n hn h
theorem one_any (u : Nat) (W : World) : Calls Tryz.prog 144 #[.int .i64 (u : Nat)] W fun e w' => ∃ sv, e = .returned (.agg #[.int .i64 1, .int .i64 0, .int .i64 0, .int .i64 0, .int .i64 0, sv, .slice none 0 0]) ∧ SetR w' sv [((u : Int), (u : Int))] ∧ Below W.heap.size W w' := by
  go_enter Tryz.func144, Tryz.ntmps144
  go_wp2
  exact bodyPost_ret (v := .agg #[.int .i64 1, .int .i64 0, .int .i64 0, .int .i64 0, .int .i64 0, .slice (some ⟨W.heap.size + 1, 0, none⟩) 1 1, .slice none 0 0]) (by simp [results, Tryz.results144, go_sem]) rfl
    ⟨_, rfl, setR_at _ _ (by simp) #[.int .i64 (u : Nat), .int .i64 (u : Nat)] _ _ rfl rfl, ((Below.refl _ _).alloc (Nat.le_refl _) _).alloc (by simp) _⟩
theorem dot_any (W : World) : Calls Tryz.prog 143 #[] W fun e w' => ∃ sv, e = .returned sv ∧ SetR w' sv [(0, 9), (11, 1114367)] ∧ Below W.heap.size W w' := by
  go_enter Tryz.func143, Tryz.ntmps143
  go_wp2
  go_ret
  exact ⟨_, rfl, setR_lit _ #[.int .i64 0, .int .i64 9, .int .i64 11, .int .i64 1114367] _ _ rfl rfl, (Below.refl _ _).alloc (Nat.le_refl _) _⟩

/-- A node's value; nothing in a node. -/
def ndVal (nd : Nd) (sv kv : Value) : Value := .agg #[.int .i64 nd.kind, .int .i64 nd.lo, .int .i64 nd.hi, .int .i64 nd.mode, .int .i64 nd.ref, sv, kv]
def zeros : Array Value := #[.int .i64 0, .int .i64 0, .int .i64 0, .int .i64 0, .int .i64 0, .slice none 0 0, .slice none 0 0]
/-- What a call that reads a node leaves. -/
def NPost (n₀ rb tb cap : Nat) (s : List UInt8) (d : Nat) (fc fa : Int) (w : World) (r : R) (e : Ending) (w' : World) : Prop :=
  match r with
  | .ok x => ∃ sv kv bv, e = .returned (.tuple #[ndVal x.1 sv kv, .bool true]) ∧ NodeV (KB n₀ rb w w') w' x.1 sv kv ∧ Rd n₀ rb tb cap s w' x.2 d fc fa bv ∧ Fr n₀ rb w w'
  | .error f => e = .returned (.tuple #[.agg zeros, .bool false]) ∧ Bad w' rb f ∧ Fr n₀ rb w w'

theorem Blk.zero (h : Blk w n₀ 117 zeros) : w.cell? ⟨n₀, 0, none⟩ = some (.int .i64 0) ∧ w.cell? ⟨n₀, 1, none⟩ = some (.int .i64 0) ∧ w.cell? ⟨n₀, 2, none⟩ = some (.int .i64 0) ∧ w.cell? ⟨n₀, 3, none⟩ = some (.int .i64 0) ∧ w.cell? ⟨n₀, 4, none⟩ = some (.int .i64 0) ∧
    w.cell? ⟨n₀, 5, none⟩ = some (.slice none 0 0) ∧ w.cell? ⟨n₀, 6, none⟩ = some (.slice none 0 0) :=
  ⟨h.cell 0, h.cell 1, h.cell 2, h.cell 3, h.cell 4, h.cell 5, h.cell 6⟩

/-- Seven cells of a block are stored. -/
def st7 (w : World) (g : Nat) (c0 c1 c2 c3 c4 c5 c6 : Value) : World :=
  (((((((w.setCell ⟨g, 0, none⟩ c0).setCell ⟨g, 1, none⟩ c1).setCell ⟨g, 2, none⟩ c2).setCell ⟨g, 3, none⟩ c3).setCell ⟨g, 4, none⟩ c4).setCell ⟨g, 5, none⟩ c5).setCell ⟨g, 6, none⟩ c6)
section
variable {g : Nat} {t : TypeId} {x0 x1 x2 x3 x4 x5 x6 c0 c1 c2 c3 c4 c5 c6 : Value}
theorem st7_blk (h : Blk w g t #[x0, x1, x2, x3, x4, x5, x6]) : Blk (st7 w g c0 c1 c2 c3 c4 c5 c6) g t #[c0, c1, c2, c3, c4, c5, c6] := by
  have := ((((((h.set_ 0 c0).set_ 1 c1).set_ 2 c2).set_ 3 c3).set_ 4 c4).set_ 5 c5).set_ 6 c6
  simpa [st7] using this
theorem st7_heap {i : Nat} (h : i ≠ g) : (st7 w g c0 c1 c2 c3 c4 c5 c6).heap[i]? = w.heap[i]? := by
  unfold st7
  repeat rw [Below.heap_setCell _ _ _ _ h]
theorem st7_size : (st7 w g c0 c1 c2 c3 c4 c5 c6).heap.size = w.heap.size := by simp [st7, World.setCell]
theorem setCell_os (w : World) (a : Addr) (u : Value) : (w.setCell a u).os = w.os := rfl
theorem setCell_tape (w : World) (a : Addr) (u : Value) : (w.setCell a u).tape = w.tape := rfl
theorem setCell_output (w : World) (a : Addr) (u : Value) : (w.setCell a u).output = w.output := rfl
theorem st7_os : (st7 w g c0 c1 c2 c3 c4 c5 c6).os = w.os := by unfold st7; simp only [setCell_os]
theorem st7_tape : (st7 w g c0 c1 c2 c3 c4 c5 c6).tape = w.tape := by unfold st7; simp only [setCell_tape]
theorem st7_output : (st7 w g c0 c1 c2 c3 c4 c5 c6).output = w.output := by unfold st7; simp only [setCell_output]
theorem Rd.st7 (h : Rd n₀ rb tb cap s w σ d fc fa bv) {cs : Array Value} (hg : Blk w g 117 cs) (hn : n₀ ≤ g) : Rd n₀ rb tb cap s (st7 w g c0 c1 c2 c3 c4 c5 c6) σ d fc fa bv :=
  h.keep fun i _ hc => st7_heap (h.away hg (by decide) (by decide) (by decide) hn i hc)
theorem Fr.st7 {a : World} (h : Fr n₀ rb a w) (hg : a.heap.size ≤ g) : Fr n₀ rb a (st7 w g c0 c1 c2 c3 c4 c5 c6) :=
  ⟨st7_os.trans h.os, st7_tape.trans h.tape, st7_output.trans h.output, by rw [st7_size]; exact h.size, fun i hi hc => (st7_heap (by omega)).trans (h.block i hi hc)⟩
theorem Bad.st7 {f : Flt} (h : Bad w rb f) (hg : rb ≠ g) : Bad (st7 w g c0 c1 c2 c3 c4 c5 c6) rb f := h.keep (st7_heap hg)
theorem okB.st7 {b : Nat} (h : okB n₀ rb w b) (hb : b ≠ g) : okB n₀ rb (st7 w g c0 c1 c2 c3 c4 c5 c6) b := by
  refine ⟨by rw [st7_size]; exact h.1, h.2.imp id (fun ⟨h1, h2⟩ => ⟨h1, fun ⟨cs', z, hh⟩ => h2 ⟨cs', z, ?_⟩⟩)⟩
  rw [← st7_heap (w := w) (c0 := c0) (c1 := c1) (c2 := c2) (c3 := c3) (c4 := c4) (c5 := c5) (c6 := c6) hb]
  exact hh
theorem NodeV.st7 {a : World} {nd : Nd} {sv kv : Value} (h : NodeV (KB n₀ rb a w) w nd sv kv) {cs : Array Value} (hg : Blk w g 117 cs) (ha : g < a.heap.size) : NodeV (KB n₀ rb a (st7 w g c0 c1 c2 c3 c4 c5 c6)) (st7 w g c0 c1 c2 c3 c4 c5 c6) nd sv kv :=
  h.keep fun b hb => by
    have hne : b ≠ g := by
      rcases hb.2 with h1 | ⟨_, _, h1⟩
      · omega
      · exact ne_of_types h1 hg (by decide)
    exact ⟨⟨hb.1.st7 hne, hb.2.imp id (fun h => h.keep (st7_heap hne))⟩, st7_heap hne⟩
theorem ret_node {fn : Func} {Q : Ending → World → Prop} {a : Act} {b : Value} (hres : fn.results = #[.cell 2 117, .tmp 3]) (h2 : a.tmps.getD 2 undef = .pointer (some ⟨g, 0, none⟩)) (h3 : a.tmps.getD 3 undef = b) (hd : a.defers = [])
    (hB : Blk w g 117 #[c0, c1, c2, c3, c4, c5, c6]) (hQ : Q (.returned (.tuple #[.agg #[c0, c1, c2, c3, c4, c5, c6], b])) w) : bodyPost Tryz.prog fn Q Exit.ret a w := by
  have k0 := hB.cell 0
  have k1 := hB.cell 1
  have k2 := hB.cell 2
  have k3 := hB.cell 3
  have k4 := hB.cell 4
  have k5 := hB.cell 5
  have k6 := hB.cell 6
  simp at k0 k1 k2 k3 k4 k5 k6
  rw [Array.getD_eq_getD_getElem?] at h2 h3
  refine bodyPost_ret (v := .tuple #[.agg #[c0, c1, c2, c3, c4, c5, c6], b]) ?_ hd hQ
  simp [results, hres, go_sem, h2, h3, k0, k1, k2, k3, k4, k5, k6]
end

end Go.Proofs.YtefgobmpleoafaaGreatDoor

/- A class. -/
namespace Go.Proofs.YtefgobmpleoafaaGreatDoor
open Go.RowKit
open Go.Proofs.YtefgobmpleoafaaGreatDoor.Cl (Rg SetV SetAt rgCells Norm Rt gaps GivesO not_own make_own rgCells_get rgCells_len mkSet_norm wpList_append_set info_three)
variable {n₀ rb tb cap d : Nat} {s : List UInt8} {w w' : World} {σ σ1 : St} {fc fa : Int} {bv v : Value} {l : List Rg}

def nodeOf (rm : Except Flt (List Rg × St)) : R := match rm with | .error e => .error e | .ok (l, σ1) => .ok (setN l, σ1)
theorem SetR.st7 {g : Nat} {cs : Array Value} {c0 c1 c2 c3 c4 c5 c6 : Value} (h : SetR w v l) (hg : Blk w g 117 cs) : SetR (st7 w g c0 c1 c2 c3 c4 c5 c6) v l := SetK.keep h fun b hb => by
  obtain ⟨cs', z, hh⟩ := hb
  have hs := st7_heap (w := w) (c0 := c0) (c1 := c1) (c2 := c2) (c3 := c3) (c4 := c4) (c5 := c5) (c6 := c6) (ne_of_types hh hg (by decide))
  exact ⟨⟨cs', z, hs.trans hh⟩, hs⟩
theorem len_ne0 {l : List Rg} (h : l ≠ []) : 1 ≤ l.length := by cases l <;> simp_all
/-- What a round of the class's loop keeps. -/
def BRel (n₀ rb tb cap : Nat) (s : List UInt8) (d : Nat) (fc fa : Int) (bv : Value) (op : Nat) (neg : Bool) (w : World) (r : Except Flt (List Rg × St)) (g : Nat) (m : Value) (wr : World) : Prop :=
  ∃ (k : Nat) (acc : List Rg) (σ' : St), σ'.t.length ≤ g ∧ σ'.t.length + 1 ≤ k ∧ acc.length + 5 * σ'.t.length ≤ 5 * s.length ∧ members op neg k acc σ' = r ∧ Cl.Own wr (w.heap.size + 1) 223 m acc ∧ (∀ x ∈ acc, Rt x) ∧
    Rd n₀ rb tb cap s wr σ' d fc fa bv ∧ Fr n₀ rb w wr ∧ Blk wr w.heap.size 117 zeros

set_option maxRecDepth 100000 in
set_option maxHeartbeats 4000000 in
theorem brackets_any (hc : at_ σ.t 0 = 91) (hR : Rd n₀ rb tb cap s w σ d fc fa bv) : Calls Tryz.prog 141 #[.pointer (some ⟨rb, 0, none⟩)] w (NPost n₀ rb tb cap s d fc fa w (brackets σ)) := by
  have c1 := (hR.alloc (.cells zeros 117)).c1
  unfold zeros at c1
  have hl0 := len_ne (at_ne (t := σ.t) (by omega))
  have ht := hR.tl
  have HT1 := Lib.hid (fun W (hW : Rd n₀ rb tb cap s W σ d fc fa bv) => take_yes [91] (by rw [pre_one 91 _ (by decide)]; simpa using hc) hW)
  have HR := Lib.hid hR
  obtain ⟨rm, hrm⟩ : ∃ rm, rm = members σ.pos (negAt σ) 300 [] (behindNeg σ) := ⟨_, rfl⟩
  have hbr : brackets σ = nodeOf rm := by rw [hrm]; rfl
  obtain ⟨r, hr⟩ : ∃ r, r = brackets σ := ⟨_, rfl⟩
  rw [← hr] at hbr ⊢
  have HBR := Lib.hid hbr
  have HRM := Lib.hid hrm
  clear hbr hr hrm hR hc
  obtain ⟨i0, hi, hz0, hz1, hz2⟩ := info_three Cl.info46
  go_enter Tryz.func141, Tryz.ntmps141
  go_wp2_with fail
  refine (HT1.out _ (HR.out.alloc _)).mono ?_
  rintro e w1 ⟨rfl, hR1, hF1⟩
  replace hR1 : Rd n₀ rb tb cap s w1 (σ.adv 1) d fc fa bv := hR1
  have hB1 := hF1.blk (HR.out.alloc _) (Blk.new w 117 zeros) (by decide) (by decide)
  replace hF1 : Fr n₀ rb w w1 := ((Fr.refl w).alloc (.cells zeros 117)).trans hF1
  have HR1 := Lib.hid hR1
  clear hR1
  obtain ⟨neg, hneg⟩ : ∃ neg, neg = negAt σ := ⟨_, rfl⟩
  have key : Calls Tryz.prog 75 #[.pointer (some ⟨rb, 0, none⟩), .string ⟨[94].toArray⟩] w1 fun e w' => e = .returned (.bool neg) ∧ Rd n₀ rb tb cap s w' (behindNeg σ) d fc fa bv ∧ Fr n₀ rb w1 w' := by
    unfold behindNeg
    rw [← hneg]
    cases neg with
    | true =>
      have : at_ (σ.adv 1).t 0 = 94 := by simpa [negAt] using hneg.symm
      exact (take_yes [94] (by rw [pre_one 94 _ (by decide)]; simpa using this) HR1.out).mono fun _ _ h => h
    | false =>
      have : ¬ at_ (σ.adv 1).t 0 = 94 := by simpa [negAt] using hneg.symm
      exact (take_no [94] (by rw [pre_one 94 _ (by decide)]; simpa using this) HR1.out).mono fun _ _ ⟨h1, h2⟩ => ⟨h1, HR1.out.on h2, Fr.of_below h2⟩
  have hbl : (behindNeg σ).t.length ≤ σ.t.length - 1 := by
    unfold behindNeg
    split
    · rw [adv_len, adv_len]; omega
    · rw [adv_len]; omega
  have KEY := Lib.hid key
  rw [← hneg] at HRM
  clear key hneg
  obtain ⟨σ0, hσ0⟩ : ∃ σ0, σ0 = behindNeg σ := ⟨_, rfl⟩
  rw [← hσ0] at HRM KEY hbl
  clear hσ0
  go_wp2_with fail
  refine KEY.out.mono ?_
  rintro e w2 ⟨rfl, hR2, hF2⟩
  have hB2 := hF2.blk HR1.out hB1 (by decide) (by decide)
  replace hF1 := hF1.trans hF2
  have hpos := HR.out.pos
  have hl := HR.out.len
  have h0 : BRel n₀ rb tb cap s d fc fa bv σ.pos neg w rm s.length (.slice none 0 0) w2 :=
    ⟨300, [], σ0, by omega, by omega, by simp; omega, HRM.out.symm, Cl.Own.nil _ _ _, by simp, hR2, hF1, hB2⟩
  have H0 := Lib.hid h0
  clear h0 hR2 hF2 hB1 hB2 hF1 hbl hpos
  go_wp2
  go_loopg [6] s.length (fun g m wr => BRel n₀ rb tb cap s d fc fa bv σ.pos neg w rm g m wr)
  case atStart => exact H0.out
  case round =>
    clear H0 HRM KEY HT1 c1
    obtain ⟨k, acc, σ', hg, hk, hacc, hmem, hown, hRt, hRr, hFr, hBr⟩ := hrel
    obtain ⟨k, rfl⟩ : ∃ k', k = k' + 1 := ⟨k - 1, by omega⟩
    rw [members] at hmem
    have hlenw : w.heap.size < wr.heap.size := hBr.lt
    obtain ⟨A6, cp6, rfl, hcp6, hx6⟩ := id hown.set
    clear hx6
    have HRR := Lib.hid hRr
    have HO := Lib.hid hown
    have HF := Lib.hid hFr
    have HBk := Lib.hid hBr
    have HRT := Lib.hid hRt
    have HME := Lib.hid hmem
    have hRd := hRr
    clear hRr hown hFr hBr hRt hmem
    by_cases c93 : at_ σ'.t 0 = 93
    · have HS := Lib.hid (sees_one 93 true (by decide) (by simpa using c93) hRd)
      have hm := HME.out
      rw [if_pos c93] at hm
      have hS0 := Lib.hid (SetR.of_own HO.out)
      by_cases hacc0 : acc = []
      · subst hacc0
        rw [if_pos (show ([] : List Rg).isEmpty = true from rfl)] at hm
        have hr := HBR.out
        rw [← hm] at hr
        subst hr
        clear hm HBR HME hRd c93
        go_wp2_with fail
        refine HS.out.mono ?_
        rintro e w3 ⟨rfl, hb3⟩
        go_wp2_with fail
        refine (refuse_bad 22 σ.pos (HRR.out.on hb3)).mono ?_
        rintro e w5 ⟨rfl, hB, hF5⟩
        have hB5 := hF5.blk (HRR.out.on hb3) (HBk.out.on hb3) (by decide) (by decide)
        have hz := hB5.zero
        have hfz := hB5.frozen
        go_wp2
        exact ret_node rfl rfl rfl rfl (st7_blk hB5) ⟨rfl, hB.st7 (by have := HR.out.blk.lt; omega), (((HF.out.trans (Fr.of_below hb3))).trans hF5).st7 (Nat.le_refl _)⟩
      · have hne := len_ne0 hacc0
        rw [if_neg (by simpa using hacc0)] at hm
        have hr := HBR.out
        rw [← hm] at hr
        have HBR := Lib.hid hr
        have hT := Lib.hid (fun W (hW : Rd n₀ rb tb cap s W σ' d fc fa bv) => take_yes [93] (by rw [pre_one 93 _ (by decide)]; simpa using c93) hW)
        have hl5 : acc.length ≤ 5 * 256 := by omega
        have HMK := Lib.hid (mkSet_norm HRT.out)
        have hne' : ((acc.length : Int) == 0) = false := by simp; omega
        clear hm HME hRd c93 hr hacc0
        go_wp2_with fail
        refine HS.out.mono ?_
        rintro e w3 ⟨rfl, hb3⟩
        have hR3 := Lib.hid (HRR.out.on hb3)
        have hB3 := Lib.hid (HBk.out.on hb3)
        have hS3 := Lib.hid (hS0.out.on hb3)
        go_wp2_with fail
        refine (hT.out _ hR3.out).mono ?_
        rintro e w4 ⟨rfl, hR4', hF4⟩
        have hR4 : Hid (Rd n₀ rb tb cap s w4 (σ'.adv 1) d fc fa bv) := Lib.hid hR4'
        have hB4 := Lib.hid (hF4.blk hR3.out hB3.out (by decide) (by decide))
        have hS4 := Lib.hid (hS3.out.fr hR3.out hF4)
        have hF := (HF.out.trans (Fr.of_below hb3)).trans hF4
        clear hR4'
        go_wp2_with fail
        refine (make_own _ acc _ (by omega) HRT.out hS4.out.setV).mono ?_
        rintro e w5 ⟨v5, rfl, hO5, hb5⟩
        obtain ⟨A5, p5, rfl, hp5, hx5⟩ := id hO5.set
        clear hp5 hx5
        have hS5 := Lib.hid (SetR.of_own hO5)
        have hR5 := Lib.hid (hR4.out.on hb5)
        have hB5 := Lib.hid (hB4.out.on hb5)
        replace hF := hF.trans (Fr.of_below hb5)
        clear hO5
        cases neg with
        | false =>
          have hr := HBR.out
          rw [if_neg (by decide)] at hr
          subst hr
          have hz := hB5.out.zero
          have hfz := hB5.out.frozen
          go_wp2
          exact ret_node rfl rfl rfl rfl (st7_blk hB5.out) ⟨_, _, bv, rfl, NodeV.leaf ((hS5.out.st7 hB5.out).ok (hR5.out.st7 hB5.out HR.out.size)) (by have := HMK.out.2; omega), hR5.out.st7 hB5.out HR.out.size, hF.st7 (Nat.le_refl _)⟩
        | true =>
          have hr := HBR.out
          rw [if_pos rfl] at hr
          subst hr
          go_wp2_with fail
          refine (not_own _ (mkSet acc) _ (by have := HMK.out.2; omega) hS5.out.setV HMK.out.1).mono ?_
          rintro e w6 ⟨v6, rfl, hO6, hb6⟩
          obtain ⟨A7, p7, rfl, hp7, hx7⟩ := id hO6.set
          clear hp7 hx7
          have hS6 := Lib.hid (SetR.of_own hO6)
          have hR6 := Lib.hid (hR5.out.on hb6)
          have hB6 := Lib.hid (hB5.out.on hb6)
          replace hF := hF.trans (Fr.of_below hb6)
          clear hO6
          have hz := hB6.out.zero
          have hfz := hB6.out.frozen
          go_wp2
          exact ret_node rfl rfl rfl rfl (st7_blk hB6.out) ⟨_, _, bv, rfl, NodeV.leaf ((hS6.out.st7 hB6.out).ok (hR6.out.st7 hB6.out HR.out.size)) (by have := HMK.out.2; have := Cl.gaps_len (mkSet acc) 0; omega), hR6.out.st7 hB6.out HR.out.size, hF.st7 (Nat.le_refl _)⟩
    · have HS := Lib.hid (sees_one 93 false (by decide) (by simpa using c93) hRd)
      have hm := HME.out
      rw [if_neg c93] at hm
      cases he : σ'.t.isEmpty with
      | true =>
        rw [if_pos he] at hm
        have hr := HBR.out
        rw [← hm] at hr
        subst hr
        have HE := Lib.hid (fun W (hW : Rd n₀ rb tb cap s W σ' d fc fa bv) => by have := ended_any hW; rw [he] at this; exact this)
        clear hm HBR HME hRd he c93
        go_wp2_with fail
        refine HS.out.mono ?_
        rintro e w3 ⟨rfl, hb3⟩
        have hR3 := Lib.hid (HRR.out.on hb3)
        go_wp2_with fail
        refine (HE.out _ hR3.out).mono ?_
        rintro e w4 ⟨rfl, hb4⟩
        go_wp2_with fail
        refine (refuse_bad 22 σ.pos (hR3.out.on hb4)).mono ?_
        rintro e w5 ⟨rfl, hB, hF5⟩
        have hB5 := hF5.blk (hR3.out.on hb4) ((HBk.out.on hb3).on hb4) (by decide) (by decide)
        have hz := hB5.zero
        have hfz := hB5.frozen
        go_wp2
        exact ret_node rfl rfl rfl rfl (st7_blk hB5) ⟨rfl, hB.st7 (by have := HR.out.blk.lt; omega), ((((HF.out.trans (Fr.of_below hb3)).trans (Fr.of_below hb4)).trans hF5)).st7 (Nat.le_refl _)⟩
      | false =>
        have hn : σ'.t ≠ [] := by rintro e; rw [e] at he; cases he
        rw [if_neg (by rw [he]; decide)] at hm
        have HE := Lib.hid (fun W (hW : Rd n₀ rb tb cap s W σ' d fc fa bv) => by have := ended_any hW; rw [he] at this; exact this)
        have HMb := Lib.hid (fun W (hW : Rd n₀ rb tb cap s W σ' d fc fa bv) => member_any hn hW)
        have hml := fun l σa (h : member σ' = .ok (l, σa)) => member_len h hn
        obtain ⟨rx, hrx⟩ : ∃ rx, rx = member σ' := ⟨_, rfl⟩
        rw [← hrx] at hm HMb hml
        have HM := Lib.hid hm
        have HML := Lib.hid hml
        clear hm HME hRd he c93 hn hrx hml
        go_wp2_with fail
        refine HS.out.mono ?_
        rintro e w3 ⟨rfl, hb3⟩
        have hR3 := Lib.hid (HRR.out.on hb3)
        have hB3 := Lib.hid (HBk.out.on hb3)
        have hO3 : Hid (Cl.Own w3 (w.heap.size + 1) 223 (.slice A6 acc.length cp6) acc) := Lib.hid (HO.out.below hb3)
        go_wp2_with fail
        refine (HE.out _ hR3.out).mono ?_
        rintro e w4 ⟨rfl, hb4⟩
        have hR4 := Lib.hid (hR3.out.on hb4)
        have hB4 := Lib.hid (hB3.out.on hb4)
        have hO4 : Hid (Cl.Own w4 (w.heap.size + 1) 223 (.slice A6 acc.length cp6) acc) := Lib.hid (hO3.out.below hb4)
        have hF := (HF.out.trans (Fr.of_below hb3)).trans (Fr.of_below hb4)
        go_wp2_with fail
        refine (HMb.out _ hR4.out).mono ?_
        rintro e w5 hP
        cases rx with
        | error f =>
          obtain ⟨rfl, hB, hF5⟩ := hP
          have hr := HBR.out
          have hm := HM.out
          simp only at hm
          rw [← hm] at hr
          subst hr
          have hB5 := hF5.blk hR4.out hB4.out (by decide) (by decide)
          have hz := hB5.zero
          have hfz := hB5.frozen
          replace hF := hF.trans hF5
          clear hm
          go_wp2
          exact ret_node rfl rfl rfl rfl (st7_blk hB5) ⟨rfl, hB.st7 (by have := HR.out.blk.lt; omega), hF.st7 (Nat.le_refl _)⟩
        | ok y =>
          obtain ⟨lm, σa⟩ := y
          obtain ⟨vm, rfl, hSm, hR5, hF5⟩ := hP
          obtain ⟨A8, p8, rfl, hp8, hx8⟩ := id hSm
          clear hp8 hx8
          obtain ⟨m1, m2, m3, _⟩ := HML.out lm σa rfl
          have hB5 := Lib.hid (hF5.blk hR4.out hB4.out (by decide) (by decide))
          have hO5 : Hid (Cl.Own w5 (w.heap.size + 1) 223 (.slice A6 acc.length cp6) acc) := Lib.hid (own_keep hO4.out fun i hi => by
            have h0 : w4.ownsRow (w.heap.size + 1) 223 2 (.slice A6 acc.length cp6) acc.length (rgCells acc) := hO4.out
            rcases h0.2 with ⟨hv, _⟩ | ⟨g, c', cur, hv, _, hh, _⟩
            · rw [hv] at hi; simp [Value.ownBlock] at hi
            · rw [hv] at hi
              have : i = g := by simpa [Value.ownBlock] using hi
              subst this
              exact hF5.same (okB.of_type hh (by decide) (ne_of_types hh hR4.out.blk (by decide))))
          replace hF := hF.trans hF5
          have hSV := Lib.hid (SetR.setV hSm)
          have HR5 := Lib.hid hR5
          have HM2 := Lib.hid (And.intro m2 (And.intro HM.out HRT.out))
          have hsz5 : w.heap.size + 1 ≤ w5.heap.size := hB5.out.lt
          have hl5 : acc.length + lm.length ≤ 5 * 256 := by omega
          clear hSm hR5 m2 HM HRT hF5
          go_wp2_with (at_builtin; refine wpList_append_set _ rfl _ _ 114 rfl (w.heap.size + 1) 223 i0 (.agg #[.int .i64 0, .int .i64 0]) 16 Tryz.underlying114 hi hz0 hz1 hz2 rfl _ _ rfl hO5.out _ _ _ rfl hSV.out (by unfold maxLen; omega) (by omega) hsz5 ?_; intro v' w6 hown' hgrow)
          go_roundg σa.t.length
          case measure => omega
          case rel =>
            have h0 : w5.ownsRow (w.heap.size + 1) 223 2 (.slice A6 acc.length cp6) acc.length (rgCells acc) := hO5.out
            refine ⟨k, acc ++ lm, σa, Nat.le_refl _, by omega, by rw [List.length_append]; omega, HM2.out.2.1, hown', ?_, HR5.out.grown h0 (by decide) (by decide) (by decide) (by have := HR.out.size; omega) hgrow, hF.grown hgrow (fun k hk => by have := (h0.lt k hk).1; omega), hB5.out.grown hgrow (fun e => own_ne h0 hB5.out (by decide) e.symm)⟩
            intro x hx
            rcases List.mem_append.1 hx with hx | hx
            · exact HM2.out.2.2 x hx
            · exact HM2.out.1 x hx

end Go.Proofs.YtefgobmpleoafaaGreatDoor

/- An escape that stands outside brackets. -/
namespace Go.Proofs.YtefgobmpleoafaaGreatDoor
open Go.RowKit
open Go.Proofs.YtefgobmpleoafaaGreatDoor.Cl (Rg SetV SetAt rgCells Norm Rt gaps rgCells_get rgCells_len wpList_append_one info_three cell_two_at)
variable {n₀ rb tb cap d : Nat} {s : List UInt8} {w w' w2 : World} {σ σ1 : St} {fc fa : Int} {bv v : Value} {l : List Rg}

theorem pre_esc (c : UInt8) (t : List UInt8) (hc : c ≠ 0) : pre [92, c] t = decide (sign t = c.toNat) := by
  have hc' : ¬ (0 : Nat) = c.toNat := fun e => hc (by apply UInt8.toNat_inj.1; simpa using e.symm)
  match t with
  | [] => simp [pre, sign, at_nil, hc']
  | [a] =>
    have e1 : at_ [a] 1 = 0 := at_out (by simp)
    have e0 : at_ [a] 0 = a.toNat := rfl
    simp [pre, List.isPrefixOf, sign, e1, hc']
  | a :: b :: r =>
    have e1 : at_ (a :: b :: r) 1 = b.toNat := rfl
    have e0 : at_ (a :: b :: r) 0 = a.toNat := rfl
    rw [Bool.eq_iff_iff, decide_eq_true_eq]
    simp only [pre, List.isPrefixOf, Bool.and_true, Bool.and_eq_true, beq_iff_eq, sign, e0, e1]
    have ha : (92 : UInt8) = a ↔ a.toNat = 92 := ⟨fun e => by rw [← e]; rfl, fun e => (UInt8.toNat_inj.1 (by simpa using e)).symm⟩
    rw [ha]
    by_cases h : a.toNat = 92
    · rw [if_pos h]
      exact ⟨fun x => by rw [x.2], fun x => ⟨h, (UInt8.toNat_inj.1 x).symm⟩⟩
    · rw [if_neg h]
      exact ⟨fun x => absurd x.1 h, fun x => absurd x hc'⟩

theorem bk_rg (l : List (Nat × Nat)) : bkCells l = rgCells (l.map fun x => ((x.1 : Int), (x.2 : Int))) := by
  simp [bkCells, rgCells, List.flatMap_map]
theorem own_bk {base : Nat} {l : List (Nat × Nat)} (h : w.ownsRow base 176 2 v l.length (bkCells l)) : Cl.Own w base 176 v (l.map fun x => ((x.1 : Int), (x.2 : Int))) := by
  unfold Cl.Own
  rw [List.length_map, ← bk_rg]
  exact h
theorem bk_own {base : Nat} {l : List (Nat × Nat)} (h : Cl.Own w base 176 v (l.map fun x => ((x.1 : Int), (x.2 : Int)))) : w.ownsRow base 176 2 v l.length (bkCells l) := by
  unfold Cl.Own at h
  rwa [List.length_map, ← bk_rg] at h
theorem info59 : (Tryz.prog.info? 176).map (fun i => (i.zero, i.size, i.bytes)) = some (some (.agg #[.int .i64 0, .int .i64 0]), 2, 16) := by kernel_rfl

/-- A reference more: what lies elsewhere stays. -/
theorem push_keep (hR : Rd n₀ rb tb cap s w σ d fc fa bv) (hg : w.grownBy w2 bv.ownBlock) {i : Nat} (hi : i < w.heap.size) (hc : i < n₀ ∨ ¬ isBk w i) : w2.heap[i]? = w.heap[i]? :=
  hg.block i hi (by
    rcases hR.own.2 with ⟨rfl, _⟩ | ⟨g, c, cur, rfl, hb, hh, _⟩
    · simp [Value.ownBlock]
    · intro e
      have : i = g := by simpa [Value.ownBlock] using e
      subst this
      rcases hc with hc | hc
      · omega
      · exact hc ⟨cur, _, hh⟩)
theorem not_bk_of {i : Nat} {t : TypeId} {cs : Array Value} {z : Nat × Nat} (h : w.heap[i]? = some (.cells cs t z)) (ht : t ≠ 176) : ¬ isBk w i := fun ⟨_, _, hh⟩ => ne_of_types h hh ht rfl
theorem Rd.push (hR : Rd n₀ rb tb cap s w σ d fc fa bv) (hg : w.grownBy w2 bv.ownBlock) {x : Nat × Nat} {v' : Value} (hO : w2.ownsRow n₀ 176 2 v' (σ.bk ++ [x]).length (bkCells (σ.bk ++ [x]))) (hl : σ.bk.length + 1 ≤ σ.pos) :
    Rd n₀ rb tb cap s (w2.setCell ⟨rb, 4, none⟩ v') { pos := σ.pos, t := σ.t, g := σ.g, bk := σ.bk ++ [x] } d fc fa v' := by
  have hb : Blk w2 rb 140 _ := (push_keep hR hg hR.blk.lt (.inr (not_bk_of hR.blk (by decide)))).trans hR.blk
  have hb4 := hb.set_ 4 v'
  obtain ⟨ct, zt, ht⟩ := hR.tok
  have htr : tb ≠ rb := fun e => ne_of_types ht hR.blk (by decide) e
  have hk : ∀ i, i ≠ rb → i < w.heap.size → (i < n₀ ∨ ¬ isBk w i) → (w2.setCell ⟨rb, 4, none⟩ v').heap[i]? = w.heap[i]? := fun i h1 h2 h3 => (Below.heap_setCell _ _ _ _ h1).trans (push_keep hR hg h2 h3)
  have htb := hk tb htr (lt_of_some ht) (.inr (not_bk_of ht (by decide)))
  have hs := hR.size
  have hlow := hR.low
  have h1 := hR.tabs.1
  refine ⟨by simpa using hb4, fun j hj => (cell_same htb _).trans (hR.txt j hj), ⟨ct, zt, htb.trans ht⟩, hR.len, ?_, hR.pos, hR.suf, ⟨hR.bnd.1, hR.bnd.2.1, by simpa using hl⟩, hR.low, ?_⟩
  · exact own_keep hO fun _ hi => Below.heap_setCell _ _ _ _ (fun e => own_ne hO hb (by decide) (by rw [← hi, e]))
  · exact ⟨h1, fun c hc => (cell_same (hk 0 (by omega) (by omega) (.inl (by omega))) c).trans (hR.tabs.2.1 c hc),
      fun i hi => ⟨(cell_same (hk 1 (by omega) (by omega) (.inl h1)) _).trans (hR.tabs.2.2 i hi).1, (cell_same (hk 1 (by omega) (by omega) (.inl h1)) _).trans (hR.tabs.2.2 i hi).2⟩⟩
theorem own_slice {base n : Nat} {e : TypeId} {v : Value} {xs : List Value} {size : Nat} (h : w.ownsRow base e size v n xs) (hn : 0 < n) : ∃ g c, v = .slice (some ⟨g, 0, none⟩) n c := by
  rcases h.2 with ⟨_, h0⟩ | ⟨g, c, _, hv, _⟩
  · omega
  · exact ⟨g, c, hv⟩
theorem bk_push {base a p : Nat} {l : List (Nat × Nat)} (h : Cl.Own w base 176 v ((l.map fun x => ((x.1 : Int), (x.2 : Int))) ++ [((a : Int), (p : Int))])) : w.ownsRow base 176 2 v (l ++ [(a, p)]).length (bkCells (l ++ [(a, p)])) :=
  bk_own (by rw [List.map_append]; exact h)
theorem own_more {base : Nat} {x : Nat × Nat} {l : List (Nat × Nat)} {xs : List Value} (h : w.ownsRow base 176 2 v (l ++ [x]).length xs) : ∃ g c, v = .slice (some ⟨g, 0, none⟩) (l.length + 1) c := by
  obtain ⟨g, c, hv⟩ := own_slice h (by simp)
  exact ⟨g, c, by rw [hv, List.length_append]; rfl⟩
theorem Fr.push (hR : Rd n₀ rb tb cap s w σ d fc fa bv) (hg : w.grownBy w2 bv.ownBlock) : Fr n₀ rb w w2 :=
  ⟨hg.os, hg.tape, hg.output, hg.size, fun _ hi hc => push_keep hR hg hi (hc.imp id (fun h => h.2))⟩

theorem push_cell (hR : Rd n₀ rb tb cap s w σ d fc fa bv) (hg : w.grownBy w2 bv.ownBlock) : w2.cell? ⟨rb, 4, none⟩ = some bv ∧ w2.frozen? ⟨rb, 4, none⟩ = false := by
  have hb : Blk w2 rb 140 _ := (push_keep hR hg hR.blk.lt (.inr (not_bk_of hR.blk (by decide)))).trans hR.blk
  exact ⟨hb.cell 4, hb.frozen 4⟩
theorem push_zero (hR : Rd n₀ rb tb cap s w σ d fc fa bv) (hg : w.grownBy w2 bv.ownBlock) {g : Nat} (hB : Blk w g 117 zeros) : ∀ u, Blk (w2.setCell ⟨rb, 4, none⟩ u) g 117 zeros := fun u => by
  have hb : Blk w2 g 117 zeros := (push_keep hR hg hB.lt (.inr (not_bk_of hB (by decide)))).trans hB
  exact hb.far (p := ⟨rb, 4, none⟩) (ne_of_types hB hR.blk (by decide)) u

set_option maxRecDepth 100000 in
set_option maxHeartbeats 4000000 in
theorem escape_any (hR : Rd n₀ rb tb cap s w σ d fc fa bv) : Calls Tryz.prog 142 #[.pointer (some ⟨rb, 0, none⟩)] w (NPost n₀ rb tb cap s d fc fa w (escape σ)) := by
  have c1 := (hR.alloc (.cells zeros 117)).c1
  have c1' := hR.c1
  unfold zeros at c1
  have hrl := hR.blk.lt
  have HB0 := Lib.hid (Blk.new w 117 zeros)
  have HR0 := Lib.hid (hR.alloc (.cells zeros 117))
  have HF0 : Hid (Fr n₀ rb w (w.alloc (.cells zeros 117))) := Lib.hid ((Fr.refl w).alloc _)
  have HR := Lib.hid hR
  by_cases h1 : sign σ.t = 98
  · have hr : escape σ = .ok (edgeN 2, σ.adv 2) := by unfold escape; rw [if_pos h1]
    rw [hr]
    have HT := Lib.hid (take_yes [92, 98] (by rw [pre_esc 98 _ (by decide)]; simpa using h1) HR0.out)
    clear hR h1 hr
    go_enter Tryz.func142, Tryz.ntmps142
    go_wp2_with fail
    refine HT.out.mono ?_
    rintro e w1 ⟨rfl, hR1, hF1⟩
    have hB1 := hF1.blk HR0.out HB0.out (by decide) (by decide)
    have hz := hB1.zero
    have hfz := hB1.frozen
    have HR1 : Hid (Rd n₀ rb tb cap s w1 (σ.adv 2) d fc fa bv) := Lib.hid hR1
    clear hR1
    go_wp2
    exact ret_node rfl rfl rfl rfl (st7_blk hB1) ⟨_, _, bv, rfl, NodeV.leaf (SetK.nil _ _) (by simp), HR1.out.st7 hB1 HR.out.size, (HF0.out.trans hF1).st7 (Nat.le_refl _)⟩
  · have HN1 := Lib.hid (take_no [92, 98] (by rw [pre_esc 98 _ (by decide)]; simpa using h1) HR0.out)
    by_cases h2 : sign σ.t = 66
    · have hr : escape σ = .ok (edgeN 3, σ.adv 2) := by unfold escape; rw [if_neg h1, if_pos h2]
      rw [hr]
      have HT := Lib.hid (fun W (hW : Rd n₀ rb tb cap s W σ d fc fa bv) => take_yes [92, 66] (by rw [pre_esc 66 _ (by decide)]; simpa using h2) hW)
      clear hR h1 h2 hr
      go_enter Tryz.func142, Tryz.ntmps142
      go_wp2_with fail
      refine HN1.out.mono ?_
      rintro e w1 ⟨rfl, hb1⟩
      have hR1 := Lib.hid (HR0.out.on hb1)
      have hB1 := Lib.hid (HB0.out.on hb1)
      go_wp2_with fail
      refine (HT.out _ hR1.out).mono ?_
      rintro e w2 ⟨rfl, hR2, hF2⟩
      have hB2 := hF2.blk hR1.out hB1.out (by decide) (by decide)
      have hz := hB2.zero
      have hfz := hB2.frozen
      have HR2 : Hid (Rd n₀ rb tb cap s w2 (σ.adv 2) d fc fa bv) := Lib.hid hR2
      clear hR2
      go_wp2
      exact ret_node rfl rfl rfl rfl (st7_blk hB2) ⟨_, _, bv, rfl, NodeV.leaf (SetK.nil _ _) (by simp), HR2.out.st7 hB2 HR.out.size, ((HF0.out.trans (Fr.of_below hb1)).trans hF2).st7 (Nat.le_refl _)⟩
    · have HN2 := Lib.hid (fun W (hW : Rd n₀ rb tb cap s W σ d fc fa bv) => take_no [92, 66] (by rw [pre_esc 66 _ (by decide)]; simpa using h2) hW)
      by_cases h3 : 49 ≤ sign σ.t ∧ sign σ.t ≤ 57
      · have hr : escape σ = .ok (backN (sign σ.t - 48), refAt σ) := by unfold escape; rw [if_neg h1, if_neg h2, if_pos h3]
        rw [hr]
        have HG := Lib.hid (fun W (hW : Rd n₀ rb tb cap s W σ d fc fa bv) => group_yes h3 hW)
        have hl2 := (sign_len (t := σ.t) (by omega)).1
        have hl := hR.len
        have hbk := hR.bnd
        have hpos := hR.pos
        obtain ⟨c, hc⟩ : ∃ c, c = sign σ.t - 48 := ⟨_, rfl⟩
        rw [← hc] at HG ⊢
        have HC := Lib.hid hc
        obtain ⟨i0, hi, hz0, hz1, hz2⟩ := info_three info59
        clear hR h1 h2 h3 hr hc
        go_enter Tryz.func142, Tryz.ntmps142
        go_wp2_with fail
        refine HN1.out.mono ?_
        rintro e w1 ⟨rfl, hb1⟩
        have hR1 := Lib.hid (HR0.out.on hb1)
        have hB1 := Lib.hid (HB0.out.on hb1)
        go_wp2_with fail
        refine (HN2.out _ hR1.out).mono ?_
        rintro e w2 ⟨rfl, hb2⟩
        have hR2 := Lib.hid (hR1.out.on hb2)
        have hB2 := Lib.hid (hB1.out.on hb2)
        go_wp2_with fail
        refine (HG.out _ hR2.out).mono ?_
        rintro e w3 ⟨rfl, hR3, hF3⟩
        have hB3 := Lib.hid (hF3.blk hR2.out hB2.out (by decide) (by decide))
        have hF := ((HF0.out.trans (Fr.of_below hb1)).trans (Fr.of_below hb2)).trans hF3
        have c4 := hR3.c4
        have f4 := hR3.fz 4
        have hrl3 := hR3.blk.lt
        have hn3 := hR3.size
        have hO3 := Lib.hid (own_bk (hR3.alloc (.cells #[.int .i64 (c : Nat), .int .i64 (σ.pos : Nat)] 176)).own)
        have HR3 := Lib.hid hR3
        have hlen3 : (List.map (fun x : Nat × Nat => ((x.1 : Int), (x.2 : Int))) (σ.adv 2).bk).length ≤ 256 := by rw [List.length_map]; show σ.bk.length ≤ 256; omega
        clear hR3 hF3
        have HRa := Lib.hid (HR3.out.alloc (.cells #[.int .i64 (c : Nat), .int .i64 (σ.pos : Nat)] 176))
        have HBa := Lib.hid (hB3.out.alloc (.cells #[.int .i64 (c : Nat), .int .i64 (σ.pos : Nat)] 176))
        go_wp2_with (at_builtin; go_loud (refine wpList_append_one _ rfl _ _ 138 rfl n₀ 176 i0 (.agg #[.int .i64 0, .int .i64 0]) 16 Tryz.underlying138 hi hz0 hz1 hz2 rfl _ _ rfl hO3.out w3.heap.size 1 ((c : Int), (σ.pos : Int)) rfl (cell_two_at _ _ _ _ _ rfl) (by omega) rfl (by simp; omega) ?_; intro v' w4 hown' hgrow; have hO4 := bk_push hown'; clear hown'; obtain ⟨g9, c9, rfl⟩ := own_more hO4; have HO4 := Lib.hid hO4; clear hO4; obtain ⟨c44, f44⟩ := push_cell HRa.out hgrow; have hB5 := push_zero HRa.out hgrow HBa.out; have hz := fun u => (hB5 u).zero; have hfz := fun u => (hB5 u).frozen))
        have hRf := HRa.out.push hgrow HO4.out (show σ.bk.length + 1 ≤ σ.pos + 2 by omega)
        have hsf : refAt σ = { pos := (σ.adv 2).pos, t := (σ.adv 2).t, g := (σ.adv 2).g, bk := (σ.adv 2).bk ++ [(c, σ.pos)] } := by unfold refAt; rw [← HC.out]; rfl
        rw [← hsf] at hRf
        exact ret_node rfl rfl rfl rfl (st7_blk (hB5 _)) ⟨_, _, _, rfl, NodeV.leaf (SetK.nil _ _) (by simp), hRf.st7 (hB5 _) HR.out.size, (((hF.alloc _).trans (Fr.push HRa.out hgrow)).set_ HR.out.low (.inr rfl) _).st7 (Nat.le_refl _)⟩
      · have HG := Lib.hid (fun W (hW : Rd n₀ rb tb cap s W σ d fc fa bv) => group_no h3 hW)
        have HS := Lib.hid (fun W (hW : Rd n₀ rb tb cap s W σ d fc fa bv) => shorthand_any hW)
        have HU := Lib.hid (fun W (hW : Rd n₀ rb tb cap s W σ d fc fa bv) => escUnit_any hW)
        obtain ⟨r, hr⟩ : ∃ r, r = escape σ := ⟨_, rfl⟩
        have he : escape σ = (match units (sign σ.t) with
          | some l => .ok (setN l, σ.adv 2)
          | none => match escUnit σ with
            | .error e => .error e
            | .ok (u, σ1) => .ok (setN [((u : Int), (u : Int))], σ1)) := by unfold escape; rw [if_neg h1, if_neg h2, if_neg h3]; rfl
        have hul := fun l (h : units (sign σ.t) = some l) => (units_ok h).2
        rw [← hr] at he ⊢
        obtain ⟨ru, hru⟩ : ∃ ru, ru = units (sign σ.t) := ⟨_, rfl⟩
        obtain ⟨rm, hrm⟩ : ∃ rm, rm = escUnit σ := ⟨_, rfl⟩
        rw [← hru] at HS he hul
        rw [← hrm] at HU he
        have HE := Lib.hid he
        have HUL := Lib.hid hul
        clear hR h1 h2 h3 hr he hru hrm hul
        go_enter Tryz.func142, Tryz.ntmps142
        go_wp2_with fail
        refine HN1.out.mono ?_
        rintro e w1 ⟨rfl, hb1⟩
        have hR1 := Lib.hid (HR0.out.on hb1)
        have hB1 := Lib.hid (HB0.out.on hb1)
        go_wp2_with fail
        refine (HN2.out _ hR1.out).mono ?_
        rintro e w2 ⟨rfl, hb2⟩
        have hR2 := Lib.hid (hR1.out.on hb2)
        have hB2 := Lib.hid (hB1.out.on hb2)
        go_wp2_with fail
        refine (HG.out _ hR2.out).mono ?_
        rintro e w3 ⟨rfl, hb3⟩
        have hR3 := Lib.hid (hR2.out.on hb3)
        have hB3 := Lib.hid (hB2.out.on hb3)
        have hF := ((HF0.out.trans (Fr.of_below hb1)).trans (Fr.of_below hb2)).trans (Fr.of_below hb3)
        go_wp2_with fail
        refine (HS.out _ hR3.out).mono ?_
        rintro e w4 hP
        cases ru with
        | some l =>
          obtain ⟨v, rfl, hS, hR4, hF4⟩ := hP
          obtain ⟨A4, p4, rfl, hp4, hx4⟩ := id hS
          clear hp4 hx4
          have hB4 := hF4.blk hR3.out hB3.out (by decide) (by decide)
          have hz := hB4.zero
          have hfz := hB4.frozen
          have HP := Lib.hid (And.intro hS (And.intro hR4 (hF.trans hF4)))
          have he := HE.out
          simp only at he
          subst he
          have hll := HUL.out l rfl
          clear hS hR4 hF4 hF
          go_wp2
          exact ret_node rfl rfl rfl rfl (st7_blk hB4) ⟨_, _, bv, rfl, NodeV.leaf ((HP.out.1.st7 hB4).ok (HP.out.2.1.st7 hB4 HR.out.size)) (by omega), HP.out.2.1.st7 hB4 HR.out.size, HP.out.2.2.st7 (Nat.le_refl _)⟩
        | none =>
          obtain ⟨rfl, hb4⟩ := hP
          have hR4 := Lib.hid (hR3.out.on hb4)
          have hB4 := Lib.hid (hB3.out.on hb4)
          replace hF := hF.trans (Fr.of_below hb4)
          go_wp2_with fail
          refine (HU.out _ hR4.out).mono ?_
          rintro e w5 hP
          cases rm with
          | error f =>
            obtain ⟨rfl, hB, hF5⟩ := hP
            have he := HE.out
            simp only at he
            subst he
            have hB5 := hF5.blk hR4.out hB4.out (by decide) (by decide)
            have hz := hB5.zero
            have hfz := hB5.frozen
            go_wp2
            exact ret_node rfl rfl rfl rfl (st7_blk hB5) ⟨rfl, hB.st7 (by omega), (hF.trans hF5).st7 (Nat.le_refl _)⟩
          | ok y =>
            obtain ⟨u, σa⟩ := y
            obtain ⟨rfl, hR5, hF5⟩ := hP
            have he := HE.out
            simp only at he
            subst he
            have hB5 := Lib.hid (hF5.blk hR4.out hB4.out (by decide) (by decide))
            replace hF := hF.trans hF5
            have HR5 : Hid (Rd n₀ rb tb cap s w5 σa d fc fa bv) := Lib.hid hR5
            clear hR5 hF5
            go_wp2_with fail
            refine (one_any u _).mono ?_
            rintro e w6 ⟨sv, rfl, hS, hb6⟩
            obtain ⟨A4, p4, rfl, hp4, hx4⟩ := id hS
            clear hp4 hx4
            have hB6 := hB5.out.on hb6
            have hz := hB6.zero
            have hfz := hB6.frozen
            have hR6 := Lib.hid (HR5.out.on hb6)
            have HS := Lib.hid hS
            clear hS
            go_wp2
            exact ret_node rfl rfl rfl rfl (st7_blk hB6) ⟨_, _, bv, rfl, NodeV.leaf ((HS.out.st7 hB6).ok (hR6.out.st7 hB6 HR.out.size)) (by simp), hR6.out.st7 hB6 HR.out.size, (hF.trans (Fr.of_below hb6)).st7 (Nat.le_refl _)⟩

end Go.Proofs.YtefgobmpleoafaaGreatDoor

