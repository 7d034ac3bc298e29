/- Escapes that stand for many units; references; whether a unit comes next. -/
import Derived.Test.YthipgidddgdojaaDoorPE
import Derived.Test.YthipgidddgdojaaDoorClOwn
namespace Go.Proofs.YthipgidddgdojaaDoor
open Go.RowKit
open Go.Proofs.YthipgidddgdojaaDoor.Cl (Rg SetV SetAt rgCells Norm Rt gaps GivesO not_own make_own rgCells_get rgCells_len)
variable {n₀ rb tb cap d : Nat} {s : List UInt8} {w w' : World} {σ σ1 : St} {fc fa : Int} {bv v : Value} {l : List Rg}

/-! ### Sets in blocks of ranges -/
def isRg (w : World) (b : Nat) : Prop := ∃ cs z, w.heap[b]? = some (.cells cs 39 z)
def SetR (w : World) (v : Value) (l : List Rg) : Prop := SetK (isRg w) w v l
theorem isRg.keep {b : Nat} (h : isRg w b) (hk : w'.heap[b]? = w.heap[b]?) : isRg w' b := by
  obtain ⟨cs, z, h⟩ := h
  exact ⟨cs, z, hk.trans h⟩
theorem isRg.lt {b : Nat} (h : isRg w b) : b < w.heap.size := by
  obtain ⟨cs, z, h⟩ := h
  exact lt_of_some h
theorem SetR.nil (w : World) : SetR w (.slice none 0 0) [] := SetK.nil _ _
theorem SetR.on (h : SetR w v l) (hb : Below w.heap.size w w') : SetR w' v l := SetK.keep h fun b hb' => ⟨hb'.keep (hb.block b hb'.lt), hb.block b hb'.lt⟩
theorem SetR.alloc (h : SetR w v l) (o : Obj) : SetR (w.alloc o) v l := h.on ((Below.refl _ _).alloc (Nat.le_refl _) o)
theorem SetR.fr (h : SetR w v l) (hR : Rd n₀ rb tb cap s w σ d fc fa bv) (hF : Fr n₀ rb w w') : SetR w' v l := SetK.keep h fun b hb => by
  obtain ⟨cs, z, hh⟩ := hb
  have hs := hF.same (okB.of_type hh (by decide) (ne_of_types hh hR.blk (by decide)))
  exact ⟨⟨cs, z, hs.trans hh⟩, hs⟩
theorem SetR.far (h : SetR w v l) {g o : Nat} {t : TypeId} {cs : Array Value} {z : Nat × Nat} (hg : w.heap[g]? = some (.cells cs t z)) (ht : t ≠ 39) (u : Value) : SetR (w.setCell ⟨g, o, none⟩ u) v l := SetK.keep h fun b hb => by
  obtain ⟨cs', z', hh⟩ := hb
  have hs := Below.heap_setCell w ⟨g, o, none⟩ u b (ne_of_types hh hg (Ne.symm ht))
  exact ⟨⟨cs', z', hs.trans hh⟩, hs⟩
/-- A block that a node of a call's own may lie in: new since a world, or of ranges. -/
def KB (n₀ rb : Nat) (a w : World) (b : Nat) : Prop := okB n₀ rb w b ∧ (a.heap.size ≤ b ∨ isRg w b)
theorem SetR.ok (h : SetR w v l) (hR : Rd n₀ rb tb cap s w σ d fc fa bv) {a : World} : SetK (KB n₀ rb a w) w v l := SetK.keep h fun b hb => by
  obtain ⟨cs, z, hh⟩ := hb
  exact ⟨⟨okB.of_type hh (by decide) (ne_of_types hh hR.blk (by decide)), .inr ⟨cs, z, hh⟩⟩, rfl⟩
theorem NodeV.fr {a : World} {nd : Nd} {sv kv : Value} (h : NodeV (KB n₀ rb a w) w nd sv kv) (hF : Fr n₀ rb w w') : NodeV (KB n₀ rb a w') w' nd sv kv :=
  h.keep fun _ hb => ⟨⟨hF.ok hb.1, hb.2.imp id (fun h => h.keep (hF.same hb.1))⟩, hF.same hb.1⟩
theorem NodeV.low {a a' : World} {nd : Nd} {sv kv : Value} (h : NodeV (KB n₀ rb a w) w nd sv kv) (ha : a'.heap.size ≤ a.heap.size) : NodeV (KB n₀ rb a' w) w nd sv kv :=
  h.keep fun _ hb => ⟨⟨hb.1, hb.2.imp (fun h => Nat.le_trans ha h) id⟩, rfl⟩
theorem SetR.setV (h : SetR w v l) : SetV w.heap.size w v l := SetK.to_setV (SetK.keep h fun _ hb => ⟨hb.lt, rfl⟩)
theorem SetR.of_own {base : Nat} (h : Cl.Own w base 39 v l) : SetR w v l := by
  have hs := h.set
  obtain ⟨A, c, rfl, hc, hx⟩ := hs
  refine ⟨A, c, rfl, hc, fun hl => ?_⟩
  obtain ⟨b, off, rfl, _, ht⟩ := hx hl
  refine ⟨b, off, rfl, ?_, ht⟩
  have h0 : w.ownsRow base 39 2 (.slice (some ⟨b, off, none⟩) l.length c) l.length (rgCells l) := h
  rcases h0.2 with ⟨hv, _⟩ | ⟨g, c', cur, hv, _, hh, _⟩
  · cases hv
  · injection hv with e1
    injection e1 with e1
    injection e1 with e1
    subst e1
    exact ⟨cur, _, hh⟩
theorem setR_lit (w : World) (cs : Array Value) (l : List Rg) (n : Nat) (hn : n = l.length) (h : cs.toList = rgCells l) : SetR (w.alloc (.cells cs 39)) (.slice (some ⟨w.heap.size, 0, none⟩) n n) l := by
  subst hn
  refine ⟨_, _, rfl, Nat.le_refl _, fun _ => ⟨_, 0, rfl, ⟨cs, _, heap_alloc_new w _⟩, fun i r hi => ?_⟩⟩
  have hb : Blk (w.alloc (.cells cs 39)) w.heap.size 39 cs := Blk.new w 39 cs
  have hg := rgCells_get l i r hi
  rw [← h] at hg
  rw [Nat.zero_add, hb.cell, hb.cell]
  simpa using hg

/-! ### Escapes that stand for many units -/
def SPost (w : World) (r : Option (List Rg)) (e : Ending) (w' : World) : Prop :=
  match r with
  | some l => ∃ v, e = .returned (.tuple #[v, .bool true]) ∧ SetR w' v l ∧ Below w.heap.size w w'
  | none => e = .returned (.tuple #[.slice none 0 0, .bool false]) ∧ Below w.heap.size w w'

theorem unitsOf_100 (W : World) : Calls Tryd.prog 60 #[.int .u8 100] W (SPost W (some [(48, 57)])) := by
  go_enter Tryd.func60, Tryd.ntmps60
  go_wp2
  go_ret2
  exact ⟨_, rfl, setR_lit W #[.int .i64 48, .int .i64 57] _ _ rfl rfl, (Below.refl _ _).alloc (Nat.le_refl _) _⟩
theorem unitsOf_68 (W : World) : Calls Tryd.prog 60 #[.int .u8 68] W (SPost W (some (gaps 0 [(48, 57)]))) := by
  have hN : Norm [(48, 57)] := by simp [Norm, Rt]
  have HN := Lib.hid hN
  clear hN
  go_enter Tryd.func60, Tryd.ntmps60
  go_wp2_with fail
  refine (not_own _ [(48, 57)] _ (by decide) (setR_lit W #[.int .i64 48, .int .i64 57] _ 1 rfl rfl).setV HN.out).mono ?_
  rintro e w1 ⟨v1, rfl, hO, hb⟩
  have HO := Lib.hid (SetR.of_own hO)
  clear hO
  go_wp2
  go_ret2
  exact ⟨_, rfl, HO.out, ((Below.refl _ _).alloc (Nat.le_refl _) _).trans (hb.mono (by simp))⟩
theorem unitsOf_119 (W : World) : Calls Tryd.prog 60 #[.int .u8 119] W (SPost W (some [(48, 57), (65, 90), (95, 95), (97, 122)])) := by
  go_enter Tryd.func60, Tryd.ntmps60
  go_wp2
  go_ret2
  exact ⟨_, rfl, setR_lit W #[.int .i64 48, .int .i64 57, .int .i64 65, .int .i64 90, .int .i64 95, .int .i64 95, .int .i64 97, .int .i64 122] _ _ rfl rfl, (Below.refl _ _).alloc (Nat.le_refl _) _⟩
theorem unitsOf_87 (W : World) : Calls Tryd.prog 60 #[.int .u8 87] W (SPost W (some (gaps 0 [(48, 57), (65, 90), (95, 95), (97, 122)]))) := by
  have hN : Norm [(48, 57), (65, 90), (95, 95), (97, 122)] := by simp [Norm, Rt]
  have HN := Lib.hid hN
  clear hN
  go_enter Tryd.func60, Tryd.ntmps60
  go_wp2_with fail
  refine (not_own _ [(48, 57), (65, 90), (95, 95), (97, 122)] _ (by decide) (setR_lit W #[.int .i64 48, .int .i64 57, .int .i64 65, .int .i64 90, .int .i64 95, .int .i64 95, .int .i64 97, .int .i64 122] _ 4 rfl rfl).setV HN.out).mono ?_
  rintro e w1 ⟨v1, rfl, hO, hb⟩
  have HO := Lib.hid (SetR.of_own hO)
  clear hO
  go_wp2
  go_ret2
  exact ⟨_, rfl, HO.out, ((Below.refl _ _).alloc (Nat.le_refl _) _).trans (hb.mono (by simp))⟩
theorem unitsOf_115 (W : World) : Calls Tryd.prog 60 #[.int .u8 115] W (SPost W (some [(9, 13), (32, 32)])) := by
  go_enter Tryd.func60, Tryd.ntmps60
  go_wp2
  go_ret2
  exact ⟨_, rfl, setR_lit W #[.int .i64 9, .int .i64 13, .int .i64 32, .int .i64 32] _ _ rfl rfl, (Below.refl _ _).alloc (Nat.le_refl _) _⟩
theorem unitsOf_83 (W : World) : Calls Tryd.prog 60 #[.int .u8 83] W (SPost W (some (gaps 0 [(9, 13), (32, 32)]))) := by
  have hN : Norm [(9, 13), (32, 32)] := by simp [Norm, Rt]
  have HN := Lib.hid hN
  clear hN
  go_enter Tryd.func60, Tryd.ntmps60
  go_wp2_with fail
  refine (not_own _ [(9, 13), (32, 32)] _ (by decide) (setR_lit W #[.int .i64 9, .int .i64 13, .int .i64 32, .int .i64 32] _ 2 rfl rfl).setV HN.out).mono ?_
  rintro e w1 ⟨v1, rfl, hO, hb⟩
  have HO := Lib.hid (SetR.of_own hO)
  clear hO
  go_wp2
  go_ret2
  exact ⟨_, rfl, HO.out, ((Below.refl _ _).alloc (Nat.le_refl _) _).trans (hb.mono (by simp))⟩
theorem unitsOf_else (c : Nat) (W : World) (h : ¬ (c = 100 ∨ c = 68) ∧ ¬ (c = 119 ∨ c = 87) ∧ ¬ (c = 115 ∨ c = 83)) : Calls Tryd.prog 60 #[.int .u8 (c : Nat)] W (SPost W none) := by
  have e0 : ((c : Int) == 100) = false := by simp; omega
  have e1 : ((c : Int) == 68) = false := by simp; omega
  have e2 : ((c : Int) == 119) = false := by simp; omega
  have e3 : ((c : Int) == 87) = false := by simp; omega
  have e4 : ((c : Int) == 115) = false := by simp; omega
  have e5 : ((c : Int) == 83) = false := by simp; omega
  clear h
  go_enter Tryd.func60, Tryd.ntmps60
  go_wp2
  go_ret2
  exact ⟨rfl, Below.refl _ _⟩
theorem unitsOf_any (c : Nat) (W : World) : Calls Tryd.prog 60 #[.int .u8 (c : Nat)] W (SPost W (units c)) := by
  by_cases h1 : c = 100 ∨ c = 68
  · rcases h1 with rfl | rfl
    · exact unitsOf_100 W
    · exact unitsOf_68 W
  · by_cases h2 : c = 119 ∨ c = 87
    · rcases h2 with rfl | rfl
      · exact unitsOf_119 W
      · exact unitsOf_87 W
    · by_cases h3 : c = 115 ∨ c = 83
      · rcases h3 with rfl | rfl
        · exact unitsOf_115 W
        · exact unitsOf_83 W
      · have e : units c = none := by simp [units, lowOf, h1, h2, h3]
        rw [e]
        exact unitsOf_else c W ⟨h1, h2, h3⟩

def ShPost (n₀ rb tb cap : Nat) (s : List UInt8) (d : Nat) (fc fa : Int) (bv : Value) (σ : St) (w : World) (r : Option (List Rg)) (e : Ending) (w' : World) : Prop :=
  match r with
  | some l => ∃ v, e = .returned (.tuple #[v, .bool true]) ∧ SetR w' v l ∧ Rd n₀ rb tb cap s w' (σ.adv 2) d fc fa bv ∧ Fr n₀ rb w w'
  | none => e = .returned (.tuple #[.slice none 0 0, .bool false]) ∧ Below w.heap.size w w'

set_option maxRecDepth 100000 in
set_option maxHeartbeats 1000000 in
theorem shorthand_any (hR : Rd n₀ rb tb cap s w σ d fc fa bv) : Calls Tryd.prog 45 #[.pointer (some ⟨rb, 0, none⟩)] w (ShPost n₀ rb tb cap s d fc fa bv σ w (units (sign σ.t))) := by
  have hsg := sign_any hR
  have hu := unitsOf_any (sign σ.t)
  have hp := hR.pos
  have ht := hR.tl
  have hl := hR.len
  have HR := Lib.hid hR
  have hl2 : ∀ l, units (sign σ.t) = some l → 2 ≤ σ.t.length := fun l h => (sign_len (units_some h)).1
  obtain ⟨c, hc⟩ : ∃ c, c = sign σ.t := ⟨_, rfl⟩
  rw [← hc] at hsg hu hl2 ⊢
  obtain ⟨r, hr⟩ : ∃ r, r = units c := ⟨_, rfl⟩
  rw [← hr] at hu hl2 ⊢
  have HS := Lib.hid hsg
  have HU := Lib.hid hu
  have HL := Lib.hid hl2
  clear hsg hu hR hc hl2 hr
  go_enter Tryd.func45, Tryd.ntmps45
  go_wp2_with fail
  refine HS.out.mono ?_
  rintro e w1 ⟨rfl, hb⟩
  go_wp2_with fail
  refine (HU.out _).mono ?_
  rintro e w2 hP
  have hR1 := HR.out.on hb
  cases r with
  | some l =>
    obtain ⟨v, rfl, hS, hb2⟩ := hP
    have hl2 := HL.out l rfl
    have hR2 := hR1.on hb2
    have c1 := hR2.c1
    have f1 := hR2.fz 1
    have HR2 := Lib.hid hR2
    have HSS := Lib.hid hS
    clear hR2 hR1 hS
    go_wp2
    go_ret2
    exact ⟨_, rfl, HSS.out.far HR2.out.blk (by decide) _, HR2.out.step' (n := 2) hl2, HR2.out.below_set ((Fr.of_below hb).trans (Fr.of_below hb2)) _ _⟩
  | none =>
    obtain ⟨rfl, hb2⟩ := hP
    clear hR1
    go_wp2
    go_ret2
    exact ⟨rfl, hb.trans (hb2.mono hb.size)⟩

set_option maxRecDepth 100000 in
set_option maxHeartbeats 1000000 in
theorem group_no (h : ¬ (49 ≤ sign σ.t ∧ sign σ.t ≤ 57)) (hR : Rd n₀ rb tb cap s w σ d fc fa bv) :
    Calls Tryd.prog 44 #[.pointer (some ⟨rb, 0, none⟩)] w fun e w' => e = .returned (.tuple #[.int .i64 0, .bool false]) ∧ Below w.heap.size w w' := by
  have hsg := sign_any hR
  have hd := isDigit_any (sign σ.t)
  obtain ⟨c, hc⟩ : ∃ c, c = sign σ.t := ⟨_, rfl⟩
  rw [← hc] at hsg hd h
  have HS := Lib.hid hsg
  clear hsg hR hc
  by_cases h0 : c = 48
  · subst h0
    have e : dig 48 = true := by decide
    rw [e] at hd
    clear e h
    go_enter Tryd.func44, Tryd.ntmps44
    go_wp2_with fail
    refine HS.out.mono ?_
    rintro e w1 ⟨rfl, hb⟩
    go_wp2_with (go_at_call 59; refine (hd _).mono ?_; rintro e w' ⟨rfl, rfl⟩)
    go_ret2
    exact ⟨rfl, hb⟩
  · have e : dig c = false := by simp [dig]; omega
    rw [e] at hd
    clear e h
    go_enter Tryd.func44, Tryd.ntmps44
    go_wp2_with fail
    refine HS.out.mono ?_
    rintro e w1 ⟨rfl, hb⟩
    go_wp2_with (go_at_call 59; refine (hd _).mono ?_; rintro e w' ⟨rfl, rfl⟩)
    go_ret2
    exact ⟨rfl, hb⟩
set_option maxRecDepth 100000 in
set_option maxHeartbeats 1000000 in
theorem group_yes (h : 49 ≤ sign σ.t ∧ sign σ.t ≤ 57) (hR : Rd n₀ rb tb cap s w σ d fc fa bv) :
    Calls Tryd.prog 44 #[.pointer (some ⟨rb, 0, none⟩)] w fun e w' => e = .returned (.tuple #[.int .i64 (sign σ.t - 48 : Nat), .bool true]) ∧ Rd n₀ rb tb cap s w' (σ.adv 2) d fc fa bv ∧ Fr n₀ rb w w' := by
  have hsg := sign_any hR
  have hd := isDigit_any (sign σ.t)
  have hl2 := (sign_len (t := σ.t) (by omega)).1
  have hp := hR.pos
  have ht := hR.tl
  have hl := hR.len
  have HR := Lib.hid hR
  obtain ⟨c, hc⟩ : ∃ c, c = sign σ.t := ⟨_, rfl⟩
  rw [← hc] at hsg hd h ⊢
  obtain ⟨h1, h2⟩ := h
  have e : dig c = true := by simp [dig]; omega
  have e2 : ((c : Int) == 48) = false := by simp; omega
  rw [e] at hd
  have HS := Lib.hid hsg
  clear hsg hR hc e
  go_enter Tryd.func44, Tryd.ntmps44
  go_wp2_with fail
  refine HS.out.mono ?_
  rintro e w1 ⟨rfl, hb⟩
  have hR1 := HR.out.on hb
  have c1 := hR1.c1
  have f1 := hR1.fz 1
  have HR1 := Lib.hid hR1
  clear hR1
  go_wp2_with (go_at_call 59; refine (hd _).mono ?_; rintro e w' ⟨rfl, rfl⟩)
  go_ret2
  exact ⟨ret_int_bool (by omega) rfl, HR1.out.step' (n := 2) hl2, HR1.out.below_set (Fr.of_below hb) _ _⟩

set_option maxRecDepth 100000 in
set_option maxHeartbeats 1000000 in
theorem seesUnit_any (hR : Rd n₀ rb tb cap s w σ d fc fa bv) :
    Calls Tryd.prog 50 #[.pointer (some ⟨rb, 0, none⟩)] w fun e w' => e = .returned (.bool (seesUnit σ.t)) ∧ Below w.heap.size w w' := by
  have hen := ended_any hR
  have HR := Lib.hid hR
  cases hem : σ.t.isEmpty with
  | true =>
    have hs : seesUnit σ.t = false := by simp [seesUnit, hem]
    rw [hem] at hen
    rw [hs]
    have HE := Lib.hid hen
    clear hen hR hs hem
    go_enter Tryd.func50, Tryd.ntmps50
    go_wp2_with fail
    refine HE.out.mono ?_
    rintro e w1 ⟨rfl, hb⟩
    go_wp2
    go_ret
    exact ⟨rfl, hb⟩
  | false =>
    have hn : σ.t ≠ [] := by rintro e; rw [e] at hem; cases hem
    have hlen := len_ne hn
    have hx := at_lt σ.t 0
    have hp := hR.pos
    have ht := hR.tl
    have hl := hR.len
    have hlt : (σ.pos : Int) < (s.length : Int) := by omega
    have hge : (0 : Int) ≤ (σ.pos : Int) := by omega
    rw [hem] at hen
    have HE := Lib.hid hen
    have HC := Lib.hid (fun W (h : Rd n₀ rb tb cap s W σ d fc fa bv) => show W.cell? ⟨tb, σ.pos, none⟩ = some (.int .u8 ((at_ σ.t 0 : Nat) : Int)) by have := h.at_ (j := 0) hlen; rwa [Nat.zero_add, Nat.add_zero] at this)
    have HSG := Lib.hid (fun W (h : Rd n₀ rb tb cap s W σ d fc fa bv) => sign_any h)
    by_cases hb : at_ σ.t 0 = 91 ∨ at_ σ.t 0 = 93 ∨ at_ σ.t 0 = 45
    · have hs : seesUnit σ.t = false := by simp [seesUnit, hb]
      rw [hs]
      obtain ⟨c, hc⟩ : ∃ c, c = at_ σ.t 0 := ⟨_, rfl⟩
      rw [← hc] at hb hx HC
      clear hen hR hs hem hn hc
      rcases hb with rfl | rfl | rfl
      all_goals
        go_enter Tryd.func50, Tryd.ntmps50
        go_wp2_with fail
        refine HE.out.mono ?_
        rintro e w1 ⟨rfl, hb⟩
        have hR1 := HR.out.on hb
        have c0 := hR1.c0
        have c1 := hR1.c1
        have ct := HC.out _ hR1
        clear hR1
        go_wp2
        go_quiet (fail)
        go_wp2
        go_ret
        exact ⟨rfl, hb.trans (Below.mono (bdrew _ _) hb.size)⟩
    · have hs : seesUnit σ.t = (units (sign σ.t)).isNone := by simp [seesUnit, hem, hb]
      rw [hs]
      have e1 : ((at_ σ.t 0 : Int) == 91) = false := by simp; omega
      have e2 : ((at_ σ.t 0 : Int) == 93) = false := by simp; omega
      have e3 : ((at_ σ.t 0 : Int) == 45) = false := by simp; omega
      obtain ⟨c, hc⟩ : ∃ c, c = at_ σ.t 0 := ⟨_, rfl⟩
      rw [← hc] at hb hx HC e1 e2 e3
      have hu := unitsOf_any (sign σ.t)
      obtain ⟨g, hg⟩ : ∃ g, g = sign σ.t := ⟨_, rfl⟩
      rw [← hg] at hu HSG ⊢
      obtain ⟨r, hr⟩ : ∃ r, r = units g := ⟨_, rfl⟩
      rw [← hr] at hu ⊢
      have HU := Lib.hid hu
      clear hen hR hs hem hn hc hu hg hr hb
      go_enter Tryd.func50, Tryd.ntmps50
      go_wp2_with fail
      refine HE.out.mono ?_
      rintro e w1 ⟨rfl, hb⟩
      have hR1 := HR.out.on hb
      have c0 := hR1.c0
      have c1 := hR1.c1
      have ct := HC.out _ hR1
      have HR1 := Lib.hid hR1
      clear hR1
      go_wp2
      go_quiet (fail)
      go_wp2_with fail
      refine (HSG.out _ (HR1.out.drewN _)).mono ?_
      rintro e w2 ⟨rfl, hb2⟩
      go_wp2_with fail
      refine (HU.out _).mono ?_
      rintro e w3 hP
      have hbb : Below w.heap.size w w2 := hb.trans ((Below.mono (bdrew _ _) hb.size).trans (hb2.mono hb.size))
      cases r with
      | some l =>
        obtain ⟨v, rfl, _, hb3⟩ := hP
        go_wp2
        go_ret
        exact ⟨rfl, hbb.trans (hb3.mono hbb.size)⟩
      | none =>
        obtain ⟨rfl, hb3⟩ := hP
        go_wp2
        go_ret
        exact ⟨rfl, hbb.trans (hb3.mono hbb.size)⟩

end Go.Proofs.YthipgidddgdojaaDoor
