/- Compile, Loops. -/
import Derived.Test.YtdbddbelhgkelaaGreatDoorZGm
import Derived.Test.YtdbddbelhgkelaaGreatDoorZMSd
namespace Go.Proofs.YtdbddbelhgkelaaGreatDoor
open Go.RowKit
open Go.Proofs.YtdbddbelhgkelaaGreatDoor.Cl (Rg SetV SetAt rgCells info_three)
variable {w w' w0 : World} {n₀ wb lp lp' base : Nat} {fo : Bool} {M : List In} {G : Int}

theorem nd_pos (nd : Nd) : 1 ≤ SizeOf.sizeOf nd := by cases nd; simp; omega
theorem all_steps (hG : G ≤ 1000) : ∀ n, NodeC n₀ wb fo G n ∧ RowG n₀ wb fo G n ∧ ChoiceG n₀ wb fo G n
  | 0 => by
    have h0 : NodeC n₀ wb fo G 0 := fun nd hx => by
      have := nd_pos nd
      have := hx.sz
      omega
    exact ⟨h0, rowG_step 0 h0, choice_step_ 0 h0⟩
  | n + 1 => by
    obtain ⟨_, hr, ha⟩ := all_steps hG n
    have h1 := node_step hG n hr ha
    exact ⟨h1, rowG_step _ h1, choice_step_ _ h1⟩
theorem node_any (hG : G ≤ 1000) {nd : Nd} (hw : Wf nd) (hn : Wn G nd) {A1 A2 : Option Addr} {p1 p2 : Nat} (hE : Env5 n₀ w) (hN : NodeB n₀ w nd A1 A2 p1 p2) (hW : Wm n₀ wb fo w M) (hl : M.length + (code fo nd).length ≤ 90000) :
    Calls Tryz.prog 68 #[.pointer (some ⟨wb, 0, none⟩), .agg #[.int .i64 nd.kind, .int .i64 nd.lo, .int .i64 nd.hi, .int .i64 nd.mode, .int .i64 nd.ref, .slice A1 nd.set.length p1, .slice A2 nd.kids.length p2]] w (WmP n₀ wb fo w (app M (code fo nd))) :=
  (all_steps hG _).1 nd ⟨hw, hn, Nat.le_refl _⟩ w M A1 A2 p1 p2 hE hN hW hl

/-- A program in memory, whose blocks are not below a number. -/
def PgV (n₀ : Nat) (w : World) (v : Value) (X : List In) : Prop := ∃ L : List (In × Value), L.map (·.1) = X ∧ w.ownsRow n₀ 118 6 v L.length (ciCells L) ∧ (∀ x ∈ L, OwnS w n₀ x.2 x.1.set) ∧ L.length ≤ 100000
theorem PgV.on {v : Value} {X : List In} (h : PgV n₀ w v X) (hb : Below w.heap.size w w') : PgV n₀ w' v X := by
  obtain ⟨L, h1, h2, h3, h4⟩ := h
  exact ⟨L, h1, own_kept h2 fun i hi _ _ => hb.block i hi, fun x hx => own_kept (h3 x hx) fun i hi _ _ => hb.block i hi, h4⟩
theorem PgV.more {v : Value} {X : List In} {n₁ : Nat} (h : PgV n₀ w v X) (hn : n₁ ≤ n₀) : PgV n₁ w v X := by
  obtain ⟨L, h1, h2, h3, h4⟩ := h
  exact ⟨L, h1, World.ownsRow.mono h2 hn, fun x hx => World.ownsRow.mono (h3 x hx) hn, h4⟩
theorem PgV.form {v : Value} {X : List In} (h : PgV n₀ w v X) : ∃ A c, v = .slice A X.length c ∧ X.length ≤ c ∧ X.length ≤ 100000 := by
  obtain ⟨L, rfl, h2, _, h4⟩ := h
  rw [List.length_map]
  rcases h2.2 with ⟨hv, hn⟩ | ⟨g, c, cur, hv, _, _, hc, _⟩
  · exact ⟨none, 0, by rw [hv, hn], by omega, h4⟩
  · exact ⟨_, c, hv, hc, h4⟩
/-- An instruction of it. -/
theorem PgV.at_ {v : Value} {X : List In} {i : Nat} {x : In} (h : PgV n₀ w v X) (hi : X[i]? = some x) : ∃ g c A cs, v = .slice (some ⟨g, 0, none⟩) X.length c ∧ X.length ≤ c ∧ g < w.heap.size ∧ n₀ ≤ g ∧ OwnS w n₀ (.slice A x.set.length cs) x.set ∧
    ∀ j u, (inCells x (.slice A x.set.length cs))[j]? = some u → w.cell? ⟨g, i * 6 + j, none⟩ = some u := by
  obtain ⟨L, rfl, h2, h3, h4⟩ := h
  rw [List.getElem?_map] at hi
  obtain ⟨⟨y, s⟩, hi', rfl⟩ := Option.map_eq_some_iff.1 hi
  have hl : 0 < L.length := by have := (List.getElem?_eq_some_iff.1 hi').1; omega
  obtain ⟨g, c, hv, hg0, hg⟩ := h2.form hl
  have hc : L.length ≤ c := by
    rcases h2.2 with ⟨hv', hn⟩ | ⟨g', c', cur, hv', _, _, hc, _⟩
    · omega
    · rw [hv] at hv'
      injection hv' with _ _ e
      omega
  obtain ⟨A, cs, hs⟩ := own_form (h3 _ (List.mem_of_getElem? hi'))
  simp only at hs
  subst hs
  subst hv
  refine ⟨g, c, A, cs, by rw [List.length_map], by rw [List.length_map]; exact hc, hg, hg0, h3 _ (List.mem_of_getElem? hi'), fun j u hu => ?_⟩
  have := h2.cells (g := g) rfl _ _ (ciCells_get L i j _ u hi' hu)
  rw [← this]
  unfold Addr.add
  split <;> simp_all

theorem Wr.pv (h : Wr n₀ wb fo w M lp) : ∃ A c, w.cell? ⟨wb, 0, none⟩ = some (.slice A M.length c) ∧ PgV n₀ w (.slice A M.length c) M := by
  obtain ⟨cv, L, h, rfl⟩ := h
  obtain ⟨A, c, rfl, _⟩ := h.form
  rw [List.length_map]
  exact ⟨A, c, h.c3.1, L, rfl, h.own, h.sets, h.bnd.1⟩
/-- A pattern whose verdict is OK is not too great. -/
theorem ok_len (fo : Bool) {nd : Nd} (hw : Wf nd) (h : verdictN nd = 0) : (code fo nd).length ≤ 1997 := by
  have h1 := code_len fo hw
  have h2 := len_nonneg (code fo nd)
  unfold verdictN at h
  split at h
  · split at h
    · cases h
    · rename_i hz
      rw [h1] at hz
      unfold capF far len at *
      split at hz <;> omega
  · cases h
def CompP (w : World) (fo : Bool) (nd : Nd) (e : Ending) (w' : World) : Prop := Below w.heap.size w w' ∧ ((verdictN nd ≠ 0 ∧ e = .returned (.tuple #[.slice none 0 0, .int .i64 (verdictN nd : Nat)])) ∨
  (verdictN nd = 0 ∧ ∃ A c, e = .returned (.tuple #[.slice A (whole fo nd).length c, .int .i64 0]) ∧ PgV w.heap.size w' (.slice A (whole fo nd).length c) (whole fo nd)))

set_option maxRecDepth 100000 in
set_option maxHeartbeats 1000000 in
theorem compile_any (hG : G ≤ 1000) {nd : Nd} (hw : Wf nd) (hn : Wn G nd) (g : Int) (hL : Cl.LU w.heap.size w) {A1 A2 : Option Addr} {p1 p2 : Nat} (h : NodeV (fun b => b < w.heap.size) w nd (.slice A1 nd.set.length p1) (.slice A2 nd.kids.length p2)) :
    Calls Tryz.prog 45 #[.agg #[.int .i64 nd.kind, .int .i64 nd.lo, .int .i64 nd.hi, .int .i64 nd.mode, .int .i64 nd.ref, .slice A1 nd.set.length p1, .slice A2 nd.kids.length p2, .int .i64 g, .bool fo]] w (CompP w fo nd) := by
  have HB0 := Lib.hid (Blk.new w 29 #[.int .i64 nd.kind, .int .i64 nd.lo, .int .i64 nd.hi, .int .i64 nd.mode, .int .i64 nd.ref, .slice A1 nd.set.length p1, .slice A2 nd.kids.length p2, .int .i64 g, .bool fo])
  have hb0 := (Below.refl w.heap.size w).alloc (Nat.le_refl _) (.cells #[.int .i64 nd.kind, .int .i64 nd.lo, .int .i64 nd.hi, .int .i64 nd.mode, .int .i64 nd.ref, .slice A1 nd.set.length p1, .slice A2 nd.kids.length p2, .int .i64 g, .bool fo] 29)
  have HC := Lib.hid (fun W (hW : NodeV (fun b => b < W.heap.size) W nd (.slice A1 nd.set.length p1) (.slice A2 nd.kids.length p2)) => check_any nd hw g fo W A1 A2 p1 p2 hW)
  have HN := Lib.hid h
  have HE : Hid (Env5 w.heap.size w) := Lib.hid ⟨hL⟩
  have HNd := Lib.hid (fun W wb M' (h1 : Env5 w.heap.size W) (h2 : NodeB w.heap.size W nd A1 A2 p1 p2) (h3 : Wm w.heap.size wb fo W M') h4 => node_any hG hw hn h1 h2 h3 h4)
  have HLen := Lib.hid (ok_len fo hw)
  obtain ⟨vd, hvd⟩ : ∃ vd, vd = verdictN nd := ⟨_, rfl⟩
  rw [← hvd] at HC HLen
  have HVd := Lib.hid hvd
  clear hvd h hL hw hn
  by_cases hv : vd = 0
  · subst hv
    go_enter Tryz.func45, Tryz.ntmps45
    go_upto_region 1 with (fail)
    have h9 := HB0.out.c9
    have hbs : w.heap.size < (w.alloc (.cells #[.int .i64 nd.kind, .int .i64 nd.lo, .int .i64 nd.hi, .int .i64 nd.mode, .int .i64 nd.ref, .slice A1 nd.set.length p1, .slice A2 nd.kids.length p2, .int .i64 g, .bool fo] 29)).heap.size := by simp
    generalize w.alloc _ = W at *
    go_wp2_with fail
    refine (HC.out W (HN.out.on_ hb0)).mono ?_
    rintro e w1 ⟨rfl, hb1⟩
    have hs1 := hb1.size
    have HB1 := Lib.hid (HB0.out.on hb1)
    have hbw1 := hb0.trans (hb1.mono hb0.size)
    clear h9
    have h9 := HB1.out.c9
    have HBw := Lib.hid (Blk.new w1 115 #[.slice none 0 0, .int .i64 0, .bool fo])
    have hba := (Below.refl w1.heap.size w1).alloc (Nat.le_refl _) (.cells #[.slice none 0 0, .int .i64 0, .bool fo] 115)
    have HB2 := Lib.hid (HB1.out.on hba)
    have hbw2 := hbw1.trans (hba.mono hbw1.size)
    go_upto_region 5 with (fail)
    obtain ⟨wb, hwb⟩ : ∃ wb, wb = w1.heap.size := ⟨_, rfl⟩
    rw [← hwb] at HBw ⊢
    have hwl : w.heap.size < wb := by rw [hwb]; omega
    clear h9 hwb
    generalize w1.alloc _ = w2 at *
    have HW2 : Hid (Wm w.heap.size wb fo w2 []) := Lib.hid ⟨.slice none 0 0, [], ⟨HBw.out, World.ownsRow_nil _ _ _ _, by simp, by omega, by simp [marks_nil]⟩, rfl⟩
    have hs2 := hbw2.size
    have HP := Lib.hid (put_i 4 0 0 0 0 HW2.out (by simp))
    go_wp2_with fail
    refine HP.out.mono ?_
    rintro e w3 ⟨rfl, hW3, hF3⟩
    have hs3 := hF3.size
    have HB3 := Lib.hid (hF3.blk HB2.out (by decide) (by omega))
    have HW3 : Hid (Wm w.heap.size wb fo w3 [saveI 0]) := Lib.hid hW3
    have hb3 := hbw2.trans (hF3.old (by omega))
    clear hW3 hF3 HP
    have h9 := HB3.out.c9
    have hcl : (code fo nd).length ≤ 1997 := HLen.out (by simp)
    go_wp2_with fail
    refine (HNd.out w3 wb _ (HE.out.low hb3) (HN.out.lowB hb3) HW3.out (by simp; omega)).mono ?_
    rintro e w4 ⟨rfl, hW4, hF4⟩
    have hs4 := hF4.size
    have hb4 := hb3.trans (hF4.old (by omega))
    have hl4 : (app [saveI 0] (code fo nd)).length ≤ 1998 := by rw [app_len]; simp; omega
    have HW4 := Lib.hid hW4
    clear hW4 hF4 h9
    have HP := Lib.hid (put_i 4 1 0 0 0 HW4.out (by omega))
    go_wp2_with fail
    refine HP.out.mono ?_
    rintro e w5 ⟨rfl, hW5, hF5⟩
    have hs5 := hF5.size
    have hb5 := hb4.trans (hF5.old (by omega))
    have HW5 := Lib.hid hW5
    clear hW5 hF5 HP
    have HP := Lib.hid (put_i 0 0 0 0 0 HW5.out (by rw [List.length_append]; simp; omega))
    go_wp2_with fail
    refine HP.out.mono ?_
    rintro e w6 ⟨rfl, hW6, hF6⟩
    have hb6 := hb5.trans (hF6.old (by omega))
    have hwh : app [saveI 0] (code fo nd) ++ [In.i 4 1 0 0 0] ++ [In.i 0 0 0 0 0] = whole fo nd := by
      unfold whole
      rw [← app_assoc, ← app_assoc, app_one _ (.i 0 0 0 0 0) (.inl rfl)]
      rw [app_one _ (saveI 1) (.inr (.inr (.inl rfl)))]
      rfl
    rw [hwh] at hW6
    obtain ⟨A6, c6, k6, hP6⟩ := hW6.pv
    have HP6 := Lib.hid hP6
    clear hW6 hF6 hP6 hwh hl4 hcl HP
    go_wp2
    go_ret2
    exact ⟨hb6, .inr ⟨HVd.out.symm, A6, c6, rfl, HP6.out⟩⟩
  · have hv' : ((vd : Int) == 0) = false := by simp; omega
    go_enter Tryz.func45, Tryz.ntmps45
    go_upto_region 1 with (fail)
    have h9 := HB0.out.c9
    generalize w.alloc _ = W at *
    go_wp2_with fail
    refine (HC.out W (HN.out.on_ hb0)).mono ?_
    rintro e w1 ⟨rfl, hb1⟩
    have hbw1 := hb0.trans (hb1.mono hb0.size)
    clear h9
    go_wp2
    go_ret2
    exact ⟨hbw1, .inl ⟨by rw [← HVd.out]; exact hv, by rw [← HVd.out]; rfl⟩⟩

end Go.Proofs.YtdbddbelhgkelaaGreatDoor
