/- Parentheses: a step of the reader. -/
import Derived.Test.YthipgidddgdojaaDoorPK
namespace Go.Proofs.YthipgidddgdojaaDoor
open Go.RowKit
variable {n₀ rb tb cap d : Nat} {s : List UInt8} {w w' : World} {σ σ1 : St} {fc fa : Int} {bv v : Value}

theorem Rd.depth (h : Rd n₀ rb tb cap s w σ d fc fa bv) (d' : Nat) (hd : d' ≤ 32) (x : Int) (hx : x = (d' : Nat)) : Rd n₀ rb tb cap s (w.setCell ⟨rb, 2, none⟩ (.int .i64 x)) σ d' fc fa bv := by
  subst hx
  have hb := (h.blk.set_ 2 (.int .i64 (d' : Nat)))
  have hk : ∀ i, i ≠ rb → (w.setCell ⟨rb, 2, none⟩ (.int .i64 (d' : Nat))).heap[i]? = w.heap[i]? := fun i hi => Below.heap_setCell _ _ _ _ hi
  obtain ⟨ct, zt, ht⟩ := h.tok
  have htr : tb ≠ rb := fun e => ne_of_types ht h.blk (by decide) e
  refine ⟨by simpa using hb, fun j hj => (cell_same (hk tb htr) _).trans (h.txt j hj), ⟨ct, zt, (hk tb htr).trans ht⟩, h.len, ?_, h.pos, h.suf, ⟨hd, h.bnd.2⟩, h.low, ?_⟩
  · exact own_keep h.own fun i hi => hk i (fun e => own_ne h.own h.blk (by decide) (by rw [← hi, e]))
  · have hr := h.low
    have h1 := h.tabs.1
    exact ⟨h1, fun c hc => (cell_same (hk 0 (by omega)) c).trans (h.tabs.2.1 c hc), fun i hi => ⟨(cell_same (hk 1 (by omega)) _).trans (h.tabs.2.2 i hi).1, (cell_same (hk 1 (by omega)) _).trans (h.tabs.2.2 i hi).2⟩⟩

/-- The seven cells of a block of a node. -/
theorem Blk.seven {g : Nat} {t : TypeId} {x0 x1 x2 x3 x4 x5 x6 : Value} (h : Blk w g t #[x0, x1, x2, x3, x4, x5, x6]) : w.cell? ⟨g, 0, none⟩ = some x0 ∧ w.cell? ⟨g, 1, none⟩ = some x1 ∧ w.cell? ⟨g, 2, none⟩ = some x2 ∧ w.cell? ⟨g, 3, none⟩ = some x3 ∧ w.cell? ⟨g, 4, none⟩ = some x4 ∧
    w.cell? ⟨g, 5, none⟩ = some x5 ∧ w.cell? ⟨g, 6, none⟩ = some x6 :=
  ⟨h.cell 0, h.cell 1, h.cell 2, h.cell 3, h.cell 4, h.cell 5, h.cell 6⟩
theorem opening_kind {sh : Int × Int × Int} (h : opening σ = .ok (sh, σ1)) : σ1.t.length ≤ σ.t.length := by
  unfold opening at h
  repeat' split at h
  all_goals first
    | (injection h with h; injection h with h1 h2; subst h1 h2
       first
         | (rw [adv_len]; omega)
         | (simp only [opened, List.length_drop]; omega))
    | cases h

theorem NodeV.far {a : World} {nd : Nd} {sv kv u : Value} {g o : Nat} (h : NodeV (KB n₀ rb a w) w nd sv kv) {cs : Array Value} (hg : Blk w g 27 cs) (ha : g < a.heap.size) : NodeV (KB n₀ rb a (w.setCell ⟨g, o, none⟩ u)) (w.setCell ⟨g, o, none⟩ u) nd sv kv :=
  h.keep fun b hb => by
    have hne : b ≠ g := by
      rcases hb.2 with h1 | ⟨_, _, h1⟩
      · omega
      · exact ne_of_types h1 hg (by decide)
    have hs := Below.heap_setCell w ⟨g, o, none⟩ u b hne
    refine ⟨⟨⟨by simpa [World.setCell] using hb.1.1, hb.1.2.imp id (fun ⟨h1, h2⟩ => ⟨h1, fun ⟨cs', z, hh⟩ => h2 ⟨cs', z, ?_⟩⟩)⟩, hb.2.imp id (fun h => h.keep hs)⟩, hs⟩
    rw [← hs]
    exact hh
theorem NCells.of_blk {b : Nat} {nd : Nd} {sv kv : Value} {t : TypeId} (h : Blk w b t #[.int .i64 nd.kind, .int .i64 nd.lo, .int .i64 nd.hi, .int .i64 nd.mode, .int .i64 nd.ref, sv, kv]) : NCells w b 0 nd sv kv := fun j u hu => by
  rw [Nat.zero_add, h.cell]
  simpa [ndCells] using hu
theorem Blk.st7 {b g : Nat} {t : TypeId} {cs : Array Value} {c0 c1 c2 c3 c4 c5 c6 : Value} (h : Blk w b t cs) (hb : b ≠ g) : Blk (st7 w g c0 c1 c2 c3 c4 c5 c6) b t cs := (st7_heap hb).trans h
theorem Blk.new_at (w : World) (g : Nat) (hg : g = w.heap.size) (t : TypeId) (cs : Array Value) : Blk (w.alloc (.cells cs t)) g t cs := by
  subst hg
  exact Blk.new w t cs
/-- A block of a node, new since a world. -/
theorem KB.new {a : World} {b : Nat} {cs : Array Value} (h : Blk w b 27 cs) (hb : b ≠ rb) (ha : a.heap.size ≤ b) : KB n₀ rb a w b := ⟨okB.of_type h (by decide) hb, .inl ha⟩
/-- What stands behind the alternatives in parentheses. -/
def parClose (p : Nat) (sh : Int × Int × Int) (rk : R) : R :=
  match rk with
  | .error e => .error e
  | .ok (kid, σ2) => if at_ σ2.t 0 = 41 then .ok (wrap sh kid, σ2.adv 1) else .error (20, p)
theorem run_par (n d : Nat) (acc : List Nd) (σ : St) : run (n + 1) 3 d acc σ = if d = 32 then .error (25, σ.pos)
    else match opening σ with
    | .error e => .error e
    | .ok (sh, σ1) => parClose σ.pos sh (run n 0 (d + 1) [] σ1) := rfl

/-- Alternatives, as a contract at some fuel. -/
def AltC (n₀ rb tb cap : Nat) (s : List UInt8) (fc fa : Int) (N : Nat) : Prop :=
  ∀ (d : Nat) (σ : St) (w : World) (bv : Value), 4 * σ.t.length + 2 ≤ N → Rd n₀ rb tb cap s w σ d fc fa bv → Calls Tryd.prog 20 #[.pointer (some ⟨rb, 0, none⟩)] w (NPost n₀ rb tb cap s d fc fa w (run N 0 d [] σ))
/-- Parentheses. -/
def ParC (n₀ rb tb cap : Nat) (s : List UInt8) (fc fa : Int) (N : Nat) : Prop :=
  ∀ (d : Nat) (σ : St) (w : World) (bv : Value), at_ σ.t 0 = 40 → 4 * σ.t.length ≤ N + 1 → Rd n₀ rb tb cap s w σ d fc fa bv → Calls Tryd.prog 33 #[.pointer (some ⟨rb, 0, none⟩)] w (NPost n₀ rb tb cap s d fc fa w (run N 3 d [] σ))

set_option maxRecDepth 100000 in
set_option maxHeartbeats 8000000 in
theorem paren_step (N : Nat) (hA : AltC n₀ rb tb cap s fc fa N) : ParC n₀ rb tb cap s fc fa (N + 1) := by
  intro d σ w bv hc hN hR
  rw [run_par]
  have hrl := hR.blk.lt
  have HB0 := Lib.hid (Blk.new w 27 zeros)
  have HR0 := Lib.hid (hR.alloc (.cells zeros 27))
  have HF0 : Hid (Fr n₀ rb w (w.alloc (.cells zeros 27))) := Lib.hid ((Fr.refl w).alloc _)
  have HR := Lib.hid hR
  have HA := Lib.hid hA
  have c1 := HR0.out.c1
  have c2 := HR0.out.c2
  unfold zeros at c1 c2
  have hd32 := hR.bnd.1
  clear hR hA
  by_cases hd : d = 32
  · rw [if_pos hd]
    subst hd
    have c2' : (w.alloc (.cells #[.int .i64 0, .int .i64 0, .int .i64 0, .int .i64 0, .int .i64 0, .slice none 0 0, .slice none 0 0] 27)).cell? ⟨rb, 2, none⟩ = some (.int .i64 32) := c2
    clear c2
    go_enter Tryd.func33, Tryd.ntmps33
    go_wp2_with fail
    refine (refuse_bad 25 σ.pos HR0.out).mono ?_
    rintro e w1 ⟨rfl, hB, hF1⟩
    have hB1 := hF1.blk HR0.out HB0.out (by decide) (by decide)
    have hz := hB1.zero
    have hfz := hB1.frozen
    go_wp2
    exact ret_node rfl rfl rfl rfl (st7_blk hB1) ⟨rfl, hB.st7 (by omega), (HF0.out.trans hF1).st7 (Nat.le_refl _)⟩
  · rw [if_neg hd]
    have hdne : ((d : Int) == 32) = false := by simp; omega
    have HO := Lib.hid (opening_any hc HR0.out)
    have hol := fun sh σ1 (h : opening σ = .ok (sh, σ1)) => (opening_len h hc).1
    have hd31 : d + 1 ≤ 32 := by omega
    obtain ⟨ro, hro⟩ : ∃ ro, ro = opening σ := ⟨_, rfl⟩
    rw [← hro] at HO hol ⊢
    have HOL := Lib.hid hol
    clear hol hro hc hd
    cases ro with
    | error f =>
      go_enter Tryd.func33, Tryd.ntmps33
      go_wp2_with fail
      refine HO.out.mono ?_
      rintro e w1 ⟨rfl, hB, hF1⟩
      unfold zeros
      have hB1 := (hF1.blk HR0.out HB0.out (by decide) (by decide)).alloc (.cells zeros 27)
      have hz := hB1.zero
      have hfz := hB1.frozen
      unfold zeros at hz hfz
      go_wp2
      exact ret_node rfl rfl rfl rfl (st7_blk hB1) ⟨rfl, (hB.alloc _).st7 (by omega), ((HF0.out.trans hF1).alloc _).st7 (Nat.le_refl _)⟩
    | ok x =>
      obtain ⟨⟨k, m, rf⟩, σ1⟩ := x
      have hσ1 := HOL.out _ _ rfl
      have hfuel : 4 * σ1.t.length + 2 ≤ N := by omega
      show Calls Tryd.prog 33 _ w (NPost n₀ rb tb cap s d fc fa w (parClose σ.pos (k, m, rf) (run N 0 (d + 1) [] σ1)))
      have HW := Lib.hid (fun W bv (hW : Rd n₀ rb tb cap s W σ1 (d + 1) fc fa bv) => HA.out (d + 1) σ1 W bv hfuel hW)
      obtain ⟨rk, hrk⟩ : ∃ rk, rk = run N 0 (d + 1) [] σ1 := ⟨_, rfl⟩
      rw [← hrk] at HW ⊢
      clear hrk HOL HA
      go_enter Tryd.func33, Tryd.ntmps33
      go_wp2_with fail
      refine HO.out.mono ?_
      rintro e w1 ⟨rfl, hR1', hF1⟩
      have HR1 : Hid (Rd n₀ rb tb cap s w1 σ1 d fc fa bv) := Lib.hid hR1'
      have HB1 := Lib.hid (hF1.blk HR0.out HB0.out (by decide) (by decide))
      have hF := HF0.out.trans hF1
      clear hR1' hF1 HO
      have c2' := (HR1.out.alloc (.cells #[.int .i64 k, .int .i64 0, .int .i64 0, .int .i64 m, .int .i64 rf, .slice none 0 0, .slice none 0 0] 27)).c2
      have f2' := (HR1.out.alloc (.cells #[.int .i64 k, .int .i64 0, .int .i64 0, .int .i64 m, .int .i64 rf, .slice none 0 0, .slice none 0 0] 27)).fz 2
      have HR2 := Lib.hid ((HR1.out.alloc (.cells #[.int .i64 k, .int .i64 0, .int .i64 0, .int .i64 m, .int .i64 rf, .slice none 0 0, .slice none 0 0] 27)).depth (d + 1) hd31 ((d : Int) + 1) (by omega))
      have HB2 := Lib.hid ((HB1.out.alloc (.cells #[.int .i64 k, .int .i64 0, .int .i64 0, .int .i64 m, .int .i64 rf, .slice none 0 0, .slice none 0 0] 27)).far (p := ⟨rb, 2, none⟩) (ne_of_types HB1.out HR1.out.blk (by decide)) (.int .i64 ((d : Int) + 1)))
      have HB5 := Lib.hid ((Blk.new w1 27 #[.int .i64 k, .int .i64 0, .int .i64 0, .int .i64 m, .int .i64 rf, .slice none 0 0, .slice none 0 0]).far (p := ⟨rb, 2, none⟩) (by have := HR1.out.blk.lt; show w1.heap.size ≠ rb; omega) (.int .i64 ((d : Int) + 1)))
      replace hF := (hF.alloc (.cells #[.int .i64 k, .int .i64 0, .int .i64 0, .int .i64 m, .int .i64 rf, .slice none 0 0, .slice none 0 0] 27)).set_ (p := ⟨rb, 2, none⟩) HR.out.low (.inr rfl) (.int .i64 ((d : Int) + 1))
      have hb05 : w.heap.size < w1.heap.size := HB1.out.lt
      go_wp2_with fail
      refine (HW.out _ _ HR2.out).mono ?_
      rintro e w3 hP
      clear c2' f2' c1 c2
      cases rk with
      | error f =>
        obtain ⟨rfl, hB, hF3⟩ := hP
        unfold zeros
        have hB3 := hF3.blk HR2.out HB2.out (by decide) (by decide)
        have hB4 := hB3.alloc (.cells zeros 27)
        have hz := hB4.zero
        have hfz := hB4.frozen
        unfold zeros at hz hfz
        go_wp2
        exact ret_node rfl rfl rfl rfl (st7_blk hB4) ⟨rfl, (hB.alloc _).st7 (by omega), ((hF.trans hF3).alloc _).st7 (Nat.le_refl _)⟩
      | ok y =>
        obtain ⟨kid, σ2⟩ := y
        obtain ⟨sv, kv, bv3, rfl, hNd, hR3, hF3⟩ := hP
        obtain ⟨A1, A2, p1, p2, rfl, rfl⟩ := hNd.lens
        have HB3 := Lib.hid (hF3.blk HR2.out HB2.out (by decide) (by decide))
        have HB53 := Lib.hid (hF3.blk HR2.out HB5.out (by decide) (by decide))
        have HR3 : Hid (Rd n₀ rb tb cap s w3 σ2 (d + 1) fc fa bv3) := Lib.hid hR3
        have HND := Lib.hid hNd
        replace hF := hF.trans hF3
        have hsz2 : ((w1.alloc (.cells #[.int .i64 k, .int .i64 0, .int .i64 0, .int .i64 m, .int .i64 rf, .slice none 0 0, .slice none 0 0] 27)).setCell ⟨rb, 2, none⟩ (.int .i64 ((d : Int) + 1))).heap.size = w1.heap.size + 1 := by simp [World.setCell]
        have hw13 : w1.heap.size < w3.heap.size := by have := hF3.size; omega
        clear hR3 hF3 hNd
        simp only [ndVal]
        obtain ⟨nk, hnk⟩ : ∃ nk : Array Value, nk = #[.int .i64 kid.kind, .int .i64 kid.lo, .int .i64 kid.hi, .int .i64 kid.mode, .int .i64 kid.ref, .slice A1 kid.set.length p1, .slice A2 kid.kids.length p2] := ⟨_, rfl⟩
        have HB4 := Lib.hid (HB3.out.alloc (.cells nk 27))
        have HB54 := Lib.hid (HB53.out.alloc (.cells nk 27))
        have HB74 := Lib.hid (Blk.new w3 27 nk)
        have HR4 := Lib.hid (HR3.out.alloc (.cells nk 27))
        have HND4 := Lib.hid (HND.out.fr ((Fr.refl w3).alloc (.cells nk 27)))
        replace hF := hF.alloc (.cells nk 27)
        subst hnk
        by_cases c41 : at_ σ2.t 0 = 41
        · have HT := Lib.hid (take1_yes 41 (by decide) (by simpa using c41) HR4.out)
          have hpc : Hid (parClose σ.pos (k, m, rf) (.ok (kid, σ2)) = .ok (wrap (k, m, rf) kid, σ2.adv 1)) := Lib.hid (by unfold parClose; exact if_pos c41)
          clear c41
          go_wp2_with fail
          refine HT.out.mono ?_
          rintro e w5 ⟨rfl, hR5, hF5⟩
          have c2 : w5.cell? ⟨rb, 2, none⟩ = some (.int .i64 ((d : Int) + 1)) := hR5.c2
          have f2 := hR5.fz 2
          have HR6 := Lib.hid (hR5.depth d (by omega) (d : Int) rfl)
          have HB6 := Lib.hid ((hF5.blk HR4.out HB4.out (by decide) (by decide)).far (p := ⟨rb, 2, none⟩) (ne_of_types HB4.out HR4.out.blk (by decide)) (.int .i64 (d : Int)))
          have HB56 := Lib.hid ((hF5.blk HR4.out HB54.out (by decide) (by decide)).far (p := ⟨rb, 2, none⟩) (ne_of_types HB54.out HR4.out.blk (by decide)) (.int .i64 (d : Int)))
          have HB76 := Lib.hid ((hF5.blk HR4.out HB74.out (by decide) (by decide)).far (p := ⟨rb, 2, none⟩) (ne_of_types HB74.out HR4.out.blk (by decide)) (.int .i64 (d : Int)))
          have HND6 := Lib.hid ((HND4.out.fr hF5).fr ((Fr.refl w5).set_ (p := ⟨rb, 2, none⟩) HR.out.low (.inr rfl) (.int .i64 (d : Int))))
          replace hF := (hF.trans hF5).set_ (p := ⟨rb, 2, none⟩) HR.out.low (.inr rfl) (.int .i64 (d : Int))
          clear hR5 hF5
          go_upto_region 14 with (fail)
          generalize w5.setCell ⟨rb, 2, none⟩ (.int .i64 (d : Int)) = W6 at HR6 HB6 HB56 HB76 HND6 hF ⊢
          clear c2 f2 HB4 HB54 HB74 HR4 HND4 HT
          by_cases hk : k = 0
          · subst hk
            have hz := HB6.out.zero
            have hfz := HB6.out.frozen
            have b5 := HB56.out.seven
            have b7 := HB76.out.seven
            go_wp2
            exact ret_node rfl rfl rfl rfl (st7_blk HB6.out) (by
              rw [hpc.out]
              exact ⟨_, _, bv3, rfl, (HND6.out.st7 HB6.out (by omega)).low (by omega), HR6.out.st7 HB6.out HR.out.size, hF.st7 (Nat.le_refl _)⟩)
          · have hk' : (k == 0) = false := by simpa using hk
            obtain ⟨nk, hnk⟩ : ∃ nk : Array Value, nk = #[.int .i64 kid.kind, .int .i64 kid.lo, .int .i64 kid.hi, .int .i64 kid.mode, .int .i64 kid.ref, .slice A1 kid.set.length p1, .slice A2 kid.kids.length p2] := ⟨_, rfl⟩
            have hg5 : w1.heap.size < W6.heap.size := HB56.out.lt
            have hg0 : w.heap.size < W6.heap.size := HB6.out.lt
            have h05 : w.heap.size ≠ w1.heap.size := by omega
            have b5 := HB56.out.seven
            have b7 := HB76.out.seven
            have f5 := HB56.out.frozen
            have HB5s := Lib.hid ((HB56.out.set_ 6 (.slice (some ⟨W6.heap.size, 0, none⟩) 1 1)).alloc (.cells nk 27))
            have HB0s := Lib.hid ((HB6.out.far (p := ⟨w1.heap.size, 6, none⟩) h05 (.slice (some ⟨W6.heap.size, 0, none⟩) 1 1)).alloc (.cells nk 27))
            have HB8s := Lib.hid (Blk.new_at (W6.setCell ⟨w1.heap.size, 6, none⟩ (.slice (some ⟨W6.heap.size, 0, none⟩) 1 1)) W6.heap.size (by simp [World.setCell]) 27 nk)
            have HRs := Lib.hid ((HR6.out.far (o := 6) HB56.out (by decide) (by decide) (by decide) (by have := HR.out.size; omega) (.slice (some ⟨W6.heap.size, 0, none⟩) 1 1)).alloc (.cells nk 27))
            have HNs := Lib.hid ((HND6.out.far (o := 6) (u := .slice (some ⟨W6.heap.size, 0, none⟩) 1 1) HB56.out (by omega)).fr ((Fr.refl _).alloc (.cells nk 27)))
            have hFs := (hF.set_ (p := ⟨w1.heap.size, 6, none⟩) HR.out.low (.inl (by show w.heap.size ≤ w1.heap.size; omega)) (.slice (some ⟨W6.heap.size, 0, none⟩) 1 1)).alloc (.cells nk 27)
            subst hnk
            go_upto_region 17 with (fail)
            have h80 : W6.heap.size ≠ w.heap.size := by omega
            have hrb6 := HR6.out.blk.lt
            clear b5 b7 f5 HB6 HB56 HB76 HR6 HND6 hF
            generalize (W6.setCell ⟨w1.heap.size, 6, none⟩ (.slice (some ⟨W6.heap.size, 0, none⟩) 1 1)).alloc (.cells #[.int .i64 kid.kind, .int .i64 kid.lo, .int .i64 kid.hi, .int .i64 kid.mode, .int .i64 kid.ref, .slice A1 kid.set.length p1, .slice A2 kid.kids.length p2] 27) = W8 at HB5s HB0s HB8s HRs HNs hFs ⊢
            have b5s := HB5s.out.seven
            have hz := HB0s.out.zero
            have hfz := HB0s.out.frozen
            go_wp2
            exact ret_node rfl rfl rfl rfl (st7_blk HB0s.out) (by
              rw [hpc.out, show wrap (k, m, rf) kid = .mk k 0 0 m rf [] [kid] from by unfold wrap; exact if_neg hk]
              exact ⟨_, _, bv3, rfl, NodeV.one (SetK.nil _ _) (by simp) (Nat.le_refl _) (KB.new (HB8s.out.st7 h80) (by omega) (by omega)) ((HNs.out.st7 HB0s.out (by omega)).low (by omega)) (NCells.of_blk (HB8s.out.st7 h80)), HRs.out.st7 HB0s.out HR.out.size, hFs.st7 (Nat.le_refl _)⟩)
        · have HT := Lib.hid (take1_no 41 (by decide) (by simpa using c41) HR4.out)
          have hpc : Hid (parClose σ.pos (k, m, rf) (.ok (kid, σ2)) = .error (20, σ.pos)) := Lib.hid (by unfold parClose; exact if_neg c41)
          clear c41
          go_wp2_with fail
          refine HT.out.mono ?_
          rintro e w5 ⟨rfl, hb5⟩
          have hR5 := Lib.hid (HR4.out.on hb5)
          have hB5 := Lib.hid (HB4.out.on hb5)
          go_wp2_with fail
          refine (refuse_bad 20 σ.pos hR5.out).mono ?_
          rintro e w6 ⟨rfl, hB, hF6⟩
          have hB6 := hF6.blk hR5.out hB5.out (by decide) (by decide)
          have hz := hB6.zero
          have hfz := hB6.frozen
          go_wp2
          exact ret_node rfl rfl rfl rfl (st7_blk hB6) (by
            rw [hpc.out]
            exact ⟨rfl, hB.st7 (by omega), ((hF.trans (Fr.of_below hb5)).trans hF6).st7 (Nat.le_refl _)⟩)

end Go.Proofs.YthipgidddgdojaaDoor
