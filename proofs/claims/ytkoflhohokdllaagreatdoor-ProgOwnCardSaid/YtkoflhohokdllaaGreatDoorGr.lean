/- ProgOwn: two programs; the first one overwritten. -/
import Derived.Test.YtkoflhohokdllaaGreatDoorGq
import Derived.Test.YtkoflhohokdllaaGreatDoorPgR
namespace Go.Proofs.YtkoflhohokdllaaGreatDoor
open Go.RowKit
open Go.Proofs.YtkoflhohokdllaaGreatDoor.Cl (Rg SetV SetAt rgCells rgCells_get info_three normal_any normB normB_true Norm norm_nil)
variable {w w' w0 : World} {n₀ : Nat}

/-- A cell that holds a number, in a block that isn't frozen. -/
def IC (W : World) (p : Addr) : Prop := (∃ n, W.cell? p = some (.int .i64 n)) ∧ W.frozen? p = false
theorem IC.set {W : World} {p q : Addr} {x : Int} (h : IC W q) (_hp : IC W p) : IC (W.setCell p (.int .i64 x)) q := by
  refine ⟨?_, by rw [World.frozen?_setCell]; exact h.2⟩
  by_cases e : p = q
  · subst e
    obtain ⟨n, hn⟩ := h.1
    exact ⟨x, World.cell?_setCell_same _ _ _ hn⟩
  · obtain ⟨n, hn⟩ := h.1
    exact ⟨n, by rw [World.cell?_setCell_other _ _ _ _ e]; exact hn⟩
theorem IC.slice {W : World} {p q : Addr} {A : Option Addr} {n c : Nat} {x : Int} (hp : IC W p) (h : W.cell? q = some (.slice A n c)) : (W.setCell p (.int .i64 x)).cell? q = some (.slice A n c) := by
  have e : p ≠ q := by
    rintro rfl
    obtain ⟨m, hm⟩ := hp.1
    rw [h] at hm
    cases hm
  rw [World.cell?_setCell_other _ _ _ _ e]
  exact h
/-- A row of ranges, whatever they are. -/
def Rn (W : World) (h n : Nat) : Prop := ∀ t, t < n → IC W ⟨h, t * 2, none⟩
theorem Rn.set {W : World} {h n : Nat} {p : Addr} {x : Int} (hr : Rn W h n) (hp : IC W p) : Rn (W.setCell p (.int .i64 x)) h n := fun t ht => (hr t ht).set hp
/-- A program, whatever stands in it. -/
structure Tn (n₁ n₂ g m : Nat) (W : World) : Prop where
  lo : n₁ ≤ g
  hi : g < n₂
  row : ∀ k, k < m → IC W ⟨g, k * 6, none⟩ ∧ ∃ A n c, W.cell? ⟨g, k * 6 + 5, none⟩ = some (.slice A n c) ∧ n ≤ c ∧ n ≤ 1000000 ∧ (0 < n → ∃ h, A = some ⟨h, 0, none⟩ ∧ n₁ ≤ h ∧ h < n₂ ∧ Rn W h n)
theorem Tn.set {lo hi g m : Nat} {W : World} {p : Addr} {x : Int} (h : Tn lo hi g m W) (hp : IC W p) : Tn lo hi g m (W.setCell p (.int .i64 x)) :=
  ⟨h.lo, h.hi, fun k hk => by
    obtain ⟨h1, A, n, c, h2, h3, h4, h5⟩ := h.row k hk
    exact ⟨h1.set hp, A, n, c, hp.slice h2, h3, h4, fun hn => by
      obtain ⟨b, e1, e2, e3, e4⟩ := h5 hn
      exact ⟨b, e1, e2, e3, e4.set hp⟩⟩⟩
theorem IC.on {W W' : World} {p : Addr} {n : Nat} (h : IC W p) (hp : p.block < n) (hb : Below n W W') : IC W' p := by
  obtain ⟨⟨x, hx⟩, hf⟩ := h
  refine ⟨⟨x, (hb.cell hp).trans hx⟩, ?_⟩
  have := hb.block p.block hp
  unfold World.frozen? at hf ⊢
  rw [this]
  exact hf
theorem Tn.on {lo hi g m : Nat} {W W' : World} (h : Tn lo hi g m W) (hb : Below hi W W') : Tn lo hi g m W' :=
  ⟨h.lo, h.hi, fun k hk => by
    obtain ⟨h1, A, n, c, h2, h3, h4, h5⟩ := h.row k hk
    exact ⟨h1.on h.hi hb, A, n, c, (hb.cell (p := ⟨g, k * 6 + 5, none⟩) h.hi).trans h2, h3, h4, fun hn => by
      obtain ⟨b, e1, e2, e3, e4⟩ := h5 hn
      exact ⟨b, e1, e2, e3, fun t ht => (e4 t ht).on e3 hb⟩⟩⟩
theorem PgV.set {v : Value} {X : List In} {p : Addr} {u : Value} (h : PgV n₀ w v X) (hp : p.block < n₀) : PgV n₀ (w.setCell p u) v X := by
  obtain ⟨L, h1, h2, h3, h4⟩ := h
  exact ⟨L, h1, ownsRow_setCell_below h2 hp u, fun x hx => ownsRow_setCell_below (h3 x hx) hp u, h4⟩
theorem PgV.tn {X : List In} {g c : Nat} (h : PgV n₀ w (.slice (some ⟨g, 0, none⟩) X.length c) X) (hX : ∀ x ∈ X, x.set.length ≤ 1000000) (hp : 0 < X.length) : Tn n₀ w.heap.size g X.length w := by
  have fro : ∀ (b : Nat) (cs : Array Value) (e : TypeId) (i : Nat), w.heap[b]? = some (.cells cs e (0, 0)) → w.frozen? ⟨b, i, none⟩ = false := fun b cs e i hb => by simp [World.frozen?, hb]
  have hg : ∃ cs, w.heap[g]? = some (.cells cs 51 (0, 0)) := by
    obtain ⟨L, _, h2, _⟩ := h
    exact own_block h2 (by simp [Value.ownBlock])
  have hgg : n₀ ≤ g ∧ g < w.heap.size := by
    obtain ⟨g', _, _, _, hv, _, a1, a2, _⟩ := h.six (List.getElem?_eq_getElem hp)
    have := (Value.slice.inj hv).1
    obtain ⟨rfl⟩ : g = g' := by simpa using this
    exact ⟨a2, a1⟩
  refine ⟨hgg.1, hgg.2, fun k hk => ?_⟩
  have hget := List.getElem?_eq_getElem (l := X) (i := k) hk
  generalize X[k] = x at hget
  obtain ⟨g', c', As, cs, hv, _, _, _, hO, d0, _, _, _, _, d5⟩ := h.six hget
  have e := (Value.slice.inj hv).1
  obtain ⟨rfl⟩ : g = g' := by simpa using e
  obtain ⟨bc, hb⟩ := hg
  refine ⟨⟨⟨_, d0⟩, fro _ _ _ _ hb⟩, As, _, cs, d5, ?_, hX _ (List.mem_of_getElem? hget), fun hn => ?_⟩
  · obtain ⟨_, _, hv', hc', _⟩ := Cl.Own.set (show Cl.Own w n₀ 57 _ x.set from hO)
    have := (Value.slice.inj hv').2.2
    omega
  · obtain ⟨b, c0, hv0, b0, b1⟩ := hO.form hn
    have ea := (Value.slice.inj hv0).1
    subst ea
    obtain ⟨cc, hcc⟩ := own_block (i := b) hO (by simp [Value.ownBlock])
    refine ⟨b, rfl, b0, b1, fun t ht => ⟨⟨(x.set[t]'ht).1, ?_⟩, fro _ _ _ _ hcc⟩⟩
    · have hc := hO.cells (g := b) rfl _ _ (rgCells_get x.set t _ (List.getElem?_eq_getElem ht)).1
      rw [show (⟨b, 0, none⟩ : Addr).add (t * 2) = ⟨b, 0 + t * 2, none⟩ from by unfold Addr.add; split <;> simp_all, Nat.zero_add] at hc
      exact hc

set_option maxRecDepth 100000 in
set_option maxHeartbeats 1000000 in
theorem own_law (x : ByteArray) (hT : TabL w.heap.size w) : Calls Tryz.prog 8 #[.string x] w fun e w' => e = .returned (.bool true) ∧ Below w.heap.size w w' := by
  have HT := Lib.hid hT
  have HA := Lib.hid (anchor5_any hT)
  clear hT
  by_cases hlen : 200 < x.size
  · have hlen' : (200 : Int) < (x.size : Int) := by omega
    go_enter Tryz.func8, Tryz.ntmps8
    go_wp2_with fail
    refine HA.out.mono ?_
    rintro e w1 ⟨rfl, hb1⟩
    go_wp2
    go_ret
    exact ⟨rfl, hb1⟩
  have hlen' : ¬ (200 : Int) < (x.size : Int) := by omega
  have HM := Lib.hid (fun (W : World) (k : TabL W.heap.size W) => made_any x (by omega) k)
  have HR : Hid (fcT x = 0 → Wf (ndT x) ∧ Wn (gT x : Nat) (ndT x) ∧ gT x ≤ 9) := Lib.hid pat_ok
  have HV : Hid (vdT x = if fcT x = 0 then verdictN (ndT x) else 0) := Lib.hid rfl
  have HPr : Hid (prT x = if fcT x = 0 ∧ verdictN (ndT x) = 0 then whole (foT x) (ndT x) else []) := Lib.hid rfl
  go_enter Tryz.func8, Tryz.ntmps8
  go_wp2_with fail
  refine HA.out.mono ?_
  rintro e w1 ⟨rfl, hb1⟩
  have HT1 := Lib.hid (HT.out.on hb1)
  go_wp2_with fail
  refine (HM.out _ HT1.out).mono ?_
  rintro e w2 ⟨hb2, A, c, rfl, hP⟩
  have HP := Lib.hid hP
  clear hP
  have hbw2 := hb1.trans (hb2.mono hb1.size)
  have HT2 := Lib.hid (HT.out.on hbw2)
  go_wp2_with fail
  refine (HM.out _ HT2.out).mono ?_
  rintro e w3 ⟨hb3, B, d, rfl, hQ⟩
  have HQ := Lib.hid hQ
  clear hQ
  have hbw3 := hbw2.trans (hb3.mono hbw2.size)
  by_cases hfc : fcT x = 0
  · by_cases hvd : verdictN (ndT x) = 0
    · have e1 : prT x = whole (foT x) (ndT x) := by rw [HPr.out, if_pos ⟨hfc, hvd⟩]
      have e2 : vdT x = 0 := by rw [HV.out, if_pos hfc, hvd]
      rw [e1] at HP HQ ⊢
      rw [e2, hfc]
      obtain ⟨hwf, hwn, _⟩ := HR.out hfc
      obtain ⟨hl1, hl2, hl3⟩ := whole_len (fo := foT x) hwf hvd
      have HW : Hid (∀ y ∈ whole (foT x) (ndT x), y.set.length ≤ 1000000 ∧ 0 ≤ y.op ∧ (y.op = 1 → Norm y.set)) := Lib.hid (fun y hy => ⟨whole_lim (foT x) hwn y hy, whole_opn (foT x) hwn y hy, fun h1 => by
        obtain ⟨k, hk⟩ := List.getElem?_of_mem hy
        rcases whole_at hwf hwn hk with ⟨_, rfl⟩ | ⟨_, h⟩
        · exact norm_nil
        · exact h.set⟩)
      have hX0 : 0 < (whole (foT x) (ndT x)).length := by have := len_nonneg (body (foT x) (ndT x)); omega
      generalize whole (foT x) (ndT x) = X at *
      clear HR HV HPr HM HT HT1 HT2 HA hwf hwn hvd e1 e2 hfc hl1 hl2
      obtain ⟨m, hm⟩ : ∃ m, X.length = m := ⟨_, rfl⟩
      have hAg : ∃ g, A = some ⟨g, 0, none⟩ ∧ X.length ≤ c := by
        obtain ⟨g, _, _, _, hv, hc, _⟩ := HP.out.six (List.getElem?_eq_getElem hX0)
        exact ⟨g, (Value.slice.inj hv).1, by have := (Value.slice.inj hv).2.2; omega⟩
      have hBg : ∃ g, B = some ⟨g, 0, none⟩ ∧ X.length ≤ d := by
        obtain ⟨g, _, _, _, hv, hc, _⟩ := HQ.out.six (List.getElem?_eq_getElem hX0)
        exact ⟨g, (Value.slice.inj hv).1, by have := (Value.slice.inj hv).2.2; omega⟩
      obtain ⟨g, rfl, hmc⟩ := hAg
      obtain ⟨g2, rfl, hmd⟩ := hBg
      have HTn := Lib.hid ((HP.out.tn (fun y hy => (HW.out y hy).1) hX0).on hb3)
      clear HP
      have HXm : Hid (X.length = m) := Lib.hid hm
      have hm2 : m ≤ 2000 := by omega
      have hn12 : Hid (w.heap.size ≤ w1.heap.size) := Lib.hid hb1.size
      have HI0 : Hid (Tn w1.heap.size w2.heap.size g m w3 ∧ PgV w2.heap.size w3 (.slice (some ⟨g2, 0, none⟩) X.length d) X ∧ Below w.heap.size w w3) := Lib.hid ⟨by rw [← hm]; exact HTn.out, HQ.out, hbw3⟩
      rw [hm] at hmc hmd
      rw [hm] at HI0 ⊢
      clear HQ HTn hX0 hl3 hm hb1 hb2 hb3 hbw2 hbw3
      go_wp2
      go_loopw [41] (fun i wr => ∃ k : Nat, k ≤ m ∧ i = .int .i64 k ∧ Hid (Tn w1.heap.size w2.heap.size g m wr ∧ PgV w2.heap.size wr (.slice (some ⟨g2, 0, none⟩) m d) X ∧ Below w.heap.size w wr)) (fun i _ => m - (intOf i).toNat)
      case atStart => exact ⟨0, Nat.zero_le _, rfl, HI0⟩
      case round =>
        obtain ⟨k, hk, rfl, HI⟩ := hrel
        clear HI0
        by_cases hlt : k < m
        · have hlti : (k : Int) < (m : Int) := by omega
          have HLt := Lib.hid hlt
          obtain ⟨_, A, n, c', h5, hnc, hnl, hb⟩ := HI.out.1.row k hlt
          have H5 := Lib.hid h5
          obtain ⟨h, hA⟩ : ∃ h, 0 < n → A = some ⟨h, 0, none⟩ ∧ w1.heap.size ≤ h ∧ h < w2.heap.size ∧ Rn wr h n := by
            by_cases hn : 0 < n
            · obtain ⟨h, e⟩ := hb hn
              exact ⟨h, fun _ => e⟩
            · exact ⟨0, fun e => absurd e hn⟩
          have HAh := Lib.hid hA
          have hI1 : Hid (Tn w1.heap.size w2.heap.size g m wr ∧ PgV w2.heap.size wr (.slice (some ⟨g2, 0, none⟩) m d) X ∧ Below w.heap.size w wr ∧ wr.cell? ⟨g, k * 6 + 5, none⟩ = some (.slice A n c') ∧ (0 < n → Rn wr h n)) := Lib.hid ⟨HI.out.1, HI.out.2.1, HI.out.2.2, h5, fun e => (hA e).2.2.2⟩
          clear hA hb
          go_wp2
          clear h5
          go_loopw [50] (fun j W => ∃ t : Nat, t ≤ n ∧ j = .int .i64 t ∧ Hid (Tn w1.heap.size w2.heap.size g m W ∧ PgV w2.heap.size W (.slice (some ⟨g2, 0, none⟩) m d) X ∧ Below w.heap.size w W ∧ W.cell? ⟨g, k * 6 + 5, none⟩ = some (.slice A n c') ∧ (0 < n → Rn W h n))) (fun j _ => n - (intOf j).toNat)
          case atStart => exact ⟨0, Nat.zero_le _, rfl, hI1⟩
          case round =>
            obtain ⟨t, ht, rfl, HJ⟩ := hrel
            clear hI1 HI
            by_cases htn : t < n
            · have hti : (t : Int) < (n : Int) := by omega
              have HTl := Lib.hid htn
              have hn0 : 0 < n := by omega
              obtain ⟨eA, hlo, hhi, _⟩ := HAh.out hn0
              have h5 := HJ.out.2.2.2.1
              rw [eA] at h5
              have hic := HJ.out.2.2.2.2 hn0 t htn
              have HNext : Hid (Tn w1.heap.size w2.heap.size g m (wr.setCell ⟨h, t * 2, none⟩ (.int .i64 (-1))) ∧ PgV w2.heap.size (wr.setCell ⟨h, t * 2, none⟩ (.int .i64 (-1))) (.slice (some ⟨g2, 0, none⟩) m d) X ∧ Below w.heap.size w (wr.setCell ⟨h, t * 2, none⟩ (.int .i64 (-1))) ∧ (wr.setCell ⟨h, t * 2, none⟩ (.int .i64 (-1))).cell? ⟨g, k * 6 + 5, none⟩ = some (.slice A n c') ∧ (0 < n → Rn (wr.setCell ⟨h, t * 2, none⟩ (.int .i64 (-1))) h n)) :=
                Lib.hid ⟨HJ.out.1.set hic, HJ.out.2.1.set hhi, HJ.out.2.2.1.setCell (Nat.le_trans hn12.out hlo) _, hic.slice HJ.out.2.2.2.1, fun e => (HJ.out.2.2.2.2 e).set hic⟩
              obtain ⟨⟨v0, hv0⟩, hf0⟩ := hic
              clear HJ eA hlo hhi
              go_upto_region 16 with (fail)
              clear hv0 hf0 h5
              generalize wr.setCell _ _ = W1 at *
              go_wp2
              go_roundw
              case rel => exact ⟨t + 1, HTl.out, by go_num, HNext⟩
              case measure => have := HTl.out; first | (simp [intOf]; done) | (simp [intOf]; omega)
            · have hnti : ¬ (t : Int) < (n : Int) := by omega
              have hic := (HJ.out.1.row k HLt.out).1
              have HNext : Hid (Tn w1.heap.size w2.heap.size g m (wr.setCell ⟨g, k * 6, none⟩ (.int .i64 (-1))) ∧ PgV w2.heap.size (wr.setCell ⟨g, k * 6, none⟩ (.int .i64 (-1))) (.slice (some ⟨g2, 0, none⟩) m d) X ∧ Below w.heap.size w (wr.setCell ⟨g, k * 6, none⟩ (.int .i64 (-1)))) :=
                Lib.hid ⟨HJ.out.1.set hic, HJ.out.2.1.set HJ.out.1.hi, HJ.out.2.2.1.setCell (Nat.le_trans hn12.out HJ.out.1.lo) _⟩
              obtain ⟨⟨v0, hv0⟩, hf0⟩ := hic
              clear HJ
              go_upto_region 18 with (fail)
              clear hv0 hf0
              generalize wr.setCell _ _ = W1 at *
              go_wp2
              go_roundw
              case rel => exact ⟨k + 1, HLt.out, by go_num, HNext⟩
              case measure => have := HLt.out; first | (simp [intOf]; done) | (simp [intOf]; omega)
        · have hge : ¬ (k : Int) < (m : Int) := by omega
          have HI3 := Lib.hid HI.out.2
          clear HI
          go_wp2
          go_loopw [69] (fun i W => ∃ k : Nat, k ≤ m ∧ i = .int .i64 k ∧ Hid (PgV w2.heap.size W (.slice (some ⟨g2, 0, none⟩) m d) X ∧ Below w.heap.size w W)) (fun i _ => m - (intOf i).toNat)
          case atStart => exact ⟨0, Nat.zero_le _, rfl, HI3⟩
          case round =>
            obtain ⟨j, hj, rfl, HJ⟩ := hrel
            clear HI3
            by_cases hlt2 : j < m
            · have hjti : (j : Int) < (m : Int) := by omega
              have HLt := Lib.hid hlt2
              have hjX : j < X.length := by rw [HXm.out]; exact hlt2
              have hget := List.getElem?_eq_getElem (l := X) (i := j) hjX
              have HWy := Lib.hid (HW.out _ (List.mem_of_getElem? hget))
              have hJP := HJ.out.1
              rw [← HXm.out] at hJP
              obtain ⟨g', c'', As, cs, hv, hc, hg, _, hO, d0, d1, d2, d3, d4, d5⟩ := hJP.six hget
              have e := (Value.slice.inj hv).1
              obtain ⟨rfl⟩ : g2 = g' := by simpa using e
              clear hv hget e hJP
              generalize X[j]'hjX = y at *
              clear hjX
              have hb6 := HJ.out.2.alloc HJ.out.2.size (.cells #[.int .i64 y.op, .int .i64 y.a, .int .i64 y.b, .int .i64 y.c, .int .i64 y.d, .slice As y.set.length cs] 51)
              have HBk := Lib.hid (Blk.new wr 51 #[.int .i64 y.op, .int .i64 y.a, .int .i64 y.b, .int .i64 y.c, .int .i64 y.d, .slice As y.set.length cs])
              have HO := Lib.hid (World.ownsRow.alloc hO (.cells #[.int .i64 y.op, .int .i64 y.a, .int .i64 y.b, .int .i64 y.c, .int .i64 y.d, .slice As y.set.length cs] 51))
              have HPn := Lib.hid (HJ.out.1.on ((Below.refl wr.heap.size wr).alloc (Nat.le_refl _) (.cells #[.int .i64 y.op, .int .i64 y.a, .int .i64 y.b, .int .i64 y.c, .int .i64 y.d, .slice As y.set.length cs] 51)))
              clear hO HJ
              go_upto_region 22 with (fail)
              clear d0 d1 d2 d3 d4 d5 hc hg
              generalize wr.alloc _ = W at *
              have b6 := HBk.out.c6_
              obtain ⟨yo, ya, yb, yc, yd, ys⟩ := y
              simp only at b6
              have hop : ¬ yo < 0 := by have := HWy.out.2.1; simp only at this; omega
              by_cases o1 : yo = 1
              · subst o1
                have HNo := Lib.hid (normal_any (.slice As ys.length cs) ys W HWy.out.1 (Cl.Own.set HO.out))
                rw [normB_true (HWy.out.2.2 rfl)] at HNo
                go_wp2_with fail
                refine HNo.out.mono ?_
                rintro e w5 ⟨rfl, hb5⟩
                have HP7 := Lib.hid (And.intro (HPn.out.on hb5) (hb6.trans (hb5.mono hb6.size)))
                clear hb5
                go_wp2
                go_roundw
                case rel => exact ⟨j + 1, HLt.out, by go_num, HP7⟩
                case measure => have := HLt.out; first | (simp [intOf]; done) | (simp [intOf]; omega)
              · have p1 : (yo == 1) = false := by simp [o1]
                have HP7 := Lib.hid (And.intro HPn.out hb6)
                go_wp2
                go_roundw
                case rel => exact ⟨j + 1, HLt.out, by go_num, HP7⟩
                case measure => have := HLt.out; first | (simp [intOf]; done) | (simp [intOf]; omega)
            · have hge2 : ¬ (j : Int) < (m : Int) := by omega
              go_wp2
              go_ret
              exact ⟨rfl, HJ.out.2⟩
    · have e1 : prT x = [] := by rw [HPr.out, if_neg (fun h => hvd h.2)]
      have e2 : vdT x = verdictN (ndT x) := by rw [HV.out, if_pos hfc]
      rw [e1, e2, hfc]
      have hv' := off_zero hvd
      clear e1 e2 hvd hfc HP HQ
      go_wp2
      go_ret
      exact ⟨rfl, hbw3⟩
  · have e1 : prT x = [] := by rw [HPr.out, if_neg (fun h => hfc h.1)]
    rw [e1]
    have hv' := off_zero hfc
    clear e1 hfc HP HQ
    go_wp2
    go_ret
    exact ⟨rfl, hbw3⟩

theorem progOwn_law (x : ByteArray) (W : World) (hT : TabL W.heap.size W) : Calls Tryz.prog 8 #[.string x] W fun e w' => e = .returned (.bool true) ∧ Below W.heap.size W w' := own_law x hT

end Go.Proofs.YtkoflhohokdllaaGreatDoor
