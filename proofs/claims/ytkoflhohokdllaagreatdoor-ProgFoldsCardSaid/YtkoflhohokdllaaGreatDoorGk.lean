/- The writer: looks. -/
import Derived.Test.YtkoflhohokdllaaGreatDoorGj
namespace Go.Proofs.YtkoflhohokdllaaGreatDoor
open Go.RowKit
open Go.Proofs.YtkoflhohokdllaaGreatDoor.Cl (Rg SetV SetAt rgCells info_three info3)
variable {w w' w0 : World} {n₀ wb lp lp' base : Nat} {fo : Bool} {M : List In} {G : Int}

def lookOk (nd : Nd) : Prop := (∀ x ∈ nd.kids, Wf x) ∧ 0 ≤ nd.mode ∧ nd.mode ≤ 3
def lookN (fo : Bool) (nd : Nd) : List In := withinC (lookI nd.mode (loSum nd.kids) (hiSum nd.kids) 0) (kidsC fo nd)
theorem NodeV.up {nd : Nd} {sv kv : Value} (h : NodeV (fun b => b < n₀) w nd sv kv) (hn : n₀ ≤ w.heap.size) : NodeV (fun b => b < w.heap.size) w nd sv kv := h.keep fun _ hk => ⟨Nat.lt_of_lt_of_le hk hn, rfl⟩
theorem KidsB.up {L : List Nd} {A : Option Addr} {b off : Nat} (h : KidsB n₀ w L A b off) (hn : n₀ ≤ w.heap.size) : KidsV w L A b off := fun i x hx => by
  obtain ⟨h1, h2, A1, A2, p1, p2, h3, h4⟩ := h i x hx
  exact ⟨h1, Nat.lt_of_lt_of_le h2 hn, A1, A2, p1, p2, h3.up hn, h4⟩

set_option maxRecDepth 100000 in
set_option maxHeartbeats 1000000 in
theorem lookClo (n : Nat) (ih : RowG n₀ wb fo G n) {nd : Nd} (hkids : ∀ x ∈ nd.kids, Nx G n x) {bw bn : Nat} {A1 A2 : Option Addr} {p1 p2 : Nat} (hE : Env5 n₀ w) (hN : NodeB n₀ w nd A1 A2 p1 p2) (hW : Wm n₀ wb fo w M) (hl : M.length + (kidsC fo nd).length ≤ 90000)
    (hbw : Blk w bw 111 #[.pointer (some ⟨wb, 0, none⟩)]) (hbn : Blk w bn 27 #[.int .i64 nd.kind, .int .i64 nd.lo, .int .i64 nd.hi, .int .i64 nd.mode, .int .i64 nd.ref, .slice A1 nd.set.length p1, .slice A2 nd.kids.length p2]) {f : Nat} (hf : f = 96 ∨ f = 82) :
    Calls Tryz.prog f #[.pointer (some ⟨bw, 0, none⟩), .pointer (some ⟨bn, 0, none⟩)] w (WmP n₀ wb fo w (app M (kidsC fo nd))) := by
  obtain ⟨b, off, hkv, hm⟩ := NodeB.kids hN
  have HC := Lib.hid (ih nd.kids hkids hm w M A2 p2 b off hE hkv hW hl)
  have c0 := hbw.cell 0
  simp at c0
  have h7 := hbn.c7
  clear hE hN hW hbw hbn hkids ih hkv hm
  rcases hf with rfl | rfl
  · go_enter Tryz.func96, Tryz.ntmps96
    go_wp2_with fail
    refine HC.out.mono ?_
    rintro e w1 ⟨rfl, hW1, hF1⟩
    have HW1 := Lib.hid hW1
    have HF1 := Lib.hid hF1
    clear hW1 hF1
    go_wp2
    exact ⟨rfl, .tuple #[], by simp [results, Tryz.results96, go_sem], rfl, HW1.out, HF1.out⟩
  · go_enter Tryz.func82, Tryz.ntmps82
    go_wp2_with fail
    refine HC.out.mono ?_
    rintro e w1 ⟨rfl, hW1, hF1⟩
    have HW1 := Lib.hid hW1
    have HF1 := Lib.hid hF1
    clear hW1 hF1
    go_wp2
    exact ⟨rfl, .tuple #[], by simp [results, Tryz.results82, go_sem], rfl, HW1.out, HF1.out⟩

set_option maxRecDepth 100000 in
set_option maxHeartbeats 1000000 in
/-- Width of nodes as a row, of one too. -/
theorem width_cat (L : List Nd) (hw : ∀ x ∈ L, Wf x) (hm : L.length ≤ 1000000) (w : World) (A : Option Addr) (p b off : Nat) (h : KidsV w L A b off) :
    Calls Tryz.prog 12 #[.agg #[.int .i64 2, .int .i64 0, .int .i64 0, .int .i64 0, .int .i64 0, .slice none 0 0, .slice A L.length p]] w fun e w' => e = .returned (.tuple #[.int .i64 (loSum L), .int .i64 (hiSum L)]) ∧ Below w.heap.size w w' := by
  have HB0 := Lib.hid (Blk.new w 27 #[.int .i64 2, .int .i64 0, .int .i64 0, .int .i64 0, .int .i64 0, .slice none 0 0, .slice A L.length p])
  have hb0 := new_blk w #[.int .i64 2, .int .i64 0, .int .i64 0, .int .i64 0, .int .i64 0, .slice none 0 0, .slice A L.length p]
  have HR := Lib.hid (fun W (k : KidsV W L A b off) => rowWidth_any L hw hm W A p b off k)
  have HV := Lib.hid (h.on hb0)
  clear h hw
  go_enter Tryz.func12, Tryz.ntmps12
  go_upto_region 1 with (fail)
  have h7 := HB0.out.c7
  generalize w.alloc _ = W at *
  go_wp2_with fail
  refine (HR.out W HV.out).mono ?_
  rintro e w1 ⟨rfl, hb1⟩
  have hbw := hb0.trans (hb1.mono hb0.size)
  go_wp2
  go_ret2
  exact ⟨rfl, hbw⟩

set_option maxRecDepth 100000 in
set_option maxHeartbeats 1000000 in
theorem look_step (n : Nat) (ih : RowG n₀ wb fo G n) : AtG n₀ wb fo G n 80 lookOk (lookN fo) := by
  intro nd hok hkids w M A1 A2 p1 p2 hE hN hW hlen
  obtain ⟨hkw, hm0, hm3⟩ := hok
  obtain ⟨hlow1, hlow2⟩ := Wr.low hW
  obtain ⟨b, off, hkv, hm⟩ := NodeB.kids hN
  have hl : (lookN fo nd).length = (kidsC fo nd).length + 2 := by have := withinC_len (lookI nd.mode (loSum nd.kids) (hiSum nd.kids) 0) (kidsC fo nd); unfold len at this; unfold lookN; omega
  rw [hl] at hlen
  have hmode : nd.mode = 0 ∨ nd.mode = 1 ∨ nd.mode = 2 ∨ nd.mode = 3 := by omega
  have HClo := Lib.hid (fun W bw bn (h1 : Env5 n₀ W) (h2 : NodeB n₀ W nd A1 A2 p1 p2) M' (h3 : Wm n₀ wb fo W M') h4 h5 h6 => lookClo n ih hkids h1 h2 h3 h4 h5 h6 (bw := bw) (bn := bn) (.inl rfl))
  have HE := Lib.hid hE
  have HN := Lib.hid hN
  have HK := Lib.hid hkv
  obtain ⟨m, hmd⟩ : ∃ m, m = nd.mode := ⟨_, rfl⟩
  rw [← hmd] at hmode
  rw [← hmd] at HClo
  rw [← hmd]
  replace hmd := Lib.hid hmd
  have hb0 := (Below.refl w.heap.size w).alloc (Nat.le_refl _) (.cells #[.pointer (some ⟨wb, 0, none⟩)] 111)
  have hs0 : (w.alloc (.cells #[.pointer (some ⟨wb, 0, none⟩)] 111)).heap.size = w.heap.size + 1 := by simp
  have hb1 := hb0.alloc (by omega) (.cells #[.int .i64 nd.kind, .int .i64 nd.lo, .int .i64 nd.hi, .int .i64 m, .int .i64 nd.ref, .slice A1 nd.set.length p1, .slice A2 nd.kids.length p2] 27)
  have HBw := Lib.hid ((Blk.new w 111 #[.pointer (some ⟨wb, 0, none⟩)]).alloc (.cells #[.int .i64 nd.kind, .int .i64 nd.lo, .int .i64 nd.hi, .int .i64 m, .int .i64 nd.ref, .slice A1 nd.set.length p1, .slice A2 nd.kids.length p2] 27))
  have HBn := Lib.hid (Blk.new (w.alloc (.cells #[.pointer (some ⟨wb, 0, none⟩)] 111)) 27 #[.int .i64 nd.kind, .int .i64 nd.lo, .int .i64 nd.hi, .int .i64 m, .int .i64 nd.ref, .slice A1 nd.set.length p1, .slice A2 nd.kids.length p2])
  rw [hs0] at HBn
  have HW0 := Lib.hid (hW.on hb1)
  have HF0 := Lib.hid (FrW.of_below (n₀ := n₀) (wb := wb) hb1)
  clear hs0 hE hN hW hl hkv ih hkids hm0 hm3 hb0
  rcases hmode with rfl | rfl | rfl | rfl
  · go_enter Tryz.func80, Tryz.ntmps80
    go_upto_region 1 with (fail)
    generalize (w.alloc _).alloc _ = W at *
    have hs1 := hb1.size
    have h7 := HBn.out.c7
    have c0 := HBw.out.cell 0
    simp at c0
    have HBi := Lib.hid (Blk.new W 51 #[.int .i64 7, .int .i64 0, .int .i64 0, .int .i64 0, .int .i64 0, .slice none 0 0])
    have hbi := (Below.refl W.heap.size W).alloc (Nat.le_refl _) (.cells #[.int .i64 7, .int .i64 0, .int .i64 0, .int .i64 0, .int .i64 0, .slice none 0 0] 51)
    have HWi := Lib.hid (HW0.out.on hbi)
    have HFi := Lib.hid (HF0.out.trans (FrW.of_below (n₀ := n₀) (wb := wb) hbi))
    have HBn2 := Lib.hid (HBn.out.on hbi)
    have HBw2 := Lib.hid (HBw.out.on hbi)
    go_upto_region 2 with (fail)
    have hsi := hbi.size
    obtain ⟨bi, hbie⟩ : ∃ bi, bi = W.heap.size := ⟨_, rfl⟩
    have hbil : w.heap.size ≤ bi ∧ wb < bi ∧ w.heap.size + 1 < bi := by rw [hbie]; have := HBn.out.lt; omega
    have hbiW : W.heap.size ≤ bi := by omega
    rw [← hbie] at HBi ⊢
    clear hbie h7 c0
    generalize W.alloc _ = W2 at *
    have h7 := HBn2.out.c7
    have c0 := HBw2.out.cell 0
    simp at c0
    have b6 := HBi.out.c6_
    have HX : Hid (withinC (.i 7 0 0 0 0) (kidsC fo nd) = lookN fo nd) := Lib.hid (by unfold lookN; rw [← hmd.out]; rfl)
    have HWc := Lib.hid (within_code (w := W2) (M := M) (p1 := .pointer (some ⟨w.heap.size, 0, none⟩)) (p2 := .pointer (some ⟨w.heap.size + 1, 0, none⟩)) (.inr (.inr rfl)) 7 0 0 0 (.inl rfl) (kidsC fo nd) HWi.out (by omega) (fun W' hW' hF' =>
      HClo.out W' _ _ (HE.out.low ((HFi.out.trans hF').old (by omega))) (HN.out.lowB ((HFi.out.trans hF').old (by omega))) _ hW' (by rw [List.length_append]; simp; omega) (hF'.blk HBw2.out (by decide) (by omega)) (hF'.blk HBn2.out (by decide) (by omega))))
    rw [HX.out] at HWc
    go_wp2_with fail
    refine HWc.out.mono ?_
    rintro e w1 ⟨rfl, hW1, hF1⟩
    have HW1 := Lib.hid hW1
    have HF1 := Lib.hid (HFi.out.trans hF1)
    clear hW1 hF1
    go_wp2
    exact ⟨rfl, .tuple #[], by simp [results, Tryz.results80, go_sem], rfl, HW1.out, HF1.out⟩
  · go_enter Tryz.func80, Tryz.ntmps80
    go_upto_region 1 with (fail)
    generalize (w.alloc _).alloc _ = W at *
    have hs1 := hb1.size
    have h7 := HBn.out.c7
    have c0 := HBw.out.cell 0
    simp at c0
    have HBi := Lib.hid (Blk.new W 51 #[.int .i64 7, .int .i64 1, .int .i64 0, .int .i64 0, .int .i64 0, .slice none 0 0])
    have hbi := (Below.refl W.heap.size W).alloc (Nat.le_refl _) (.cells #[.int .i64 7, .int .i64 1, .int .i64 0, .int .i64 0, .int .i64 0, .slice none 0 0] 51)
    have HWi := Lib.hid (HW0.out.on hbi)
    have HFi := Lib.hid (HF0.out.trans (FrW.of_below (n₀ := n₀) (wb := wb) hbi))
    have HBn2 := Lib.hid (HBn.out.on hbi)
    have HBw2 := Lib.hid (HBw.out.on hbi)
    go_upto_region 2 with (fail)
    have hsi := hbi.size
    obtain ⟨bi, hbie⟩ : ∃ bi, bi = W.heap.size := ⟨_, rfl⟩
    have hbil : w.heap.size ≤ bi ∧ wb < bi ∧ w.heap.size + 1 < bi := by rw [hbie]; have := HBn.out.lt; omega
    have hbiW : W.heap.size ≤ bi := by omega
    rw [← hbie] at HBi ⊢
    clear hbie h7 c0
    generalize W.alloc _ = W2 at *
    have h7 := HBn2.out.c7
    have c0 := HBw2.out.cell 0
    simp at c0
    have b6 := HBi.out.c6_
    have HX : Hid (withinC (.i 7 1 0 0 0) (kidsC fo nd) = lookN fo nd) := Lib.hid (by unfold lookN; rw [← hmd.out]; rfl)
    have HWc := Lib.hid (within_code (w := W2) (M := M) (p1 := .pointer (some ⟨w.heap.size, 0, none⟩)) (p2 := .pointer (some ⟨w.heap.size + 1, 0, none⟩)) (.inr (.inr rfl)) 7 1 0 0 (.inl rfl) (kidsC fo nd) HWi.out (by omega) (fun W' hW' hF' =>
      HClo.out W' _ _ (HE.out.low ((HFi.out.trans hF').old (by omega))) (HN.out.lowB ((HFi.out.trans hF').old (by omega))) _ hW' (by rw [List.length_append]; simp; omega) (hF'.blk HBw2.out (by decide) (by omega)) (hF'.blk HBn2.out (by decide) (by omega))))
    rw [HX.out] at HWc
    go_wp2_with fail
    refine HWc.out.mono ?_
    rintro e w1 ⟨rfl, hW1, hF1⟩
    have HW1 := Lib.hid hW1
    have HF1 := Lib.hid (HFi.out.trans hF1)
    clear hW1 hF1
    go_wp2
    exact ⟨rfl, .tuple #[], by simp [results, Tryz.results80, go_sem], rfl, HW1.out, HF1.out⟩
  · go_enter Tryz.func80, Tryz.ntmps80
    go_upto_region 1 with (fail)
    generalize (w.alloc _).alloc _ = W at *
    have hs1 := hb1.size
    have h7 := HBn.out.c7
    have c0 := HBw.out.cell 0
    simp at c0
    have HBi := Lib.hid (Blk.new W 51 #[.int .i64 7, .int .i64 2, .int .i64 0, .int .i64 0, .int .i64 0, .slice none 0 0])
    have hbi := (Below.refl W.heap.size W).alloc (Nat.le_refl _) (.cells #[.int .i64 7, .int .i64 2, .int .i64 0, .int .i64 0, .int .i64 0, .slice none 0 0] 51)
    have HWi := Lib.hid (HW0.out.on hbi)
    have HFi := Lib.hid (HF0.out.trans (FrW.of_below (n₀ := n₀) (wb := wb) hbi))
    have HBn2 := Lib.hid (HBn.out.on hbi)
    have HBw2 := Lib.hid (HBw.out.on hbi)
    go_upto_region 2 with (fail)
    have hsi := hbi.size
    obtain ⟨bi, hbie⟩ : ∃ bi, bi = W.heap.size := ⟨_, rfl⟩
    have hbil : w.heap.size ≤ bi ∧ wb < bi ∧ w.heap.size + 1 < bi := by rw [hbie]; have := HBn.out.lt; omega
    have hbiW : W.heap.size ≤ bi := by omega
    rw [← hbie] at HBi ⊢
    clear hbie h7 c0
    generalize W.alloc _ = W2 at *
    have h7 := HBn2.out.c7
    have c0 := HBw2.out.cell 0
    simp at c0
    have b6 := HBi.out.c6_
    have f3 := HBi.out.frozen 3
    have f4 := HBi.out.frozen 4
    have HWd := Lib.hid (width_cat nd.kids hkw hm W2 A2 p2 b off ((HK.out.low (HFi.out.old (by omega))).up (by have := HFi.out.size; omega)))
    go_wp2_with fail
    refine HWd.out.mono ?_
    rintro e w3 ⟨rfl, hb3⟩
    have HW3 := Lib.hid (HWi.out.on hb3)
    have HF3 := Lib.hid (HFi.out.trans (FrW.of_below (n₀ := n₀) (wb := wb) hb3))
    have HBi3 := Lib.hid (HBi.out.on hb3)
    have HBn3 := Lib.hid (HBn2.out.on hb3)
    have HBw3 := Lib.hid (HBw2.out.on hb3)
    have hs3 := hb3.size
    clear h7 c0 b6 f3 f4
    have f3 := HBi3.out.frozen 3
    have f4 := HBi3.out.frozen 4
    have b6 := HBi3.out.c6_
    go_upto_region 4 with (fail)
    have HB9 : Hid (Blk ((w3.setCell ⟨bi, 3, none⟩ (.int .i64 (loSum nd.kids))).setCell ⟨bi, 4, none⟩ (.int .i64 (hiSum nd.kids))) bi 51 #[.int .i64 7, .int .i64 2, .int .i64 0, .int .i64 (loSum nd.kids), .int .i64 (hiSum nd.kids), .slice none 0 0]) := Lib.hid ((HBi3.out.set_ 3 (.int .i64 (loSum nd.kids))).set_ 4 (.int .i64 (hiSum nd.kids)))
    have HBn9 : Hid (Blk ((w3.setCell ⟨bi, 3, none⟩ (.int .i64 (loSum nd.kids))).setCell ⟨bi, 4, none⟩ (.int .i64 (hiSum nd.kids))) (w.heap.size + 1) 27 #[.int .i64 nd.kind, .int .i64 nd.lo, .int .i64 nd.hi, .int .i64 2, .int .i64 nd.ref, .slice A1 nd.set.length p1, .slice A2 nd.kids.length p2]) := Lib.hid ((HBn3.out.far (p := ⟨bi, 3, none⟩) (by simp only; omega) _).far (p := ⟨bi, 4, none⟩) (by simp only; omega) _)
    have HBw9 : Hid (Blk ((w3.setCell ⟨bi, 3, none⟩ (.int .i64 (loSum nd.kids))).setCell ⟨bi, 4, none⟩ (.int .i64 (hiSum nd.kids))) w.heap.size 111 #[.pointer (some ⟨wb, 0, none⟩)]) := Lib.hid ((HBw3.out.far (p := ⟨bi, 3, none⟩) (by simp only; omega) _).far (p := ⟨bi, 4, none⟩) (by simp only; omega) _)
    have hbl9 : Below W.heap.size W ((w3.setCell ⟨bi, 3, none⟩ (.int .i64 (loSum nd.kids))).setCell ⟨bi, 4, none⟩ (.int .i64 (hiSum nd.kids))) := ((hbi.trans (hb3.mono hsi)).setCell (show W.heap.size ≤ (⟨bi, 3, none⟩ : Addr).block by simp only; omega) _).setCell (show W.heap.size ≤ (⟨bi, 4, none⟩ : Addr).block by simp only; omega) _
    have HW9 := Lib.hid (HW0.out.on hbl9)
    have HF9 := Lib.hid (HF0.out.trans (FrW.of_below (n₀ := n₀) (wb := wb) hbl9))
    clear b6 f3 f4
    generalize (w3.setCell _ _).setCell _ _ = w9 at *
    have h7 := HBn9.out.c7
    have c0 := HBw9.out.cell 0
    simp at c0
    have b6 := HB9.out.c6_
    have HX : Hid (withinC (.i 7 2 0 (loSum nd.kids) (hiSum nd.kids)) (kidsC fo nd) = lookN fo nd) := Lib.hid (by unfold lookN; rw [← hmd.out]; rfl)
    have HWc := Lib.hid (within_code (w := w9) (M := M) (p1 := .pointer (some ⟨w.heap.size, 0, none⟩)) (p2 := .pointer (some ⟨w.heap.size + 1, 0, none⟩)) (.inr (.inr rfl)) 7 2 (loSum nd.kids) (hiSum nd.kids) (.inl rfl) (kidsC fo nd) HW9.out (by omega) (fun W' hW' hF' =>
      HClo.out W' _ _ (HE.out.low ((HF9.out.trans hF').old (by omega))) (HN.out.lowB ((HF9.out.trans hF').old (by omega))) _ hW' (by rw [List.length_append]; simp; omega) (hF'.blk HBw9.out (by decide) (by omega)) (hF'.blk HBn9.out (by decide) (by omega))))
    rw [HX.out] at HWc
    go_wp2_with fail
    refine HWc.out.mono ?_
    rintro e w1 ⟨rfl, hW1, hF1⟩
    have HW1 := Lib.hid hW1
    have HF1 := Lib.hid (HF9.out.trans hF1)
    clear hW1 hF1
    go_wp2
    exact ⟨rfl, .tuple #[], by simp [results, Tryz.results80, go_sem], rfl, HW1.out, HF1.out⟩
  · go_enter Tryz.func80, Tryz.ntmps80
    go_upto_region 1 with (fail)
    generalize (w.alloc _).alloc _ = W at *
    have hs1 := hb1.size
    have h7 := HBn.out.c7
    have c0 := HBw.out.cell 0
    simp at c0
    have HBi := Lib.hid (Blk.new W 51 #[.int .i64 7, .int .i64 3, .int .i64 0, .int .i64 0, .int .i64 0, .slice none 0 0])
    have hbi := (Below.refl W.heap.size W).alloc (Nat.le_refl _) (.cells #[.int .i64 7, .int .i64 3, .int .i64 0, .int .i64 0, .int .i64 0, .slice none 0 0] 51)
    have HWi := Lib.hid (HW0.out.on hbi)
    have HFi := Lib.hid (HF0.out.trans (FrW.of_below (n₀ := n₀) (wb := wb) hbi))
    have HBn2 := Lib.hid (HBn.out.on hbi)
    have HBw2 := Lib.hid (HBw.out.on hbi)
    go_upto_region 2 with (fail)
    have hsi := hbi.size
    obtain ⟨bi, hbie⟩ : ∃ bi, bi = W.heap.size := ⟨_, rfl⟩
    have hbil : w.heap.size ≤ bi ∧ wb < bi ∧ w.heap.size + 1 < bi := by rw [hbie]; have := HBn.out.lt; omega
    have hbiW : W.heap.size ≤ bi := by omega
    rw [← hbie] at HBi ⊢
    clear hbie h7 c0
    generalize W.alloc _ = W2 at *
    have h7 := HBn2.out.c7
    have c0 := HBw2.out.cell 0
    simp at c0
    have b6 := HBi.out.c6_
    have f3 := HBi.out.frozen 3
    have f4 := HBi.out.frozen 4
    have HWd := Lib.hid (width_cat nd.kids hkw hm W2 A2 p2 b off ((HK.out.low (HFi.out.old (by omega))).up (by have := HFi.out.size; omega)))
    go_wp2_with fail
    refine HWd.out.mono ?_
    rintro e w3 ⟨rfl, hb3⟩
    have HW3 := Lib.hid (HWi.out.on hb3)
    have HF3 := Lib.hid (HFi.out.trans (FrW.of_below (n₀ := n₀) (wb := wb) hb3))
    have HBi3 := Lib.hid (HBi.out.on hb3)
    have HBn3 := Lib.hid (HBn2.out.on hb3)
    have HBw3 := Lib.hid (HBw2.out.on hb3)
    have hs3 := hb3.size
    clear h7 c0 b6 f3 f4
    have f3 := HBi3.out.frozen 3
    have f4 := HBi3.out.frozen 4
    have b6 := HBi3.out.c6_
    go_upto_region 4 with (fail)
    have HB9 : Hid (Blk ((w3.setCell ⟨bi, 3, none⟩ (.int .i64 (loSum nd.kids))).setCell ⟨bi, 4, none⟩ (.int .i64 (hiSum nd.kids))) bi 51 #[.int .i64 7, .int .i64 3, .int .i64 0, .int .i64 (loSum nd.kids), .int .i64 (hiSum nd.kids), .slice none 0 0]) := Lib.hid ((HBi3.out.set_ 3 (.int .i64 (loSum nd.kids))).set_ 4 (.int .i64 (hiSum nd.kids)))
    have HBn9 : Hid (Blk ((w3.setCell ⟨bi, 3, none⟩ (.int .i64 (loSum nd.kids))).setCell ⟨bi, 4, none⟩ (.int .i64 (hiSum nd.kids))) (w.heap.size + 1) 27 #[.int .i64 nd.kind, .int .i64 nd.lo, .int .i64 nd.hi, .int .i64 3, .int .i64 nd.ref, .slice A1 nd.set.length p1, .slice A2 nd.kids.length p2]) := Lib.hid ((HBn3.out.far (p := ⟨bi, 3, none⟩) (by simp only; omega) _).far (p := ⟨bi, 4, none⟩) (by simp only; omega) _)
    have HBw9 : Hid (Blk ((w3.setCell ⟨bi, 3, none⟩ (.int .i64 (loSum nd.kids))).setCell ⟨bi, 4, none⟩ (.int .i64 (hiSum nd.kids))) w.heap.size 111 #[.pointer (some ⟨wb, 0, none⟩)]) := Lib.hid ((HBw3.out.far (p := ⟨bi, 3, none⟩) (by simp only; omega) _).far (p := ⟨bi, 4, none⟩) (by simp only; omega) _)
    have hbl9 : Below W.heap.size W ((w3.setCell ⟨bi, 3, none⟩ (.int .i64 (loSum nd.kids))).setCell ⟨bi, 4, none⟩ (.int .i64 (hiSum nd.kids))) := ((hbi.trans (hb3.mono hsi)).setCell (show W.heap.size ≤ (⟨bi, 3, none⟩ : Addr).block by simp only; omega) _).setCell (show W.heap.size ≤ (⟨bi, 4, none⟩ : Addr).block by simp only; omega) _
    have HW9 := Lib.hid (HW0.out.on hbl9)
    have HF9 := Lib.hid (HF0.out.trans (FrW.of_below (n₀ := n₀) (wb := wb) hbl9))
    clear b6 f3 f4
    generalize (w3.setCell _ _).setCell _ _ = w9 at *
    have h7 := HBn9.out.c7
    have c0 := HBw9.out.cell 0
    simp at c0
    have b6 := HB9.out.c6_
    have HX : Hid (withinC (.i 7 3 0 (loSum nd.kids) (hiSum nd.kids)) (kidsC fo nd) = lookN fo nd) := Lib.hid (by unfold lookN; rw [← hmd.out]; rfl)
    have HWc := Lib.hid (within_code (w := w9) (M := M) (p1 := .pointer (some ⟨w.heap.size, 0, none⟩)) (p2 := .pointer (some ⟨w.heap.size + 1, 0, none⟩)) (.inr (.inr rfl)) 7 3 (loSum nd.kids) (hiSum nd.kids) (.inl rfl) (kidsC fo nd) HW9.out (by omega) (fun W' hW' hF' =>
      HClo.out W' _ _ (HE.out.low ((HF9.out.trans hF').old (by omega))) (HN.out.lowB ((HF9.out.trans hF').old (by omega))) _ hW' (by rw [List.length_append]; simp; omega) (hF'.blk HBw9.out (by decide) (by omega)) (hF'.blk HBn9.out (by decide) (by omega))))
    rw [HX.out] at HWc
    go_wp2_with fail
    refine HWc.out.mono ?_
    rintro e w1 ⟨rfl, hW1, hF1⟩
    have HW1 := Lib.hid hW1
    have HF1 := Lib.hid (HF9.out.trans hF1)
    clear hW1 hF1
    go_wp2
    exact ⟨rfl, .tuple #[], by simp [results, Tryz.results80, go_sem], rfl, HW1.out, HF1.out⟩

end Go.Proofs.YtkoflhohokdllaaGreatDoor
