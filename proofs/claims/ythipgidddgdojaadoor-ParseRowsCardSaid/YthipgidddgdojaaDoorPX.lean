/- SameNode, of any two nodes that read alike. -/
import Derived.Test.YthipgidddgdojaaDoorPW
import Derived.Test.YthipgidddgdojaaDoorClSame
namespace Go.Proofs.YthipgidddgdojaaDoor
open Go.RowKit
open Go.Proofs.YthipgidddgdojaaDoor.Cl (Rg SetV SetAt rgCells same_any sameB sameB_refl)
variable {w w' : World}

theorem NodeV.parts {K : Nat → Prop} {nd : Nd} {sv kv : Value} (h : NodeV K w nd sv kv) : ∃ A cap b off, kv = .slice A nd.kids.length cap ∧ nd.kids.length ≤ cap ∧ nd.kids.length ≤ 1000000 ∧ nd.set.length ≤ 1000000 ∧ SetK K w sv nd.set ∧
    ∀ i x, nd.kids[i]? = some x → A = some ⟨b, off, none⟩ ∧ K b ∧ ∃ A1 A2 p1 p2, NodeV K w x (.slice A1 x.set.length p1) (.slice A2 x.kids.length p2) ∧ NCells w b (off + i * 7) x (.slice A1 x.set.length p1) (.slice A2 x.kids.length p2) := by
  cases h with
  | @mk _ _ _ _ _ set kids _ A cap b off F G hs hl hm hA hk hc =>
    refine ⟨A, cap, b, off, rfl, hl, hm.1, hm.2, hs, fun i x hx => ?_⟩
    have hne : kids ≠ [] := by rintro rfl; simp [Nd.kids] at hx
    obtain ⟨A1, A2, p1, p2, e1, e2⟩ := (hk i x hx).lens
    refine ⟨(hA hne).1, (hA hne).2, A1, A2, p1, p2, ?_, ?_⟩
    · have := hk i x hx
      rwa [e1, e2] at this
    · have := hc i x hx
      rwa [e1, e2] at this
theorem NCells.seven_ {b o : Nat} {x : Nd} {sv kv : Value} (h : NCells w b o x sv kv) : w.cell? ⟨b, o, none⟩ = some (.int .i64 x.kind) ∧ w.cell? ⟨b, o + 1, none⟩ = some (.int .i64 x.lo) ∧ w.cell? ⟨b, o + 2, none⟩ = some (.int .i64 x.hi) ∧ w.cell? ⟨b, o + 3, none⟩ = some (.int .i64 x.mode) ∧
    w.cell? ⟨b, o + 4, none⟩ = some (.int .i64 x.ref) ∧ w.cell? ⟨b, o + 5, none⟩ = some sv ∧ w.cell? ⟨b, o + 6, none⟩ = some kv :=
  ⟨h 0 _ rfl, h 1 _ rfl, h 2 _ rfl, h 3 _ rfl, h 4 _ rfl, h 5 _ rfl, h 6 _ rfl⟩
theorem NCells.on {b o : Nat} {x : Nd} {sv kv : Value} (h : NCells w b o x sv kv) (hk : w'.heap[b]? = w.heap[b]?) : NCells w' b o x sv kv := fun j u hu => (cell_same hk _).trans (h j u hu)
theorem nd_size {nd x : Nd} {i : Nat} (h : nd.kids[i]? = some x) : SizeOf.sizeOf x < SizeOf.sizeOf nd := by
  cases nd with
  | mk a b c d e f g =>
    have := List.sizeOf_lt_of_mem (List.mem_of_getElem? h)
    simp only [Nd.kids] at this
    simp only [Nd.mk.sizeOf_spec]
    omega

def SameC (n : Nat) : Prop := ∀ (nd : Nd), SizeOf.sizeOf nd ≤ n → ∀ (w : World) (A1 A2 B1 B2 : Option Addr) (p1 p2 q1 q2 : Nat), NodeV (fun b => b < w.heap.size) w nd (.slice A1 nd.set.length p1) (.slice A2 nd.kids.length p2) → NodeV (fun b => b < w.heap.size) w nd (.slice B1 nd.set.length q1) (.slice B2 nd.kids.length q2) →
  Calls Tryd.prog 11 #[.agg #[.int .i64 nd.kind, .int .i64 nd.lo, .int .i64 nd.hi, .int .i64 nd.mode, .int .i64 nd.ref, .slice A1 nd.set.length p1, .slice A2 nd.kids.length p2], .agg #[.int .i64 nd.kind, .int .i64 nd.lo, .int .i64 nd.hi, .int .i64 nd.mode, .int .i64 nd.ref, .slice B1 nd.set.length q1, .slice B2 nd.kids.length q2]] w
    fun e w' => e = .returned (.bool true) ∧ Below w.heap.size w w'

set_option maxRecDepth 100000 in
set_option maxHeartbeats 2000000 in
theorem same_step (n : Nat) (ih : SameC n) : SameC (n + 1) := by
  intro nd hsz w A1 A2 B1 B2 p1 p2 q1 q2 h h'
  obtain ⟨_, _, b, off, he, hl, hm, hm2, hs, hk⟩ := h.parts
  obtain ⟨rfl, _, rfl⟩ := Value.slice.inj he
  obtain ⟨_, _, b', off', he', hl', _, _, hs', hk'⟩ := h'.parts
  obtain ⟨rfl, _, rfl⟩ := Value.slice.inj he'
  have HKs := Lib.hid (fun i x hx => nd_size (nd := nd) (x := x) (i := i) hx)
  obtain ⟨w0, hw0⟩ : ∃ w0, w0 = (w.alloc (.cells #[.int .i64 nd.kind, .int .i64 nd.lo, .int .i64 nd.hi, .int .i64 nd.mode, .int .i64 nd.ref, .slice A1 nd.set.length p1, .slice A2 nd.kids.length p2] 27)).alloc (.cells #[.int .i64 nd.kind, .int .i64 nd.lo, .int .i64 nd.hi, .int .i64 nd.mode, .int .i64 nd.ref, .slice B1 nd.set.length q1, .slice B2 nd.kids.length q2] 27) := ⟨_, rfl⟩
  have hb0 : Below w.heap.size w w0 := by rw [hw0]; exact ((Below.refl _ _).alloc (Nat.le_refl _) _).alloc (by simp) _
  have HA0 : Hid (Blk w0 w.heap.size 27 _) := Lib.hid (by rw [hw0]; exact (Blk.new w 27 #[.int .i64 nd.kind, .int .i64 nd.lo, .int .i64 nd.hi, .int .i64 nd.mode, .int .i64 nd.ref, .slice A1 nd.set.length p1, .slice A2 nd.kids.length p2]).alloc _)
  have HB0 : Hid (Blk w0 (w.heap.size + 1) 27 _) := Lib.hid (by rw [hw0]; exact Blk.new_at _ _ (by simp) 27 #[.int .i64 nd.kind, .int .i64 nd.lo, .int .i64 nd.hi, .int .i64 nd.mode, .int .i64 nd.ref, .slice B1 nd.set.length q1, .slice B2 nd.kids.length q2])
  have hsw := hb0.size
  have HS := Lib.hid (same_any (.slice A1 nd.set.length p1) (.slice B1 nd.set.length q1) nd.set nd.set w0 hm2 hm2 (SetK.to_setV (hs.keep fun b hb => ⟨by omega, hb0.block b hb⟩)) (SetK.to_setV (hs'.keep fun b hb => ⟨by omega, hb0.block b hb⟩)))
  have HK := Lib.hid hk
  have HK' := Lib.hid hk'
  have HSZ := Lib.hid hsz
  have HIH := Lib.hid ih
  clear hk hk' hs hs' h h' hsz ih he he'
  obtain ⟨m, hmd⟩ : ∃ m, m = nd.kids.length := ⟨_, rfl⟩
  go_enter Tryd.func11, Tryd.ntmps11
  go_upto_region 1 with (fail)
  rw [← hw0]
  have hA7 := HA0.out.seven
  have hB7 := HB0.out.seven
  clear hw0
  go_wp2_with fail
  refine HS.out.mono ?_
  rintro e w1 ⟨rfl, hb1⟩
  have HA1 := Lib.hid (HA0.out.on hb1)
  have HB1 := Lib.hid (HB0.out.on hb1)
  have hA7 := HA1.out.seven
  have hB7 := HB1.out.seven
  rw [sameB_refl]
  have hbw := hb0.trans (hb1.mono hsw)
  have hsw1 := hbw.size
  clear HA0 HB0 HS
  go_upto_region 4 with (fail)
  go_loopw [60] (fun i wr => ∃ k : Nat, k ≤ nd.kids.length ∧ i = .int .i64 k ∧ Below w1.heap.size w1 wr) (fun i _ => nd.kids.length - (intOf i).toNat)
  case atStart => exact ⟨0, Nat.zero_le _, rfl, Below.refl _ _⟩
  case round =>
    obtain ⟨k, hk, rfl, hbel⟩ := hrel
    have hsz := hbel.size
    have hbr : Below w.heap.size w wr := hbw.trans (hbel.mono hsw1)
    by_cases hlt : k < nd.kids.length
    · have hlti : (k : Int) < nd.kids.length := by omega
      obtain ⟨hA2, hbb, a1, a2, r1, r2, hN, hC⟩ := HK.out k _ (List.getElem?_eq_getElem hlt)
      obtain ⟨hB2, hbb', b1, b2, s1, s2, hN', hC'⟩ := HK'.out k _ (List.getElem?_eq_getElem hlt)
      subst hA2 hB2
      obtain ⟨x, hx⟩ : ∃ x, x = nd.kids[k] := ⟨_, rfl⟩
      rw [← hx] at hN hC hN' hC'
      have hsx : SizeOf.sizeOf x ≤ n := by
        have h1 := HKs.out k x (by rw [hx]; exact List.getElem?_eq_getElem hlt)
        have h2 := HSZ.out
        omega
      clear hx HK HK'
      have HN := Lib.hid hN
      have HN' := Lib.hid hN'
      have HSX := Lib.hid hsx
      have HC' := Lib.hid (hC'.on (hbr.block b' hbb'))
      have HBr := Lib.hid (HB1.out.on hbel)
      have h7 := (hC.on (hbr.block b hbb)).seven_
      have HX := Lib.hid (Blk.new wr 27 #[.int .i64 x.kind, .int .i64 x.lo, .int .i64 x.hi, .int .i64 x.mode, .int .i64 x.ref, .slice a1 x.set.length r1, .slice a2 x.kids.length r2])
      have hbwr : b' < wr.heap.size := by have := hbr.size; omega
      have hb6 := (hbel.alloc hsz (.cells #[.int .i64 x.kind, .int .i64 x.lo, .int .i64 x.hi, .int .i64 x.mode, .int .i64 x.ref, .slice a1 x.set.length r1, .slice a2 x.kids.length r2] 27)).drew
      have hSS : Blk (wr.alloc (.cells #[.int .i64 x.kind, .int .i64 x.lo, .int .i64 x.hi, .int .i64 x.mode, .int .i64 x.ref, .slice a1 x.set.length r1, .slice a2 x.kids.length r2] 27)) wr.heap.size 27 #[.int .i64 x.kind, .int .i64 x.lo, .int .i64 x.hi, .int .i64 x.mode, .int .i64 x.ref, .slice a1 x.set.length r1, .slice a2 x.kids.length r2] ∧ Blk (wr.alloc (.cells #[.int .i64 x.kind, .int .i64 x.lo, .int .i64 x.hi, .int .i64 x.mode, .int .i64 x.ref, .slice a1 x.set.length r1, .slice a2 x.kids.length r2] 27)) (w.heap.size + 1) 27 #[.int .i64 nd.kind, .int .i64 nd.lo, .int .i64 nd.hi, .int .i64 nd.mode, .int .i64 nd.ref, .slice B1 nd.set.length q1, .slice (some ⟨b', off', none⟩) nd.kids.length q2] ∧ NCells (wr.alloc (.cells #[.int .i64 x.kind, .int .i64 x.lo, .int .i64 x.hi, .int .i64 x.mode, .int .i64 x.ref, .slice a1 x.set.length r1, .slice a2 x.kids.length r2] 27)) b' (off' + k * 7) x (.slice b1 x.set.length s1) (.slice b2 x.kids.length s2) := ⟨HX.out, HBr.out.alloc _, HC'.out.on (Below.heap_alloc _ _ _ hbwr)⟩
      have HSS := Lib.hid hSS
      clear hC hC' hN hN' hSS hsx
      go_upto_region 6 with (fail)
      refine wp_region_held_drew (S := fun W => Blk W wr.heap.size 27 #[.int .i64 x.kind, .int .i64 x.lo, .int .i64 x.hi, .int .i64 x.mode, .int .i64 x.ref, .slice a1 x.set.length r1, .slice a2 x.kids.length r2] ∧ Blk W (w.heap.size + 1) 27 #[.int .i64 nd.kind, .int .i64 nd.lo, .int .i64 nd.hi, .int .i64 nd.mode, .int .i64 nd.ref, .slice B1 nd.set.length q1, .slice (some ⟨b', off', none⟩) nd.kids.length q2] ∧ NCells W b' (off' + k * 7) x (.slice b1 x.set.length s1) (.slice b2 x.kids.length s2)) (by kernel_rfl) HSS.out (fun hHeld => ?_)
      clear HSS HX HC' HBr
      generalize (wr.alloc (.cells #[.int .i64 x.kind, .int .i64 x.lo, .int .i64 x.hi, .int .i64 x.mode, .int .i64 x.ref, .slice a1 x.set.length r1, .slice a2 x.kids.length r2] 27)).drew = W6 at *
      have hb6w : Below w.heap.size w W6 := hbw.trans (hb6.mono hsw1)
      refine take_d 0 65 (.agg #[.int .i64 x.kind, .int .i64 x.lo, .int .i64 x.hi, .int .i64 x.mode, .int .i64 x.ref, .slice a1 x.set.length r1, .slice a2 x.kids.length r2]) _ rfl rfl (by kernel_rfl) (by kernel_rfl) (by kernel_rfl) (fun _ _ _ h => h) (Or.inl ⟨by rfl, fun w' hSw => ?_⟩) hHeld ?_
      · have hS7 := hSw.1.seven
        clear hSw
        go_simp
      simp only [List.setIfInBounds_toArray, List.set_cons_zero, List.set_cons_succ]
      refine take_d 1 66 (.pointer (some ⟨w.heap.size + 1, 6, none⟩)) _ rfl rfl (by kernel_rfl) (by kernel_rfl) (by kernel_rfl) (fun _ _ _ h => h) (Or.inl ⟨by rfl, fun w' hSw => ?_⟩) hHeld ?_
      · go_simp
      simp only [List.setIfInBounds_toArray, List.set_cons_zero, List.set_cons_succ]
      refine take_d 2 67 (.slice (some ⟨b', off', none⟩) nd.kids.length q2) _ rfl rfl (by kernel_rfl) (by kernel_rfl) (by kernel_rfl) (fun _ _ _ h => h) (Or.inl ⟨by rfl, fun w' hSw => ?_⟩) hHeld ?_
      · have hS7 := hSw.2.1.seven
        clear hSw
        go_simp
      simp only [List.setIfInBounds_toArray, List.set_cons_zero, List.set_cons_succ]
      refine take_d 3 68 (.int .i64 k) _ rfl rfl (by kernel_rfl) (by kernel_rfl) (by kernel_rfl) (fun _ _ _ h => h) (Or.inl ⟨by rfl, fun w' hSw => ?_⟩) hHeld ?_
      · go_simp
      simp only [List.setIfInBounds_toArray, List.set_cons_zero, List.set_cons_succ]
      refine take_d 4 69 (.pointer (some ⟨b', off' + k * 7, none⟩)) _ rfl rfl (by kernel_rfl) (by kernel_rfl) (by kernel_rfl) (fun _ _ _ h => h) (Or.inl ⟨by rfl, fun w' hSw => ?_⟩) hHeld ?_
      · go_simp
      simp only [List.setIfInBounds_toArray, List.set_cons_zero, List.set_cons_succ]
      refine take_d 5 70 (.agg #[.int .i64 x.kind, .int .i64 x.lo, .int .i64 x.hi, .int .i64 x.mode, .int .i64 x.ref, .slice b1 x.set.length s1, .slice b2 x.kids.length s2]) _ rfl rfl (by kernel_rfl) (by kernel_rfl) (by kernel_rfl) (fun _ _ _ h => h) (Or.inl ⟨by rfl, fun w' hSw => ?_⟩) hHeld ?_
      · have hS7 := hSw.2.2.seven_
        clear hSw
        go_simp
      simp only [List.setIfInBounds_toArray, List.set_cons_zero, List.set_cons_succ]
      refine wpAnyH_ready (rs := [6]) (by kernel_rfl) (by simp) ?_
      refine AllReadyH.cons rfl (fun K hK => ?_) AllReadyH.nil
      go_simp
      refine (HIH.out x HSX.out W6 a1 a2 b1 b2 r1 r2 s1 s2 (HN.out.keep fun i hi => ⟨by have := hb6w.size; omega, hb6w.block i hi⟩) (HN'.out.keep fun i hi => ⟨by have := hb6w.size; omega, hb6w.block i hi⟩)).mono ?_
      rintro e w7 ⟨rfl, hb7⟩
      refine hK.out _ _ ⟨hHeld.1.on hb7, hHeld.2.1.on hb7, hHeld.2.2.on (hb7.block b' (by have := hb6w.size; omega))⟩ (fun hHeld => ?_)
      clear hK K
      have hb7' := hb6.trans (hb7.mono hb6.size)
      refine take_d 7 72 (.bool false) _ rfl rfl (by kernel_rfl) (by kernel_rfl) (by kernel_rfl) (fun _ _ _ h => h) (Or.inl ⟨by rfl, fun w' hSw => ?_⟩) hHeld ?_
      · go_simp
      simp only [List.setIfInBounds_toArray, List.set_cons_zero, List.set_cons_succ]
      refine wpAnyH_done (by kernel_rfl) ?_ _
      clear hHeld
      go_wp2
      go_roundw
      case rel => exact ⟨k + 1, by omega, by go_num, hb7'⟩
      case measure => simp [intOf]; omega
    · obtain rfl : k = nd.kids.length := by omega
      go_wp2
      go_ret
      exact ⟨rfl, hbr⟩
theorem same_all (n : Nat) : SameC n := by
  induction n with
  | zero =>
    intro nd h
    cases nd with
    | mk a b c d e f g => simp only [Nd.mk.sizeOf_spec] at h; omega
  | succ n ih => exact same_step n ih
theorem same_nodes (nd : Nd) (w : World) (A1 A2 B1 B2 : Option Addr) (p1 p2 q1 q2 : Nat) (h : NodeV (fun b => b < w.heap.size) w nd (.slice A1 nd.set.length p1) (.slice A2 nd.kids.length p2)) (h' : NodeV (fun b => b < w.heap.size) w nd (.slice B1 nd.set.length q1) (.slice B2 nd.kids.length q2)) :
    Calls Tryd.prog 11 #[.agg #[.int .i64 nd.kind, .int .i64 nd.lo, .int .i64 nd.hi, .int .i64 nd.mode, .int .i64 nd.ref, .slice A1 nd.set.length p1, .slice A2 nd.kids.length p2], .agg #[.int .i64 nd.kind, .int .i64 nd.lo, .int .i64 nd.hi, .int .i64 nd.mode, .int .i64 nd.ref, .slice B1 nd.set.length q1, .slice B2 nd.kids.length q2]] w
      fun e w' => e = .returned (.bool true) ∧ Below w.heap.size w w' := same_all _ nd (Nat.le_refl _) w A1 A2 B1 B2 p1 p2 q1 q2 h h'

end Go.Proofs.YthipgidddgdojaaDoor
