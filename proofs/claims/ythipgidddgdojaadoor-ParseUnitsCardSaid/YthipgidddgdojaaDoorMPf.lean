/- Joined: PX, PY, PBt, PWr, PUw. -/
import Derived.Test.YthipgidddgdojaaDoorMPe
import Derived.Test.YthipgidddgdojaaDoorMClasses
import Derived.Test.YthipgidddgdojaaDoorMPa
import Derived.Test.YthipgidddgdojaaDoorMModel
import Derived.Test.YthipgidddgdojaaDoorMUnit
import Derived.Laws.BytesArg
import Derived.Laws.IdiomStrings
import Derived.Maps.OwnSet
import Derived.Deep.RegionHeld
/- SameNode, of any two nodes that read alike. -/
namespace Go.Proofs.YthipgidddgdojaaDoor
open Go.RowKit
open Go.Proofs.YthipgidddgdojaaDoor.Cl (Rg SetV SetAt rgCells same_any sameB sameB_refl)
variable {w w' : World}

theorem NodeV.parts {K : Nat → Prop} {nd : Nd} {sv kv : Value} (h : NodeV K w nd sv kv) : ∃ A cap b off, kv = .slice A nd.kids.length cap ∧ nd.kids.length ≤ cap ∧ nd.kids.length ≤ 1000000 ∧ nd.set.length ≤ 1000000 ∧ SetK K w sv nd.set ∧
    ∀ i x, nd.kids[i]? = some x → A = some ⟨b, off, none⟩ ∧ K b ∧ ∃ A1 A2 p1 p2, NodeV K w x (.slice A1 x.set.length p1) (.slice A2 x.kids.length p2) ∧ NCells w b (off + i * 7) x (.slice A1 x.set.length p1) (.slice A2 x.kids.length p2) := by
  cases h with
  | @mk _ _ _ _ _ set kids _ A cap b off F G hs hl hm hA hk hc =>
    refine ⟨A, cap, b, off, rfl, hl, hm.1, hm.2, hs, fun i x hx => ?_⟩
    have hne : kids ≠ [] := by rintro rfl; simp [Nd.kids] at hx
    obtain ⟨A1, A2, p1, p2, e1, e2⟩ := (hk i x hx).lens
    refine ⟨(hA hne).1, (hA hne).2, A1, A2, p1, p2, ?_, ?_⟩
    · have := hk i x hx
      rwa [e1, e2] at this
    · have := hc i x hx
      rwa [e1, e2] at this
theorem NCells.seven_ {b o : Nat} {x : Nd} {sv kv : Value} (h : NCells w b o x sv kv) : w.cell? ⟨b, o, none⟩ = some (.int .i64 x.kind) ∧ w.cell? ⟨b, o + 1, none⟩ = some (.int .i64 x.lo) ∧ w.cell? ⟨b, o + 2, none⟩ = some (.int .i64 x.hi) ∧ w.cell? ⟨b, o + 3, none⟩ = some (.int .i64 x.mode) ∧
    w.cell? ⟨b, o + 4, none⟩ = some (.int .i64 x.ref) ∧ w.cell? ⟨b, o + 5, none⟩ = some sv ∧ w.cell? ⟨b, o + 6, none⟩ = some kv :=
  ⟨h 0 _ rfl, h 1 _ rfl, h 2 _ rfl, h 3 _ rfl, h 4 _ rfl, h 5 _ rfl, h 6 _ rfl⟩
theorem NCells.on {b o : Nat} {x : Nd} {sv kv : Value} (h : NCells w b o x sv kv) (hk : w'.heap[b]? = w.heap[b]?) : NCells w' b o x sv kv := fun j u hu => (cell_same hk _).trans (h j u hu)
theorem nd_size {nd x : Nd} {i : Nat} (h : nd.kids[i]? = some x) : SizeOf.sizeOf x < SizeOf.sizeOf nd := by
  cases nd with
  | mk a b c d e f g =>
    have := List.sizeOf_lt_of_mem (List.mem_of_getElem? h)
    simp only [Nd.kids] at this
    simp only [Nd.mk.sizeOf_spec]
    omega

def SameC (n : Nat) : Prop := ∀ (nd : Nd), SizeOf.sizeOf nd ≤ n → ∀ (w : World) (A1 A2 B1 B2 : Option Addr) (p1 p2 q1 q2 : Nat), NodeV (fun b => b < w.heap.size) w nd (.slice A1 nd.set.length p1) (.slice A2 nd.kids.length p2) → NodeV (fun b => b < w.heap.size) w nd (.slice B1 nd.set.length q1) (.slice B2 nd.kids.length q2) →
  Calls Tryd.prog 11 #[.agg #[.int .i64 nd.kind, .int .i64 nd.lo, .int .i64 nd.hi, .int .i64 nd.mode, .int .i64 nd.ref, .slice A1 nd.set.length p1, .slice A2 nd.kids.length p2], .agg #[.int .i64 nd.kind, .int .i64 nd.lo, .int .i64 nd.hi, .int .i64 nd.mode, .int .i64 nd.ref, .slice B1 nd.set.length q1, .slice B2 nd.kids.length q2]] w
    fun e w' => e = .returned (.bool true) ∧ Below w.heap.size w w'

set_option maxRecDepth 100000 in
set_option maxHeartbeats 2000000 in
theorem same_step (n : Nat) (ih : SameC n) : SameC (n + 1) := by
  intro nd hsz w A1 A2 B1 B2 p1 p2 q1 q2 h h'
  obtain ⟨_, _, b, off, he, hl, hm, hm2, hs, hk⟩ := h.parts
  obtain ⟨rfl, _, rfl⟩ := Value.slice.inj he
  obtain ⟨_, _, b', off', he', hl', _, _, hs', hk'⟩ := h'.parts
  obtain ⟨rfl, _, rfl⟩ := Value.slice.inj he'
  have HKs := Lib.hid (fun i x hx => nd_size (nd := nd) (x := x) (i := i) hx)
  obtain ⟨w0, hw0⟩ : ∃ w0, w0 = (w.alloc (.cells #[.int .i64 nd.kind, .int .i64 nd.lo, .int .i64 nd.hi, .int .i64 nd.mode, .int .i64 nd.ref, .slice A1 nd.set.length p1, .slice A2 nd.kids.length p2] 27)).alloc (.cells #[.int .i64 nd.kind, .int .i64 nd.lo, .int .i64 nd.hi, .int .i64 nd.mode, .int .i64 nd.ref, .slice B1 nd.set.length q1, .slice B2 nd.kids.length q2] 27) := ⟨_, rfl⟩
  have hb0 : Below w.heap.size w w0 := by rw [hw0]; exact ((Below.refl _ _).alloc (Nat.le_refl _) _).alloc (by simp) _
  have HA0 : Hid (Blk w0 w.heap.size 27 _) := Lib.hid (by rw [hw0]; exact (Blk.new w 27 #[.int .i64 nd.kind, .int .i64 nd.lo, .int .i64 nd.hi, .int .i64 nd.mode, .int .i64 nd.ref, .slice A1 nd.set.length p1, .slice A2 nd.kids.length p2]).alloc _)
  have HB0 : Hid (Blk w0 (w.heap.size + 1) 27 _) := Lib.hid (by rw [hw0]; exact Blk.new_at _ _ (by simp) 27 #[.int .i64 nd.kind, .int .i64 nd.lo, .int .i64 nd.hi, .int .i64 nd.mode, .int .i64 nd.ref, .slice B1 nd.set.length q1, .slice B2 nd.kids.length q2])
  have hsw := hb0.size
  have HS := Lib.hid (same_any (.slice A1 nd.set.length p1) (.slice B1 nd.set.length q1) nd.set nd.set w0 hm2 hm2 (SetK.to_setV (hs.keep fun b hb => ⟨by omega, hb0.block b hb⟩)) (SetK.to_setV (hs'.keep fun b hb => ⟨by omega, hb0.block b hb⟩)))
  have HK := Lib.hid hk
  have HK' := Lib.hid hk'
  have HSZ := Lib.hid hsz
  have HIH := Lib.hid ih
  clear hk hk' hs hs' h h' hsz ih he he'
  obtain ⟨m, hmd⟩ : ∃ m, m = nd.kids.length := ⟨_, rfl⟩
  go_enter Tryd.func11, Tryd.ntmps11
  go_upto_region 1 with (fail)
  rw [← hw0]
  have hA7 := HA0.out.seven
  have hB7 := HB0.out.seven
  clear hw0
  go_wp2_with fail
  refine HS.out.mono ?_
  rintro e w1 ⟨rfl, hb1⟩
  have HA1 := Lib.hid (HA0.out.on hb1)
  have HB1 := Lib.hid (HB0.out.on hb1)
  have hA7 := HA1.out.seven
  have hB7 := HB1.out.seven
  rw [sameB_refl]
  have hbw := hb0.trans (hb1.mono hsw)
  have hsw1 := hbw.size
  clear HA0 HB0 HS
  go_upto_region 4 with (fail)
  go_loopw [60] (fun i wr => ∃ k : Nat, k ≤ nd.kids.length ∧ i = .int .i64 k ∧ Below w1.heap.size w1 wr) (fun i _ => nd.kids.length - (intOf i).toNat)
  case atStart => exact ⟨0, Nat.zero_le _, rfl, Below.refl _ _⟩
  case round =>
    obtain ⟨k, hk, rfl, hbel⟩ := hrel
    have hsz := hbel.size
    have hbr : Below w.heap.size w wr := hbw.trans (hbel.mono hsw1)
    by_cases hlt : k < nd.kids.length
    · have hlti : (k : Int) < nd.kids.length := by omega
      obtain ⟨hA2, hbb, a1, a2, r1, r2, hN, hC⟩ := HK.out k _ (List.getElem?_eq_getElem hlt)
      obtain ⟨hB2, hbb', b1, b2, s1, s2, hN', hC'⟩ := HK'.out k _ (List.getElem?_eq_getElem hlt)
      subst hA2 hB2
      obtain ⟨x, hx⟩ : ∃ x, x = nd.kids[k] := ⟨_, rfl⟩
      rw [← hx] at hN hC hN' hC'
      have hsx : SizeOf.sizeOf x ≤ n := by
        have h1 := HKs.out k x (by rw [hx]; exact List.getElem?_eq_getElem hlt)
        have h2 := HSZ.out
        omega
      clear hx HK HK'
      have HN := Lib.hid hN
      have HN' := Lib.hid hN'
      have HSX := Lib.hid hsx
      have HC' := Lib.hid (hC'.on (hbr.block b' hbb'))
      have HBr := Lib.hid (HB1.out.on hbel)
      have h7 := (hC.on (hbr.block b hbb)).seven_
      have HX := Lib.hid (Blk.new wr 27 #[.int .i64 x.kind, .int .i64 x.lo, .int .i64 x.hi, .int .i64 x.mode, .int .i64 x.ref, .slice a1 x.set.length r1, .slice a2 x.kids.length r2])
      have hbwr : b' < wr.heap.size := by have := hbr.size; omega
      have hb6 := (hbel.alloc hsz (.cells #[.int .i64 x.kind, .int .i64 x.lo, .int .i64 x.hi, .int .i64 x.mode, .int .i64 x.ref, .slice a1 x.set.length r1, .slice a2 x.kids.length r2] 27)).drew
      have hSS : Blk (wr.alloc (.cells #[.int .i64 x.kind, .int .i64 x.lo, .int .i64 x.hi, .int .i64 x.mode, .int .i64 x.ref, .slice a1 x.set.length r1, .slice a2 x.kids.length r2] 27)) wr.heap.size 27 #[.int .i64 x.kind, .int .i64 x.lo, .int .i64 x.hi, .int .i64 x.mode, .int .i64 x.ref, .slice a1 x.set.length r1, .slice a2 x.kids.length r2] ∧ Blk (wr.alloc (.cells #[.int .i64 x.kind, .int .i64 x.lo, .int .i64 x.hi, .int .i64 x.mode, .int .i64 x.ref, .slice a1 x.set.length r1, .slice a2 x.kids.length r2] 27)) (w.heap.size + 1) 27 #[.int .i64 nd.kind, .int .i64 nd.lo, .int .i64 nd.hi, .int .i64 nd.mode, .int .i64 nd.ref, .slice B1 nd.set.length q1, .slice (some ⟨b', off', none⟩) nd.kids.length q2] ∧ NCells (wr.alloc (.cells #[.int .i64 x.kind, .int .i64 x.lo, .int .i64 x.hi, .int .i64 x.mode, .int .i64 x.ref, .slice a1 x.set.length r1, .slice a2 x.kids.length r2] 27)) b' (off' + k * 7) x (.slice b1 x.set.length s1) (.slice b2 x.kids.length s2) := ⟨HX.out, HBr.out.alloc _, HC'.out.on (Below.heap_alloc _ _ _ hbwr)⟩
      have HSS := Lib.hid hSS
      clear hC hC' hN hN' hSS hsx
      go_upto_region 6 with (fail)
      refine wp_region_held_drew (S := fun W => Blk W wr.heap.size 27 #[.int .i64 x.kind, .int .i64 x.lo, .int .i64 x.hi, .int .i64 x.mode, .int .i64 x.ref, .slice a1 x.set.length r1, .slice a2 x.kids.length r2] ∧ Blk W (w.heap.size + 1) 27 #[.int .i64 nd.kind, .int .i64 nd.lo, .int .i64 nd.hi, .int .i64 nd.mode, .int .i64 nd.ref, .slice B1 nd.set.length q1, .slice (some ⟨b', off', none⟩) nd.kids.length q2] ∧ NCells W b' (off' + k * 7) x (.slice b1 x.set.length s1) (.slice b2 x.kids.length s2)) (by kernel_rfl) HSS.out (fun hHeld => ?_)
      clear HSS HX HC' HBr
      generalize (wr.alloc (.cells #[.int .i64 x.kind, .int .i64 x.lo, .int .i64 x.hi, .int .i64 x.mode, .int .i64 x.ref, .slice a1 x.set.length r1, .slice a2 x.kids.length r2] 27)).drew = W6 at *
      have hb6w : Below w.heap.size w W6 := hbw.trans (hb6.mono hsw1)
      refine take_d 0 65 (.agg #[.int .i64 x.kind, .int .i64 x.lo, .int .i64 x.hi, .int .i64 x.mode, .int .i64 x.ref, .slice a1 x.set.length r1, .slice a2 x.kids.length r2]) _ rfl rfl (by kernel_rfl) (by kernel_rfl) (by kernel_rfl) (fun _ _ _ h => h) (Or.inl ⟨by rfl, fun w' hSw => ?_⟩) hHeld ?_
      · have hS7 := hSw.1.seven
        clear hSw
        go_simp
      simp only [List.setIfInBounds_toArray, List.set_cons_zero, List.set_cons_succ]
      refine take_d 1 66 (.pointer (some ⟨w.heap.size + 1, 6, none⟩)) _ rfl rfl (by kernel_rfl) (by kernel_rfl) (by kernel_rfl) (fun _ _ _ h => h) (Or.inl ⟨by rfl, fun w' hSw => ?_⟩) hHeld ?_
      · go_simp
      simp only [List.setIfInBounds_toArray, List.set_cons_zero, List.set_cons_succ]
      refine take_d 2 67 (.slice (some ⟨b', off', none⟩) nd.kids.length q2) _ rfl rfl (by kernel_rfl) (by kernel_rfl) (by kernel_rfl) (fun _ _ _ h => h) (Or.inl ⟨by rfl, fun w' hSw => ?_⟩) hHeld ?_
      · have hS7 := hSw.2.1.seven
        clear hSw
        go_simp
      simp only [List.setIfInBounds_toArray, List.set_cons_zero, List.set_cons_succ]
      refine take_d 3 68 (.int .i64 k) _ rfl rfl (by kernel_rfl) (by kernel_rfl) (by kernel_rfl) (fun _ _ _ h => h) (Or.inl ⟨by rfl, fun w' hSw => ?_⟩) hHeld ?_
      · go_simp
      simp only [List.setIfInBounds_toArray, List.set_cons_zero, List.set_cons_succ]
      refine take_d 4 69 (.pointer (some ⟨b', off' + k * 7, none⟩)) _ rfl rfl (by kernel_rfl) (by kernel_rfl) (by kernel_rfl) (fun _ _ _ h => h) (Or.inl ⟨by rfl, fun w' hSw => ?_⟩) hHeld ?_
      · go_simp
      simp only [List.setIfInBounds_toArray, List.set_cons_zero, List.set_cons_succ]
      refine take_d 5 70 (.agg #[.int .i64 x.kind, .int .i64 x.lo, .int .i64 x.hi, .int .i64 x.mode, .int .i64 x.ref, .slice b1 x.set.length s1, .slice b2 x.kids.length s2]) _ rfl rfl (by kernel_rfl) (by kernel_rfl) (by kernel_rfl) (fun _ _ _ h => h) (Or.inl ⟨by rfl, fun w' hSw => ?_⟩) hHeld ?_
      · have hS7 := hSw.2.2.seven_
        clear hSw
        go_simp
      simp only [List.setIfInBounds_toArray, List.set_cons_zero, List.set_cons_succ]
      refine wpAnyH_ready (rs := [6]) (by kernel_rfl) (by simp) ?_
      refine AllReadyH.cons rfl (fun K hK => ?_) AllReadyH.nil
      go_simp
      refine (HIH.out x HSX.out W6 a1 a2 b1 b2 r1 r2 s1 s2 (HN.out.keep fun i hi => ⟨by have := hb6w.size; omega, hb6w.block i hi⟩) (HN'.out.keep fun i hi => ⟨by have := hb6w.size; omega, hb6w.block i hi⟩)).mono ?_
      rintro e w7 ⟨rfl, hb7⟩
      refine hK.out _ _ ⟨hHeld.1.on hb7, hHeld.2.1.on hb7, hHeld.2.2.on (hb7.block b' (by have := hb6w.size; omega))⟩ (fun hHeld => ?_)
      clear hK K
      have hb7' := hb6.trans (hb7.mono hb6.size)
      refine take_d 7 72 (.bool false) _ rfl rfl (by kernel_rfl) (by kernel_rfl) (by kernel_rfl) (fun _ _ _ h => h) (Or.inl ⟨by rfl, fun w' hSw => ?_⟩) hHeld ?_
      · go_simp
      simp only [List.setIfInBounds_toArray, List.set_cons_zero, List.set_cons_succ]
      refine wpAnyH_done (by kernel_rfl) ?_ _
      clear hHeld
      go_wp2
      go_roundw
      case rel => exact ⟨k + 1, by omega, by go_num, hb7'⟩
      case measure => simp [intOf]; omega
    · obtain rfl : k = nd.kids.length := by omega
      go_wp2
      go_ret
      exact ⟨rfl, hbr⟩
theorem same_all (n : Nat) : SameC n := by
  induction n with
  | zero =>
    intro nd h
    cases nd with
    | mk a b c d e f g => simp only [Nd.mk.sizeOf_spec] at h; omega
  | succ n ih => exact same_step n ih
theorem same_nodes (nd : Nd) (w : World) (A1 A2 B1 B2 : Option Addr) (p1 p2 q1 q2 : Nat) (h : NodeV (fun b => b < w.heap.size) w nd (.slice A1 nd.set.length p1) (.slice A2 nd.kids.length p2)) (h' : NodeV (fun b => b < w.heap.size) w nd (.slice B1 nd.set.length q1) (.slice B2 nd.kids.length q2)) :
    Calls Tryd.prog 11 #[.agg #[.int .i64 nd.kind, .int .i64 nd.lo, .int .i64 nd.hi, .int .i64 nd.mode, .int .i64 nd.ref, .slice A1 nd.set.length p1, .slice A2 nd.kids.length p2], .agg #[.int .i64 nd.kind, .int .i64 nd.lo, .int .i64 nd.hi, .int .i64 nd.mode, .int .i64 nd.ref, .slice B1 nd.set.length q1, .slice B2 nd.kids.length q2]] w
      fun e w' => e = .returned (.bool true) ∧ Below w.heap.size w w' := same_all _ nd (Nat.le_refl _) w A1 A2 B1 B2 p1 p2 q1 q2 h h'

end Go.Proofs.YthipgidddgdojaaDoor

/- The parse law's anchor: four short patterns. -/
namespace Go.Proofs.YthipgidddgdojaaDoor
open Go.RowKit
open Go.Proofs.YthipgidddgdojaaDoor.Cl (Rg)
variable {w w' : World}

theorem tabs_on {n n' : Nat} (h : TabsAt n w) (hb : Below n w w') (hn : n ≤ n') : TabsAt n' w' := ⟨by have := h.1; omega, (h.below hb).2⟩
def anchorNd : Nd := .mk 3 0 0 0 0 [] [.mk 1 0 0 0 0 [(97, 97)] [], .mk 4 0 (-1) 1 0 [] [.mk 1 0 0 0 0 [(98, 98)] []]]
theorem anchor1 : parse 1026 [97, 124, 98, 42, 63] = .ok (anchorNd, 0, false) := by kernel_rfl
theorem anchor2 : parse 1026 [97, 42, 42] = .error (23, 2) := by kernel_rfl
theorem anchor3 : parse 1026 [40, 97] = .error (20, 0) := by kernel_rfl
theorem anchor4 : parse 1026 [92, 49] = .error (26, 0) := by kernel_rfl

theorem run_eql_fault (a b c d : Int) (w : World) : (binOp .eql 32 (.agg #[.int .i64 a, .int .i64 b]) (.agg #[.int .i64 c, .int .i64 d])).run Tryd.prog w = .ok (.bool (a == c && b == d)) w := by
  have u3 := Tryd.underlying3
  have a3 := Tryd.isAgg3
  have z3 := Tryd.sizeOf3
  have u30 := Tryd.underlying30
  have hS : Tryd.prog.underlying 32 = some (.struct (Tryd.prog.fieldsOf 32)) := by kernel_rfl
  have hp : Tryd.prog.stoodInHeld 32 = false := by kernel_rfl
  rw [run_eql_struct, show (10000 : Nat) = 9999 + 1 from rfl, run_equalIn_agg w 9999 32 _ _ hS hp]
  simp only [Program.fieldsOf, Tryd.underlying32]
  go_simp
  by_cases h1 : a = c <;> by_cases h2 : b = d <;> simp [h1, h2]

/-- What a call of Parse and the two variables behind it leave. -/
structure Put (w v : World) (g : Nat) (cs fs : Array Value) : Prop where
  node : Blk v g 29 cs
  flt : Blk v (g + 1) 32 fs
  keep : Below w.heap.size w v
theorem put_new (w w1 : World) (cs fs : Array Value) (h : Below w.heap.size w w1) : Put w ((w1.alloc (.cells cs 29)).alloc (.cells fs 32)) w1.heap.size cs fs :=
  ⟨(Blk.new _ _ _).alloc _, Blk.new_at _ _ (by simp) _ _, (h.alloc h.size _).alloc (by have := h.size; simp; omega) _⟩

set_option maxRecDepth 100000 in
set_option maxHeartbeats 2000000 in
theorem anchor_any (hT : TabsAt w.heap.size w) : Calls Tryd.prog 9 #[] w fun e w' => e = .returned (.bool true) ∧ Below w.heap.size w w' := by
  have keq := run_eql_fault
  have HT := Lib.hid hT
  clear hT
  go_enter Tryd.func9, Tryd.ntmps9
  go_wp2_with fail
  refine (parse_any (s := [97, 124, 98, 42, 63]) 1026 (Nat.le_refl _) (by simp) HT.out).mono ?_
  rw [anchor1]
  rintro e w1 ⟨A1, A2, p1, p2, rfl, hN, hb1⟩
  obtain ⟨_, _, b, off, he, hl, _, _, _, hk⟩ := hN.parts
  obtain ⟨rfl, _, rfl⟩ := Value.slice.inj he
  obtain ⟨hA, hb, _, _, _, _, _, hC⟩ := hk 1 _ rfl
  subst hA
  have HK1 : Hid (w1.cell? ⟨b, off + 7, none⟩ = some (.int .i64 4) ∧ w1.cell? ⟨b, off + 7 + 3, none⟩ = some (.int .i64 1)) := Lib.hid ⟨hC 0 _ rfl, hC 3 _ rfl⟩
  clear hN hk hC he hl
  unfold pCells
  simp only [anchorNd, Nd.kind, Nd.lo, Nd.hi, Nd.mode, Nd.ref, Nd.set, Nd.kids, List.length_cons, List.length_nil, Nat.zero_add, Nat.reduceAdd]
  have P1 := Lib.hid (put_new w w1 #[.int .i64 3, .int .i64 0, .int .i64 0, .int .i64 0, .int .i64 0, .slice A1 0 p1, .slice (some ⟨b, off, none⟩) 2 p2, .int .i64 0, .bool false] #[.int .i64 0, .int .i64 0] hb1)
  go_upto_region 2 with (fail)
  obtain ⟨v1, hv1⟩ : ∃ v1, v1 = (w1.alloc (.cells #[.int .i64 3, .int .i64 0, .int .i64 0, .int .i64 0, .int .i64 0, .slice A1 0 p1, .slice (some ⟨b, off, none⟩) 2 p2, .int .i64 0, .bool false] 29)).alloc (.cells #[.int .i64 0, .int .i64 0] 32) := ⟨_, rfl⟩
  rw [← hv1] at P1 ⊢
  have HK2 : Hid (v1.cell? ⟨b, off + 7, none⟩ = some (.int .i64 4) ∧ v1.cell? ⟨b, off + 7 + 3, none⟩ = some (.int .i64 1) ∧ b < v1.heap.size) := Lib.hid (by
    have hbl : Below w1.heap.size w1 v1 := by rw [hv1]; exact ((Below.refl _ _).alloc (Nat.le_refl _) _).alloc (by simp) _
    exact ⟨(hbl.cell hb).trans HK1.out.1, (hbl.cell hb).trans HK1.out.2, Nat.lt_of_lt_of_le hb hbl.size⟩)
  clear hv1 HK1
  have HT2 := Lib.hid (tabs_on HT.out P1.out.keep P1.out.keep.size)
  go_wp2_with fail
  refine (parse_any (w := v1) (s := [97, 42, 42]) 1026 (Nat.le_refl _) (by simp) HT2.out).mono ?_
  rw [anchor2]
  rintro e w2 ⟨rfl, hb2⟩
  unfold zero9
  have P2 := Lib.hid (put_new v1 w2 #[.int .i64 0, .int .i64 0, .int .i64 0, .int .i64 0, .int .i64 0, .slice none 0 0, .slice none 0 0, .int .i64 0, .bool false] #[.int .i64 23, .int .i64 2] hb2)
  go_upto_region 3 with (fail)
  generalize (w2.alloc (.cells #[.int .i64 0, .int .i64 0, .int .i64 0, .int .i64 0, .int .i64 0, .slice none 0 0, .slice none 0 0, .int .i64 0, .bool false] 29)).alloc (.cells #[.int .i64 23, .int .i64 2] 32) = v2 at *
  have hbw2 : Below w.heap.size w v2 := P1.out.keep.trans (P2.out.keep.mono P1.out.keep.size)
  have HT3 := Lib.hid (tabs_on HT.out hbw2 hbw2.size)
  go_wp2_with fail
  refine (parse_any (w := v2) (s := [40, 97]) 1026 (Nat.le_refl _) (by simp) HT3.out).mono ?_
  rw [anchor3]
  rintro e w3 ⟨rfl, hb3⟩
  unfold zero9
  have P3 := Lib.hid (put_new v2 w3 #[.int .i64 0, .int .i64 0, .int .i64 0, .int .i64 0, .int .i64 0, .slice none 0 0, .slice none 0 0, .int .i64 0, .bool false] #[.int .i64 20, .int .i64 0] hb3)
  go_upto_region 4 with (fail)
  generalize (w3.alloc (.cells #[.int .i64 0, .int .i64 0, .int .i64 0, .int .i64 0, .int .i64 0, .slice none 0 0, .slice none 0 0, .int .i64 0, .bool false] 29)).alloc (.cells #[.int .i64 20, .int .i64 0] 32) = v3 at *
  have hbw3 : Below w.heap.size w v3 := hbw2.trans (P3.out.keep.mono hbw2.size)
  have HT4 := Lib.hid (tabs_on HT.out hbw3 hbw3.size)
  go_wp2_with fail
  refine (parse_any (w := v3) (s := [92, 49]) 1026 (Nat.le_refl _) (by simp) HT4.out).mono ?_
  rw [anchor4]
  rintro e w4 ⟨rfl, hb4⟩
  unfold zero9
  have P4 := Lib.hid (put_new v3 w4 #[.int .i64 0, .int .i64 0, .int .i64 0, .int .i64 0, .int .i64 0, .slice none 0 0, .slice none 0 0, .int .i64 0, .bool false] #[.int .i64 26, .int .i64 0] hb4)
  go_upto_region 5 with (fail)
  generalize (w4.alloc (.cells #[.int .i64 0, .int .i64 0, .int .i64 0, .int .i64 0, .int .i64 0, .slice none 0 0, .slice none 0 0, .int .i64 0, .bool false] 29)).alloc (.cells #[.int .i64 26, .int .i64 0] 32) = v4 at *
  have hbw4 : Below w.heap.size w v4 := hbw3.trans (P4.out.keep.mono hbw3.size)
  have k23 := P3.out.keep
  have k34 := P4.out.keep
  have k12 := P2.out.keep
  have k24 := k23.trans (k34.mono k23.size)
  have k14 := k12.trans (k24.mono k12.size)
  have hc1 := (P1.out.node.on k14).nine
  have hf1a := (P1.out.flt.on k14).cell 0
  have hf1b := (P1.out.flt.on k14).cell 1
  have hf2a := (P2.out.flt.on k24).cell 0
  have hf2b := (P2.out.flt.on k24).cell 1
  have hf3a := (P3.out.flt.on k34).cell 0
  have hf3b := (P3.out.flt.on k34).cell 1
  have hf4a := P4.out.flt.cell 0
  have hf4b := P4.out.flt.cell 1
  have hk1 := (k14.cell (p := ⟨b, off + 7, none⟩) HK2.out.2.2).trans HK2.out.1
  have hk2 := (k14.cell (p := ⟨b, off + 7 + 3, none⟩) HK2.out.2.2).trans HK2.out.2.1
  simp at hf1a hf1b hf2a hf2b hf3a hf3b hf4a hf4b
  clear k12 k23 k34 k24 k14 P1 P2 P3 P4 HK2
  go_wp2
  go_ret
  exact ⟨rfl, hbw4⟩

/-! ### What Parse gives, told at once -/
def ndOf : Except Flt (Nd × Nat × Bool) → Nd | .ok x => x.1 | .error _ => emptyN
def gOf : Except Flt (Nd × Nat × Bool) → Nat | .ok x => x.2.1 | .error _ => 0
def foOf : Except Flt (Nd × Nat × Bool) → Bool | .ok x => x.2.2 | .error _ => false
def fOf : Except Flt (Nd × Nat × Bool) → Flt | .ok _ => (0, 0) | .error f => f
theorem ParsePost.uni {r : Except Flt (Nd × Nat × Bool)} {e : Ending} (h : ParsePost w r e w') : ∃ A1 A2 p1 p2, e = .returned (.tuple #[.agg (pCells (ndOf r) A1 A2 p1 p2 (gOf r) (foOf r)), .agg #[.int .i64 (fOf r).1, .int .i64 (fOf r).2]]) ∧
    NodeV (fun b => b < w'.heap.size) w' (ndOf r) (.slice A1 (ndOf r).set.length p1) (.slice A2 (ndOf r).kids.length p2) ∧ Below w.heap.size w w' := by
  cases r with
  | ok x => exact h
  | error f => exact ⟨none, none, 0, 0, h.1, NodeV.leaf (SetK.nil _ _) (by simp), h.2⟩
theorem NodeV.on {nd : Nd} {sv kv : Value} (h : NodeV (fun b => b < w.heap.size) w nd sv kv) (hb : Below w.heap.size w w') : NodeV (fun b => b < w'.heap.size) w' nd sv kv :=
  h.keep fun b hk => ⟨Nat.lt_of_lt_of_le hk hb.size, hb.block b hk⟩
theorem put_on (w1 : World) (cs fs : Array Value) : Below w1.heap.size w1 ((w1.alloc (.cells cs 29)).alloc (.cells fs 32)) := ((Below.refl _ _).alloc (Nat.le_refl _) _).alloc (by simp) _

end Go.Proofs.YthipgidddgdojaaDoor

/- Strings of bytes, numbers of two digits, sets of one range in memory; maps from numbers to true. -/
namespace Go.Proofs.YthipgidddgdojaaDoor
open Go.RowKit Go.Shelf
open Go.ChangeMaps (setBlock)
open Go.Proofs.YthipgidddgdojaaDoor.Cl (Rg SetV SetAt rgCells rgCells_len rgCells_get)
variable {w w' : World}

theorem char_is (n : Int) (b : Bool) (h : charB n = b) (w : World) : Calls Tryd.prog 12 #[.int .i64 n] w fun e w' => e = .returned (.bool b) ∧ w' = w :=
  (char_any n w).mono fun _ _ ⟨h1, h2⟩ => ⟨by rw [h1, h], h2.symm⟩
/-- A number of two digits. -/
theorem two_any (n : Nat) (hn : n ≤ 99) (w : World) : Calls Tryd.prog 15 #[.int .i64 (n : Int)] w fun e w' => e = .returned (.string ⟨(dd n).toArray⟩) ∧ Below w.heap.size w w' := by
  have h0 : (0 : Int) ≤ (n : Int) := by omega
  have h9 : (n : Int) ≤ 99 := by omega
  have hk := run_string_bytes (bytes_lit w #[.int .u8 (48 + (n : Int) / 10), .int .u8 (48 + (n : Int) % 10)] (dd n) (0, 0) 2 rfl (by
    simp [Lib.byteCells, dd]
    omega))
  clear hn
  go_enter Tryd.func15, Tryd.ntmps15
  go_wp2
  go_ret
  exact ⟨rfl, (Below.refl _ _).alloc (Nat.le_refl _) _⟩

theorem set_lit (w : World) (l : List Rg) (n : Nat) (hn : n = l.length) : SetV (w.heap.size + 1) (w.alloc (.cells (rgCells l).toArray 39)) (.slice (some ⟨w.heap.size, 0, none⟩) n n) l := by
  subst hn
  refine ⟨_, _, rfl, Nat.le_refl _, fun _ => ⟨w.heap.size, 0, rfl, by omega, fun i r hr => ?_⟩⟩
  obtain ⟨h1, h2⟩ := rgCells_get l i r hr
  constructor
  · rw [cell_of_row _ w.heap.size _ _ _ _ (heap_alloc_new w _), Nat.zero_add]
    simpa using h1
  · rw [cell_of_row _ w.heap.size _ _ _ _ (heap_alloc_new w _), Nat.zero_add]
    simpa using h2
/-- The cells of a set of one range. -/
theorem set_cells {K : Nat → Prop} {A : Option Addr} {n p : Nat} {x y : Int} (h : SetK K w (.slice A n p) [(x, y)]) : ∃ b off, A = some ⟨b, off, none⟩ ∧ K b ∧ w.cell? ⟨b, off, none⟩ = some (.int .i64 x) ∧ w.cell? ⟨b, off + 1, none⟩ = some (.int .i64 y) ∧ n = 1 ∧ 1 ≤ p := by
  obtain ⟨A', cap, hv, hc, hk⟩ := h
  obtain ⟨rfl, h1, rfl⟩ := Value.slice.inj hv
  obtain ⟨b, off, rfl, hb, ht⟩ := hk (by simp)
  have := ht 0 _ rfl
  simp only [Nat.zero_mul, Nat.add_zero] at this
  exact ⟨b, off, rfl, hb, this.1, this.2, by simpa using h1, by simpa using hc⟩

/-! ### A map of some numbers to true -/
def TrueMap (w : World) (b : Nat) (L : List Int) : Prop := ∃ es clock, w.heap[b]? = some (.map es clock) ∧ es.toList.map (fun e => (e.key, e.val)) = L.map (fun a => (Value.int .i64 a, Value.bool true))
theorem TrueMap.new (w : World) : TrueMap (w.alloc (.map #[] 0)) w.heap.size [] := ⟨#[], 0, heap_alloc_new w _, rfl⟩
theorem TrueMap.on {b : Nat} {L : List Int} (h : TrueMap w b L) (hb : Below w.heap.size w w') : TrueMap w' b L := by
  obtain ⟨es, clock, h1, h2⟩ := h
  exact ⟨es, clock, (hb.block b (lt_of_some h1)).trans h1, h2⟩
theorem findNow_no (u : Int) : ∀ (l : List MapEntry) (L : List Int) (i : Nat), l.map (fun e => (e.key, e.val)) = L.map (fun a => (Value.int .i64 a, Value.bool true)) → u ∉ L → Instr.findNow (.int .i64) (.int .i64 u) l i = some none
  | [], _, _, _, _ => rfl
  | e :: es, [], i, h, hu => by simp at h
  | e :: es, a :: L, i, h, hu => by
    simp only [List.map_cons, List.cons.injEq, Prod.mk.injEq] at h
    obtain ⟨⟨h1, h2⟩, h3⟩ := h
    simp only [List.mem_cons, not_or] at hu
    have : (u == a) = false := by simpa using hu.1
    unfold Instr.findNow
    rw [h1]
    simp only [Instr.sameNow, if_true, this]
    exact findNow_no u es L (i + 1) h3 hu.2
theorem findNow_yes (u : Int) : ∀ (l : List MapEntry) (L : List Int) (i : Nat), l.map (fun e => (e.key, e.val)) = L.map (fun a => (Value.int .i64 a, Value.bool true)) → u ∈ L → ∃ j, Instr.findNow (.int .i64) (.int .i64 u) l i = some (some (j, .bool true))
  | _, [], _, _, hu => by cases hu
  | [], a :: L, i, h, hu => by simp at h
  | e :: es, a :: L, i, h, hu => by
    simp only [List.map_cons, List.cons.injEq, Prod.mk.injEq] at h
    obtain ⟨⟨h1, h2⟩, h3⟩ := h
    unfold Instr.findNow
    rw [h1, h2]
    by_cases hua : u = a
    · have : (u == a) = true := by simpa using hua
      simp only [Instr.sameNow, if_true, this]
      exact ⟨i, rfl⟩
    · have : (u == a) = false := by simpa using hua
      simp only [Instr.sameNow, if_true, this]
      exact findNow_yes u es L (i + 1) h3 (by rcases List.mem_cons.1 hu with h | h; exact absurd h hua; exact h)

theorem run_insert {b : Nat} {L : List Int} (h : TrueMap w b L) {u : Int} (hu : u ∉ L) : ∃ w', (Instr.mapUpdate 48 (.map (some b)) (.int .i64 u) (.bool true)).run Tryd.prog w = .ok () w' ∧ TrueMap w' b (L ++ [u]) ∧ w.grownBy w' (some b) := by
  obtain ⟨es, clock, hb, he⟩ := h
  have hs : (w.heap.setIfInBounds b (.map (es.push { key := .int .i64 u, val := .bool true, born := clock }) (clock + 1)))[b]? = some (.map (es.push { key := .int .i64 u, val := .bool true, born := clock }) (clock + 1)) := (MapKept.heap_set hb).1
  refine ⟨setBlock w b (.map (es.push { key := .int .i64 u, val := .bool true, born := clock }) (clock + 1)), ?_, ⟨_, _, hs, ?_⟩, ?_⟩
  · have h1 := MapKept.run_findKey (P := Tryd.prog) (w := w) (l := es.toList) Tryd.underlying3 (findNow_no u es.toList L 0 he hu)
    have h2 := MapKept.run_checkKey (P := Tryd.prog) (w := w) (k := .int .i64 u) Tryd.underlying3 (by simp [MapKept.IsKey]) false 9999
    simp [Instr.mapUpdate, run_underlying Tryd.underlying48, MapKept.run_getObj_map hb, h2, h1, MapKept.run_setObj_map _ hb, Result.andThen, setBlock]
  · rw [Array.toList_push, List.map_append, List.map_append, he]
    rfl
  · exact ⟨rfl, rfl, rfl, by simp [setBlock], fun i _ hi => (MapKept.heap_set hb).2 i (fun e => hi (by rw [e]))⟩
theorem run_look {b : Nat} {L : List Int} (h : TrueMap w b L) (u : Int) : (Instr.lookup 48 (.map (some b)) (.int .i64 u) false).run Tryd.prog w = .ok (.bool (decide (u ∈ L))) w := by
  obtain ⟨es, clock, hb, he⟩ := h
  have h2 := MapKept.run_checkKey (P := Tryd.prog) (w := w) (k := .int .i64 u) Tryd.underlying3 (by simp [MapKept.IsKey]) es.isEmpty 9999
  by_cases hu : u ∈ L
  · obtain ⟨j, hj⟩ := findNow_yes u es.toList L 0 he hu
    have h1 := MapKept.run_findKey (P := Tryd.prog) (w := w) (l := es.toList) Tryd.underlying3 hj
    simp [Instr.lookup, run_underlying Tryd.underlying48, MapKept.run_getObj_map hb, h2, h1, Result.andThen, hu]
  · have h1 := MapKept.run_findKey (P := Tryd.prog) (w := w) (l := es.toList) Tryd.underlying3 (findNow_no u es.toList L 0 he hu)
    simp [Instr.lookup, run_underlying Tryd.underlying48, MapKept.run_getObj_map hb, h2, h1, Result.andThen, hu]

theorem wpList_insert_true {ops : Array Oper} {rest : List Oper} {o : Oper} {a : Act} {Q : Exit → Act → World → Prop} (hg : o.guard = none) (m x v : Operand) (hop : o.op = Op.insert 48 m x v)
    (b : Nat) (L : List Int) (hm : a.eval m = .map (some b)) (u : Int) (hx : a.eval x = .int .i64 u) (hv : a.eval v = .bool true) (h : TrueMap w b L) (hu : u ∉ L)
    (hK : ∀ w', TrueMap w' b (L ++ [u]) → w.grownBy w' (some b) → wpList Tryd.prog ops Q rest (a.put o.dst undef) w') : wpList Tryd.prog ops Q (o :: rest) a w := by
  refine wpList_plain hg fun K' hK' => ?_
  obtain ⟨w', hrun, r1, r2⟩ := run_insert h hu
  unfold Oper.wp
  simp [execOp, hop, hm, hx, hv, hrun, Result.andThen]
  exact hK' _ _ (hK w' r1 r2)

/-- A region's condition may be made narrower on the way. -/
theorem held_more {P : Program} {md : Region.Mode} {ops : Array Oper} {Q : Exit → Act → World → Prop} {S S' : World → Prop} (hs : ∀ w, S' w → S w) : ∀ {fuel : Nat} {listed : Array Bool} {a : Act} {w : World}, wpAnyH P md ops Q S' fuel listed a w → wpAnyH P md ops Q S fuel listed a w
  | 0, _, _, _, h => h
  | _ + 1, _, _, _, h => ⟨h.1, fun i hi => wpOp_mono (fun _ _ h' => ⟨hs _ h'.1, held_more hs h'.2⟩) (h.2 i hi)⟩

end Go.Proofs.YthipgidddgdojaaDoor

/- ParseWraps' walk. -/
namespace Go.Proofs.YthipgidddgdojaaDoor
open Go.RowKit
variable {w w' : World}

theorem bytes_app (a b : List UInt8) : ((⟨a.toArray⟩ : ByteArray) ++ (⟨b.toArray⟩ : ByteArray)) = ⟨(a ++ b).toArray⟩ := by
  apply ByteArray.ext
  simp [ByteArray.data_append]
theorem wrap_eq (x : ByteArray) : ((⟨#[40, 63, 58]⟩ : ByteArray) ++ x ++ (⟨#[41]⟩ : ByteArray)) = ⟨(40 :: 63 :: 58 :: (x.data.toList ++ [41])).toArray⟩ := by
  apply ByteArray.ext
  simp [ByteArray.data_append]
theorem off_zero {n : Nat} (h : n ≠ 0) : ((n : Int) != 0) = true := by simp [h]

set_option maxRecDepth 100000 in
set_option maxHeartbeats 2000000 in
theorem wraps_law (x : ByteArray) (hT : TabsAt w.heap.size w) : Calls Tryd.prog 3 #[.string x] w fun e w' => e = .returned (.bool true) ∧ Below w.heap.size w w' := by
  have HT := Lib.hid hT
  have HA := Lib.hid (anchor_any hT)
  clear hT
  by_cases hlen : 400 < x.size
  · have hlen' : (400 : Int) < (x.size : Int) := by omega
    go_enter Tryd.func3, Tryd.ntmps3
    go_wp2_with fail
    refine HA.out.mono ?_
    rintro e w1 ⟨rfl, hb1⟩
    go_wp2
    go_ret
    exact ⟨rfl, hb1⟩
  · have hlen' : ¬ (400 : Int) < (x.size : Int) := by omega
    have hmx : x.size ≤ 400 := by omega
    have HP : Hid (∀ W : World, TabsAt W.heap.size W → Calls Tryd.prog 10 #[.string x] W (ParsePost W (parse 1026 x.data.toList))) := Lib.hid (fun W hW => parse_any (s := x.data.toList) 1026 (Nat.le_refl _) (by have : x.data.toList.length = x.size := rfl; omega) hW)
    obtain ⟨r, hr⟩ : ∃ r, r = parse 1026 x.data.toList := ⟨_, rfl⟩
    rw [← hr] at HP
    have HR := Lib.hid hr
    clear hr
    cases r with
    | error f =>
      obtain ⟨fc, fp⟩ := f
      have hfc := parse_code (Nat.le_refl _) HR.out.symm
      have hfc' := off_zero hfc
      simp only at hfc hfc'
      go_enter Tryd.func3, Tryd.ntmps3
      go_wp2_with fail
      refine HA.out.mono ?_
      rintro e w0 ⟨rfl, hb0⟩
      have HT0 := Lib.hid (tabs_on HT.out hb0 hb0.size)
      go_wp2_with fail
      refine (HP.out _ HT0.out).mono ?_
      rintro e w1 ⟨rfl, hb1⟩
      unfold zero9
      simp only
      have P1 := Lib.hid (put_new w0 w1 #[.int .i64 0, .int .i64 0, .int .i64 0, .int .i64 0, .int .i64 0, .slice none 0 0, .slice none 0 0, .int .i64 0, .bool false] #[.int .i64 (fc : Nat), .int .i64 (fp : Nat)] hb1)
      go_upto_region 6 with (fail)
      generalize (w1.alloc (.cells #[.int .i64 0, .int .i64 0, .int .i64 0, .int .i64 0, .int .i64 0, .slice none 0 0, .slice none 0 0, .int .i64 0, .bool false] 29)).alloc (.cells #[.int .i64 (fc : Nat), .int .i64 (fp : Nat)] 32) = v1 at *
      have hbv := hb0.trans (P1.out.keep.mono hb0.size)
      have hf1a := P1.out.flt.cell 0
      have hf1b := P1.out.flt.cell 1
      simp at hf1a hf1b
      go_wp2
      go_ret
      exact ⟨rfl, hbv⟩
    | ok y =>
      obtain ⟨nd, g, fo⟩ := y
      go_enter Tryd.func3, Tryd.ntmps3
      go_wp2_with fail
      refine HA.out.mono ?_
      rintro e w0 ⟨rfl, hb0⟩
      have HT0 := Lib.hid (tabs_on HT.out hb0 hb0.size)
      go_wp2_with fail
      refine (HP.out _ HT0.out).mono ?_
      rintro e w1 ⟨A1, A2, p1, p2, rfl, hN, hb1⟩
      unfold pCells
      simp only at hN ⊢
      have P1 := Lib.hid (put_new w0 w1 #[.int .i64 nd.kind, .int .i64 nd.lo, .int .i64 nd.hi, .int .i64 nd.mode, .int .i64 nd.ref, .slice A1 nd.set.length p1, .slice A2 nd.kids.length p2, .int .i64 (g : Nat), .bool fo] #[.int .i64 0, .int .i64 0] hb1)
      have HN1 := Lib.hid (hN.on (put_on w1 #[.int .i64 nd.kind, .int .i64 nd.lo, .int .i64 nd.hi, .int .i64 nd.mode, .int .i64 nd.ref, .slice A1 nd.set.length p1, .slice A2 nd.kids.length p2, .int .i64 (g : Nat), .bool fo] #[.int .i64 0, .int .i64 0]))
      clear hN
      go_upto_region 6 with (fail)
      generalize (w1.alloc (.cells #[.int .i64 nd.kind, .int .i64 nd.lo, .int .i64 nd.hi, .int .i64 nd.mode, .int .i64 nd.ref, .slice A1 nd.set.length p1, .slice A2 nd.kids.length p2, .int .i64 (g : Nat), .bool fo] 29)).alloc (.cells #[.int .i64 0, .int .i64 0] 32) = v1 at *
      have hbv := hb0.trans (P1.out.keep.mono hb0.size)
      have hc1 := P1.out.node.nine
      have hf1a := P1.out.flt.cell 0
      have hf1b := P1.out.flt.cell 1
      simp at hf1a hf1b
      cases fo with
      | true =>
        go_wp2
        go_ret
        exact ⟨rfl, hbv⟩
      | false =>
        have HT1 := Lib.hid (tabs_on HT.out hbv hbv.size)
        have HP2 : Hid (∀ W : World, TabsAt W.heap.size W → Calls Tryd.prog 10 #[.string ((⟨#[40, 63, 58]⟩ : ByteArray) ++ x ++ (⟨#[41]⟩ : ByteArray))] W (ParsePost W (parse 1030 (40 :: 63 :: 58 :: (x.data.toList ++ [41]))))) := Lib.hid (fun W hW => by
          rw [wrap_eq]
          exact parse_any (s := 40 :: 63 :: 58 :: (x.data.toList ++ [41])) 1030 (by omega) (by have : x.data.toList.length = x.size := rfl; simp; omega) hW)
        rcases parse_wrap (N := 1026) HR.out.symm with h2 | ⟨hl2, h2⟩ | ⟨p, h2⟩
        · rw [h2] at HP2
          clear h2
          go_wp2_with fail
          refine (HP2.out _ HT1.out).mono ?_
          rintro e w2 ⟨B1, B2, q1, q2, rfl, hN, hb2⟩
          unfold pCells
          simp only at hN ⊢
          have P2 := Lib.hid (put_new v1 w2 #[.int .i64 nd.kind, .int .i64 nd.lo, .int .i64 nd.hi, .int .i64 nd.mode, .int .i64 nd.ref, .slice B1 nd.set.length q1, .slice B2 nd.kids.length q2, .int .i64 (g : Nat), .bool false] #[.int .i64 0, .int .i64 0] hb2)
          have HN2 := Lib.hid (hN.on (put_on w2 #[.int .i64 nd.kind, .int .i64 nd.lo, .int .i64 nd.hi, .int .i64 nd.mode, .int .i64 nd.ref, .slice B1 nd.set.length q1, .slice B2 nd.kids.length q2, .int .i64 (g : Nat), .bool false] #[.int .i64 0, .int .i64 0]))
          clear hN
          go_upto_region 9 with (fail)
          generalize (w2.alloc (.cells #[.int .i64 nd.kind, .int .i64 nd.lo, .int .i64 nd.hi, .int .i64 nd.mode, .int .i64 nd.ref, .slice B1 nd.set.length q1, .slice B2 nd.kids.length q2, .int .i64 (g : Nat), .bool false] 29)).alloc (.cells #[.int .i64 0, .int .i64 0] 32) = v2 at *
          have hbv2 := hbv.trans (P2.out.keep.mono hbv.size)
          have hc1 := (P1.out.node.on P2.out.keep).nine
          have hc2 := P2.out.node.nine
          have hf2a := P2.out.flt.cell 0
          have hf2b := P2.out.flt.cell 1
          simp at hf2a hf2b
          have HS := Lib.hid (same_nodes nd v2 A1 A2 B1 B2 p1 p2 q1 q2 (HN1.out.on P2.out.keep) HN2.out)
          clear P1 P2 HN1 HN2
          go_wp2_with fail
          refine HS.out.mono ?_
          rintro e w3 ⟨rfl, hb3⟩
          have hb4 := hbv2.trans (hb3.mono hbv2.size)
          go_wp2
          go_ret
          exact ⟨rfl, hb4⟩
        · have hl2' : (252 : Int) < (x.size : Int) := by have : x.data.toList.length = x.size := rfl; omega
          rw [h2] at HP2
          clear h2
          go_wp2_with fail
          refine (HP2.out _ HT1.out).mono ?_
          rintro e w2 ⟨rfl, hb2⟩
          unfold zero9
          have P2 := Lib.hid (put_new v1 w2 #[.int .i64 0, .int .i64 0, .int .i64 0, .int .i64 0, .int .i64 0, .slice none 0 0, .slice none 0 0, .int .i64 0, .bool false] #[.int .i64 12, .int .i64 0] hb2)
          go_upto_region 9 with (fail)
          generalize (w2.alloc (.cells #[.int .i64 0, .int .i64 0, .int .i64 0, .int .i64 0, .int .i64 0, .slice none 0 0, .slice none 0 0, .int .i64 0, .bool false] 29)).alloc (.cells #[.int .i64 12, .int .i64 0] 32) = v2 at *
          have hbv2 := hbv.trans (P2.out.keep.mono hbv.size)
          have hf2a := P2.out.flt.cell 0
          have hf2b := P2.out.flt.cell 1
          simp at hf2a hf2b
          go_wp2
          go_ret
          exact ⟨rfl, hbv2⟩
        · rw [h2] at HP2
          clear h2
          go_wp2_with fail
          refine (HP2.out _ HT1.out).mono ?_
          rintro e w2 ⟨rfl, hb2⟩
          unfold zero9
          have P2 := Lib.hid (put_new v1 w2 #[.int .i64 0, .int .i64 0, .int .i64 0, .int .i64 0, .int .i64 0, .slice none 0 0, .slice none 0 0, .int .i64 0, .bool false] #[.int .i64 25, .int .i64 (p : Nat)] hb2)
          go_upto_region 9 with (fail)
          generalize (w2.alloc (.cells #[.int .i64 0, .int .i64 0, .int .i64 0, .int .i64 0, .int .i64 0, .slice none 0 0, .slice none 0 0, .int .i64 0, .bool false] 29)).alloc (.cells #[.int .i64 25, .int .i64 (p : Nat)] 32) = v2 at *
          have hbv2 := hbv.trans (P2.out.keep.mono hbv.size)
          have hf2a := P2.out.flt.cell 0
          have hf2b := P2.out.flt.cell 1
          simp at hf2a hf2b
          go_wp2
          go_ret
          exact ⟨rfl, hbv2⟩

theorem parseWraps_law (x : ByteArray) (w : World) (hT : TabsAt w.heap.size w) : Calls Tryd.prog 3 #[.string x] w fun e w' => e = .returned (.bool true) ∧ Below w.heap.size w w' := wraps_law x hT

end Go.Proofs.YthipgidddgdojaaDoor

/- Names of the parts of nodes of a set, and of a repeat. -/
namespace Go.Proofs.YthipgidddgdojaaDoor
open Go.Proofs.YthipgidddgdojaaDoor.Cl (Rg hasB hasB_iff)

theorem set_kind (l : List Rg) : (setN l).kind = 1 := rfl
theorem set_lo (l : List Rg) : (setN l).lo = 0 := rfl
theorem set_hi (l : List Rg) : (setN l).hi = 0 := rfl
theorem set_mode (l : List Rg) : (setN l).mode = 0 := rfl
theorem set_ref (l : List Rg) : (setN l).ref = 0 := rfl
theorem set_set (x : Rg) : (setN [x]).set.length = 1 := rfl
theorem set_kids (l : List Rg) : (setN l).kids.length = 0 := rfl
theorem rep_kind (a b c : Int) (x : Nd) : (repN a b c x).kind = 4 := rfl
theorem rep_lo (a b c : Int) (x : Nd) : (repN a b c x).lo = a := rfl
theorem rep_hi (a b c : Int) (x : Nd) : (repN a b c x).hi = b := rfl
theorem rep_mode (a b c : Int) (x : Nd) : (repN a b c x).mode = c := rfl
theorem rep_ref (a b c : Int) (x : Nd) : (repN a b c x).ref = 0 := rfl
theorem rep_set (a b c : Int) (x : Nd) : (repN a b c x).set.length = 0 := rfl
theorem rep_kids (a b c : Int) (x : Nd) : (repN a b c x).kids.length = 1 := rfl
theorem alnum_no_sign (x : Int) (h : hasB [((48 : Int), (57 : Int)), (65, 90), (97, 122)] x = true) : isSign x = false := by
  rw [hasB_iff] at h
  obtain ⟨r, hr, h1, h2⟩ := h
  simp at hr
  rcases hr with rfl | rfl | rfl <;> simp [isSign] <;> simp at h1 h2 <;> omega

end Go.Proofs.YthipgidddgdojaaDoor

