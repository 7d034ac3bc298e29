/- Parse, of any text. -/
import Derived.Test.YthipgidddgdojaaDoorPV
namespace Go.Proofs.YthipgidddgdojaaDoor
open Go.RowKit
variable {n₀ rb tb cap d : Nat} {s : List UInt8} {w w' : World} {σ σ1 : St} {fc fa : Int} {bv v : Value}

def zero2 : Array Value := #[.int .i64 0, .int .i64 0]
def pCells (nd : Nd) (A1 A2 : Option Addr) (p1 p2 g : Nat) (fo : Bool) : Array Value := #[.int .i64 nd.kind, .int .i64 nd.lo, .int .i64 nd.hi, .int .i64 nd.mode, .int .i64 nd.ref, .slice A1 nd.set.length p1, .slice A2 nd.kids.length p2, .int .i64 (g : Nat), .bool fo]
/-- What Parse gives. -/
def ParsePost (w : World) (r : Except Flt (Nd × Nat × Bool)) (e : Ending) (w' : World) : Prop :=
  match r with
  | .ok x => ∃ A1 A2 p1 p2, e = .returned (.tuple #[.agg (pCells x.1 A1 A2 p1 p2 x.2.1 x.2.2), .agg #[.int .i64 0, .int .i64 0]]) ∧
      NodeV (fun b => b < w'.heap.size) w' x.1 (.slice A1 x.1.set.length p1) (.slice A2 x.1.kids.length p2) ∧ Below w.heap.size w w'
  | .error f => e = .returned (.tuple #[.agg zero9, .agg #[.int .i64 (f.1 : Nat), .int .i64 (f.2 : Nat)]]) ∧ Below w.heap.size w w'
theorem parse_pat (N : Nat) (s : List UInt8) (h : ¬ 256 < s.length) : parse N s = patClose (foldAt s) (run N 0 0 [] (begins s)) := by
  unfold parse
  rw [if_neg h]
  rfl
theorem ret_two {g h : Nat} {c0 c1 c2 c3 c4 c5 c6 c7 c8 d0 d1 : Value} {fn : Func} {Q : Ending → World → Prop} {a : Act} (hres : fn.results = #[.cell 2 29, .cell 3 32]) (h2 : a.tmps.getD 2 undef = .pointer (some ⟨g, 0, none⟩)) (h3 : a.tmps.getD 3 undef = .pointer (some ⟨h, 0, none⟩)) (hd : a.defers = [])
    (hB : Blk w g 29 #[c0, c1, c2, c3, c4, c5, c6, c7, c8]) (hC : Blk w h 32 #[d0, d1]) (hQ : Q (.returned (.tuple #[.agg #[c0, c1, c2, c3, c4, c5, c6, c7, c8], .agg #[d0, d1]])) w) : bodyPost Tryd.prog fn Q Exit.ret a w := by
  obtain ⟨k0, k1, k2, k3, k4, k5, k6, k7, k8⟩ := hB.nine
  have m0 := hC.cell 0
  have m1 := hC.cell 1
  simp at m0 m1
  rw [Array.getD_eq_getD_getElem?] at h2 h3
  refine bodyPost_ret (v := .tuple #[.agg #[c0, c1, c2, c3, c4, c5, c6, c7, c8], .agg #[d0, d1]]) ?_ hd hQ
  simp [results, hres, go_sem, h2, h3, k0, k1, k2, k3, k4, k5, k6, k7, k8, m0, m1]

set_option maxRecDepth 100000 in
set_option maxHeartbeats 1000000 in
theorem parse_long (N : Nat) (h : 256 < s.length) (hm : s.length ≤ 1000000) : Calls Tryd.prog 10 #[.string ⟨s.toArray⟩] w (ParsePost w (parse N s)) := by
  have e : parse N s = .error (12, 0) := by unfold parse; rw [if_pos h]
  rw [e]
  obtain ⟨x, hx⟩ : ∃ x : ByteArray, x = ⟨s.toArray⟩ := ⟨_, rfl⟩
  have hxs : x.size = s.length := by rw [hx]; rfl
  have h1 : 256 < x.size := by omega
  have h1' : (256 : Int) < (x.size : Int) := by omega
  have h2 : x.size ≤ 1000000 := by omega
  rw [← hx]
  clear hx hxs e
  go_enter Tryd.func10, Tryd.ntmps10
  go_wp2
  have hB : Blk ((w.alloc (.cells zero9 29)).alloc (.cells #[.int .i64 12, .int .i64 0] 32)) w.heap.size 29 zero9 := (Blk.new w 29 zero9).alloc _
  have hC : Blk ((w.alloc (.cells zero9 29)).alloc (.cells #[.int .i64 12, .int .i64 0] 32)) (w.heap.size + 1) 32 #[.int .i64 12, .int .i64 0] := Blk.new_at _ _ (by simp) 32 _
  exact ret_two rfl rfl rfl rfl hB hC ⟨rfl, ((Below.refl _ _).alloc (Nat.le_refl _) _).alloc (by simp) _⟩

theorem rd_start (w : World) (s : List UInt8) (hT : TabsAt n₀ w) (hn : n₀ ≤ w.heap.size) (hl : s.length ≤ 256) :
    Rd n₀ ((Lib.bytesWorld w 5 ⟨s.toArray⟩).heap.size) w.heap.size (grownCap w s.length 0 5) s ((Lib.bytesWorld w 5 ⟨s.toArray⟩).alloc (.cells #[.slice (some ⟨w.heap.size, 0, none⟩) s.length (grownCap w s.length 0 5), .int .i64 0, .int .i64 0, .int .i64 0, .slice none 0 0, .int .i64 0, .int .i64 0] 51)) { pos := 0, t := s, g := 0, bk := [] } 0 0 0 (.slice none 0 0) := by
  have hsz := Lib.bytesWorld_size w 5 ⟨s.toArray⟩
  have hnew := Lib.bytesWorld_at_new w 5 ⟨s.toArray⟩
  have hb := conv_below w ⟨s.toArray⟩
  have hal : ∀ i, i < (Lib.bytesWorld w 5 ⟨s.toArray⟩).heap.size → ((Lib.bytesWorld w 5 ⟨s.toArray⟩).alloc (.cells #[.slice (some ⟨w.heap.size, 0, none⟩) s.length (grownCap w s.length 0 5), .int .i64 0, .int .i64 0, .int .i64 0, .slice none 0 0, .int .i64 0, .int .i64 0] 51)).heap[i]? = (Lib.bytesWorld w 5 ⟨s.toArray⟩).heap[i]? := fun i hi => Below.heap_alloc _ _ i hi
  refine ⟨Blk.new _ _ _, fun j hj => ?_, ⟨_, _, (hal _ (by omega)).trans hnew⟩, ⟨grownCap_ge _ _, hl⟩, World.ownsRow_nil _ _ _ _, Nat.zero_le _, rfl, ⟨by omega, by simp, by simp⟩, by rw [hsz]; omega, ?_⟩
  · rw [cell_same (hal _ (by omega)) _]
    have := Lib.bytesWorld_cell w 5 ⟨s.toArray⟩ j (by simpa [ByteArray.size] using hj)
    rw [Nat.zero_add, this]
    simp [at_, List.getD_eq_getElem?_getD]
  · exact hT.below ((hb.mono hn).alloc (by omega) _)

def st2 (w : World) (g : Nat) (c0 c1 : Value) : World := (w.setCell ⟨g, 0, none⟩ c0).setCell ⟨g, 1, none⟩ c1
theorem st2_heap {g : Nat} {c0 c1 : Value} {i : Nat} (h : i ≠ g) : (st2 w g c0 c1).heap[i]? = w.heap[i]? := by
  unfold st2
  rw [Below.heap_setCell _ _ _ _ h, Below.heap_setCell _ _ _ _ h]
theorem st2_size {g : Nat} {c0 c1 : Value} : (st2 w g c0 c1).heap.size = w.heap.size := by simp [st2, World.setCell]
theorem st2_blk {g : Nat} {t : TypeId} {x0 x1 c0 c1 : Value} (h : Blk w g t #[x0, x1]) : Blk (st2 w g c0 c1) g t #[c0, c1] := by
  have := (h.set_ 0 c0).set_ 1 c1
  simpa [st2] using this
theorem st2_below {a : World} {B g : Nat} {c0 c1 : Value} (h : Below B a w) (hg : B ≤ g) : Below B a (st2 w g c0 c1) :=
  (h.setCell hg _).setCell hg _
theorem st9_below {a : World} {B g : Nat} {c0 c1 c2 c3 c4 c5 c6 c7 c8 : Value} (h : Below B a w) (hg : B ≤ g) : Below B a (st9 w g c0 c1 c2 c3 c4 c5 c6 c7 c8) :=
  (((((((((h.setCell hg _).setCell hg _).setCell hg _).setCell hg _).setCell hg _).setCell hg _).setCell hg _).setCell hg _).setCell hg _)

theorem node_two {a : World} {nd : Nd} {sv kv : Value} {g g' : Nat} {cs cs' : Array Value} {c0 c1 c2 c3 c4 c5 c6 c7 c8 d0 d1 : Value} (h : NodeV (KB n₀ rb a w) w nd sv kv) (hg : Blk w g 29 cs) (hh : Blk w g' 32 cs') (ha : g < a.heap.size) (hb : g' < a.heap.size) :
    NodeV (fun b => b < (st2 (st9 w g c0 c1 c2 c3 c4 c5 c6 c7 c8) g' d0 d1).heap.size) (st2 (st9 w g c0 c1 c2 c3 c4 c5 c6 c7 c8) g' d0 d1) nd sv kv :=
  h.keep fun b hk => by
    have hne : b ≠ g := by
      rcases hk.2 with h1 | ⟨_, _, h1⟩
      · omega
      · exact ne_of_types h1 hg (by decide)
    have hne' : b ≠ g' := by
      rcases hk.2 with h1 | ⟨_, _, h1⟩
      · omega
      · exact ne_of_types h1 hh (by decide)
    exact ⟨by rw [st2_size, st9_size]; exact hk.1.1, (st2_heap hne').trans (st9_heap hne)⟩

set_option maxRecDepth 100000 in
set_option maxHeartbeats 2000000 in
theorem parse_short (N : Nat) (hN : 1026 ≤ N) (h : ¬ 256 < s.length) (hT : TabsAt w.heap.size w) : Calls Tryd.prog 10 #[.string ⟨s.toArray⟩] w (ParsePost w (parse N s)) := by
  rw [parse_pat N s h]
  have hb1 : Below w.heap.size w ((w.alloc (.cells zero9 29)).alloc (.cells zero2 32)) := ((Below.refl _ _).alloc (Nat.le_refl _) _).alloc (by simp) _
  have HRd := Lib.hid (rd_start (n₀ := w.heap.size) ((w.alloc (.cells zero9 29)).alloc (.cells zero2 32)) s (hT.below hb1) (by simp; omega) (by omega))
  have HB := Lib.hid (((Blk.new w 29 zero9).alloc (.cells zero2 32)).on (conv_below _ ⟨s.toArray⟩))
  have HC := Lib.hid ((Blk.new_at (w.alloc (.cells zero9 29)) (w.heap.size + 1) (by simp) 32 zero2).on (conv_below _ ⟨s.toArray⟩))
  have hb2 := hb1.trans ((conv_below ((w.alloc (.cells zero9 29)).alloc (.cells zero2 32)) ⟨s.toArray⟩).mono hb1.size)
  have HP := Lib.hid (fun rb tb cap W (hW : Rd w.heap.size rb tb cap s W { pos := 0, t := s, g := 0, bk := [] } 0 0 0 (.slice none 0 0)) => pattern_any N (by omega) rfl hW)
  obtain ⟨r, hr⟩ : ∃ r, r = patClose (foldAt s) (run N 0 0 [] (begins s)) := ⟨_, rfl⟩
  rw [← hr] at HP ⊢
  obtain ⟨x, hx⟩ : ∃ x : ByteArray, x = ⟨s.toArray⟩ := ⟨_, rfl⟩
  have hxs : s.length = x.size := by rw [hx]; rfl
  rw [← hx] at HRd HB HC hb2 ⊢
  rw [hxs] at HRd h
  have h1' : ¬ (256 : Int) < (x.size : Int) := by omega
  have kc := conv_run
  have hsz := Lib.bytesWorld_size ((w.alloc (.cells zero9 29)).alloc (.cells zero2 32)) 5 x
  clear hr hx hT hb1
  go_enter Tryd.func10, Tryd.ntmps10
  go_upto_region 4 with (fail)
  unfold zero9 zero2 at HRd HB HC hb2 hsz
  have hs2 : ((w.alloc (.cells #[.int .i64 0, .int .i64 0, .int .i64 0, .int .i64 0, .int .i64 0, .slice none 0 0, .slice none 0 0, .int .i64 0, .bool false] 29)).alloc (.cells #[.int .i64 0, .int .i64 0] 32)).heap.size = w.heap.size + 1 + 1 := by simp
  rw [hs2] at HRd hsz
  have hB0 := HB.out
  have hC0 := HC.out
  generalize ((w.alloc (.cells #[.int .i64 0, .int .i64 0, .int .i64 0, .int .i64 0, .int .i64 0, .slice none 0 0, .slice none 0 0, .int .i64 0, .bool false] 29)).alloc (.cells #[.int .i64 0, .int .i64 0] 32)) = w1 at *
  obtain ⟨W, hW⟩ : ∃ W, W = (Lib.bytesWorld w1 5 x).alloc (.cells #[.slice (some ⟨w.heap.size + 1 + 1, 0, none⟩) x.size (grownCap w1 x.size 0 5), .int .i64 0, .int .i64 0, .int .i64 0, .slice none 0 0, .int .i64 0, .int .i64 0] 51) := ⟨_, rfl⟩
  have hBW : Blk W w.heap.size 29 #[.int .i64 0, .int .i64 0, .int .i64 0, .int .i64 0, .int .i64 0, .slice none 0 0, .slice none 0 0, .int .i64 0, .bool false] := by rw [hW]; exact hB0.alloc _
  have hCW : Blk W (w.heap.size + 1) 32 #[.int .i64 0, .int .i64 0] := by rw [hW]; exact hC0.alloc _
  have hbW : Below w.heap.size w W := by rw [hW]; exact hb2.alloc hb2.size _
  rw [← hW] at HRd ⊢
  generalize (Lib.bytesWorld w1 5 x).heap.size = rb at HRd ⊢
  generalize grownCap w1 x.size 0 5 = cap at HRd ⊢
  have hg1 : w.heap.size ≠ w.heap.size + 1 := by omega
  clear hW hB0 hC0 HB HC hb2 hsz hs2 h1' kc
  go_wp2_with fail
  refine (HP.out _ _ _ _ HRd.out).mono ?_
  rintro e w2 hP2
  have hlow := HRd.out.low
  cases r with
  | error f =>
    obtain ⟨rfl, hB, hF2⟩ := hP2
    unfold zero9
    have HB3 := Lib.hid ((hF2.blk HRd.out hBW (by decide) (by decide)).alloc (.cells #[.int .i64 0, .int .i64 0, .int .i64 0, .int .i64 0, .int .i64 0, .slice none 0 0, .slice none 0 0, .int .i64 0, .bool false] 29))
    have HC3 := Lib.hid ((hF2.blk HRd.out hCW (by decide) (by decide)).alloc (.cells #[.int .i64 0, .int .i64 0, .int .i64 0, .int .i64 0, .int .i64 0, .slice none 0 0, .slice none 0 0, .int .i64 0, .bool false] 29))
    have hbF : Below w.heap.size w w2 := hbW.trans (hF2.old (Nat.le_trans (by simp) hbW.size))
    have HF3 := Lib.hid (hbF.alloc hbF.size (.cells #[.int .i64 0, .int .i64 0, .int .i64 0, .int .i64 0, .int .i64 0, .slice none 0 0, .slice none 0 0, .int .i64 0, .bool false] 29))
    have hBad := hB.alloc (.cells #[.int .i64 0, .int .i64 0, .int .i64 0, .int .i64 0, .int .i64 0, .slice none 0 0, .slice none 0 0, .int .i64 0, .bool false] 29)
    have hr1 : rb ≠ w.heap.size := HRd.out.blk.ne_ hBW (by decide)
    have hr2 : rb ≠ w.heap.size + 1 := HRd.out.blk.ne_ hCW (by decide)
    clear HRd hBW hCW hbW hB hF2 HP hbF
    go_upto_region 6 with (fail)
    generalize w2.alloc (.cells #[.int .i64 0, .int .i64 0, .int .i64 0, .int .i64 0, .int .i64 0, .slice none 0 0, .slice none 0 0, .int .i64 0, .bool false] 29) = w3 at *
    refine wp_region_held_drew (S := fun W => Bad W rb f) (by kernel_rfl) hBad (fun hHeld => ?_)
    have hB4 : Blk w3.drew w.heap.size 29 #[.int .i64 0, .int .i64 0, .int .i64 0, .int .i64 0, .int .i64 0, .slice none 0 0, .slice none 0 0, .int .i64 0, .bool false] := HB3.out
    have hC4 : Blk w3.drew (w.heap.size + 1) 32 #[.int .i64 0, .int .i64 0] := HC3.out
    have hF4 : Below w.heap.size w w3.drew := HF3.out.drew
    have hBad4 : Bad w3.drew rb f := hBad
    clear HB3 HC3 HF3 hBad
    generalize w3.drew = W4 at *
    have HB4 := Lib.hid hB4
    have HC4 := Lib.hid hC4
    have HF4 := Lib.hid hF4
    have HBad4 := Lib.hid hBad4
    clear hB4 hC4 hF4 hBad4
    refine take_d 0 21 (.agg #[.int .i64 0, .int .i64 0, .int .i64 0, .int .i64 0, .int .i64 0, .slice none 0 0, .slice none 0 0, .int .i64 0, .bool false]) _ rfl rfl (by kernel_rfl) (by kernel_rfl) (by kernel_rfl) (fun _ _ _ h => h) (Or.inl ⟨by rfl, fun w' hSw => ?_⟩) hHeld ?_
    · go_simp
    simp only [List.setIfInBounds_toArray, List.set_cons_zero, List.set_cons_succ]
    refine take_d 1 22 (.pointer (some ⟨rb, 5, none⟩)) _ rfl rfl (by kernel_rfl) (by kernel_rfl) (by kernel_rfl) (fun _ _ _ h => h) (Or.inl ⟨by rfl, fun w' hSw => ?_⟩) hHeld ?_
    · go_simp
    simp only [List.setIfInBounds_toArray, List.set_cons_zero, List.set_cons_succ]
    refine take_d 2 23 (.agg #[.int .i64 (f.1 : Nat), .int .i64 (f.2 : Nat)]) _ rfl rfl (by kernel_rfl) (by kernel_rfl) (by kernel_rfl) (fun _ _ _ h => h) (Or.inl ⟨by rfl, fun w' hSw => ?_⟩) hHeld ?_
    · have hS5 := hSw.1
      have hS6 := hSw.2
      clear hSw
      go_simp
    simp only [List.setIfInBounds_toArray, List.set_cons_zero, List.set_cons_succ]
    have hz := HB4.out.nine
    have hfz := HB4.out.frozen
    refine wpAnyH_ready (rs := [3]) (by kernel_rfl) (by simp) ?_
    refine AllReadyH.cons rfl (fun K hK => ?_) AllReadyH.nil
    go_simp
    refine hK.out _ _ (HBad4.out.st9 hr1) (fun hHeld => ?_)
    clear hK K
    have HB5 : Hid (Blk (st9 W4 w.heap.size (.int .i64 0) (.int .i64 0) (.int .i64 0) (.int .i64 0) (.int .i64 0) (.slice none 0 0) (.slice none 0 0) (.int .i64 0) (.bool false)) w.heap.size 29 _) := Lib.hid (st9_blk HB4.out)
    have hC5 : Blk (st9 W4 w.heap.size (.int .i64 0) (.int .i64 0) (.int .i64 0) (.int .i64 0) (.int .i64 0) (.slice none 0 0) (.slice none 0 0) (.int .i64 0) (.bool false)) (w.heap.size + 1) 32 #[.int .i64 0, .int .i64 0] := HC4.out.st9 hg1.symm
    have HF5 : Hid (Below w.heap.size w (st9 W4 w.heap.size (.int .i64 0) (.int .i64 0) (.int .i64 0) (.int .i64 0) (.int .i64 0) (.slice none 0 0) (.slice none 0 0) (.int .i64 0) (.bool false))) := Lib.hid (st9_below HF4.out (Nat.le_refl _))
    clear hz hfz HB4 HC4 HF4
    obtain ⟨W5, hW5⟩ : ∃ W5, W5 = st9 W4 w.heap.size (.int .i64 0) (.int .i64 0) (.int .i64 0) (.int .i64 0) (.int .i64 0) (.slice none 0 0) (.slice none 0 0) (.int .i64 0) (.bool false) := ⟨_, rfl⟩
    have hHeld5 : Bad W5 rb f := by rw [hW5]; exact HBad4.out.st9 hr1
    rw [← hW5] at HB5 hC5 HF5
    unfold st9 st7 at hW5
    rw [← hW5]
    have HBad5 := Lib.hid hHeld5
    clear hHeld hHeld5 hW5 HBad4
    have hHeld := HBad5.out
    have HC5 := Lib.hid hC5
    have hz0 := hC5.cell 0
    have hz1 := hC5.cell 1
    simp at hz0 hz1
    have hfz := hC5.frozen
    clear hC5
    have hr2' : rb ≠ w.heap.size + 1 := hr2
    refine wpAnyH_ready (rs := [4]) (by kernel_rfl) (by simp) ?_
    refine AllReadyH.cons rfl (fun K hK => ?_) AllReadyH.nil
    go_simp
    refine hK.out _ _ (HBad5.out.keep (st2_heap hr2')) (fun hHeld => ?_)
    clear hK K
    refine wpAnyH_done (by kernel_rfl) ?_ _
    clear hHeld hz0 hz1 hfz
    go_wp2
    exact ret_two rfl rfl rfl rfl ((st2_heap hg1).trans HB5.out) (st2_blk HC5.out) ⟨rfl, st2_below HF5.out (by omega)⟩
  | ok y =>
    obtain ⟨nd, g, fo⟩ := y
    obtain ⟨A1, A2, p1, p2, rfl, hNd, hF2⟩ := hP2
    simp only at hNd
    obtain ⟨nk, hnk⟩ : ∃ nk : Array Value, nk = #[.int .i64 nd.kind, .int .i64 nd.lo, .int .i64 nd.hi, .int .i64 nd.mode, .int .i64 nd.ref, .slice A1 nd.set.length p1, .slice A2 nd.kids.length p2, .int .i64 (g : Nat), .bool fo] := ⟨_, rfl⟩
    have HB3 := Lib.hid ((hF2.blk HRd.out hBW (by decide) (by decide)).alloc (.cells nk 29))
    have HC3 := Lib.hid ((hF2.blk HRd.out hCW (by decide) (by decide)).alloc (.cells nk 29))
    have hbF : Below w.heap.size w w2 := hbW.trans (hF2.old (Nat.le_trans (by simp) hbW.size))
    have HF3 := Lib.hid (hbF.alloc hbF.size (.cells nk 29))
    have HN3 := Lib.hid (hNd.fr ((Fr.refl w2).alloc (.cells nk 29)))
    have HK3 := Lib.hid (Blk.new w2 29 nk)
    have hsl : w.heap.size + 1 < W.heap.size := hCW.lt
    have hk1 : w2.heap.size ≠ w.heap.size := by have := hF2.size; omega
    have hk2 : w2.heap.size ≠ w.heap.size + 1 := by have := hF2.size; omega
    clear HRd hBW hCW hbW hNd hF2 HP hbF
    subst hnk
    go_upto_region 7 with (fail)
    generalize w2.alloc (.cells #[.int .i64 nd.kind, .int .i64 nd.lo, .int .i64 nd.hi, .int .i64 nd.mode, .int .i64 nd.ref, .slice A1 nd.set.length p1, .slice A2 nd.kids.length p2, .int .i64 (g : Nat), .bool fo] 29) = W3 at *
    have hk := HK3.out.nine
    have hb := HB3.out.nine
    have hfb := HB3.out.frozen
    have hc0 := HC3.out.cell 0
    have hc1 := HC3.out.cell 1
    simp at hc0 hc1
    have hfc := HC3.out.frozen
    go_wp2
    clear hk hb hfb hc0 hc1 hfc
    refine ret_two rfl rfl rfl rfl ((st2_heap hg1).trans (st9_blk HB3.out)) (st2_blk (HC3.out.st9 hg1.symm)) ?_
    exact ⟨A1, A2, p1, p2, rfl, node_two HN3.out HB3.out HC3.out (by omega) (by omega), st2_below (st9_below HF3.out (Nat.le_refl _)) (by omega)⟩

/-- Parse, of any text. -/
theorem parse_any (N : Nat) (hN : 1026 ≤ N) (hl : s.length ≤ 1000000) (hT : TabsAt w.heap.size w) : Calls Tryd.prog 10 #[.string ⟨s.toArray⟩] w (ParsePost w (parse N s)) := by
  by_cases h : 256 < s.length
  · exact parse_long N h hl
  · exact parse_short N hN h hT

end Go.Proofs.YthipgidddgdojaaDoor
