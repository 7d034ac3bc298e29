/- unit.all and unit.Split: the iterator's contract, and the loop that collects what it yields. -/
import Derived.RangeFuncBox
import Derived.RangeFuncLeaves
import Derived.Shelf.Abstract
import Derived.WalkKit
import Derived.OwnWalkIn
import Derived.TacticsInMore
import Derived.LoopNIn
import Derived.LoopIn
import Derived.Maps.AppendAt
import Derived.Outline
import Derived.Test.YtphpcdnefjbopaaDoorNext
namespace Go.Proofs.YtphpcdnefjbopaaDoor
open Go.RowKit Go.Shelf

attribute [local go_sem] Oper.semAt_some

theorem txt_below {n₀ b off : Nat} {s : List UInt8} {w w' : World} (h : Txt w b off s) (hb : b < n₀) (hB : Below n₀ w w') : Txt w' b off s :=
  fun j hj => (hB.cell (p := ⟨b, off + j, none⟩) hb).trans (h j hj)
theorem grown_of_below {a w : World} (h : Below a.heap.size a w) (row : Option Nat) : a.grownBy w row := ⟨h.os, h.tape, h.output, h.size, fun i hi _ => h.block i hi⟩

/-- The tables lie below a number of blocks. -/
def TabsAt (n₀ : Nat) (w : World) : Prop := 1 < n₀ ∧ Lib.Utf8Tabs 0 1 w
theorem TabsAt.below {n₀ : Nat} {w w' : World} (h : TabsAt n₀ w) (hB : Below n₀ w w') : TabsAt n₀ w' :=
  ⟨h.1, fun c hc => (hB.cell (p := ⟨0, c, none⟩) (show 0 < n₀ by have := h.1; omega)).trans (h.2.1 c hc),
   fun i hi => ⟨(hB.cell (p := ⟨1, 2 * i, none⟩) h.1).trans (h.2.2 i hi).1, (hB.cell (p := ⟨1, 2 * i + 1, none⟩) h.1).trans (h.2.2 i hi).2⟩⟩

/-- What a round of the loop keeps: all below n₀, and the box of the bytes. -/
def Kp (n₀ Bs : Nat) (sv : Value) (W W' : World) : Prop := Below n₀ W W' ∧ (Boxed W Bs 22 sv → Boxed W' Bs 22 sv)
theorem Kp.t {n₀ Bs : Nat} {sv : Value} {A B C : World} (h : Kp n₀ Bs sv A B) (k : Kp n₀ Bs sv B C) : Kp n₀ Bs sv A C := ⟨h.1.trans k.1, fun x => k.2 (h.2 x)⟩
theorem Kp.b {n₀ Bs : Nat} {sv : Value} {w : World} (hn : n₀ ≤ w.heap.size) (W : World) (l : Nat) (o o' : Obj) (hl : w.heap.size ≤ l) (h : W.heap[l]? = some o) (h1 : o.isCells = false) (h2 : o.isWalk = false) : Kp n₀ Bs sv W (W.putObj l o') :=
  ⟨belowK_b hn W l o o' hl h h1 h2, fun hx => hx.kept (grownBy_putObj' W l o') (fun e => by
    cases e
    rw [show W.heap[Bs]? = _ from hx] at h
    cases h
    cases h1)⟩

set_option maxRecDepth 100000 in
set_option maxHeartbeats 2000000 in
theorem all1_in (n : Nat) (hn : 2 ≤ n) (l Bs n₀ b off len cap : Nat) (s : List UInt8) (hlen : s.length = len) (hcap : len ≤ cap) (hmax : len ≤ 140737488351232) (hb : b < n₀) (J Jx : List Nat → World → Prop)
    (W : World) (hn₀ : n₀ ≤ W.heap.size) (hJ : AbidesFrom W.heap.size J)
    (hY : ∀ pre x W, J pre W → pre.length < len → YieldAt Fence.wide (n - 1) Tryd.prog l #[.int .i64 (x : Nat)] W fun e W' =>
      (e = .returned (.bool true) ∧ J (pre ++ [x]) W' ∧ Kp n₀ Bs (.slice (some ⟨b, off, none⟩) len cap) W W') ∨ (e = .returned (.bool false) ∧ Jx (pre ++ [x]) W'))
    (hBs : Boxed W Bs 22 (.slice (some ⟨b, off, none⟩) len cap)) (hT : TabsAt n₀ W) (hc : Txt W b off s) (h0 : J [] W) :
    CallsIn Fence.wide n Tryd.prog 27 #[.func (.yield l) #[] #[], .pointer (some ⟨Bs, 0, none⟩)] W fun e W' => (∃ v, e = .returned v) ∧
      ((∃ ys, ys = un s ∧ J ys W') ∨ (∃ pre, pre <+: un s ∧ Jx pre W')) := by
  refine callsIn_of_wp Tryd.func27 rfl trivial ?_ rfl
  simp only [Tryd.ntmps27, List.size_toArray, List.length_cons, List.length_nil, Nat.reduceAdd, Nat.reduceSub, Array.replicate_succ, Array.replicate_zero, List.push_toArray, List.append_toArray, List.nil_append, List.cons_append]
  gi_wp2
  gi_loopw [3] (fun i wr => ∃ (k : Nat) (pre : List Nat), k ≤ len ∧ i = .int .i64 k ∧ un s = pre ++ un (s.drop k) ∧ J pre wr ∧ Below n₀ W wr ∧ Boxed wr Bs 22 (.slice (some ⟨b, off, none⟩) len cap) ∧ W.heap.size ≤ wr.heap.size)
    (fun i _ => len - (intOf i).toNat)
  case atStart => exact ⟨0, [], Nat.zero_le _, rfl, by simp, h0, Below.refl _ _, hBs, Nat.le_refl _⟩
  case round =>
    obtain ⟨k, pre, hk, rfl, hpre, hJs, hnx, hbx, hsz⟩ := hrel
    have hbc := hbx.cell
    by_cases hlt : k < len
    · have hTr := hT.below hnx
      have hcr := txt_below hc hb hnx
      have hne : s.drop k ≠ [] := fun e => by have := congrArg List.length e; rw [List.length_drop, List.length_nil] at this; omega
      have hstep := un_step (s.drop k) hne
      have hz := nx_le (s.drop k) hne
      rw [List.length_drop] at hz
      have hnext := next_in s b off cap len k hlen.symm hlt hcap wr hTr.2 hcr
      obtain ⟨u, z, huz⟩ : ∃ u z, nx (s.drop k) = (u, z) := ⟨_, _, rfl⟩
      rw [huz] at hnext hstep hz
      simp only at hnext hstep hz
      rw [List.drop_drop] at hstep
      rw [hstep] at hpre
      have hpl : pre.length < len := by
        have h1 := un_len s
        have h2 := congrArg List.length hpre
        rw [List.length_append, List.length_cons] at h2
        omega
      obtain ⟨hz1, hz4, hzl⟩ := hz
      have hzl' : z ≤ len - k := by omega
      have HN := Lib.hid hnext
      have HP := Lib.hid hpre
      have HL := Lib.hid hlen
      clear hnext hpre hlen hTr hcr hstep huz hne hzl
      gi_wp2_with fail
      refine ⟨trivial, fun _ => by omega, (callsIn_wide.2 HN.out).mono ?_⟩
      rintro e w1 ⟨rfl, hB1⟩
      have hJ1 : J pre w1 := hJ pre wr w1 none hJs (grown_of_below hB1 none) (fun _ e => by cases e)
      have hbx1 : Boxed w1 Bs 22 (.slice (some ⟨b, off, none⟩) len cap) := hbx.kept (grown_of_below hB1 none) (by simp)
      have hnx1 : Below n₀ W w1 := hnx.trans (hB1.mono (by omega))
      obtain ⟨fn, tmps, assign, body, hy, hR⟩ := hY pre u w1 hJ1 hpl
      have hsz1 : W.heap.size ≤ w1.heap.size := Nat.le_trans hsz hB1.size
      clear hbc hJs hnx hbx hsz hB1
      gi_wp2
      refine ⟨fun _ => by omega, hR.mono ?_⟩
      rintro e W3 (⟨rfl, hJ3, hk3⟩ | ⟨rfl, hJx3⟩)
      · gi_wp2
        go_roundw
        case rel => exact ⟨k + z, pre ++ [u], by omega, by go_num, by rw [HP.out]; simp, hJ3, hnx1.trans hk3.1, hk3.2 hbx1, Nat.le_trans hsz1 hk3.1.size⟩
        case measure => simp [intOf]; omega
      · gi_wp2
        refine bodyPost_ret (results_none rfl _ _ _) rfl ?_
        exact ⟨⟨_, rfl⟩, .inr ⟨pre ++ [u], ⟨un (s.drop (k + z)), by rw [HP.out]; simp⟩, hJx3⟩⟩
    · obtain rfl : k = len := by omega
      have HP := Lib.hid hpre
      have HL := Lib.hid hlen
      clear hpre hlen
      gi_wp2
      go_end0
      exact ⟨⟨_, rfl⟩, .inl ⟨pre, by rw [HP.out, ← HL.out, List.drop_length, un_nil, List.append_nil], hJs⟩⟩

set_option maxRecDepth 100000 in
set_option maxHeartbeats 1000000 in
/-- .. of a text of no bytes: no round. -/
theorem all1_nil (n l Bs cap : Nat) (A : Option Addr) (J : List Nat → World → Prop) (W : World) (hBs : Boxed W Bs 22 (.slice A 0 cap)) (h0 : J [] W) :
    CallsIn Fence.wide n Tryd.prog 27 #[.func (.yield l) #[] #[], .pointer (some ⟨Bs, 0, none⟩)] W fun e W' => (∃ v, e = .returned v) ∧ J [] W' := by
  have hbc := hBs.cell
  refine callsIn_of_wp Tryd.func27 rfl trivial ?_ rfl
  simp only [Tryd.ntmps27, List.size_toArray, List.length_cons, List.length_nil, Nat.reduceAdd, Nat.reduceSub, Array.replicate_succ, Array.replicate_zero, List.push_toArray, List.append_toArray, List.nil_append, List.cons_append]
  gi_wp2
  gi_loopw [3] (fun i wr => i = .int .i64 0 ∧ wr = W) (fun _ _ => 0)
  case atStart => exact ⟨rfl, rfl⟩
  case round =>
    obtain ⟨rfl, rfl⟩ := hrel
    gi_wp2
    go_end0
    exact ⟨⟨_, rfl⟩, h0⟩

set_option maxHeartbeats 1000000 in
theorem all_in (n : Nat) (A : Option Addr) (len cap : Nat) (w : World) :
    CallsIn Fence.wide n Tryd.prog 23 #[.slice A len cap] w fun e w' => e = .returned (.func (.func 27) #[] #[.pointer (some ⟨w.heap.size, 0, none⟩)]) ∧ w' = w.alloc (.cells #[.slice A len cap] 22) := by
  refine callsIn_of_wp Tryd.func23 rfl trivial ?_ rfl
  simp only [Tryd.ntmps23, List.size_toArray, List.length_cons, List.length_nil, Nat.reduceAdd, Nat.reduceSub, Array.replicate_succ, Array.replicate_zero, List.push_toArray, List.append_toArray, List.nil_append, List.cons_append]
  gi_wp2
  go_ret
  exact ⟨rfl, rfl⟩

/-- A slice value that reads as a text; below n₀; a text of no bytes may lie anywhere. -/
def Bytes (n₀ : Nat) (w : World) (v : Value) (s : List UInt8) : Prop :=
  ∃ A cap, v = .slice A s.length cap ∧ s.length ≤ cap ∧ (s ≠ [] → ∃ b off, A = some ⟨b, off, none⟩ ∧ b < n₀ ∧ Txt w b off s)
theorem Bytes.below {n₀ : Nat} {w w' : World} {v : Value} {s : List UInt8} (h : Bytes n₀ w v s) (hB : Below n₀ w w') : Bytes n₀ w' v s := by
  obtain ⟨A, cap, hv, hc, h⟩ := h
  exact ⟨A, cap, hv, hc, fun hs => by
    obtain ⟨b, off, hA, hb, ht⟩ := h hs
    exact ⟨b, off, hA, hb, txt_below ht hb hB⟩⟩
theorem Bytes.more {n₀ n₁ : Nat} {w : World} {v : Value} {s : List UInt8} (h : Bytes n₀ w v s) (hn : n₀ ≤ n₁) : Bytes n₁ w v s := by
  obtain ⟨A, cap, hv, hc, h⟩ := h
  exact ⟨A, cap, hv, hc, fun hs => by
    obtain ⟨b, off, hA, hb, ht⟩ := h hs
    exact ⟨b, off, hA, by omega, ht⟩⟩

theorem all_stops (n : Nat) (hn : 2 ≤ n) (Bs n₀ : Nat) (A : Option Addr) (cap : Nat) (s : List UInt8) (hmax : s.length ≤ 140737488351232) (w : World) (hn₀ : n₀ ≤ w.heap.size)
    (hc : Boxed w Bs 22 (.slice A s.length cap)) (hT : TabsAt n₀ w) (hI : Bytes n₀ w (.slice A s.length cap) s) :
    SeqStopsK Fence.wide n Tryd.prog 27 #[.pointer (some ⟨Bs, 0, none⟩)] (fun x : Nat => #[Value.int .i64 (x : Nat)]) (Kp n₀ Bs (.slice A s.length cap)) (fun ys => ys = un s) (fun pre => pre <+: un s) s.length w := fun l J Jx W hW hJ _ hY h0 => by
  have hc' : Boxed W Bs 22 (.slice A s.length cap) := hc.kept (grown_of_below hW none) (by simp)
  obtain ⟨A', cap', hv, hcap, hI⟩ := hI
  obtain ⟨rfl, rfl⟩ : A = A' ∧ cap = cap' := by simpa using hv
  by_cases hs : s = []
  · subst hs
    exact (all1_nil n l Bs cap A J W hc' h0).mono fun e W' ⟨he, hj⟩ => ⟨he, .inl ⟨_, un_nil.symm, hj⟩⟩
  · obtain ⟨b, off, rfl, hb, ht⟩ := hI hs
    exact all1_in n hn l Bs n₀ b off s.length cap s rfl hcap hmax hb J Jx W (Nat.le_trans hn₀ hW.size) hJ hY hc' (hT.below (hW.mono hn₀)) (txt_below ht hb (hW.mono hn₀)) h0

theorem info3 : (Tryd.prog.info? 3).map (fun i => (i.zero, i.size, i.bytes)) = some (some (.int .i64 0), 1, 8) := by kernel_rfl

def ints (l : List Nat) : List Value := l.map fun n => Value.int .i64 ((n : Nat) : Int)
theorem ints_snoc (l : List Nat) (n : Nat) : ints (l ++ [n]) = ints l ++ [.int .i64 ((n : Nat) : Int)] := by simp [ints]

set_option maxRecDepth 100000 in
set_option maxHeartbeats 2000000 in
/-- unit.Split of a text: a row of the call's own that holds its units. -/
theorem split_any (A : Option Addr) (cap : Nat) (s : List UInt8) (hmax : s.length ≤ 1000000) (w : World) (hT : TabsAt w.heap.size w) (hI : Bytes w.heap.size w (.slice A s.length cap) s) :
    Calls Tryd.prog 13 #[.slice A s.length cap] w fun e W' => ∃ v, e = .returned v ∧ W'.ownsRow w.heap.size 3 1 v (un s).length (ints (un s)) ∧ Below w.heap.size w W' := by
  refine (callsIn_wide (n := 5)).1 ?_
  obtain ⟨i0, hi, hz0, hz1, hz2⟩ := info_parts info3
  refine callsIn_of_wp_marks Tryd.func13 rfl trivial ?_ rfl
  simp only [Tryd.ntmps13, List.size_toArray, List.length_cons, List.length_nil, Nat.reduceAdd, Nat.reduceSub, Array.replicate_succ, Array.replicate_zero, List.push_toArray, List.append_toArray, List.nil_append, List.cons_append]
  have hul := un_len s
  gi_wp2_with fail
  refine ⟨trivial, (all_in _ _ _ _ _).mono ?_⟩
  rintro e w' ⟨rfl, rfl⟩
  gi_wp2_with fail
  have bO := Boxed.new w 27 (.slice none 0 0)
  have bN := Boxed.new (w.alloc (.cells #[.slice none 0 0] 27)) 22 (.slice A s.length cap)
  rw [World.size_alloc] at bN
  have hB0 : Below w.heap.size w ((w.alloc (.cells #[.slice none 0 0] 27)).alloc (.cells #[.slice A s.length cap] 22)) := ((Below.refl _ w).alloc (Nat.le_refl _) _).alloc (by simp) _
  refine wpIn_rangeFunc_ownG rfl (by omega) (gf := 27) (lb := #[.pointer (some ⟨w.heap.size + 1, 0, none⟩)]) rfl trivial (enters_of Tryd.func27 (by kernel_rfl) rfl)
    (all_stops _ (by omega) (w.heap.size + 1) w.heap.size A cap s (by omega) _ (by simp; omega) bN (hT.below hB0) (hI.below hB0)) Kp.t (Kp.b (by simp; omega)) (Below.refl _ _) (fun _ => rfl)
    (fun pre W => (∃ v, Boxed W w.heap.size 27 v ∧ W.ownsRow w.heap.size 3 1 v pre.length (ints pre) ∧ True) ∧ Below w.heap.size w W)
    (fun _ _ _ => False)
    (OwnFrom.and (Own.from (holdsRow_own w.heap.size w.heap.size 27 3 1 (fun pre : List Nat => pre.length) ints (fun _ _ => True)) _) (ownFrom_below (Nat.le_refl _) (by simp; omega)))
    (fun _ _ _ _ _ hs _ _ => hs)
    ⟨⟨_, bO.alloc _, World.ownsRow_nil _ _ _ _, trivial⟩, hB0⟩
    (fun x => { tmps := #[.slice A s.length cap, undef, .slice none 0 0, .pointer (some ⟨w.heap.size, 0, none⟩), .int .i64 (x : Nat), .slice A s.length cap, .func (.func 27) #[] #[.pointer (some ⟨w.heap.size + 1, 0, none⟩)], .int .i64 (x : Nat), undef, undef, undef, undef, undef], defers := [] }) ?assign ?body ?done ?stop
  case assign =>
    intro l x W K hK
    gi_wp2
    exact hK
  case body =>
    rintro l pre x W ⟨⟨v, hv, hrow, _⟩, hB⟩ hlt
    have hc := hv.cell
    gi_wp2_with (gi_at_builtin; refine wpListIn_append_own _ rfl _ _ 27 rfl w.heap.size 3 i0 (.int .i64 0) 1 8 Tryd.underlying27 hi hz0 hz1 hz2 rfl (by decide) _ _ _ rfl (hrow.alloc _) ⟨W.heap.size, 0, none⟩ 1 1 [.int .i64 (x : Nat)] rfl rfl (cell_one_new _ _ _) (by simp [Value.oneCell']) (by unfold maxLen; omega) (by omega) (by have := hB.size; simp; omega) ?_; intro v' w1 hown' hgrow _; obtain ⟨g', cap', rfl⟩ := ownsRow_succ hown'; obtain ⟨hv1, hv2, hr2, hk2, hb2⟩ := hv.appended (by decide) hrow hB.size (Nat.le_refl _) hown' hgrow; have hc1 := hv1.cell; have hf1 := hv1.frozen)
    have hbs : ∀ sv, Boxed W (w.heap.size + 1) 22 sv → Boxed (w1.setCell ⟨w.heap.size, 0, none⟩ (.slice (some ⟨g', 0, none⟩) (pre.length + 1) cap')) (w.heap.size + 1) 22 sv := fun sv hx =>
      (Boxed.kept (hx.alloc (.cells #[.int .i64 (x : Nat)] 3)) hgrow (hx.not_row (by decide) hrow)).kept (grownBy_setCell' w1 w.heap.size _) (by simp)
    exact ⟨hk2.from _, ⟨hb2, hbs _⟩, ⟨_, hv2, by rw [ints_snoc]; simpa using hr2, trivial⟩, hB.trans hb2⟩
  case done =>
    rintro D ys W hD rfl ⟨⟨v, hv, hrow, _⟩, hB⟩ hK
    have hc := hv.cell
    gi_wp2
    refine ⟨by simp, .inl ⟨_, _, rfl, run_takeDeferred hK, ?_⟩⟩
    exact ⟨_, results_tmp rfl _ _ _, v, rfl, ownsRow_putObj hrow _ hK rfl, hB.trans (belowK_b (w := w) (Nat.le_refl _) W D _ _ (by simp at hD; omega) hK rfl rfl)⟩
  case stop =>
    rintro D c pre W _ _ h _
    exact h.elim

end Go.Proofs.YtphpcdnefjbopaaDoor
