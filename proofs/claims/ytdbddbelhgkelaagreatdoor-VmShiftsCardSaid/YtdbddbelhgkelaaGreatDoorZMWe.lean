/- Joined: VmAa, VmAc, VmSp, VmAd, VmAe. -/
import Derived.Test.YtdbddbelhgkelaaGreatDoorZMWd
import Derived.Test.YtdbddbelhgkelaaGreatDoorZMVm
import Derived.Test.YtdbddbelhgkelaaGreatDoorZGo
import Derived.RangeFuncBox
import Derived.RangeFuncLeaves
import Derived.Shelf.Abstract
import Derived.WalkKit
import Derived.OwnWalkIn
import Derived.TacticsInMore
import Derived.LoopNIn
import Derived.LoopIn
import Derived.Maps.AppendAt
import Derived.Outline
import Derived.Test.YtdbddbelhgkelaaGreatDoorZMUnit
import Derived.Lib.SlBytesConst
/- The machine's laws: what made gives, with what is read of it. -/
namespace Go.Proofs.YtdbddbelhgkelaaGreatDoor
open Go.RowKit
open Go.Proofs.YtdbddbelhgkelaaGreatDoor.Cl (Rg SetV SetAt rgCells info_three hasB)
variable {w w' w0 : World} {n₀ : Nat}

/-- What law 6's made gives of a text. -/
def MadeQ (w : World) (x : ByteArray) (e : Ending) (w' : World) : Prop := Below w.heap.size w w' ∧ ∃ A c, e = .returned (.slice A (prT x).length c) ∧ PgV w.heap.size w' (.slice A (prT x).length c) (prT x)

set_option maxRecDepth 100000 in
set_option maxHeartbeats 1000000 in
theorem made6_any (x : ByteArray) (hl : x.size ≤ 1000000) (hT : TabL w.heap.size w) : Calls Tryz.prog 20 #[.string x] w (MadeQ w x) := by
  have HT := Lib.hid hT
  have HP1 : Hid (∀ W : World, TabsAt W.heap.size W → Calls Tryz.prog 8 #[.string x] W (ParsePost W (parse 1026 x.data.toList))) := Lib.hid (fun W hW => parse_any (s := x.data.toList) 1026 (by omega) (by have : x.data.toList.length = x.size := rfl; omega) hW)
  clear hT
  unfold MadeQ
  go_enter Tryz.func20, Tryz.ntmps20
  go_wp2_with fail
  refine (HP1.out _ HT.out.tabs).mono ?_
  intro e w1 hp
  obtain ⟨A1, B1, p1, q1, rfl, hN, hb1⟩ := hp.uni
  rw [show ndOf (parse 1026 x.data.toList) = ndT x from rfl] at hN ⊢
  rw [show gOf (parse 1026 x.data.toList) = gT x from rfl, show foOf (parse 1026 x.data.toList) = foT x from rfl, show (fOf (parse 1026 x.data.toList)).1 = fcT x from rfl]
  generalize (fOf (parse 1026 x.data.toList)).2 = fp1
  unfold pCells
  have P1 := Lib.hid (put_new w w1 #[.int .i64 (ndT x).kind, .int .i64 (ndT x).lo, .int .i64 (ndT x).hi, .int .i64 (ndT x).mode, .int .i64 (ndT x).ref, .slice A1 (ndT x).set.length p1, .slice B1 (ndT x).kids.length q1, .int .i64 (gT x : Nat), .bool (foT x)] #[.int .i64 (fcT x : Nat), .int .i64 (fp1 : Nat)] hb1)
  have HN1 := Lib.hid (hN.on (put_on w1 #[.int .i64 (ndT x).kind, .int .i64 (ndT x).lo, .int .i64 (ndT x).hi, .int .i64 (ndT x).mode, .int .i64 (ndT x).ref, .slice A1 (ndT x).set.length p1, .slice B1 (ndT x).kids.length q1, .int .i64 (gT x : Nat), .bool (foT x)] #[.int .i64 (fcT x : Nat), .int .i64 (fp1 : Nat)]))
  clear hN hp HP1
  go_upto_region 2 with (fail)
  generalize (w1.alloc _).alloc _ = v1 at *
  have hbv1 : Below w.heap.size w v1 := P1.out.keep
  have hf1 := P1.out.flt.cell 0
  simp at hf1
  by_cases h1 : fcT x = 0
  · have HFc := Lib.hid h1
    rw [h1] at hf1
    simp only [Int.cast_ofNat_Int] at hf1
    obtain ⟨hwf, hwn, hg9⟩ := pat_ok h1
    have HVd : Hid (vdT x = verdictN (ndT x)) := Lib.hid (by unfold vdT; rw [if_pos h1])
    have HPr1 : Hid (verdictN (ndT x) ≠ 0 → prT x = []) := Lib.hid (fun h => by unfold prT; rw [if_neg (fun k => h k.2)])
    have HPr2 : Hid (verdictN (ndT x) = 0 → prT x = whole (foT x) (ndT x)) := Lib.hid (fun h => by unfold prT; rw [if_pos ⟨h1, h⟩])
    have HC := Lib.hid (compile_any (w := v1) (fo := foT x) (G := (gT x : Nat)) (by omega) hwf hwn (gT x : Nat) (HT.out.on hbv1).lu HN1.out)
    have h9 := P1.out.node.nine
    clear hwf hwn h1
    go_wp2_with fail
    refine HC.out.mono ?_
    rintro e w3 ⟨hb3, hc⟩
    have hbw3 := hbv1.trans (hb3.mono hbv1.size)
    rcases hc with ⟨hv, rfl⟩ | ⟨hv, A, c, rfl, hP⟩
    · have HPe := Lib.hid (HPr1.out hv)
      clear hv h9 hf1
      go_wp2
      go_ret
      exact ⟨hbw3, none, 0, by rw [HPe.out]; rfl, by rw [HPe.out]; exact PgV.nil _ _⟩
    · have HPe := Lib.hid (HPr2.out hv)
      have HVe : Hid (vdT x = 0) := Lib.hid (by rw [HVd.out, hv])
      have HP := Lib.hid (hP.more hbv1.size)
      clear hv h9 hf1 hP
      go_wp2
      go_ret
      exact ⟨hbw3, A, c, by rw [HPe.out]; rfl, by rw [HPe.out]; exact HP.out⟩
  · have h1' := off_zero h1
    have HPe : Hid (prT x = []) := Lib.hid (by unfold prT; rw [if_neg (fun h => h1 h.1)])
    have HVe : Hid (vdT x = 0) := Lib.hid (by unfold vdT; rw [if_neg h1])
    clear h1
    go_wp2
    go_ret
    exact ⟨⟨hbv1.os, hbv1.tape, hbv1.output, hbv1.size, hbv1.block⟩, none, 0, by rw [HPe.out]; rfl, by rw [HPe.out]; exact PgV.nil _ _⟩

end Go.Proofs.YtdbddbelhgkelaaGreatDoor

/- The examples of the machine: their programs and answers. -/
namespace Go.Proofs.YtdbddbelhgkelaaGreatDoor
open Go.Proofs.YtdbddbelhgkelaaGreatDoor.Cl

def ancY : List In := [.i 4 0 0 0 0, .i 3 2 6 0 0, .i 10 0 0 0 0, ⟨1, 0, 0, 0, 0, [(97, 97)]⟩, .i 11 0 0 0 0, .i 2 1 0 0 0, ⟨1, 0, 0, 0, 0, [(98, 98)]⟩, .i 4 1 0 0 0, .i 0 0 0 0 0]
theorem ancY_ok : PrOk ancY := pr_ok (by kernel_rfl)
theorem ancY_run : ((runM ancY [97, 97, 98] 1048576 4096 1048576 (-1) 0 0 (startM ancY)).1 = 1) ∧ (runM ancY [97, 97, 98] 1048576 4096 1048576 (-1) 0 0 (startM ancY)).2.2.sl[0]? = some 0 ∧ (runM ancY [97, 97, 98] 1048576 4096 1048576 (-1) 0 0 (startM ancY)).2.2.sl[1]? = some 3 := by
  have e : runM ancY [97, 97, 98] 1048576 4096 1048576 (-1) 0 0 (startM ancY) = runM ancY [97, 97, 98] 60 4096 60 (-1) 0 0 (startM ancY) := goM_mono 60 (by omega) (by omega) (by decide)
  rw [e]
  decide
def ancZ : List In := [.i 4 0 0 0 0, .i 4 2 0 0 0, .i 3 3 5 0 0, ⟨1, 0, 0, 0, 0, [(97, 97)]⟩, .i 2 7 0 0 0, ⟨1, 0, 0, 0, 0, [(97, 97)]⟩, ⟨1, 0, 0, 0, 0, [(98, 98)]⟩, .i 4 3 0 0 0, .i 4 4 0 0 0, .i 3 10 12 0 0, ⟨1, 0, 0, 0, 0, [(99, 99)]⟩, .i 2 15 0 0 0, ⟨1, 0, 0, 0, 0, [(98, 98)]⟩, ⟨1, 0, 0, 0, 0, [(99, 99)]⟩, ⟨1, 0, 0, 0, 0, [(100, 100)]⟩, .i 4 5 0 0 0, .i 4 1 0 0 0, .i 0 0 0 0 0]
theorem ancZ_ok : PrOk ancZ := pr_ok (by kernel_rfl)
abbrev ancU : List Int := [120, 97, 98, 99, 100]
theorem ancZ_fin : (findM ancZ ancU 100 4096 6 0 (startM ancZ)).1 = 1 ∧ (findM ancZ ancU 100 4096 6 0 (startM ancZ)).2.sl.take 6 = [1, 5, 1, 2, 2, 5] := by decide
theorem ancZ_run : (findM ancZ ancU 1048576 4096 6 0 (startM ancZ)).1 = 1 ∧ (findM ancZ ancU 1048576 4096 6 0 (startM ancZ)).2.sl.take 6 = [1, 5, 1, 2, 2, 5] := by
  rw [findM_mono (f := 100) (by omega) 6 0 (startM ancZ) (by rw [ancZ_fin.1]; decide)]
  exact ancZ_fin
abbrev txtY : ByteArray := ⟨#[97, 42, 98]⟩
abbrev txtZ : ByteArray := ⟨#[40, 97, 124, 97, 98, 41, 40, 99, 124, 98, 99, 100, 41]⟩
theorem ancY_eq : prT txtY = ancY := by kernel_rfl
theorem ancZ_eq : prT txtZ = ancZ := by kernel_rfl
end Go.Proofs.YtdbddbelhgkelaaGreatDoor

/- unit.all and unit.Split, what the reader's seat did not need: the iterator's contract, and the loop that collects what it yields. -/
namespace Go.Proofs.YtdbddbelhgkelaaGreatDoor
open Go.RowKit Go.Shelf

attribute [local go_sem] Oper.semAt_some

set_option maxRecDepth 100000 in
set_option maxHeartbeats 2000000 in
theorem all1_in (n : Nat) (hn : 2 ≤ n) (l Bs n₀ b off len cap : Nat) (s : List UInt8) (hlen : s.length = len) (hcap : len ≤ cap) (hmax : len ≤ 140737488351232) (hb : b < n₀) (J Jx : List Nat → World → Prop)
    (W : World) (hn₀ : n₀ ≤ W.heap.size) (hJ : AbidesFrom W.heap.size J)
    (hY : ∀ pre x W, J pre W → pre.length < len → YieldAt Fence.wide (n - 1) Tryz.prog l #[.int .i64 (x : Nat)] W fun e W' =>
      (e = .returned (.bool true) ∧ J (pre ++ [x]) W' ∧ Kp n₀ Bs (.slice (some ⟨b, off, none⟩) len cap) W W') ∨ (e = .returned (.bool false) ∧ Jx (pre ++ [x]) W'))
    (hBs : Boxed W Bs 47 (.slice (some ⟨b, off, none⟩) len cap)) (hT : TabsAt n₀ W) (hc : Txt W b off s) (h0 : J [] W) :
    CallsIn Fence.wide n Tryz.prog 69 #[.func (.yield l) #[] #[], .pointer (some ⟨Bs, 0, none⟩)] W fun e W' => (∃ v, e = .returned v) ∧
      ((∃ ys, ys = un s ∧ J ys W') ∨ (∃ pre, pre <+: un s ∧ Jx pre W')) := by
  refine callsIn_of_wp Tryz.func69 rfl trivial ?_ rfl
  simp only [Tryz.ntmps69, List.size_toArray, List.length_cons, List.length_nil, Nat.reduceAdd, Nat.reduceSub, Array.replicate_succ, Array.replicate_zero, List.push_toArray, List.append_toArray, List.nil_append, List.cons_append]
  gi_wp2
  gi_loopw [3] (fun i wr => ∃ (k : Nat) (pre : List Nat), k ≤ len ∧ i = .int .i64 k ∧ un s = pre ++ un (s.drop k) ∧ J pre wr ∧ Below n₀ W wr ∧ Boxed wr Bs 47 (.slice (some ⟨b, off, none⟩) len cap) ∧ W.heap.size ≤ wr.heap.size)
    (fun i _ => len - (intOf i).toNat)
  case atStart => exact ⟨0, [], Nat.zero_le _, rfl, by simp, h0, Below.refl _ _, hBs, Nat.le_refl _⟩
  case round =>
    obtain ⟨k, pre, hk, rfl, hpre, hJs, hnx, hbx, hsz⟩ := hrel
    have hbc := hbx.cell
    by_cases hlt : k < len
    · have hTr := hT.below hnx
      have hcr := txt_below hc hb hnx
      have hne : s.drop k ≠ [] := fun e => by have := congrArg List.length e; rw [List.length_drop, List.length_nil] at this; omega
      have hstep := un_step (s.drop k) hne
      have hz := nx_le (s.drop k) hne
      rw [List.length_drop] at hz
      have hnext := next_in s b off cap len k hlen.symm hlt hcap wr hTr.2 hcr
      obtain ⟨u, z, huz⟩ : ∃ u z, nx (s.drop k) = (u, z) := ⟨_, _, rfl⟩
      rw [huz] at hnext hstep hz
      simp only at hnext hstep hz
      rw [List.drop_drop] at hstep
      rw [hstep] at hpre
      have hpl : pre.length < len := by
        have h1 := un_len s
        have h2 := congrArg List.length hpre
        rw [List.length_append, List.length_cons] at h2
        omega
      obtain ⟨hz1, hz4, hzl⟩ := hz
      have hzl' : z ≤ len - k := by omega
      have HN := Lib.hid hnext
      have HP := Lib.hid hpre
      have HL := Lib.hid hlen
      clear hnext hpre hlen hTr hcr hstep huz hne hzl
      gi_wp2_with fail
      refine ⟨trivial, fun _ => by omega, (callsIn_wide.2 HN.out).mono ?_⟩
      rintro e w1 ⟨rfl, hB1⟩
      have hJ1 : J pre w1 := hJ pre wr w1 none hJs (grown_of_below hB1 none) (fun _ e => by cases e)
      have hbx1 : Boxed w1 Bs 47 (.slice (some ⟨b, off, none⟩) len cap) := hbx.kept (grown_of_below hB1 none) (by simp)
      have hnx1 : Below n₀ W w1 := hnx.trans (hB1.mono (by omega))
      obtain ⟨fn, tmps, assign, body, hy, hR⟩ := hY pre u w1 hJ1 hpl
      have hsz1 : W.heap.size ≤ w1.heap.size := Nat.le_trans hsz hB1.size
      clear hbc hJs hnx hbx hsz hB1
      gi_wp2
      refine ⟨fun _ => by omega, hR.mono ?_⟩
      rintro e W3 (⟨rfl, hJ3, hk3⟩ | ⟨rfl, hJx3⟩)
      · gi_wp2
        go_roundw
        case rel => exact ⟨k + z, pre ++ [u], by omega, by go_num, by rw [HP.out]; simp, hJ3, hnx1.trans hk3.1, hk3.2 hbx1, Nat.le_trans hsz1 hk3.1.size⟩
        case measure => simp [intOf]; omega
      · gi_wp2
        refine bodyPost_ret (results_none rfl _ _ _) rfl ?_
        exact ⟨⟨_, rfl⟩, .inr ⟨pre ++ [u], ⟨un (s.drop (k + z)), by rw [HP.out]; simp⟩, hJx3⟩⟩
    · obtain rfl : k = len := by omega
      have HP := Lib.hid hpre
      have HL := Lib.hid hlen
      clear hpre hlen
      gi_wp2
      go_end0
      exact ⟨⟨_, rfl⟩, .inl ⟨pre, by rw [HP.out, ← HL.out, List.drop_length, un_nil, List.append_nil], hJs⟩⟩

set_option maxRecDepth 100000 in
set_option maxHeartbeats 1000000 in
/-- .. of a text of no bytes: no round. -/
theorem all1_nil (n l Bs cap : Nat) (A : Option Addr) (J : List Nat → World → Prop) (W : World) (hBs : Boxed W Bs 47 (.slice A 0 cap)) (h0 : J [] W) :
    CallsIn Fence.wide n Tryz.prog 69 #[.func (.yield l) #[] #[], .pointer (some ⟨Bs, 0, none⟩)] W fun e W' => (∃ v, e = .returned v) ∧ J [] W' := by
  have hbc := hBs.cell
  refine callsIn_of_wp Tryz.func69 rfl trivial ?_ rfl
  simp only [Tryz.ntmps69, List.size_toArray, List.length_cons, List.length_nil, Nat.reduceAdd, Nat.reduceSub, Array.replicate_succ, Array.replicate_zero, List.push_toArray, List.append_toArray, List.nil_append, List.cons_append]
  gi_wp2
  gi_loopw [3] (fun i wr => i = .int .i64 0 ∧ wr = W) (fun _ _ => 0)
  case atStart => exact ⟨rfl, rfl⟩
  case round =>
    obtain ⟨rfl, rfl⟩ := hrel
    gi_wp2
    go_end0
    exact ⟨⟨_, rfl⟩, h0⟩

set_option maxHeartbeats 1000000 in
theorem all_in (n : Nat) (A : Option Addr) (len cap : Nat) (w : World) :
    CallsIn Fence.wide n Tryz.prog 46 #[.slice A len cap] w fun e w' => e = .returned (.func (.func 69) #[] #[.pointer (some ⟨w.heap.size, 0, none⟩)]) ∧ w' = w.alloc (.cells #[.slice A len cap] 47) := by
  refine callsIn_of_wp Tryz.func46 rfl trivial ?_ rfl
  simp only [Tryz.ntmps46, List.size_toArray, List.length_cons, List.length_nil, Nat.reduceAdd, Nat.reduceSub, Array.replicate_succ, Array.replicate_zero, List.push_toArray, List.append_toArray, List.nil_append, List.cons_append]
  gi_wp2
  go_ret
  exact ⟨rfl, rfl⟩

theorem all_stops (n : Nat) (hn : 2 ≤ n) (Bs n₀ : Nat) (A : Option Addr) (cap : Nat) (s : List UInt8) (hmax : s.length ≤ 140737488351232) (w : World) (hn₀ : n₀ ≤ w.heap.size)
    (hc : Boxed w Bs 47 (.slice A s.length cap)) (hT : TabsAt n₀ w) (hI : Bytes n₀ w (.slice A s.length cap) s) :
    SeqStopsK Fence.wide n Tryz.prog 69 #[.pointer (some ⟨Bs, 0, none⟩)] (fun x : Nat => #[Value.int .i64 (x : Nat)]) (Kp n₀ Bs (.slice A s.length cap)) (fun ys => ys = un s) (fun pre => pre <+: un s) s.length w := fun l J Jx W hW hJ _ hY h0 => by
  have hc' : Boxed W Bs 47 (.slice A s.length cap) := hc.kept (grown_of_below hW none) (by simp)
  obtain ⟨A', cap', hv, hcap, hI⟩ := hI
  obtain ⟨rfl, rfl⟩ : A = A' ∧ cap = cap' := by simpa using hv
  by_cases hs : s = []
  · subst hs
    exact (all1_nil n l Bs cap A J W hc' h0).mono fun e W' ⟨he, hj⟩ => ⟨he, .inl ⟨_, un_nil.symm, hj⟩⟩
  · obtain ⟨b, off, rfl, hb, ht⟩ := hI hs
    exact all1_in n hn l Bs n₀ b off s.length cap s rfl hcap hmax hb J Jx W (Nat.le_trans hn₀ hW.size) hJ hY hc' (hT.below (hW.mono hn₀)) (txt_below ht hb (hW.mono hn₀)) h0

set_option maxRecDepth 100000 in
set_option maxHeartbeats 2000000 in
/-- unit.Split of a text: a row of the call's own that holds its units. -/
theorem split_any (A : Option Addr) (cap : Nat) (s : List UInt8) (hmax : s.length ≤ 1000000) (w : World) (hT : TabsAt w.heap.size w) (hI : Bytes w.heap.size w (.slice A s.length cap) s) :
    Calls Tryz.prog 24 #[.slice A s.length cap] w fun e W' => ∃ v, e = .returned v ∧ W'.ownsRow w.heap.size 3 1 v (un s).length (ints (un s)) ∧ Below w.heap.size w W' := by
  refine (callsIn_wide (n := 5)).1 ?_
  obtain ⟨i0, hi, hz0, hz1, hz2⟩ := info_parts info3
  refine callsIn_of_wp_marks Tryz.func24 rfl trivial ?_ rfl
  simp only [Tryz.ntmps24, List.size_toArray, List.length_cons, List.length_nil, Nat.reduceAdd, Nat.reduceSub, Array.replicate_succ, Array.replicate_zero, List.push_toArray, List.append_toArray, List.nil_append, List.cons_append]
  have hul := un_len s
  gi_wp2_with fail
  refine ⟨trivial, (all_in _ _ _ _ _).mono ?_⟩
  rintro e w' ⟨rfl, rfl⟩
  gi_wp2_with fail
  have bO := Boxed.new w 48 (.slice none 0 0)
  have bN := Boxed.new (w.alloc (.cells #[.slice none 0 0] 48)) 47 (.slice A s.length cap)
  rw [World.size_alloc] at bN
  have hB0 : Below w.heap.size w ((w.alloc (.cells #[.slice none 0 0] 48)).alloc (.cells #[.slice A s.length cap] 47)) := ((Below.refl _ w).alloc (Nat.le_refl _) _).alloc (by simp) _
  refine wpIn_rangeFunc_ownG rfl (by omega) (gf := 69) (lb := #[.pointer (some ⟨w.heap.size + 1, 0, none⟩)]) rfl trivial (enters_of Tryz.func69 (by kernel_rfl) rfl)
    (all_stops _ (by omega) (w.heap.size + 1) w.heap.size A cap s (by omega) _ (by simp; omega) bN (hT.below hB0) (hI.below hB0)) Kp.t (Kp.b (by simp; omega)) (Below.refl _ _) (fun _ => rfl)
    (fun pre W => (∃ v, Boxed W w.heap.size 48 v ∧ W.ownsRow w.heap.size 3 1 v pre.length (ints pre) ∧ True) ∧ Below w.heap.size w W)
    (fun _ _ _ => False)
    (OwnFrom.and (Own.from (holdsRow_own w.heap.size w.heap.size 48 3 1 (fun pre : List Nat => pre.length) ints (fun _ _ => True)) _) (ownFrom_below (Nat.le_refl _) (by simp; omega)))
    (fun _ _ _ _ _ hs _ _ => hs)
    ⟨⟨_, bO.alloc _, World.ownsRow_nil _ _ _ _, trivial⟩, hB0⟩
    (fun x => { tmps := #[.slice A s.length cap, undef, .slice none 0 0, .pointer (some ⟨w.heap.size, 0, none⟩), .int .i64 (x : Nat), .slice A s.length cap, .func (.func 69) #[] #[.pointer (some ⟨w.heap.size + 1, 0, none⟩)], .int .i64 (x : Nat), undef, undef, undef, undef, undef], defers := [] }) ?assign ?body ?done ?stop
  case assign =>
    intro l x W K hK
    gi_wp2
    exact hK
  case body =>
    rintro l pre x W ⟨⟨v, hv, hrow, _⟩, hB⟩ hlt
    have hc := hv.cell
    gi_wp2_with (gi_at_builtin; refine wpListIn_append_own _ rfl _ _ 48 rfl w.heap.size 3 i0 (.int .i64 0) 1 8 Tryz.underlying48 hi hz0 hz1 hz2 rfl (by decide) _ _ _ rfl (hrow.alloc _) ⟨W.heap.size, 0, none⟩ 1 1 [.int .i64 (x : Nat)] rfl rfl (cell_one_new _ _ _) (by simp [Value.oneCell']) (by unfold maxLen; omega) (by omega) (by have := hB.size; simp; omega) ?_; intro v' w1 hown' hgrow _; obtain ⟨g', cap', rfl⟩ := ownsRow_succ hown'; obtain ⟨hv1, hv2, hr2, hk2, hb2⟩ := hv.appended (by decide) hrow hB.size (Nat.le_refl _) hown' hgrow; have hc1 := hv1.cell; have hf1 := hv1.frozen)
    have hbs : ∀ sv, Boxed W (w.heap.size + 1) 47 sv → Boxed (w1.setCell ⟨w.heap.size, 0, none⟩ (.slice (some ⟨g', 0, none⟩) (pre.length + 1) cap')) (w.heap.size + 1) 47 sv := fun sv hx =>
      (Boxed.kept (hx.alloc (.cells #[.int .i64 (x : Nat)] 3)) hgrow (hx.not_row (by decide) hrow)).kept (grownBy_setCell' w1 w.heap.size _) (by simp)
    exact ⟨hk2.from _, ⟨hb2, hbs _⟩, ⟨_, hv2, by rw [ints_snoc]; simpa using hr2, trivial⟩, hB.trans hb2⟩
  case done =>
    rintro D ys W hD rfl ⟨⟨v, hv, hrow, _⟩, hB⟩ hK
    have hc := hv.cell
    gi_wp2
    refine ⟨by simp, .inl ⟨_, _, rfl, run_takeDeferred hK, ?_⟩⟩
    exact ⟨_, results_tmp rfl _ _ _, v, rfl, ownsRow_putObj hrow _ hK rfl, hB.trans (belowK_b (w := w) (Nat.le_refl _) W D _ _ (by simp at hD; omega) hK rfl rfl)⟩
  case stop =>
    rintro D c pre W _ _ h _
    exact h.elim

end Go.Proofs.YtdbddbelhgkelaaGreatDoor

/- Law 6's found. -/
namespace Go.Proofs.YtdbddbelhgkelaaGreatDoor
open Go.RowKit
open Go.Proofs.YtdbddbelhgkelaaGreatDoor.Cl (Rg SetV SetAt rgCells info_three hasB)
variable {w w' w0 : World} {n₀ : Nat} {X : List In} {U : List Int}

set_option maxRecDepth 100000 in
set_option maxHeartbeats 4000000 in
theorem found_any {x : ByteArray} {uv : Value} {R : Nat × Ms} {a b : Int} (hl : x.size ≤ 1000000) (hT : TabL w.heap.size w) (hx : prT x = X) (hX : PrOk X) (h0 : 0 < X.length) (hU : w.ownsRow 0 3 1 uv U.length (zI U)) (hle : U.length ≤ 2000)
    (hR : findM X U 20000 4096 (U.length + 1) 0 (startM X) = R) (h2 : R.1 = 0 ∨ R.1 = 1 ∧ R.2.sl[0]? = some a ∧ R.2.sl[1]? = some b) :
    Calls Tryz.prog 23 #[.string x, uv] w fun e w' => e = .returned (.tuple #[.int .i64 (R.1 : Nat), .int .i64 (if R.1 = 0 then 0 else a), .int .i64 (if R.1 = 0 then 0 else b)]) ∧ Below w.heap.size w w' := by
  have HM := Lib.hid (made6_any x hl hT)
  unfold MadeQ at HM
  rw [hx] at HM
  have q : ∀ (w : World) (a : Option Addr) (n c n' c' : Nat), (binOp .eql 54 (.slice a n c) (.slice none n' c')).run Tryz.prog w = .ok (.bool a.isNone) w := fun w a n c n' c' => Lib.run_eql_slice_nil w _ _ a n c n' c' Tryz.underlying54
  go_enter Tryz.func23, Tryz.ntmps23
  go_wp2_with fail
  refine HM.out.mono ?_
  rintro e w1 ⟨hb1, A, c, rfl, hP⟩
  have hE : EnvV w1 (.slice A X.length c) uv X U := ⟨hP.more (Nat.zero_le _), own_kept hU fun i hi _ _ => hb1.block i hi, hle⟩
  obtain ⟨g, c', _, _, hv, _⟩ := hP.six (List.getElem?_eq_getElem h0)
  obtain ⟨rfl, _, rfl⟩ := Value.slice.inj hv
  have HF := Lib.hid (fun (W : World) (hb : Below w1.heap.size w1 W) => vfind_any (F := 20000) (S := 4096) (hE.on hb) hX h0 (by omega) (by omega))
  rw [hR] at HF
  clear hv hE hP HM
  go_wp2_with fail
  refine (HF.out w1 (Below.refl _ _)).mono ?_
  rintro e w2 ⟨V, rfl, h1, h3, hb2⟩
  have HB2 := Lib.hid (hb1.trans (hb2.mono hb1.size))
  obtain ⟨k, s⟩ := R
  simp only at h1 h2 h3 ⊢
  rcases h2 with rfl | ⟨rfl, hsa, hsb⟩
  · obtain rfl := h3 (by decide)
    clear h1 h3 hb2 HF
    go_wp2
    go_ret3
    exact ⟨rfl, HB2.out.alloc HB2.out.size _⟩
  · have hrow := h1 rfl
    rcases own_at hrow with ⟨_, h⟩ | ⟨g', c2, rfl, _, _, ⟨cs, z, hg'⟩, hcell, _⟩
    · omega
    have hlt := lt_of_some hg'
    have ha : w2.cell? ⟨g', 0, none⟩ = some (.int .i64 a) := (hcell 0 (by omega)).trans (zI_get (by rw [List.getElem?_take_of_lt (by omega)]; exact hsa))
    have hb : w2.cell? ⟨g', 1, none⟩ = some (.int .i64 b) := (hcell 1 (by omega)).trans (zI_get (by rw [List.getElem?_take_of_lt (by omega)]; exact hsb))
    clear h1 h3 hb2 HF hcell hrow
    go_wp2
    go_region
    go_wp2
    go_ret3
    exact ⟨rfl, (HB2.out.alloc HB2.out.size _).drew⟩

end Go.Proofs.YtdbddbelhgkelaaGreatDoor

/- Law 6's anchor. -/
namespace Go.Proofs.YtdbddbelhgkelaaGreatDoor
open Go.RowKit
open Go.Proofs.YtdbddbelhgkelaaGreatDoor.Cl (Rg SetV SetAt rgCells info_three hasB)
variable {w w' w0 : World} {n₀ : Nat} {X : List In} {U : List Int}

theorem full_any : Calls Tryz.prog 21 #[] w fun e w' => e = .returned (.agg #[.int .i64 1048576, .int .i64 4096]) ∧ Below w.heap.size w w' := by
  go_enter Tryz.func21, Tryz.ntmps21
  go_wp2
  refine bodyPost_ret (v := .agg #[.int .i64 1048576, .int .i64 4096]) (by simp [results, Tryz.results21, go_sem]) rfl ⟨rfl, (Below.refl _ _).alloc (Nat.le_refl _) _⟩

theorem split_lit {s : List UInt8} {cs : Array Value} {z : Nat × Nat} {n : Nat} {U : List Int} (hn : s.length = n) (hU : (un s).map (fun n : Nat => (n : Int)) = U) (hcs : ∀ i, i < s.length → cs[i]? = some (.int .u8 ((at_ s i : Nat) : Int))) (hl : s.length ≤ 1000) (_ : s ≠ []) (hT : TabL w.heap.size w) :
    Calls Tryz.prog 24 #[.slice (some ⟨w.heap.size, 0, none⟩) n n] (w.alloc (.cells cs 5 z)) fun e w' => ∃ v, e = .returned v ∧ w'.ownsRow w.heap.size 3 1 v U.length (zI U) ∧ Below w.heap.size w w' := by
  subst hn
  have hb := (Below.refl w.heap.size w).alloc (Nat.le_refl _) (.cells cs 5 z)
  have hcell : ∀ i, (w.alloc (.cells cs 5 z)).cell? ⟨w.heap.size, i, none⟩ = cs[i]? := fun i => cell_of_row _ _ i cs 5 z (heap_alloc_new w _)
  have hlen : (un s).length = U.length := by rw [← hU, List.length_map]
  have hui : ints (un s) = zI U := by rw [← hU, zI, List.map_map]; rfl
  refine (split_any (some ⟨w.heap.size, 0, none⟩) s.length s (by omega) _ (tabs_on hT.tabs hb hb.size) ⟨_, _, rfl, Nat.le_refl _, fun _ => ⟨_, _, rfl, by simp, ?_⟩⟩).mono ?_
  · intro i hi
    rw [Nat.zero_add, hcell]
    exact hcs i hi
  · rintro e w' ⟨v, rfl, ho, hb'⟩
    rw [hui, hlen] at ho
    exact ⟨v, rfl, ho.mono (by simp), hb.trans (hb'.mono (by simp))⟩

set_option maxRecDepth 100000 in
set_option maxHeartbeats 4000000 in
theorem anchor6_any (hT : TabL w.heap.size w) : Calls Tryz.prog 17 #[] w fun e w' => e = .returned (.bool true) ∧ Below w.heap.size w w' := by
  have HMY := Lib.hid (fun (W : World) (h : TabL W.heap.size W) => made6_any (w := W) txtY (by decide) h)
  have HMZ := Lib.hid (fun (W : World) (h : TabL W.heap.size W) => made6_any (w := W) txtZ (by decide) h)
  unfold MadeQ at HMY HMZ
  rw [ancY_eq] at HMY
  rw [ancZ_eq] at HMZ
  go_enter Tryz.func17, Tryz.ntmps17
  have hcv := fun (W : World) (C : Array Value) (n c : Nat) => Lib.run_convert_bytes_const (P := Tryz.prog) W 47 5 C n c Tryz.underlying47 Tryz.underlying5
  have HT := Lib.hid hT
  clear hT
  go_wp2_with fail
  refine (HMY.out _ HT.out).mono ?_
  rintro e w1 ⟨hb1, A, c, rfl, hP⟩
  have HB1 := Lib.hid hb1
  have HP1 := Lib.hid hP
  clear hb1 hP
  have HS1 := Lib.hid (split_lit (w := w1) (s := [97, 97, 98]) (cs := #[.int .u8 97, .int .u8 97, .int .u8 98]) (z := (3, 4)) (U := [97, 97, 98]) (n := 3) rfl (by kernel_rfl) (fun i h => by match i, h with | 0, _ => rfl | 1, _ => rfl | 2, _ => rfl | i + 3, h => exact absurd h (by simp)) (by decide) (by decide) (HT.out.on HB1.out))
  go_wp2_with fail
  refine HS1.out.mono ?_
  rintro e w2 ⟨v, rfl, hU, hb2⟩
  have HB2 := Lib.hid (HB1.out.trans (hb2.mono HB1.out.size))
  have HE2 : Hid (EnvV w2 (.slice A ancY.length c) v ancY [97, 97, 98]) := Lib.hid ⟨(HP1.out.on hb2).more (Nat.zero_le _), hU.mono (Nat.zero_le _), by decide⟩
  clear hb2 hU
  go_wp2_with fail
  refine (full_any).mono ?_
  rintro e w3 ⟨rfl, hb3⟩
  have HB3 := Lib.hid (HB2.out.trans (hb3.mono HB2.out.size))
  have HR := Lib.hid (vrun_any (p := 0) (F := 1048576) (S := 4096) (HE2.out.on hb3) ancY_ok (by decide) (by decide) (by decide) (by decide))
  clear hb3
  go_wp2_with fail
  refine HR.out.mono ?_
  rintro e w4 ⟨V, rfl, h1, _, hb4⟩
  have HB4 := Lib.hid (HB3.out.trans (hb4.mono HB3.out.size))
  obtain ⟨r1, r2, r3⟩ := ancY_run
  generalize runM ancY [97, 97, 98] 1048576 4096 1048576 (-1) 0 0 (startM ancY) = r at *
  obtain ⟨k, p, s⟩ := r
  simp only at r1 r2 r3 h1
  subst r1
  have hrow := h1 rfl
  rcases own_at hrow with ⟨_, h⟩ | ⟨g', c2, rfl, _, _, ⟨cs, z, hg'⟩, hcell, _⟩
  · omega
  have hlt := lt_of_some hg'
  have ha : w4.cell? ⟨g', 0, none⟩ = some (.int .i64 0) := (hcell 0 (by omega)).trans (zI_get (by rw [List.getElem?_take_of_lt (by omega)]; exact r2))
  have hb : w4.cell? ⟨g', 1, none⟩ = some (.int .i64 3) := (hcell 1 (by omega)).trans (zI_get (by rw [List.getElem?_take_of_lt (by omega)]; exact r3))
  clear hcell hrow h1 hb4 HR HE2 HS1 HMY
  have hA := Blk.new w4 51 #[.int .i64 1, .int .i64 (s.steps : Nat), .int .i64 (s.deep : Nat), .slice (some ⟨g', 0, none⟩) 20 c2]
  have h45 := (Below.refl w4.heap.size w4).alloc (Nat.le_refl _) (.cells #[.int .i64 1, .int .i64 (s.steps : Nat), .int .i64 (s.deep : Nat), .slice (some ⟨g', 0, none⟩) 20 c2] 51)
  have HB5 := Lib.hid (HB4.out.trans (h45.mono HB4.out.size))
  have ha5 := (h45.cell (p := ⟨g', 0, none⟩) hlt).trans ha
  have hb5 := (h45.cell (p := ⟨g', 1, none⟩) hlt).trans hb
  have hlt5 := Nat.lt_of_lt_of_le hlt h45.size
  clear ha hb h45 hlt
  go_upto_region 2 with (fail)
  generalize w4.alloc (.cells #[.int .i64 1, .int .i64 (s.steps : Nat), .int .i64 (s.deep : Nat), .slice (some ⟨g', 0, none⟩) 20 c2] 51) = w5 at *
  go_wp2_with fail
  refine (HMZ.out _ (HT.out.on HB5.out)).mono ?_
  rintro e w6 ⟨hb6, A6, c6, rfl, hP6⟩
  have HB6 := Lib.hid (HB5.out.trans (hb6.mono HB5.out.size))
  have HC6 := Lib.hid hb6
  have HP6 := Lib.hid hP6
  clear hb6 hP6
  have HS6 := Lib.hid (split_lit (w := w6) (s := [120, 97, 98, 99, 100]) (cs := #[.int .u8 120, .int .u8 97, .int .u8 98, .int .u8 99, .int .u8 100]) (z := (5, 6)) (U := ancU) (n := 5) rfl (by kernel_rfl) (fun i h => by match i, h with | 0, _ => rfl | 1, _ => rfl | 2, _ => rfl | 3, _ => rfl | 4, _ => rfl | i + 5, h => exact absurd h (by simp)) (by decide) (by decide) (HT.out.on HB6.out))
  go_wp2_with fail
  refine HS6.out.mono ?_
  rintro e w7 ⟨v7, rfl, hU7, hb7⟩
  have HC7 := Lib.hid (HC6.out.trans (hb7.mono HC6.out.size))
  have HE7 : Hid (EnvV w7 (.slice A6 ancZ.length c6) v7 ancZ ancU) := Lib.hid ⟨(HP6.out.on hb7).more (Nat.zero_le _), hU7.mono (Nat.zero_le _), by decide⟩
  clear hb7 hU7
  go_wp2_with fail
  refine (full_any).mono ?_
  rintro e w8 ⟨rfl, hb8⟩
  have HC8 := Lib.hid (HC7.out.trans (hb8.mono HC7.out.size))
  have HR8 := Lib.hid (vfind_any (F := 1048576) (S := 4096) (HE7.out.on hb8) ancZ_ok (by decide) (by decide) (by decide))
  clear hb8
  rw [show ancU.length + 1 = 6 from rfl] at HR8
  obtain ⟨q1, q2⟩ := ancZ_run
  generalize findM ancZ ancU 1048576 4096 6 0 (startM ancZ) = q at HR8 q1 q2
  obtain ⟨qk, qs⟩ := q
  simp only at q1 q2
  subst q1
  go_wp2_with fail
  refine HR8.out.mono ?_
  rintro e w9 ⟨V9, rfl, h9, _, hb9⟩
  have HC9 := Lib.hid (HC8.out.trans (hb9.mono HC8.out.size))
  have hrow := h9 rfl
  have hq : ∀ (i : Nat) (u : Int), i < 6 → ([1, 5, 1, 2, 2, 5] : List Int)[i]? = some u → qs.sl[i]? = some u := fun i u hi hu => by
    rw [← q2, List.getElem?_take_of_lt hi] at hu
    exact hu
  rcases own_at hrow with ⟨_, h⟩ | ⟨g9, c9, rfl, _, _, ⟨cs9, z9, hg9⟩, hcell, _⟩
  · omega
  have hlt9 := lt_of_some hg9
  have hc : ∀ (i : Nat) (u : Int), i < 6 → ([1, 5, 1, 2, 2, 5] : List Int)[i]? = some u → w9.cell? ⟨g9, i, none⟩ = some (.int .i64 u) := fun i u hi hu =>
    (hcell i (by omega)).trans (zI_get (by rw [List.getElem?_take_of_lt (by omega)]; exact hq i u hi hu))
  have b0 := hc 0 1 (by omega) rfl
  have b1 := hc 1 5 (by omega) rfl
  have b3 := hc 3 2 (by omega) rfl
  have b4 := hc 4 2 (by omega) rfl
  have b5 := hc 5 5 (by omega) rfl
  have hA9 := hA.on HC9.out
  have ha9 := (HC9.out.cell (p := ⟨g', 0, none⟩) hlt5).trans ha5
  have hb9' := (HC9.out.cell (p := ⟨g', 1, none⟩) hlt5).trans hb5
  have hl9 := hA9.lt
  have d0 := hA9.cell 0
  have d3 := hA9.cell 3
  have hlg := Nat.lt_of_lt_of_le hlt5 HC9.out.size
  have HB9 := Lib.hid (HB5.out.trans (HC9.out.mono HB5.out.size))
  clear hA hA9 ha5 hb5 hlt5 hc hcell hq hrow h9 hb9 HR8 HE7 HS6 HMZ HC9 HC8 HC7 HC6
  go_wp2
  go_ret
  exact ⟨rfl, HB9.out.alloc HB9.out.size _⟩

end Go.Proofs.YtdbddbelhgkelaaGreatDoor

