/- ClassOrder: the order of ranges, and ranges that are there twice, play no part; a normal set's ranges make it again. -/
import Derived.Test.YtjdboindeikhhaaDoorLawKit
import Derived.Deep.DeepCutAuto
import Derived.Deep.RegionLaw
namespace Go.Proofs.YtjdboindeikhhaaDoor
open Go.RowKit

theorem elem22 : Tryd.prog.underlying 22 = some (.slice (Tryd.prog.elem 22)) := by kernel_rfl
theorem slice_from (A : Option Addr) (len cap n : Nat) (hn : n ≤ len) (w : World) : (Instr.slice 22 (.slice A len cap) (some (.int .i64 (n : Nat))) none none).run Tryd.prog w = .ok (.slice (if cap = n then A else A.map (·.add (n * 2))) (len - n) (cap - n)) w := by
  rw [run_slice_l w 22 A len cap elem22 .i64 n (by omega) (by omega)]
  have hs : (sizeOf (Tryd.prog.elem 22)).run Tryd.prog w = .ok 2 w := Tryd.sizeOf46 w
  rw [hs]
  simp [Result.andThen, sliced]
theorem slice_to (A : Option Addr) (len cap n : Nat) (hn : n ≤ cap) (w : World) : (Instr.slice 22 (.slice A len cap) none (some (.int .i64 (n : Nat))) none).run Tryd.prog w = .ok (.slice A n cap) w := by
  rw [run_slice_h w 22 A len cap elem22 .i64 n (by omega) (by omega)]
  have hs : (sizeOf (Tryd.prog.elem 22)).run Tryd.prog w = .ok 2 w := Tryd.sizeOf46 w
  rw [hs]
  cases A <;> simp [Result.andThen, sliced, Addr.add]

theorem add_at' (b off j : Nat) : (⟨b, off, none⟩ : Addr).add j = ⟨b, off + j, none⟩ := by unfold Addr.add; split <;> simp_all
theorem drop_set {n₀ : Nat} {w : World} {A : Option Addr} {cap n : Nat} {l : List Rg} (h : SetV n₀ w (.slice A l.length cap) l) (hn : n ≤ l.length) : SetV n₀ w (.slice (if cap = n then A else A.map (·.add (n * 2))) (l.length - n) (cap - n)) (l.drop n) := by
  obtain ⟨A', cap', hv, hc, h⟩ := h
  obtain ⟨rfl, rfl⟩ : A = A' ∧ cap = cap' := by simpa using hv
  refine ⟨_, _, by rw [List.length_drop], by rw [List.length_drop]; omega, fun hne => ?_⟩
  have hlt : n < l.length := by
    rcases Nat.lt_or_ge n l.length with h1 | h1
    · exact h1
    · exact absurd (List.drop_eq_nil_of_le h1) hne
  obtain ⟨b, off, rfl, hb, hs⟩ := h (by rintro rfl; simp at hlt)
  rw [if_neg (by omega)]
  refine ⟨b, off + n * 2, by simp [add_at'], hb, fun i r hr => ?_⟩
  rw [List.getElem?_drop] at hr
  have := hs (n + i) r hr
  rwa [show off + (n + i) * 2 = off + n * 2 + i * 2 by omega] at this
theorem take_set {n₀ : Nat} {w : World} {A : Option Addr} {cap n : Nat} {l : List Rg} (h : SetV n₀ w (.slice A l.length cap) l) (hn : n ≤ l.length) : SetV n₀ w (.slice A n cap) (l.take n) := by
  obtain ⟨A', cap', hv, hc, h⟩ := h
  obtain ⟨rfl, rfl⟩ : A = A' ∧ cap = cap' := by simpa using hv
  have hl : (l.take n).length = n := by simp; omega
  refine ⟨_, _, by rw [hl], by rw [hl]; omega, fun hne => ?_⟩
  obtain ⟨b, off, rfl, hb, hs⟩ := h (by rintro rfl; simp at hne)
  refine ⟨b, off, rfl, hb, fun i r hr => ?_⟩
  have hi := (List.getElem?_eq_some_iff.1 hr).1
  rw [List.getElem?_take, if_pos (by omega)] at hr
  exact hs i r hr

/-- append of a set, as a step of a region that draws. -/
theorem step_append_set {P : Program} (w : World) {ops : Array Oper} {o : Oper} {a : Act} {K : Act → World → Prop} {Q : Exit → Act → World → Prop} {E : Prop} (hgd : o.guard = none) (s x : Operand) (t : TypeId)
    (ho : o.op = .call { callee := .builtin .append, args := #[s, x], argTypes := #[t, t] })
    (base : Nat) (e : TypeId) (i : TypeInfo) (z : Value) (ht : P.underlying t = some (.slice e)) (hi : P.info? e = some i) (hz : i.zero = some z)
    (hsize : i.size = 2) (hby : i.bytes = 16) (hzs : z.cells.size = 2) (v : Value) (xs : List Rg) (hs : a.eval s = v) (hown : Own w base e v xs)
    (n₀ : Nat) (u : Value) (ys : List Rg) (hx : a.eval x = u) (hr : SetV n₀ w u ys) (h63 : xs.length + ys.length ≤ 1000000) (hbase : base ≤ w.heap.size)
    (h : ∀ v' w', Own w' base e v' (xs ++ ys) → w.grownBy w' v.ownBlock → K (a.put o.dst v') w') :
    if Region.wanted o (yielded ops a.tmps) = true then Oper.wp P o a w K Q else E := by
  have hw : Region.wanted o (yielded ops a.tmps) = true := by simp [Region.wanted, hgd]
  rw [if_pos hw]
  obtain ⟨v', w', hrun, h2, h3⟩ := run_append_set (P := P) w base t o.type e i z 16 ht hi hz hsize hby hzs v xs hown n₀ u ys hr (by unfold maxLen; omega) (by omega) hbase
  unfold Oper.wp execOp
  simp only [ho, resolve, invoke, builtin, Sem.run_bind, Sem.run_pure, Result.andThen_ok, List.map_toArray, List.map_cons, List.map_nil, hs, hx, hrun]
  exact h v' w' h2 h3

theorem order_right {l : List Rg} (h : ∀ r ∈ l, Rt r) (n : Nat) : ∀ r ∈ ([] ++ l.drop n ++ l) ++ l.take n, Rt r := fun r hr => by
  simp only [List.nil_append, List.mem_append] at hr
  rcases hr with (hr | hr) | hr
  · exact h r (List.mem_of_mem_drop hr)
  · exact h r hr
  · exact h r (List.mem_of_mem_take hr)
theorem order_wrong {l : List Rg} (h : ¬ ∀ r ∈ l, Rt r) (n : Nat) : ¬ ∀ r ∈ ([] ++ l.drop n ++ l) ++ l.take n, Rt r := fun hh => h fun r hr => hh r (by simp [hr])

set_option maxRecDepth 100000 in
set_option maxHeartbeats 4000000 in
theorem order_main (v : Value) (l : List Rg) (turn : Int) (w : World) (hL : LU w.heap.size w) (hs : SetV w.heap.size w v l) (h30 : l.length ≤ 30) (h0 : 0 ≤ turn) (h9 : turn ≤ 9223372036854775807) (hn : ∀ r ∈ l, Rt r) :
    Calls Tryd.prog 8 #[v, .int .i64 turn] w fun e w' => e = .returned (.bool true) ∧ Below w.heap.size w w' := by
  have E := Lib.hid (env_start hs)
  have HN := Lib.hid hn
  have HL := Lib.hid hL
  obtain ⟨A1, cap1, rfl, hcap, _⟩ := id hs
  clear hs hL hn
  obtain ⟨i0, hi, hz0, hz1, hz2⟩ := info_three info46
  go_enter Tryd.func8, Tryd.ntmps8
  go_wp2_with fail
  refine (anchor_any _ HL.out).mono ?_
  rintro e w1 ⟨rfl, hb⟩
  replace E := Lib.hid (E.out.step hb)
  clear hb
  go_wp2_with fail
  refine (make_gives _ l _ (by omega) HN.out (E.out.get _ l (by simp))).mono ?_
  rintro e w2 ⟨va, a, rfl, hS, ⟨hna, hha, hla⟩, hb⟩
  replace E := Lib.hid ((E.out.step hb).add hS)
  have Ha := Lib.hid (And.intro hna hha)
  clear hb hS hna hha
  by_cases hl : 0 < l.length
  · have hlc : (0 : Int) < l.length := by omega
    have hm0 := Int.emod_nonneg turn (show (l.length : Int) ≠ 0 by omega)
    have hm1 := Int.emod_lt_of_pos turn hlc
    go_upto_region 9 with (fail)
    obtain ⟨n, hn⟩ : ∃ n : Nat, (n : Int) = turn % l.length := ⟨(turn % l.length).toNat, by omega⟩
    rw [← hn]
    have hnl : n ≤ l.length := by omega
    clear hm0 hm1 hn
    have hsl1 := fun w => slice_from A1 l.length cap1 n (by omega) w
    have hsl2 := fun w => slice_to A1 l.length cap1 n (by omega) w
    obtain ⟨A2, hA2⟩ : ∃ A2, A2 = (if cap1 = n then A1 else A1.map (·.add (n * 2))) := ⟨_, rfl⟩
    rw [← hA2] at hsl1
    have hbase := E.out.get (.slice A1 l.length cap1) l (by simp)
    have hd := drop_set hbase (show n ≤ l.length by omega)
    rw [← hA2] at hd
    have ht := take_set hbase (show n ≤ l.length by omega)
    have hsw := Nat.le_refl w2.heap.size
    have hO0 : Own (w2.alloc (.cells #[] 46)).drew w2.heap.size 46 (.slice (some ⟨w2.heap.size, 0, none⟩) 0 0) [] := own_empty w2 w2.heap.size 46 hsw
    have hB0 := ((Below.refl w2.heap.size w2).alloc hsw (.cells #[] 46)).drew
    have hz9 : w2.heap.size ≤ (w2.alloc (.cells #[] 46)).drew.heap.size := by
      show _ ≤ (w2.alloc (.cells #[] 46)).heap.size
      simp
    have hl1 : (l.drop n).length ≤ 30 := by rw [List.length_drop]; omega
    have hl2 : (l.take n).length ≤ 30 := by rw [List.length_take]; omega
    have HD := Lib.hid (And.intro hd (And.intro ht hbase))
    clear hA2 hd ht hbase
    go_region_law (first
      | (refine step_append_set _ rfl (.tmp 34) (.tmp 37) 22 rfl w2.heap.size 46 i0 (.agg #[.int .i64 0, .int .i64 0]) Tryd.underlying22 hi hz0 hz1 hz2 rfl (.slice (some ⟨w2.heap.size, 0, none⟩) 0 0) [] (by simp [Act.eval]) ?_ w2.heap.size (.slice A2 (l.length - n) (cap1 - n)) (l.drop n) (by simp [Act.eval]) ?_ (by rw [List.length_nil]; omega) ?_ ?_; (exact hO0); (exact HD.out.1.below hB0); (exact hz9); intro v3 w3 hown3 hg3; have hB3 := below_append hB0 hO0 hsw hg3 hz9; have hz3 := hB3.size)
      | (refine step_append_set _ rfl (.tmp 38) (.tmp 39) 22 rfl w2.heap.size 46 i0 (.agg #[.int .i64 0, .int .i64 0]) Tryd.underlying22 hi hz0 hz1 hz2 rfl _ _ (by simp [Act.eval]) hown3 w2.heap.size _ l (by simp [Act.eval]) (HD.out.2.2.below hB3) (by rw [List.length_append, List.length_nil]; omega) hz3 ?_; intro v4 w4 hown4 hg4; have hB4 := below_append hB3 hown3 hsw hg4 hz3; have hz4 := hB4.size)
      | (refine step_append_set _ rfl (.tmp 40) (.tmp 43) 22 rfl w2.heap.size 46 i0 (.agg #[.int .i64 0, .int .i64 0]) Tryd.underlying22 hi hz0 hz1 hz2 rfl _ _ (by simp [Act.eval]) hown4 w2.heap.size _ (l.take n) (by simp [Act.eval]) (HD.out.2.1.below hB4) (by rw [List.length_append, List.length_append, List.length_nil]; omega) hz4 ?_; intro v5 w5 hown5 hg5; have hB5 := below_append hB4 hown4 hsw hg5 hz4; have hz5 := hB5.size)
      | (go_simp; go_at_call 11; refine (make_gives _ (([] ++ l.drop n ++ l) ++ l.take n) _ (by simp only [List.length_append, List.length_nil]; omega) (order_right HN.out n) hown5.set).mono ?_; rintro e w6 ⟨vb, b, rfl, hSb, ⟨hnb, hhb, hlb⟩, hb6⟩))
    replace E := Lib.hid ((E.out.step (hB5.trans (hb6.mono hz5))).add hSb)
    have Hb := Lib.hid (And.intro hnb hhb)
    have q1 : sameB a b = true := sameB_of (make_turned n Ha.out.1 hnb Ha.out.2 hhb)
    have hlb2 : b.length ≤ 100 := by
      simp only [List.length_append, List.length_nil] at hlb
      omega
    clear hhb hnb hlb hSb hb6 hB5 hB4 hB3 hown3 hown4 hown5 hg3 hg4 hg5 HD hsl1 hsl2 hO0 hB0 hz9 hz3 hz4 hz5
    go_wp2_with fail
    refine (make_gives _ a _ (by omega) Ha.out.1.1 (E.out.get _ a (by simp))).mono ?_
    rintro e w2 ⟨vc, c, rfl, hS, ⟨hna, hha, hlc⟩, hb⟩
    replace E := Lib.hid ((E.out.step hb).add hS)
    have Hc := Lib.hid (And.intro hna hha)
    clear hb hS hna hha
    have q2 : sameB a c = true := sameB_of (make_again Ha.out.1 Hc.out.1 Hc.out.2)
    go_wp2_with fail
    refine (same_any _ _ a b _ (by omega) (by omega) (E.out.get _ a (by simp)) (E.out.get _ b (by simp))).mono ?_
    rintro e w2 ⟨rfl, hb⟩
    replace E := Lib.hid (E.out.step hb)
    clear hb
    go_wp2_with fail
    refine (same_any _ _ a c _ (by omega) (by omega) (E.out.get _ a (by simp)) (E.out.get _ c (by simp))).mono ?_
    rintro e w2 ⟨rfl, hb⟩
    replace E := Lib.hid (E.out.step hb)
    clear hb
    go_wp2
    go_ret
    exact ⟨rfl, E.out.1⟩
  · have hlc : ¬ (0 : Int) < l.length := by omega
    go_upto_region 9 with (fail)
    have hsl1 := fun w => slice_from A1 l.length cap1 0 (by omega) w
    have hsl2 := fun w => slice_to A1 l.length cap1 0 (by omega) w
    obtain ⟨A2, hA2⟩ : ∃ A2, A2 = (if cap1 = 0 then A1 else A1.map (·.add (0 * 2))) := ⟨_, rfl⟩
    rw [← hA2] at hsl1
    rw [show ((0 : Nat) : Int) = 0 from rfl] at hsl1 hsl2
    have hbase := E.out.get (.slice A1 l.length cap1) l (by simp)
    have hd := drop_set hbase (show 0 ≤ l.length by omega)
    rw [← hA2] at hd
    have ht := take_set hbase (show 0 ≤ l.length by omega)
    have hsw := Nat.le_refl w2.heap.size
    have hO0 : Own (w2.alloc (.cells #[] 46)).drew w2.heap.size 46 (.slice (some ⟨w2.heap.size, 0, none⟩) 0 0) [] := own_empty w2 w2.heap.size 46 hsw
    have hB0 := ((Below.refl w2.heap.size w2).alloc hsw (.cells #[] 46)).drew
    have hz9 : w2.heap.size ≤ (w2.alloc (.cells #[] 46)).drew.heap.size := by
      show _ ≤ (w2.alloc (.cells #[] 46)).heap.size
      simp
    have hl1 : (l.drop 0).length ≤ 30 := by rw [List.length_drop]; omega
    have hl2 : (l.take 0).length ≤ 30 := by rw [List.length_take]; omega
    have HD := Lib.hid (And.intro hd (And.intro ht hbase))
    clear hA2 hd ht hbase
    go_region_law (first
      | (refine step_append_set _ rfl (.tmp 34) (.tmp 37) 22 rfl w2.heap.size 46 i0 (.agg #[.int .i64 0, .int .i64 0]) Tryd.underlying22 hi hz0 hz1 hz2 rfl (.slice (some ⟨w2.heap.size, 0, none⟩) 0 0) [] (by simp [Act.eval]) ?_ w2.heap.size (.slice A2 (l.length - 0) (cap1 - 0)) (l.drop 0) (by simp [Act.eval]) ?_ (by rw [List.length_nil]; omega) ?_ ?_; (exact hO0); (exact HD.out.1.below hB0); (exact hz9); intro v3 w3 hown3 hg3; have hB3 := below_append hB0 hO0 hsw hg3 hz9; have hz3 := hB3.size)
      | (refine step_append_set _ rfl (.tmp 38) (.tmp 39) 22 rfl w2.heap.size 46 i0 (.agg #[.int .i64 0, .int .i64 0]) Tryd.underlying22 hi hz0 hz1 hz2 rfl _ _ (by simp [Act.eval]) hown3 w2.heap.size _ l (by simp [Act.eval]) (HD.out.2.2.below hB3) (by rw [List.length_append, List.length_nil]; omega) hz3 ?_; intro v4 w4 hown4 hg4; have hB4 := below_append hB3 hown3 hsw hg4 hz3; have hz4 := hB4.size)
      | (refine step_append_set _ rfl (.tmp 40) (.tmp 43) 22 rfl w2.heap.size 46 i0 (.agg #[.int .i64 0, .int .i64 0]) Tryd.underlying22 hi hz0 hz1 hz2 rfl _ _ (by simp [Act.eval]) hown4 w2.heap.size _ (l.take 0) (by simp [Act.eval]) (HD.out.2.1.below hB4) (by rw [List.length_append, List.length_append, List.length_nil]; omega) hz4 ?_; intro v5 w5 hown5 hg5; have hB5 := below_append hB4 hown4 hsw hg5 hz4; have hz5 := hB5.size)
      | (go_simp; go_at_call 11; refine (make_gives _ (([] ++ l.drop 0 ++ l) ++ l.take 0) _ (by simp only [List.length_append, List.length_nil]; omega) (order_right HN.out 0) hown5.set).mono ?_; rintro e w6 ⟨vb, b, rfl, hSb, ⟨hnb, hhb, hlb⟩, hb6⟩))
    replace E := Lib.hid ((E.out.step (hB5.trans (hb6.mono hz5))).add hSb)
    have Hb := Lib.hid (And.intro hnb hhb)
    have q1 : sameB a b = true := sameB_of (make_turned 0 Ha.out.1 hnb Ha.out.2 hhb)
    have hlb2 : b.length ≤ 100 := by
      simp only [List.length_append, List.length_nil] at hlb
      omega
    clear hhb hnb hlb hSb hb6 hB5 hB4 hB3 hown3 hown4 hown5 hg3 hg4 hg5 HD hsl1 hsl2 hO0 hB0 hz9 hz3 hz4 hz5
    go_wp2_with fail
    refine (make_gives _ a _ (by omega) Ha.out.1.1 (E.out.get _ a (by simp))).mono ?_
    rintro e w2 ⟨vc, c, rfl, hS, ⟨hna, hha, hlc⟩, hb⟩
    replace E := Lib.hid ((E.out.step hb).add hS)
    have Hc := Lib.hid (And.intro hna hha)
    clear hb hS hna hha
    have q2 : sameB a c = true := sameB_of (make_again Ha.out.1 Hc.out.1 Hc.out.2)
    go_wp2_with fail
    refine (same_any _ _ a b _ (by omega) (by omega) (E.out.get _ a (by simp)) (E.out.get _ b (by simp))).mono ?_
    rintro e w2 ⟨rfl, hb⟩
    replace E := Lib.hid (E.out.step hb)
    clear hb
    go_wp2_with fail
    refine (same_any _ _ a c _ (by omega) (by omega) (E.out.get _ a (by simp)) (E.out.get _ c (by simp))).mono ?_
    rintro e w2 ⟨rfl, hb⟩
    replace E := Lib.hid (E.out.step hb)
    clear hb
    go_wp2
    go_ret
    exact ⟨rfl, E.out.1⟩

set_option maxRecDepth 100000 in
set_option maxHeartbeats 4000000 in
theorem order_refused (v : Value) (l : List Rg) (turn : Int) (w : World) (hL : LU w.heap.size w) (hs : SetV w.heap.size w v l) (h30 : l.length ≤ 30) (h0 : 0 ≤ turn) (h9 : turn ≤ 9223372036854775807) (hn : ¬ ∀ r ∈ l, Rt r) :
    Calls Tryd.prog 8 #[v, .int .i64 turn] w fun e w' => e = .returned (.bool true) ∧ Below w.heap.size w w' := by
  have E := Lib.hid (env_start hs)
  have HN := Lib.hid hn
  have HL := Lib.hid hL
  obtain ⟨A1, cap1, rfl, hcap, _⟩ := id hs
  clear hs hL hn
  obtain ⟨i0, hi, hz0, hz1, hz2⟩ := info_three info46
  go_enter Tryd.func8, Tryd.ntmps8
  go_wp2_with fail
  refine (anchor_any _ HL.out).mono ?_
  rintro e w1 ⟨rfl, hb⟩
  replace E := Lib.hid (E.out.step hb)
  clear hb
  go_wp2_with fail
  refine (make_wrong _ l _ (by omega) HN.out (E.out.get _ l (by simp))).mono ?_
  rintro e w2 ⟨rfl, hb⟩
  replace E := Lib.hid (E.out.step hb)
  clear hb
  by_cases hl : 0 < l.length
  · have hlc : (0 : Int) < l.length := by omega
    have hm0 := Int.emod_nonneg turn (show (l.length : Int) ≠ 0 by omega)
    have hm1 := Int.emod_lt_of_pos turn hlc
    go_upto_region 9 with (fail)
    obtain ⟨n, hn⟩ : ∃ n : Nat, (n : Int) = turn % l.length := ⟨(turn % l.length).toNat, by omega⟩
    rw [← hn]
    have hnl : n ≤ l.length := by omega
    clear hm0 hm1 hn
    have hsl1 := fun w => slice_from A1 l.length cap1 n (by omega) w
    have hsl2 := fun w => slice_to A1 l.length cap1 n (by omega) w
    obtain ⟨A2, hA2⟩ : ∃ A2, A2 = (if cap1 = n then A1 else A1.map (·.add (n * 2))) := ⟨_, rfl⟩
    rw [← hA2] at hsl1
    have hbase := E.out.get (.slice A1 l.length cap1) l (by simp)
    have hd := drop_set hbase (show n ≤ l.length by omega)
    rw [← hA2] at hd
    have ht := take_set hbase (show n ≤ l.length by omega)
    have hsw := Nat.le_refl w2.heap.size
    have hO0 : Own (w2.alloc (.cells #[] 46)).drew w2.heap.size 46 (.slice (some ⟨w2.heap.size, 0, none⟩) 0 0) [] := own_empty w2 w2.heap.size 46 hsw
    have hB0 := ((Below.refl w2.heap.size w2).alloc hsw (.cells #[] 46)).drew
    have hz9 : w2.heap.size ≤ (w2.alloc (.cells #[] 46)).drew.heap.size := by
      show _ ≤ (w2.alloc (.cells #[] 46)).heap.size
      simp
    have hl1 : (l.drop n).length ≤ 30 := by rw [List.length_drop]; omega
    have hl2 : (l.take n).length ≤ 30 := by rw [List.length_take]; omega
    have HD := Lib.hid (And.intro hd (And.intro ht hbase))
    clear hA2 hd ht hbase
    go_region_law (first
      | (refine step_append_set _ rfl (.tmp 34) (.tmp 37) 22 rfl w2.heap.size 46 i0 (.agg #[.int .i64 0, .int .i64 0]) Tryd.underlying22 hi hz0 hz1 hz2 rfl (.slice (some ⟨w2.heap.size, 0, none⟩) 0 0) [] (by simp [Act.eval]) ?_ w2.heap.size (.slice A2 (l.length - n) (cap1 - n)) (l.drop n) (by simp [Act.eval]) ?_ (by rw [List.length_nil]; omega) ?_ ?_; (exact hO0); (exact HD.out.1.below hB0); (exact hz9); intro v3 w3 hown3 hg3; have hB3 := below_append hB0 hO0 hsw hg3 hz9; have hz3 := hB3.size)
      | (refine step_append_set _ rfl (.tmp 38) (.tmp 39) 22 rfl w2.heap.size 46 i0 (.agg #[.int .i64 0, .int .i64 0]) Tryd.underlying22 hi hz0 hz1 hz2 rfl _ _ (by simp [Act.eval]) hown3 w2.heap.size _ l (by simp [Act.eval]) (HD.out.2.2.below hB3) (by rw [List.length_append, List.length_nil]; omega) hz3 ?_; intro v4 w4 hown4 hg4; have hB4 := below_append hB3 hown3 hsw hg4 hz3; have hz4 := hB4.size)
      | (refine step_append_set _ rfl (.tmp 40) (.tmp 43) 22 rfl w2.heap.size 46 i0 (.agg #[.int .i64 0, .int .i64 0]) Tryd.underlying22 hi hz0 hz1 hz2 rfl _ _ (by simp [Act.eval]) hown4 w2.heap.size _ (l.take n) (by simp [Act.eval]) (HD.out.2.1.below hB4) (by rw [List.length_append, List.length_append, List.length_nil]; omega) hz4 ?_; intro v5 w5 hown5 hg5; have hB5 := below_append hB4 hown4 hsw hg5 hz4; have hz5 := hB5.size)
      | (go_simp; go_at_call 11; refine (make_wrong _ (([] ++ l.drop n ++ l) ++ l.take n) _ (by simp only [List.length_append, List.length_nil]; omega) (order_wrong HN.out n) hown5.set).mono ?_; rintro e w6 ⟨rfl, hb6⟩))
    replace E := Lib.hid (E.out.step (hB5.trans (hb6.mono hz5)))
    clear hb6 hB5 hB4 hB3 hown3 hown4 hown5 hg3 hg4 hg5 HD hsl1 hsl2 hO0 hB0 hz9 hz3 hz4 hz5
    go_wp2
    go_ret
    exact ⟨rfl, E.out.1⟩
  · have hlc : ¬ (0 : Int) < l.length := by omega
    go_upto_region 9 with (fail)
    have hsl1 := fun w => slice_from A1 l.length cap1 0 (by omega) w
    have hsl2 := fun w => slice_to A1 l.length cap1 0 (by omega) w
    obtain ⟨A2, hA2⟩ : ∃ A2, A2 = (if cap1 = 0 then A1 else A1.map (·.add (0 * 2))) := ⟨_, rfl⟩
    rw [← hA2] at hsl1
    rw [show ((0 : Nat) : Int) = 0 from rfl] at hsl1 hsl2
    have hbase := E.out.get (.slice A1 l.length cap1) l (by simp)
    have hd := drop_set hbase (show 0 ≤ l.length by omega)
    rw [← hA2] at hd
    have ht := take_set hbase (show 0 ≤ l.length by omega)
    have hsw := Nat.le_refl w2.heap.size
    have hO0 : Own (w2.alloc (.cells #[] 46)).drew w2.heap.size 46 (.slice (some ⟨w2.heap.size, 0, none⟩) 0 0) [] := own_empty w2 w2.heap.size 46 hsw
    have hB0 := ((Below.refl w2.heap.size w2).alloc hsw (.cells #[] 46)).drew
    have hz9 : w2.heap.size ≤ (w2.alloc (.cells #[] 46)).drew.heap.size := by
      show _ ≤ (w2.alloc (.cells #[] 46)).heap.size
      simp
    have hl1 : (l.drop 0).length ≤ 30 := by rw [List.length_drop]; omega
    have hl2 : (l.take 0).length ≤ 30 := by rw [List.length_take]; omega
    have HD := Lib.hid (And.intro hd (And.intro ht hbase))
    clear hA2 hd ht hbase
    go_region_law (first
      | (refine step_append_set _ rfl (.tmp 34) (.tmp 37) 22 rfl w2.heap.size 46 i0 (.agg #[.int .i64 0, .int .i64 0]) Tryd.underlying22 hi hz0 hz1 hz2 rfl (.slice (some ⟨w2.heap.size, 0, none⟩) 0 0) [] (by simp [Act.eval]) ?_ w2.heap.size (.slice A2 (l.length - 0) (cap1 - 0)) (l.drop 0) (by simp [Act.eval]) ?_ (by rw [List.length_nil]; omega) ?_ ?_; (exact hO0); (exact HD.out.1.below hB0); (exact hz9); intro v3 w3 hown3 hg3; have hB3 := below_append hB0 hO0 hsw hg3 hz9; have hz3 := hB3.size)
      | (refine step_append_set _ rfl (.tmp 38) (.tmp 39) 22 rfl w2.heap.size 46 i0 (.agg #[.int .i64 0, .int .i64 0]) Tryd.underlying22 hi hz0 hz1 hz2 rfl _ _ (by simp [Act.eval]) hown3 w2.heap.size _ l (by simp [Act.eval]) (HD.out.2.2.below hB3) (by rw [List.length_append, List.length_nil]; omega) hz3 ?_; intro v4 w4 hown4 hg4; have hB4 := below_append hB3 hown3 hsw hg4 hz3; have hz4 := hB4.size)
      | (refine step_append_set _ rfl (.tmp 40) (.tmp 43) 22 rfl w2.heap.size 46 i0 (.agg #[.int .i64 0, .int .i64 0]) Tryd.underlying22 hi hz0 hz1 hz2 rfl _ _ (by simp [Act.eval]) hown4 w2.heap.size _ (l.take 0) (by simp [Act.eval]) (HD.out.2.1.below hB4) (by rw [List.length_append, List.length_append, List.length_nil]; omega) hz4 ?_; intro v5 w5 hown5 hg5; have hB5 := below_append hB4 hown4 hsw hg5 hz4; have hz5 := hB5.size)
      | (go_simp; go_at_call 11; refine (make_wrong _ (([] ++ l.drop 0 ++ l) ++ l.take 0) _ (by simp only [List.length_append, List.length_nil]; omega) (order_wrong HN.out 0) hown5.set).mono ?_; rintro e w6 ⟨rfl, hb6⟩))
    replace E := Lib.hid (E.out.step (hB5.trans (hb6.mono hz5)))
    clear hb6 hB5 hB4 hB3 hown3 hown4 hown5 hg3 hg4 hg5 HD hsl1 hsl2 hO0 hB0 hz9 hz3 hz4 hz5
    go_wp2
    go_ret
    exact ⟨rfl, E.out.1⟩

theorem classOrder_law (v : Value) (l : List Rg) (turn : Int) (w : World) (hL : LU w.heap.size w) (hs : SetV w.heap.size w v l) (ht : -9223372036854775808 ≤ turn ∧ turn ≤ 9223372036854775807) :
    Calls Tryd.prog 8 #[v, .int .i64 turn] w fun e w' => e = .returned (.bool true) ∧ Below w.heap.size w w' := by
  obtain ⟨_, h9⟩ := ht
  by_cases h30 : l.length ≤ 30
  · by_cases h0 : 0 ≤ turn
    · by_cases hn : ∀ r ∈ l, Rt r
      · exact order_main v l turn w hL hs h30 h0 h9 hn
      · exact order_refused v l turn w hL hs h30 h0 h9 hn
    · obtain ⟨A1, cap1, rfl, _, _⟩ := id hs
      go_enter Tryd.func8, Tryd.ntmps8
      go_wp2_with fail
      refine (anchor_any _ hL).mono ?_
      rintro e w1 ⟨rfl, hb⟩
      go_wp2
      go_ret
      exact ⟨rfl, hb⟩
  · have h31 : (30 : Int) < l.length := by omega
    obtain ⟨A1, cap1, rfl, _, _⟩ := id hs
    go_enter Tryd.func8, Tryd.ntmps8
    go_wp2_with fail
    refine (anchor_any _ hL).mono ?_
    rintro e w1 ⟨rfl, hb⟩
    go_wp2
    go_ret
    exact ⟨rfl, hb⟩

end Go.Proofs.YtjdboindeikhhaaDoor
