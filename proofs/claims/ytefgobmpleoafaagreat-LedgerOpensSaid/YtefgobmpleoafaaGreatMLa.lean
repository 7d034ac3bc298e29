/- Joined: LdA, LdC, LdD. -/
import Derived.Test.YtefgobmpleoafaaGreatLdW
/- Layer 13: whether a state is right. -/
namespace Go.Proofs.YtefgobmpleoafaaGreat
open Go.RowKit
variable {w w' : World}

theorem lin_any (n lo hi : Int) (w : World) : Calls Tryz.prog 56 #[.int .i64 n, .int .i64 lo, .int .i64 hi] w fun e w' => e = .returned (.bool (inR lo hi n)) ∧ w' = w := by
  go_enter Tryz.func56, Tryz.ntmps56
  unfold inR
  by_cases h1 : lo ≤ n
  · by_cases h2 : n ≤ hi
    · rw [decide_eq_true ⟨h1, h2⟩]
      go_wp2
      go_ret
      exact ⟨rfl, rfl⟩
    · rw [decide_eq_false (fun h => h2 h.2)]
      go_wp2
      go_ret
      exact ⟨rfl, rfl⟩
  · rw [decide_eq_false (fun h => h1 h.1)]
    go_wp2
    go_ret
    exact ⟨rfl, rfl⟩
set_option maxRecDepth 100000 in
set_option maxHeartbeats 2000000 in
theorem wrong_any (r : En) (p d : Value) (w : World) (hp : RulesV w.heap.size w p r.d.put) (hd : Row w.heap.size w d (zI r.d.drop)) :
    Calls Tryz.prog 63 #[r.val p d] w fun e w' => e = .returned (.bool (!r.ok)) ∧ Below w.heap.size w w' := by
  obtain ⟨Ap, cp, rfl⟩ := hp.form
  obtain ⟨Ad, cd, rfl⟩ := hd.form
  have BO : ∀ o, Below w.heap.size w (w.alloc o) := fun o => (Below.refl _ _).alloc (Nat.le_refl _) o
  have C : Hid (∀ o, Calls Tryz.prog 75 #[r.val (.slice Ap r.d.put.length cp) (.slice Ad (zI r.d.drop).length cd)] (w.alloc o) fun e w' => e = .returned (.bool r.ok) ∧ Below (w.alloc o).heap.size (w.alloc o) w') := Lib.hid fun o =>
    pentry_any r _ _ _ ((hp.below (BO o)).more (by simp)) ((hd.below (BO o)).more (by simp))
  clear hp hd BO
  generalize r.ok = q at C ⊢
  cases q
  · go_enter Tryz.func63, Tryz.ntmps63
    go_wp2_with fail
    refine (C.out _).mono ?_
    rintro e w1 ⟨rfl, hb1⟩
    have HB := Lib.hid (below_call (Below.refl _ _) (Nat.le_refl _) hb1)
    clear hb1 C
    go_wp2
    go_ret
    exact ⟨rfl, HB.out⟩
  · go_enter Tryz.func63, Tryz.ntmps63
    go_wp2_with fail
    refine (C.out _).mono ?_
    rintro e w1 ⟨rfl, hb1⟩
    have HB := Lib.hid (below_call (Below.refl _ _) (Nat.le_refl _) hb1)
    clear hb1 C
    go_wp2
    go_ret
    exact ⟨rfl, HB.out⟩
set_option maxRecDepth 100000 in
set_option maxHeartbeats 4000000 in
theorem index_any (v : Value) (l : List En) (w : World) (hmax : l.length ≤ 1000000) (hS : EntsV w.heap.size w v l) :
    Calls Tryz.prog 74 #[v, .func (.func 63) #[] #[]] w fun e w' => ∃ i : Int, e = .returned (.int .i64 i) ∧ decide (0 ≤ i) = (!l.all En.ok) ∧ Below w.heap.size w w' := by
  obtain ⟨A, cap, rfl⟩ := hS.form
  go_enter Tryz.func74, Tryz.ntmps74
  go_wp2
  go_loopw [8] (fun i wr => ∃ k : Nat, k ≤ l.length ∧ i = .int .i64 k ∧ Hid ((l.take k).all En.ok = true) ∧ Below w.heap.size w wr) (fun i _ => l.length - (intOf i).toNat)
  case atStart => exact ⟨0, Nat.zero_le _, rfl, Lib.hid rfl, Below.refl _ _⟩
  case round =>
    obtain ⟨k, hk, rfl, HH, hbel⟩ := hrel
    have hsz := hbel.size
    by_cases hlt : k < l.length
    · obtain ⟨b, off, p, d, rfl, hb, ⟨c0, c1, c2, c3, c4, c5, c6, c7, c8⟩, hp, hd⟩ := (hS.below hbel).at_ hlt
      have HG := Lib.hid (List.getElem?_eq_getElem hlt)
      generalize l[k] = r at HG c0 c1 c2 c3 c4 c5 c6 c7 c8 hp hd
      obtain ⟨Ap, cp, rfl⟩ := hp.form
      obtain ⟨Ad, cd, rfl⟩ := hd.form
      have C : Hid (Calls Tryz.prog 63 #[r.val (.slice Ap r.d.put.length cp) (.slice Ad (zI r.d.drop).length cd)] wr fun e w' => e = .returned (.bool (!r.ok)) ∧ Below wr.heap.size wr w') := Lib.hid
        (wrong_any r _ _ _ (hp.more hsz) (hd.more hsz))
      clear hp hd
      cases hok : r.ok
      · have HI := Lib.hid hok
        clear hok
        go_wp2_with fail
        refine C.out.mono ?_
        rintro e w1 ⟨rfl, hb1⟩
        rw [HI.out]
        have HB := Lib.hid (hbel.trans (hb1.mono hsz))
        clear hb1
        go_wp2
        go_ret
        exact ⟨_, rfl, by rw [allB_false HG.out HI.out, decide_eq_true (by omega)]; rfl, HB.out⟩
      · have HI := Lib.hid hok
        clear hok
        go_wp2_with fail
        refine C.out.mono ?_
        rintro e w1 ⟨rfl, hb1⟩
        rw [HI.out]
        have HB := Lib.hid (hbel.trans (hb1.mono hsz))
        clear hb1
        go_wp2
        go_roundw
        case rel => exact ⟨k + 1, by omega, by go_num, Lib.hid (by rw [allB_take HG.out, HH.out, HI.out]; rfl), HB.out⟩
        case measure => simp [intOf]; omega
    · obtain rfl : k = l.length := by omega
      have hH := HH.out
      rw [List.take_length] at hH
      have HF := Lib.hid hH
      clear hH
      go_wp2
      go_ret
      exact ⟨_, rfl, by rw [HF.out]; rfl, hbel⟩
set_option maxRecDepth 100000 in
set_option maxHeartbeats 2000000 in
theorem contains_any (v : Value) (l : List En) (w : World) (hmax : l.length ≤ 1000000) (hS : EntsV w.heap.size w v l) :
    Calls Tryz.prog 62 #[v, .func (.func 63) #[] #[]] w fun e w' => e = .returned (.bool (!l.all En.ok)) ∧ Below w.heap.size w w' := by
  obtain ⟨A, cap, rfl⟩ := hS.form
  have C := Lib.hid (index_any _ l w hmax hS)
  clear hS
  generalize l.all En.ok = q at C ⊢
  go_enter Tryz.func62, Tryz.ntmps62
  go_wp2_with fail
  refine C.out.mono ?_
  rintro e w1 ⟨i, rfl, hi, hb1⟩
  have HB := Lib.hid hb1
  have HI := Lib.hid hi
  clear hb1 C hi
  go_wp2
  go_ret
  exact ⟨ret_bool HI.out, HB.out⟩
end Go.Proofs.YtefgobmpleoafaaGreat

/- Layer 13: rows and entries of the call's own (slices.Clone, ownEntry). -/
namespace Go.Proofs.YtefgobmpleoafaaGreat
open Go.RowKit
variable {w w' : World}

/-- append of the cells that a slice reads as, onto a row of the call's own. -/
theorem run_append_gen {P : Program} (w : World) (base : Nat) (t ty e : TypeId) (i : TypeInfo) (z : Value) (size bytes : Nat) (ht : P.underlying t = some (.slice e)) (hi : P.info? e = some i) (hz : i.zero = some z)
    (hsize : i.size = size) (hby : i.bytes = bytes) (hzs : z.cells.size = size) (hsz : 0 < size) (v : Value) (n : Nat) (xs : List Value) (hown : w.ownsRow base e size v n xs)
    (A : Option Addr) (m c : Nat) (news : List Value) (hl : news.length = m * size) (hA : A = none → m = 0) (hnews : ∀ a, A = some a → ∀ j u, news[j]? = some u → w.cell? (a.add j) = some u) (h1 : ∀ u ∈ news, u.oneCell' = true)
    (h63 : n + m ≤ maxLen) (hbytes : (n + m) * bytes ≤ 140737488355328) (hbase : base ≤ w.heap.size) :
    ∃ v' w', (Builtin.append_ #[t, t] ty #[v, .slice A m c]).run P w = .ok v' w' ∧ w'.ownsRow base e size v' (n + m) (xs ++ news) ∧ w.grownBy w' v.ownBlock := by
  cases A with
  | none =>
    obtain rfl := hA rfl
    obtain rfl : news = [] := List.eq_nil_of_length_eq_zero (by rw [hl]; simp)
    refine ⟨v, w, ?_, by simpa using hown, World.grownBy.refl w _⟩
    rcases hown.2 with ⟨rfl, _⟩ | ⟨g, c, cur, rfl, _, _, hnc, _⟩
    · simp [Builtin.append_, run_underlying ht, sizeOf, typeInfo, hi, Builtin.lenOf, Builtin.firstCells]
    · simp [Builtin.append_, run_underlying ht, sizeOf, typeInfo, hi, Builtin.lenOf, Builtin.firstCells, hnc, storeCells]
  | some a =>
    obtain ⟨v', w', h1, h2, h3, _, _⟩ := run_append_own_at (P := P) w base t ty e i z size bytes ht hi hz hsize hby hzs hsz v n xs hown a m c news hl (hnews a rfl) h1 h63 hbytes hbase
    exact ⟨v', w', h1, h2, h3⟩
theorem wpList_append_gen {P : Program} (w : World) {ops : Array Oper} {rest : List Oper} {o : Oper} {a : Act} {Q : Exit → Act → World → Prop} (hgd : o.guard = none) (x y : Operand) (t : TypeId)
    (ho : o.op = .call { callee := .builtin .append, args := #[x, y], argTypes := #[t, t] })
    (base : Nat) (e : TypeId) (i : TypeInfo) (z : Value) (size bytes : Nat) (ht : P.underlying t = some (.slice e)) (hi : P.info? e = some i) (hz : i.zero = some z)
    (hsize : i.size = size) (hby : i.bytes = bytes) (hzs : z.cells.size = size) (hsz : 0 < size) (v : Value) (n : Nat) (xs : List Value) (hs : a.eval x = v) (hown : w.ownsRow base e size v n xs)
    (A : Option Addr) (m c : Nat) (news : List Value) (hy : a.eval y = .slice A m c) (hl : news.length = m * size) (hA : A = none → m = 0) (hnews : ∀ a, A = some a → ∀ j u, news[j]? = some u → w.cell? (a.add j) = some u) (h1 : ∀ u ∈ news, u.oneCell' = true)
    (h63 : n + m ≤ maxLen) (hbytes : (n + m) * bytes ≤ 140737488355328) (hbase : base ≤ w.heap.size)
    (h : ∀ v' w', w'.ownsRow base e size v' (n + m) (xs ++ news) → w.grownBy w' v.ownBlock → wpList P ops Q rest (a.put o.dst v') w') : wpList P ops Q (o :: rest) a w := by
  refine wpList_plain hgd fun K hK => ?_
  obtain ⟨v', w', hrun, h2, h3⟩ := run_append_gen (P := P) w base t o.type e i z size bytes ht hi hz hsize hby hzs hsz v n xs hown A m c news hl hA hnews h1 h63 hbytes hbase
  unfold Oper.wp execOp
  simp only [ho, resolve, invoke, builtin, Sem.run_bind, Sem.run_pure, Result.andThen_ok, List.map_toArray, List.map_cons, List.map_nil, hs, hy, hrun]
  exact hK _ _ (h v' w' h2 h3)
theorem step_append_gen {P : Program} (w : World) {ops : Array Oper} {o : Oper} {a : Act} {K : Act → World → Prop} {Q : Exit → Act → World → Prop} {E : Prop} (hgd : o.guard = none) (dd : Nat) (hdd : o.dst = some dd) (x y : Operand) (t : TypeId)
    (ho : o.op = .call { callee := .builtin .append, args := #[x, y], argTypes := #[t, t] })
    (base : Nat) (e : TypeId) (i : TypeInfo) (z : Value) (size bytes : Nat) (ht : P.underlying t = some (.slice e)) (hi : P.info? e = some i) (hz : i.zero = some z)
    (hsize : i.size = size) (hby : i.bytes = bytes) (hzs : z.cells.size = size) (hsz : 0 < size) (v : Value) (n : Nat) (xs : List Value) (hs : a.eval x = v) (hown : w.ownsRow base e size v n xs)
    (A : Option Addr) (m c : Nat) (news : List Value) (hy : a.eval y = .slice A m c) (hl : news.length = m * size) (hA : A = none → m = 0) (hnews : ∀ a, A = some a → ∀ j u, news[j]? = some u → w.cell? (a.add j) = some u) (h1 : ∀ u ∈ news, u.oneCell' = true)
    (h63 : n + m ≤ maxLen) (hbytes : (n + m) * bytes ≤ 140737488355328) (hbase : base ≤ w.heap.size)
    (h : ∀ v' w', w'.ownsRow base e size v' (n + m) (xs ++ news) → w.grownBy w' v.ownBlock → K { tmps := a.tmps.setIfInBounds dd v', defers := a.defers } w') :
    if Region.wanted o (yielded ops a.tmps) = true then Oper.wp P o a w K Q else E := by
  have hw : Region.wanted o (yielded ops a.tmps) = true := by simp [Region.wanted, hgd]
  rw [if_pos hw]
  obtain ⟨v', w', hrun, h2, h3⟩ := run_append_gen (P := P) w base t o.type e i z size bytes ht hi hz hsize hby hzs hsz v n xs hown A m c news hl hA hnews h1 h63 hbytes hbase
  unfold Oper.wp execOp
  simp only [ho, resolve, invoke, builtin, Sem.run_bind, Sem.run_pure, Result.andThen_ok, List.map_toArray, List.map_cons, List.map_nil, hs, hy, hrun]
  show K (a.put o.dst v') w'
  rw [hdd]
  exact h v' w' h2 h3
theorem RulesV.src {n₀ n c : Nat} {A : Option Addr} {l : List Ru} (h : RulesV n₀ w (.slice A n c) l) : (A = none → n = 0) ∧ ∀ a, A = some a → ∀ j u, (ruCells l)[j]? = some u → w.cell? (a.add j) = some u := by
  obtain ⟨A', c', hv, _, ht⟩ := h
  injection hv with e1 e2 e3
  subst e1 e2
  refine ⟨fun h => ?_, fun a ha j u hj => ?_⟩
  · by_cases hl : l = []
    · rw [hl]; rfl
    · obtain ⟨b, off, hA, _⟩ := ht hl
      rw [hA] at h; cases h
  · obtain ⟨r, hr, hu⟩ := ruCells_inv l j u hj
    obtain ⟨b, off, hA, _, hx⟩ := ht (by rintro rfl; simp at hr)
    rw [hA] at ha
    injection ha with ha
    subst ha
    have := (hx (j / 5) r hr).get (j % 5) u hu
    have hadd : (⟨b, off, none⟩ : Addr).add j = ⟨b, off + j, none⟩ := by unfold Addr.add; split <;> simp_all
    rw [hadd, show off + j = off + j / 5 * 5 + j % 5 by omega]
    exact this
theorem Row.src {n₀ n c : Nat} {A : Option Addr} {xs : List Value} (h : Row n₀ w (.slice A n c) xs) : (A = none → n = 0) ∧ ∀ a, A = some a → ∀ j u, xs[j]? = some u → w.cell? (a.add j) = some u := by
  obtain ⟨A', c', hv, _, ht⟩ := h
  injection hv with e1 e2 e3
  subst e1 e2
  refine ⟨fun h => ?_, fun a ha j u hj => ?_⟩
  · by_cases hl : xs = []
    · rw [hl]; rfl
    · obtain ⟨b, off, hA, _⟩ := ht hl
      rw [hA] at h; cases h
  · obtain ⟨b, off, hA, _, hx⟩ := ht (by rintro rfl; simp at hj)
    rw [hA] at ha
    injection ha with ha
    subst ha
    have hadd : (⟨b, off, none⟩ : Addr).add j = ⟨b, off + j, none⟩ := by unfold Addr.add; split <;> simp_all
    rw [hadd]
    exact hx j u hj
theorem info_rule13 : (Tryz.prog.info? 114).map (fun i => (i.zero, i.size, i.bytes)) = some (some (.agg #[.int .i64 0, .int .i64 0, .int .i64 0, .int .i64 0, .string ⟨#[]⟩]), 5, 48) := by kernel_rfl
theorem info_int13 : (Tryz.prog.info? 3).map (fun i => (i.zero, i.size, i.bytes)) = some (some (.int .i64 0), 1, 8) := by kernel_rfl
theorem zI_one (l : List Int) : ∀ y ∈ zI l, y.oneCell' = true := by
  intro y hy
  obtain ⟨n, _, rfl⟩ := List.mem_map.1 hy
  rfl
set_option maxRecDepth 100000 in
set_option maxHeartbeats 2000000 in
theorem cloneR_any (v : Value) (l : List Ru) (w : World) (hm : l.length ≤ 1000000) (hS : RulesV w.heap.size w v l) :
    Calls Tryz.prog 60 #[v] w fun e w' => ∃ A c, e = .returned (.slice A l.length c) ∧ OwnU w' w.heap.size 114 (.slice A l.length c) l ∧ Below w.heap.size w w' := by
  obtain ⟨i0, hi, hz0, hz1, hz2⟩ := info_three info_rule13
  obtain ⟨A, cap, rfl⟩ := hS.form
  have H := Lib.hid hS
  have hN := hS.src.1
  clear hS
  have q22 : ∀ (w : World) (a : Option Addr) (n c n' c' : Nat), (binOp .eql 89 (.slice a n c) (.slice none n' c')).run Tryz.prog w = .ok (.bool a.isNone) w := fun w a n c n' c' => Lib.run_eql_slice_nil w _ _ a n c n' c' Tryz.underlying89
  obtain ⟨n, hn⟩ : ∃ n, n = l.length := ⟨_, rfl⟩
  rw [← hn] at H hm hN ⊢
  have HL := Lib.hid hn
  clear hn
  cases A with
  | none =>
    have hz := hN rfl
    have h0 : l = [] := List.eq_nil_of_length_eq_zero (by rw [← HL.out]; exact hz)
    subst h0
    subst hz
    clear hN
    go_enter Tryz.func60, Tryz.ntmps60
    go_wp2
    go_ret
    exact ⟨none, 0, rfl, OwnU.nil _ _ _, Below.refl _ _⟩
  | some a =>
    clear hN
    have HO0 : Hid ((w.alloc (.cells #[] 114)).ownsRow w.heap.size 114 5 (.slice (some ⟨w.heap.size, 0, none⟩) 0 0) 0 []) := Lib.hid (World.ownsRow_made w #[] 0 (Nat.le_refl _) (by unfold maxLen; omega) (by simp))
    go_enter Tryz.func60, Tryz.ntmps60
    go_wp2_with (at_builtin
                 go_loud (refine wpList_append_gen _ rfl (.tmp 5) (.tmp 6) 89 rfl w.heap.size 114 i0 (.agg #[.int .i64 0, .int .i64 0, .int .i64 0, .int .i64 0, .string ⟨#[]⟩]) 5 48 Tryz.underlying89 hi hz0 hz1 hz2 rfl (by decide) _ 0 [] rfl HO0.out _ _ _ (ruCells l) rfl (by rw [ruCells_len, HL.out]) (fun h => by cases h) (H.out.below ((Below.refl _ w).alloc (Nat.le_refl _) _)).src.2 (ruCells_one l) (by unfold maxLen; omega) (by omega) (by simp) ?_)
                 intro v' w' o3 g3
                 go_loud (have B3 : Hid (Below w.heap.size w w') := Lib.hid (((Below.refl _ w).alloc (Nat.le_refl _) _).grown g3 (by simp) (fun j hj => (World.ownsRow.lt HO0.out j hj).1)))
                 go_loud (rw [List.nil_append, Nat.zero_add] at o3)
                 go_loud (obtain ⟨A', c', hv'⟩ := orow_form o3)
                 subst hv'
                 have O3 : Hid (w'.ownsRow w.heap.size 114 5 (.slice A' n c') n (ruCells l)) := Lib.hid o3
                 clear g3 o3)
    go_ret
    refine ⟨A', c', rfl, ?_, B3.out⟩
    unfold OwnU
    rw [← HL.out]
    exact O3.out
set_option maxRecDepth 100000 in
set_option maxHeartbeats 2000000 in
theorem cloneI_any (v : Value) (l : List Int) (w : World) (hm : l.length ≤ 1000000) (hS : Row w.heap.size w v (zI l)) :
    Calls Tryz.prog 61 #[v] w fun e w' => ∃ A c, e = .returned (.slice A l.length c) ∧ LIntV w.heap.size w' (.slice A l.length c) l ∧ Below w.heap.size w w' := by
  obtain ⟨i0, hi, hz0, hz1, hz2⟩ := info_three info_int13
  obtain ⟨A, cap, rfl⟩ := hS.form
  rw [zI_len] at hS ⊢
  have H := Lib.hid hS
  have hN := hS.src.1
  clear hS
  have q22 : ∀ (w : World) (a : Option Addr) (n c n' c' : Nat), (binOp .eql 74 (.slice a n c) (.slice none n' c')).run Tryz.prog w = .ok (.bool a.isNone) w := fun w a n c n' c' => Lib.run_eql_slice_nil w _ _ a n c n' c' Tryz.underlying74
  obtain ⟨n, hn⟩ : ∃ n, n = l.length := ⟨_, rfl⟩
  rw [← hn] at H hm hN ⊢
  have HL := Lib.hid hn
  clear hn
  cases A with
  | none =>
    have hz := hN rfl
    have h0 : l = [] := List.eq_nil_of_length_eq_zero (by rw [← HL.out]; exact hz)
    subst h0
    subst hz
    clear hN
    go_enter Tryz.func61, Tryz.ntmps61
    go_wp2
    go_ret
    exact ⟨none, 0, rfl, World.ownsRow_nil _ _ _ _, Below.refl _ _⟩
  | some a =>
    clear hN
    have HO0 : Hid ((w.alloc (.cells #[] 3)).ownsRow w.heap.size 3 1 (.slice (some ⟨w.heap.size, 0, none⟩) 0 0) 0 []) := Lib.hid (World.ownsRow_made w #[] 0 (Nat.le_refl _) (by unfold maxLen; omega) (by simp))
    go_enter Tryz.func61, Tryz.ntmps61
    go_wp2_with (at_builtin
                 go_loud (refine wpList_append_gen _ rfl (.tmp 5) (.tmp 6) 74 rfl w.heap.size 3 i0 (.int .i64 0) 1 8 Tryz.underlying74 hi hz0 hz1 hz2 rfl (by decide) _ 0 [] rfl HO0.out _ _ _ (zI l) rfl (by rw [zI_len, Nat.mul_one, HL.out]) (fun h => by cases h) (H.out.below ((Below.refl _ w).alloc (Nat.le_refl _) _)).src.2 (zI_one l) (by unfold maxLen; omega) (by omega) (by simp) ?_)
                 intro v' w' o3 g3
                 go_loud (have B3 : Hid (Below w.heap.size w w') := Lib.hid (((Below.refl _ w).alloc (Nat.le_refl _) _).grown g3 (by simp) (fun j hj => (World.ownsRow.lt HO0.out j hj).1)))
                 go_loud (rw [List.nil_append, Nat.zero_add] at o3)
                 go_loud (obtain ⟨A', c', hv'⟩ := orow_form o3)
                 subst hv'
                 have O3 : Hid (w'.ownsRow w.heap.size 3 1 (.slice A' n c') n (zI l)) := Lib.hid o3
                 clear g3 o3)
    go_ret
    refine ⟨A', c', rfl, ?_, B3.out⟩
    unfold LIntV
    rw [← HL.out]
    exact O3.out
end Go.Proofs.YtefgobmpleoafaaGreat

/- Layer 13: an entry of the call's own. (Written by genLdC.py.) -/
namespace Go.Proofs.YtefgobmpleoafaaGreat
open Go.RowKit
variable {w w' : World}

set_option maxRecDepth 100000 in
set_option maxHeartbeats 8000000 in
theorem ownEntry_any (r : En) (p d : Value) (w : World) (hm : r.d.put.length ≤ 1000000) (hm2 : r.d.drop.length ≤ 1000000) (hp : RulesV w.heap.size w p r.d.put) (hd : Row w.heap.size w d (zI r.d.drop)) :
    Calls Tryz.prog 41 #[r.val p d] w fun e w' => ∃ p' d', e = .returned (r.val p' d') ∧ OwnU w' w.heap.size 114 p' r.d.put ∧ LIntV w.heap.size w' d' r.d.drop ∧ Below w.heap.size w w' := by
  obtain ⟨Ap, cp, rfl⟩ := hp.form
  obtain ⟨Ad, cd, rfl⟩ := hd.form
  rw [zI_len] at hd ⊢
  have CR : Hid (∀ W, Below w.heap.size w W → Calls Tryz.prog 60 #[.slice Ap r.d.put.length cp] W fun e w' => ∃ A c, e = .returned (.slice A r.d.put.length c) ∧ OwnU w' W.heap.size 114 (.slice A r.d.put.length c) r.d.put ∧ Below W.heap.size W w') := Lib.hid fun W hB => cloneR_any _ _ W hm (hp.on_ hB)
  have CI : Hid (∀ W, Below w.heap.size w W → Calls Tryz.prog 61 #[.slice Ad r.d.drop.length cd] W fun e w' => ∃ A c, e = .returned (.slice A r.d.drop.length c) ∧ LIntV W.heap.size w' (.slice A r.d.drop.length c) r.d.drop ∧ Below W.heap.size W w') := Lib.hid fun W hB => cloneI_any _ _ W hm2 ((hd.below hB).more hB.size)
  clear hp hd hm hm2
  obtain ⟨np, hnp⟩ : ∃ np, np = r.d.put.length := ⟨_, rfl⟩
  obtain ⟨nd, hnd⟩ : ∃ nd, nd = r.d.drop.length := ⟨_, rfl⟩
  rw [← hnp] at CR ⊢
  rw [← hnd] at CI ⊢
  clear hnp hnd
  have b0 : Below w.heap.size w ((w.alloc (.cells #[.int .i64 r.vi, .int .i64 r.cl, .int .i64 r.re, .int .i64 r.d.de, .int .i64 r.d.cl, .int .i64 r.d.fu, .int .i64 r.d.st, .slice Ap np cp, .slice Ad nd cd] 93)).alloc (.cells #[.int .i64 0, .int .i64 0, .int .i64 0, .int .i64 0, .int .i64 0, .int .i64 0, .int .i64 0, .slice none 0 0, .slice none 0 0] 93)) := ((Below.refl _ _).alloc (Nat.le_refl _) _).alloc (by simp) _
  have HX : Hid (Blk ((w.alloc (.cells #[.int .i64 r.vi, .int .i64 r.cl, .int .i64 r.re, .int .i64 r.d.de, .int .i64 r.d.cl, .int .i64 r.d.fu, .int .i64 r.d.st, .slice Ap np cp, .slice Ad nd cd] 93)).alloc (.cells #[.int .i64 0, .int .i64 0, .int .i64 0, .int .i64 0, .int .i64 0, .int .i64 0, .int .i64 0, .slice none 0 0, .slice none 0 0] 93)) w.heap.size 93 #[.int .i64 r.vi, .int .i64 r.cl, .int .i64 r.re, .int .i64 r.d.de, .int .i64 r.d.cl, .int .i64 r.d.fu, .int .i64 r.d.st, .slice Ap np cp, .slice Ad nd cd]) := Lib.hid ((Blk.new _ _ _).alloc _)
  have HZ : Hid (Blk ((w.alloc (.cells #[.int .i64 r.vi, .int .i64 r.cl, .int .i64 r.re, .int .i64 r.d.de, .int .i64 r.d.cl, .int .i64 r.d.fu, .int .i64 r.d.st, .slice Ap np cp, .slice Ad nd cd] 93)).alloc (.cells #[.int .i64 0, .int .i64 0, .int .i64 0, .int .i64 0, .int .i64 0, .int .i64 0, .int .i64 0, .slice none 0 0, .slice none 0 0] 93)) (w.heap.size + 1) 93 #[.int .i64 0, .int .i64 0, .int .i64 0, .int .i64 0, .int .i64 0, .int .i64 0, .int .i64 0, .slice none 0 0, .slice none 0 0]) := Lib.hid (Blk.at_new _ _ (by simp) _ _)
  have hs0 : ((w.alloc (.cells #[.int .i64 r.vi, .int .i64 r.cl, .int .i64 r.re, .int .i64 r.d.de, .int .i64 r.d.cl, .int .i64 r.d.fu, .int .i64 r.d.st, .slice Ap np cp, .slice Ad nd cd] 93)).alloc (.cells #[.int .i64 0, .int .i64 0, .int .i64 0, .int .i64 0, .int .i64 0, .int .i64 0, .int .i64 0, .slice none 0 0, .slice none 0 0] 93)).heap.size = w.heap.size + 2 := by simp
  go_enter Tryz.func41, Tryz.ntmps41
  go_upto_region 1 with (fail)
  generalize (w.alloc _).alloc _ = wx at *
  have B5 : Hid (Below w.heap.size w wx.drew) := Lib.hid (Below.drewN' b0 1)
  have hs7 : w.heap.size + 2 ≤ wx.drew.heap.size := by show w.heap.size + 2 ≤ wx.heap.size; omega
  have HXd : Hid (Blk wx.drew w.heap.size 93 #[.int .i64 r.vi, .int .i64 r.cl, .int .i64 r.re, .int .i64 r.d.de, .int .i64 r.d.cl, .int .i64 r.d.fu, .int .i64 r.d.st, .slice Ap np cp, .slice Ad nd cd]) := Lib.hid HX.out
  have HZd : Hid (Blk wx.drew (w.heap.size + 1) 93 #[.int .i64 0, .int .i64 0, .int .i64 0, .int .i64 0, .int .i64 0, .int .i64 0, .int .i64 0, .slice none 0 0, .slice none 0 0]) := Lib.hid HZ.out
  clear b0 HX HZ hs0
  refine wp_region_held_drew (S := fun _ => True) (by kernel_rfl) trivial (fun hHeld => ?_)
  refine take_d 0 3 (.pointer (some ⟨w.heap.size, 3, none⟩)) _ rfl rfl (by kernel_rfl) (by kernel_rfl) (by kernel_rfl) (fun _ _ _ h => h) (Or.inl ⟨by rfl, fun w' hSw => ?_⟩) hHeld ?_
  · go_simp
  simp only [List.setIfInBounds_toArray, List.set_cons_zero, List.set_cons_succ]
  refine take_d 1 4 (.pointer (some ⟨w.heap.size, 7, none⟩)) _ rfl rfl (by kernel_rfl) (by kernel_rfl) (by kernel_rfl) (fun _ _ _ h => h) (Or.inl ⟨by rfl, fun w' hSw => ?_⟩) hHeld ?_
  · go_simp
  simp only [List.setIfInBounds_toArray, List.set_cons_zero, List.set_cons_succ]
  refine take_d 4 7 (.pointer (some ⟨w.heap.size, 3, none⟩)) _ rfl rfl (by kernel_rfl) (by kernel_rfl) (by kernel_rfl) (fun _ _ _ h => h) (Or.inl ⟨by rfl, fun w' hSw => ?_⟩) hHeld ?_
  · go_simp
  simp only [List.setIfInBounds_toArray, List.set_cons_zero, List.set_cons_succ]
  refine take_d 5 8 (.pointer (some ⟨w.heap.size, 8, none⟩)) _ rfl rfl (by kernel_rfl) (by kernel_rfl) (by kernel_rfl) (fun _ _ _ h => h) (Or.inl ⟨by rfl, fun w' hSw => ?_⟩) hHeld ?_
  · go_simp
  simp only [List.setIfInBounds_toArray, List.set_cons_zero, List.set_cons_succ]
  refine wpAnyH_ready (rs := [2, 6]) (by kernel_rfl) (by simp) ?_
  refine AllReadyH.cons rfl (fun K hK => ?_) (AllReadyH.cons rfl (fun K hK => ?_) (AllReadyH.nil))
  · have q := HXd.out.cell 7
    go_simp
    refine hK.out _ _ trivial (fun hHeld => ?_)
    clear hK K q
    refine wpAnyH_ready (rs := [3, 6]) (by kernel_rfl) (by simp) ?_
    refine AllReadyH.cons rfl (fun K hK => ?_) (AllReadyH.cons rfl (fun K hK => ?_) (AllReadyH.nil))
    · go_simp
      refine (CR.out wx.drew B5.out).mono ?_
      rintro e w6 ⟨A6, c6, rfl, ow6, hBw6⟩
      have Xw6 := Lib.hid (HXd.out.on hBw6)
      have Zw6 := Lib.hid (HZd.out.on hBw6)
      have Bw6 := Lib.hid (B5.out.trans (hBw6.mono B5.out.size))
      have Ow6 : Hid (OwnU w6 (w.heap.size + 2) 114 (.slice A6 np c6) r.d.put) := Lib.hid (orow_low ow6 hs7)
      have hw6 : w.heap.size + 2 ≤ w6.heap.size := Nat.le_trans hs7 hBw6.size
      refine hK.out _ _ trivial (fun hHeld => ?_)
      clear hK K ow6 hBw6
      refine wpAnyH_ready (rs := [6]) (by kernel_rfl) (by simp) ?_
      refine AllReadyH.cons rfl (fun K hK => ?_) AllReadyH.nil
      have q := Xw6.out.cell 8
      go_simp
      refine hK.out _ _ trivial (fun hHeld => ?_)
      clear hK K q
      refine take_d 8 11 (.pointer (some ⟨w.heap.size, 3, none⟩)) _ rfl rfl (by kernel_rfl) (by kernel_rfl) (by kernel_rfl) (fun _ _ _ h => h) (Or.inl ⟨by rfl, fun w' hSw => ?_⟩) hHeld ?_
      · go_simp
      simp only [List.setIfInBounds_toArray, List.set_cons_zero, List.set_cons_succ]
      refine take_d 9 12 (.pointer (some ⟨w.heap.size, 7, none⟩)) _ rfl rfl (by kernel_rfl) (by kernel_rfl) (by kernel_rfl) (fun _ _ _ h => h) (Or.inl ⟨by rfl, fun w' hSw => ?_⟩) hHeld ?_
      · go_simp
      simp only [List.setIfInBounds_toArray, List.set_cons_zero, List.set_cons_succ]
      refine wpAnyH_ready (rs := [7]) (by kernel_rfl) (by simp) ?_
      refine AllReadyH.cons rfl (fun K hK => ?_) AllReadyH.nil
      go_simp
      refine (CI.out w6 Bw6.out).mono ?_
      rintro e w7 ⟨A7, c7, rfl, ow7, hBw7⟩
      have Xw7 := Lib.hid (Xw6.out.on hBw7)
      have Zw7 := Lib.hid (Zw6.out.on hBw7)
      have Bw7 := Lib.hid (Bw6.out.trans (hBw7.mono Bw6.out.size))
      have Qw7 := Lib.hid (own_keep Ow6.out fun i hi => hBw7.block i (World.ownsRow.lt Ow6.out i hi.symm).2)
      have Ow7 : Hid (LIntV (w.heap.size + 2) w7 (.slice A7 nd c7) r.d.drop) := Lib.hid (orow_low ow7 hw6)
      have hw7 : w.heap.size + 2 ≤ w7.heap.size := Nat.le_trans hw6 hBw7.size
      refine hK.out _ _ trivial (fun hHeld => ?_)
      clear hK K ow7 hBw7
      refine wpAnyH_ready (rs := [10]) (by kernel_rfl) (by simp) ?_
      refine AllReadyH.cons rfl (fun K hK => ?_) AllReadyH.nil
      have f := Xw7.out.frozen 7
      have q := Xw7.out.cell 7
      have l := Xw7.out.lt
      go_simp
      have Xs : Hid (Blk (w7.setCell ⟨w.heap.size, 7, none⟩ (.slice A6 np c6)) w.heap.size 93 #[.int .i64 r.vi, .int .i64 r.cl, .int .i64 r.re, .int .i64 r.d.de, .int .i64 r.d.cl, .int .i64 r.d.fu, .int .i64 r.d.st, .slice A6 np c6, .slice Ad nd cd]) := Lib.hid (by simpa using Xw7.out.set_ 7 (.slice A6 np c6))
      have Zs : Hid (Blk (w7.setCell ⟨w.heap.size, 7, none⟩ (.slice A6 np c6)) (w.heap.size + 1) 93 #[.int .i64 0, .int .i64 0, .int .i64 0, .int .i64 0, .int .i64 0, .int .i64 0, .int .i64 0, .slice none 0 0, .slice none 0 0]) := Lib.hid (Zw7.out.far (p := ⟨w.heap.size, 7, none⟩) (by simp) _)
      have Bs : Hid (Below w.heap.size w (w7.setCell ⟨w.heap.size, 7, none⟩ (.slice A6 np c6))) := Lib.hid (Bw7.out.setCell (p := ⟨w.heap.size, 7, none⟩) (Nat.le_refl _) _)
      have Ps : Hid (OwnU (w7.setCell ⟨w.heap.size, 7, none⟩ (.slice A6 np c6)) (w.heap.size + 2) 114 (.slice A6 np c6) r.d.put) := Lib.hid (orow_set Qw7.out (q := ⟨w.heap.size, 7, none⟩) (by simp) _)
      have Ds : Hid (LIntV (w.heap.size + 2) (w7.setCell ⟨w.heap.size, 7, none⟩ (.slice A6 np c6)) (.slice A7 nd c7) r.d.drop) := Lib.hid (orow_set Ow7.out (q := ⟨w.heap.size, 7, none⟩) (by simp) _)
      refine hK.out _ _ trivial (fun hHeld => ?_)
      clear hK K f q l
      refine take_d 11 13 (.pointer (some ⟨w.heap.size, 3, none⟩)) _ rfl rfl (by kernel_rfl) (by kernel_rfl) (by kernel_rfl) (fun _ _ _ h => h) (Or.inl ⟨by rfl, fun w' hSw => ?_⟩) hHeld ?_
      · go_simp
      simp only [List.setIfInBounds_toArray, List.set_cons_zero, List.set_cons_succ]
      refine take_d 12 14 (.pointer (some ⟨w.heap.size, 8, none⟩)) _ rfl rfl (by kernel_rfl) (by kernel_rfl) (by kernel_rfl) (fun _ _ _ h => h) (Or.inl ⟨by rfl, fun w' hSw => ?_⟩) hHeld ?_
      · go_simp
      simp only [List.setIfInBounds_toArray, List.set_cons_zero, List.set_cons_succ]
      refine wpAnyH_ready (rs := [13]) (by kernel_rfl) (by simp) ?_
      refine AllReadyH.cons rfl (fun K hK => ?_) AllReadyH.nil
      have f := Xs.out.frozen 8
      have q := Xs.out.cell 8
      have l := Xs.out.lt
      go_simp
      have Xt : Hid (Blk ((w7.setCell ⟨w.heap.size, 7, none⟩ (.slice A6 np c6)).setCell ⟨w.heap.size, 8, none⟩ (.slice A7 nd c7)) w.heap.size 93 #[.int .i64 r.vi, .int .i64 r.cl, .int .i64 r.re, .int .i64 r.d.de, .int .i64 r.d.cl, .int .i64 r.d.fu, .int .i64 r.d.st, .slice A6 np c6, .slice A7 nd c7]) := Lib.hid (by simpa using Xs.out.set_ 8 (.slice A7 nd c7))
      have Zt : Hid (Blk ((w7.setCell ⟨w.heap.size, 7, none⟩ (.slice A6 np c6)).setCell ⟨w.heap.size, 8, none⟩ (.slice A7 nd c7)) (w.heap.size + 1) 93 #[.int .i64 0, .int .i64 0, .int .i64 0, .int .i64 0, .int .i64 0, .int .i64 0, .int .i64 0, .slice none 0 0, .slice none 0 0]) := Lib.hid (Zs.out.far (p := ⟨w.heap.size, 8, none⟩) (by simp) _)
      have Bt : Hid (Below w.heap.size w ((w7.setCell ⟨w.heap.size, 7, none⟩ (.slice A6 np c6)).setCell ⟨w.heap.size, 8, none⟩ (.slice A7 nd c7))) := Lib.hid (Bs.out.setCell (p := ⟨w.heap.size, 8, none⟩) (Nat.le_refl _) _)
      have Pt : Hid (OwnU ((w7.setCell ⟨w.heap.size, 7, none⟩ (.slice A6 np c6)).setCell ⟨w.heap.size, 8, none⟩ (.slice A7 nd c7)) (w.heap.size + 2) 114 (.slice A6 np c6) r.d.put) := Lib.hid (orow_set Ps.out (q := ⟨w.heap.size, 8, none⟩) (by simp) _)
      have Dt : Hid (LIntV (w.heap.size + 2) ((w7.setCell ⟨w.heap.size, 7, none⟩ (.slice A6 np c6)).setCell ⟨w.heap.size, 8, none⟩ (.slice A7 nd c7)) (.slice A7 nd c7) r.d.drop) := Lib.hid (orow_set Ds.out (q := ⟨w.heap.size, 8, none⟩) (by simp) _)
      refine hK.out _ _ trivial (fun hHeld => ?_)
      clear hK K f q l
      refine wpAnyH_done (by kernel_rfl) ?_ _
      have z := Zt.out.cell
      have zf := Zt.out.frozen
      have zl := Zt.out.lt
      have x0 := Xt.out.cell 0
      have x1 := Xt.out.cell 1
      have x2 := Xt.out.cell 2
      have x3 := Xt.out.cell 3
      have x4 := Xt.out.cell 4
      have x5 := Xt.out.cell 5
      have x6 := Xt.out.cell 6
      have x7 := Xt.out.cell 7
      have x8 := Xt.out.cell 8
      have z0 := z 0
      have z1 := z 1
      have z2 := z 2
      have z3 := z 3
      have z4 := z 4
      have z5 := z 5
      have z6 := z 6
      have z7 := z 7
      have z8 := z 8
      clear z
      have zz : w.heap.size + 1 < (((w7.setCell ⟨w.heap.size, 7, none⟩ (.slice A6 np c6)).setCell ⟨w.heap.size, 8, none⟩ (.slice A7 nd c7))).heap.size := zl
      generalize ((w7.setCell ⟨w.heap.size, 7, none⟩ (.slice A6 np c6)).setCell ⟨w.heap.size, 8, none⟩ (.slice A7 nd c7)) = wf at *
      go_wp2
      refine bodyPost_ret (v := .agg #[.int .i64 r.vi, .int .i64 r.cl, .int .i64 r.re, .int .i64 r.d.de, .int .i64 r.d.cl, .int .i64 r.d.fu, .int .i64 r.d.st, .slice A6 np c6, .slice A7 nd c7]) (by simp [results, Tryz.results41, go_sem, *]) rfl ⟨_, _, rfl, orow_low ((orow_set (orow_set (orow_set (orow_set (orow_set (orow_set (orow_set (orow_set (orow_set Pt.out (q := ⟨w.heap.size + 1, 0, none⟩) (by simp) (.int .i64 r.vi)) (q := ⟨w.heap.size + 1, 1, none⟩) (by simp) (.int .i64 r.cl)) (q := ⟨w.heap.size + 1, 2, none⟩) (by simp) (.int .i64 r.re)) (q := ⟨w.heap.size + 1, 3, none⟩) (by simp) (.int .i64 r.d.de)) (q := ⟨w.heap.size + 1, 4, none⟩) (by simp) (.int .i64 r.d.cl)) (q := ⟨w.heap.size + 1, 5, none⟩) (by simp) (.int .i64 r.d.fu)) (q := ⟨w.heap.size + 1, 6, none⟩) (by simp) (.int .i64 r.d.st)) (q := ⟨w.heap.size + 1, 7, none⟩) (by simp) (.slice A6 np c6)) (q := ⟨w.heap.size + 1, 8, none⟩) (by simp) (.slice A7 nd c7))) (by omega), orow_low ((orow_set (orow_set (orow_set (orow_set (orow_set (orow_set (orow_set (orow_set (orow_set Dt.out (q := ⟨w.heap.size + 1, 0, none⟩) (by simp) (.int .i64 r.vi)) (q := ⟨w.heap.size + 1, 1, none⟩) (by simp) (.int .i64 r.cl)) (q := ⟨w.heap.size + 1, 2, none⟩) (by simp) (.int .i64 r.re)) (q := ⟨w.heap.size + 1, 3, none⟩) (by simp) (.int .i64 r.d.de)) (q := ⟨w.heap.size + 1, 4, none⟩) (by simp) (.int .i64 r.d.cl)) (q := ⟨w.heap.size + 1, 5, none⟩) (by simp) (.int .i64 r.d.fu)) (q := ⟨w.heap.size + 1, 6, none⟩) (by simp) (.int .i64 r.d.st)) (q := ⟨w.heap.size + 1, 7, none⟩) (by simp) (.slice A6 np c6)) (q := ⟨w.heap.size + 1, 8, none⟩) (by simp) (.slice A7 nd c7))) (by omega), ((((((((((((((((((Bt.out).setCell (p := ⟨w.heap.size + 1, 0, none⟩) (by simp) (.int .i64 r.vi))).setCell (p := ⟨w.heap.size + 1, 1, none⟩) (by simp) (.int .i64 r.cl))).setCell (p := ⟨w.heap.size + 1, 2, none⟩) (by simp) (.int .i64 r.re))).setCell (p := ⟨w.heap.size + 1, 3, none⟩) (by simp) (.int .i64 r.d.de))).setCell (p := ⟨w.heap.size + 1, 4, none⟩) (by simp) (.int .i64 r.d.cl))).setCell (p := ⟨w.heap.size + 1, 5, none⟩) (by simp) (.int .i64 r.d.fu))).setCell (p := ⟨w.heap.size + 1, 6, none⟩) (by simp) (.int .i64 r.d.st))).setCell (p := ⟨w.heap.size + 1, 7, none⟩) (by simp) (.slice A6 np c6))).setCell (p := ⟨w.heap.size + 1, 8, none⟩) (by simp) (.slice A7 nd c7))⟩
    · have q := HXd.out.cell 8
      go_simp
      refine hK.out _ _ trivial (fun hHeld => ?_)
      clear hK K q
      refine wpAnyH_ready (rs := [3]) (by kernel_rfl) (by simp) ?_
      refine AllReadyH.cons rfl (fun K hK => ?_) AllReadyH.nil
      go_simp
      refine (CR.out wx.drew B5.out).mono ?_
      rintro e w6 ⟨A6, c6, rfl, ow6, hBw6⟩
      have Xw6 := Lib.hid (HXd.out.on hBw6)
      have Zw6 := Lib.hid (HZd.out.on hBw6)
      have Bw6 := Lib.hid (B5.out.trans (hBw6.mono B5.out.size))
      have Ow6 : Hid (OwnU w6 (w.heap.size + 2) 114 (.slice A6 np c6) r.d.put) := Lib.hid (orow_low ow6 hs7)
      have hw6 : w.heap.size + 2 ≤ w6.heap.size := Nat.le_trans hs7 hBw6.size
      refine hK.out _ _ trivial (fun hHeld => ?_)
      clear hK K ow6 hBw6
      refine take_d 8 11 (.pointer (some ⟨w.heap.size, 3, none⟩)) _ rfl rfl (by kernel_rfl) (by kernel_rfl) (by kernel_rfl) (fun _ _ _ h => h) (Or.inl ⟨by rfl, fun w' hSw => ?_⟩) hHeld ?_
      · go_simp
      simp only [List.setIfInBounds_toArray, List.set_cons_zero, List.set_cons_succ]
      refine take_d 9 12 (.pointer (some ⟨w.heap.size, 7, none⟩)) _ rfl rfl (by kernel_rfl) (by kernel_rfl) (by kernel_rfl) (fun _ _ _ h => h) (Or.inl ⟨by rfl, fun w' hSw => ?_⟩) hHeld ?_
      · go_simp
      simp only [List.setIfInBounds_toArray, List.set_cons_zero, List.set_cons_succ]
      refine wpAnyH_ready (rs := [7]) (by kernel_rfl) (by simp) ?_
      refine AllReadyH.cons rfl (fun K hK => ?_) AllReadyH.nil
      go_simp
      refine (CI.out w6 Bw6.out).mono ?_
      rintro e w7 ⟨A7, c7, rfl, ow7, hBw7⟩
      have Xw7 := Lib.hid (Xw6.out.on hBw7)
      have Zw7 := Lib.hid (Zw6.out.on hBw7)
      have Bw7 := Lib.hid (Bw6.out.trans (hBw7.mono Bw6.out.size))
      have Qw7 := Lib.hid (own_keep Ow6.out fun i hi => hBw7.block i (World.ownsRow.lt Ow6.out i hi.symm).2)
      have Ow7 : Hid (LIntV (w.heap.size + 2) w7 (.slice A7 nd c7) r.d.drop) := Lib.hid (orow_low ow7 hw6)
      have hw7 : w.heap.size + 2 ≤ w7.heap.size := Nat.le_trans hw6 hBw7.size
      refine hK.out _ _ trivial (fun hHeld => ?_)
      clear hK K ow7 hBw7
      refine wpAnyH_ready (rs := [10]) (by kernel_rfl) (by simp) ?_
      refine AllReadyH.cons rfl (fun K hK => ?_) AllReadyH.nil
      have f := Xw7.out.frozen 7
      have q := Xw7.out.cell 7
      have l := Xw7.out.lt
      go_simp
      have Xs : Hid (Blk (w7.setCell ⟨w.heap.size, 7, none⟩ (.slice A6 np c6)) w.heap.size 93 #[.int .i64 r.vi, .int .i64 r.cl, .int .i64 r.re, .int .i64 r.d.de, .int .i64 r.d.cl, .int .i64 r.d.fu, .int .i64 r.d.st, .slice A6 np c6, .slice Ad nd cd]) := Lib.hid (by simpa using Xw7.out.set_ 7 (.slice A6 np c6))
      have Zs : Hid (Blk (w7.setCell ⟨w.heap.size, 7, none⟩ (.slice A6 np c6)) (w.heap.size + 1) 93 #[.int .i64 0, .int .i64 0, .int .i64 0, .int .i64 0, .int .i64 0, .int .i64 0, .int .i64 0, .slice none 0 0, .slice none 0 0]) := Lib.hid (Zw7.out.far (p := ⟨w.heap.size, 7, none⟩) (by simp) _)
      have Bs : Hid (Below w.heap.size w (w7.setCell ⟨w.heap.size, 7, none⟩ (.slice A6 np c6))) := Lib.hid (Bw7.out.setCell (p := ⟨w.heap.size, 7, none⟩) (Nat.le_refl _) _)
      have Ps : Hid (OwnU (w7.setCell ⟨w.heap.size, 7, none⟩ (.slice A6 np c6)) (w.heap.size + 2) 114 (.slice A6 np c6) r.d.put) := Lib.hid (orow_set Qw7.out (q := ⟨w.heap.size, 7, none⟩) (by simp) _)
      have Ds : Hid (LIntV (w.heap.size + 2) (w7.setCell ⟨w.heap.size, 7, none⟩ (.slice A6 np c6)) (.slice A7 nd c7) r.d.drop) := Lib.hid (orow_set Ow7.out (q := ⟨w.heap.size, 7, none⟩) (by simp) _)
      refine hK.out _ _ trivial (fun hHeld => ?_)
      clear hK K f q l
      refine take_d 11 13 (.pointer (some ⟨w.heap.size, 3, none⟩)) _ rfl rfl (by kernel_rfl) (by kernel_rfl) (by kernel_rfl) (fun _ _ _ h => h) (Or.inl ⟨by rfl, fun w' hSw => ?_⟩) hHeld ?_
      · go_simp
      simp only [List.setIfInBounds_toArray, List.set_cons_zero, List.set_cons_succ]
      refine take_d 12 14 (.pointer (some ⟨w.heap.size, 8, none⟩)) _ rfl rfl (by kernel_rfl) (by kernel_rfl) (by kernel_rfl) (fun _ _ _ h => h) (Or.inl ⟨by rfl, fun w' hSw => ?_⟩) hHeld ?_
      · go_simp
      simp only [List.setIfInBounds_toArray, List.set_cons_zero, List.set_cons_succ]
      refine wpAnyH_ready (rs := [13]) (by kernel_rfl) (by simp) ?_
      refine AllReadyH.cons rfl (fun K hK => ?_) AllReadyH.nil
      have f := Xs.out.frozen 8
      have q := Xs.out.cell 8
      have l := Xs.out.lt
      go_simp
      have Xt : Hid (Blk ((w7.setCell ⟨w.heap.size, 7, none⟩ (.slice A6 np c6)).setCell ⟨w.heap.size, 8, none⟩ (.slice A7 nd c7)) w.heap.size 93 #[.int .i64 r.vi, .int .i64 r.cl, .int .i64 r.re, .int .i64 r.d.de, .int .i64 r.d.cl, .int .i64 r.d.fu, .int .i64 r.d.st, .slice A6 np c6, .slice A7 nd c7]) := Lib.hid (by simpa using Xs.out.set_ 8 (.slice A7 nd c7))
      have Zt : Hid (Blk ((w7.setCell ⟨w.heap.size, 7, none⟩ (.slice A6 np c6)).setCell ⟨w.heap.size, 8, none⟩ (.slice A7 nd c7)) (w.heap.size + 1) 93 #[.int .i64 0, .int .i64 0, .int .i64 0, .int .i64 0, .int .i64 0, .int .i64 0, .int .i64 0, .slice none 0 0, .slice none 0 0]) := Lib.hid (Zs.out.far (p := ⟨w.heap.size, 8, none⟩) (by simp) _)
      have Bt : Hid (Below w.heap.size w ((w7.setCell ⟨w.heap.size, 7, none⟩ (.slice A6 np c6)).setCell ⟨w.heap.size, 8, none⟩ (.slice A7 nd c7))) := Lib.hid (Bs.out.setCell (p := ⟨w.heap.size, 8, none⟩) (Nat.le_refl _) _)
      have Pt : Hid (OwnU ((w7.setCell ⟨w.heap.size, 7, none⟩ (.slice A6 np c6)).setCell ⟨w.heap.size, 8, none⟩ (.slice A7 nd c7)) (w.heap.size + 2) 114 (.slice A6 np c6) r.d.put) := Lib.hid (orow_set Ps.out (q := ⟨w.heap.size, 8, none⟩) (by simp) _)
      have Dt : Hid (LIntV (w.heap.size + 2) ((w7.setCell ⟨w.heap.size, 7, none⟩ (.slice A6 np c6)).setCell ⟨w.heap.size, 8, none⟩ (.slice A7 nd c7)) (.slice A7 nd c7) r.d.drop) := Lib.hid (orow_set Ds.out (q := ⟨w.heap.size, 8, none⟩) (by simp) _)
      refine hK.out _ _ trivial (fun hHeld => ?_)
      clear hK K f q l
      refine wpAnyH_done (by kernel_rfl) ?_ _
      have z := Zt.out.cell
      have zf := Zt.out.frozen
      have zl := Zt.out.lt
      have x0 := Xt.out.cell 0
      have x1 := Xt.out.cell 1
      have x2 := Xt.out.cell 2
      have x3 := Xt.out.cell 3
      have x4 := Xt.out.cell 4
      have x5 := Xt.out.cell 5
      have x6 := Xt.out.cell 6
      have x7 := Xt.out.cell 7
      have x8 := Xt.out.cell 8
      have z0 := z 0
      have z1 := z 1
      have z2 := z 2
      have z3 := z 3
      have z4 := z 4
      have z5 := z 5
      have z6 := z 6
      have z7 := z 7
      have z8 := z 8
      clear z
      have zz : w.heap.size + 1 < (((w7.setCell ⟨w.heap.size, 7, none⟩ (.slice A6 np c6)).setCell ⟨w.heap.size, 8, none⟩ (.slice A7 nd c7))).heap.size := zl
      generalize ((w7.setCell ⟨w.heap.size, 7, none⟩ (.slice A6 np c6)).setCell ⟨w.heap.size, 8, none⟩ (.slice A7 nd c7)) = wf at *
      go_wp2
      refine bodyPost_ret (v := .agg #[.int .i64 r.vi, .int .i64 r.cl, .int .i64 r.re, .int .i64 r.d.de, .int .i64 r.d.cl, .int .i64 r.d.fu, .int .i64 r.d.st, .slice A6 np c6, .slice A7 nd c7]) (by simp [results, Tryz.results41, go_sem, *]) rfl ⟨_, _, rfl, orow_low ((orow_set (orow_set (orow_set (orow_set (orow_set (orow_set (orow_set (orow_set (orow_set Pt.out (q := ⟨w.heap.size + 1, 0, none⟩) (by simp) (.int .i64 r.vi)) (q := ⟨w.heap.size + 1, 1, none⟩) (by simp) (.int .i64 r.cl)) (q := ⟨w.heap.size + 1, 2, none⟩) (by simp) (.int .i64 r.re)) (q := ⟨w.heap.size + 1, 3, none⟩) (by simp) (.int .i64 r.d.de)) (q := ⟨w.heap.size + 1, 4, none⟩) (by simp) (.int .i64 r.d.cl)) (q := ⟨w.heap.size + 1, 5, none⟩) (by simp) (.int .i64 r.d.fu)) (q := ⟨w.heap.size + 1, 6, none⟩) (by simp) (.int .i64 r.d.st)) (q := ⟨w.heap.size + 1, 7, none⟩) (by simp) (.slice A6 np c6)) (q := ⟨w.heap.size + 1, 8, none⟩) (by simp) (.slice A7 nd c7))) (by omega), orow_low ((orow_set (orow_set (orow_set (orow_set (orow_set (orow_set (orow_set (orow_set (orow_set Dt.out (q := ⟨w.heap.size + 1, 0, none⟩) (by simp) (.int .i64 r.vi)) (q := ⟨w.heap.size + 1, 1, none⟩) (by simp) (.int .i64 r.cl)) (q := ⟨w.heap.size + 1, 2, none⟩) (by simp) (.int .i64 r.re)) (q := ⟨w.heap.size + 1, 3, none⟩) (by simp) (.int .i64 r.d.de)) (q := ⟨w.heap.size + 1, 4, none⟩) (by simp) (.int .i64 r.d.cl)) (q := ⟨w.heap.size + 1, 5, none⟩) (by simp) (.int .i64 r.d.fu)) (q := ⟨w.heap.size + 1, 6, none⟩) (by simp) (.int .i64 r.d.st)) (q := ⟨w.heap.size + 1, 7, none⟩) (by simp) (.slice A6 np c6)) (q := ⟨w.heap.size + 1, 8, none⟩) (by simp) (.slice A7 nd c7))) (by omega), ((((((((((((((((((Bt.out).setCell (p := ⟨w.heap.size + 1, 0, none⟩) (by simp) (.int .i64 r.vi))).setCell (p := ⟨w.heap.size + 1, 1, none⟩) (by simp) (.int .i64 r.cl))).setCell (p := ⟨w.heap.size + 1, 2, none⟩) (by simp) (.int .i64 r.re))).setCell (p := ⟨w.heap.size + 1, 3, none⟩) (by simp) (.int .i64 r.d.de))).setCell (p := ⟨w.heap.size + 1, 4, none⟩) (by simp) (.int .i64 r.d.cl))).setCell (p := ⟨w.heap.size + 1, 5, none⟩) (by simp) (.int .i64 r.d.fu))).setCell (p := ⟨w.heap.size + 1, 6, none⟩) (by simp) (.int .i64 r.d.st))).setCell (p := ⟨w.heap.size + 1, 7, none⟩) (by simp) (.slice A6 np c6))).setCell (p := ⟨w.heap.size + 1, 8, none⟩) (by simp) (.slice A7 nd c7))⟩
  · have q := HXd.out.cell 8
    go_simp
    refine hK.out _ _ trivial (fun hHeld => ?_)
    clear hK K q
    refine wpAnyH_ready (rs := [2]) (by kernel_rfl) (by simp) ?_
    refine AllReadyH.cons rfl (fun K hK => ?_) AllReadyH.nil
    have q := HXd.out.cell 7
    go_simp
    refine hK.out _ _ trivial (fun hHeld => ?_)
    clear hK K q
    refine wpAnyH_ready (rs := [3]) (by kernel_rfl) (by simp) ?_
    refine AllReadyH.cons rfl (fun K hK => ?_) AllReadyH.nil
    go_simp
    refine (CR.out wx.drew B5.out).mono ?_
    rintro e w6 ⟨A6, c6, rfl, ow6, hBw6⟩
    have Xw6 := Lib.hid (HXd.out.on hBw6)
    have Zw6 := Lib.hid (HZd.out.on hBw6)
    have Bw6 := Lib.hid (B5.out.trans (hBw6.mono B5.out.size))
    have Ow6 : Hid (OwnU w6 (w.heap.size + 2) 114 (.slice A6 np c6) r.d.put) := Lib.hid (orow_low ow6 hs7)
    have hw6 : w.heap.size + 2 ≤ w6.heap.size := Nat.le_trans hs7 hBw6.size
    refine hK.out _ _ trivial (fun hHeld => ?_)
    clear hK K ow6 hBw6
    refine take_d 8 11 (.pointer (some ⟨w.heap.size, 3, none⟩)) _ rfl rfl (by kernel_rfl) (by kernel_rfl) (by kernel_rfl) (fun _ _ _ h => h) (Or.inl ⟨by rfl, fun w' hSw => ?_⟩) hHeld ?_
    · go_simp
    simp only [List.setIfInBounds_toArray, List.set_cons_zero, List.set_cons_succ]
    refine take_d 9 12 (.pointer (some ⟨w.heap.size, 7, none⟩)) _ rfl rfl (by kernel_rfl) (by kernel_rfl) (by kernel_rfl) (fun _ _ _ h => h) (Or.inl ⟨by rfl, fun w' hSw => ?_⟩) hHeld ?_
    · go_simp
    simp only [List.setIfInBounds_toArray, List.set_cons_zero, List.set_cons_succ]
    refine wpAnyH_ready (rs := [7]) (by kernel_rfl) (by simp) ?_
    refine AllReadyH.cons rfl (fun K hK => ?_) AllReadyH.nil
    go_simp
    refine (CI.out w6 Bw6.out).mono ?_
    rintro e w7 ⟨A7, c7, rfl, ow7, hBw7⟩
    have Xw7 := Lib.hid (Xw6.out.on hBw7)
    have Zw7 := Lib.hid (Zw6.out.on hBw7)
    have Bw7 := Lib.hid (Bw6.out.trans (hBw7.mono Bw6.out.size))
    have Qw7 := Lib.hid (own_keep Ow6.out fun i hi => hBw7.block i (World.ownsRow.lt Ow6.out i hi.symm).2)
    have Ow7 : Hid (LIntV (w.heap.size + 2) w7 (.slice A7 nd c7) r.d.drop) := Lib.hid (orow_low ow7 hw6)
    have hw7 : w.heap.size + 2 ≤ w7.heap.size := Nat.le_trans hw6 hBw7.size
    refine hK.out _ _ trivial (fun hHeld => ?_)
    clear hK K ow7 hBw7
    refine wpAnyH_ready (rs := [10]) (by kernel_rfl) (by simp) ?_
    refine AllReadyH.cons rfl (fun K hK => ?_) AllReadyH.nil
    have f := Xw7.out.frozen 7
    have q := Xw7.out.cell 7
    have l := Xw7.out.lt
    go_simp
    have Xs : Hid (Blk (w7.setCell ⟨w.heap.size, 7, none⟩ (.slice A6 np c6)) w.heap.size 93 #[.int .i64 r.vi, .int .i64 r.cl, .int .i64 r.re, .int .i64 r.d.de, .int .i64 r.d.cl, .int .i64 r.d.fu, .int .i64 r.d.st, .slice A6 np c6, .slice Ad nd cd]) := Lib.hid (by simpa using Xw7.out.set_ 7 (.slice A6 np c6))
    have Zs : Hid (Blk (w7.setCell ⟨w.heap.size, 7, none⟩ (.slice A6 np c6)) (w.heap.size + 1) 93 #[.int .i64 0, .int .i64 0, .int .i64 0, .int .i64 0, .int .i64 0, .int .i64 0, .int .i64 0, .slice none 0 0, .slice none 0 0]) := Lib.hid (Zw7.out.far (p := ⟨w.heap.size, 7, none⟩) (by simp) _)
    have Bs : Hid (Below w.heap.size w (w7.setCell ⟨w.heap.size, 7, none⟩ (.slice A6 np c6))) := Lib.hid (Bw7.out.setCell (p := ⟨w.heap.size, 7, none⟩) (Nat.le_refl _) _)
    have Ps : Hid (OwnU (w7.setCell ⟨w.heap.size, 7, none⟩ (.slice A6 np c6)) (w.heap.size + 2) 114 (.slice A6 np c6) r.d.put) := Lib.hid (orow_set Qw7.out (q := ⟨w.heap.size, 7, none⟩) (by simp) _)
    have Ds : Hid (LIntV (w.heap.size + 2) (w7.setCell ⟨w.heap.size, 7, none⟩ (.slice A6 np c6)) (.slice A7 nd c7) r.d.drop) := Lib.hid (orow_set Ow7.out (q := ⟨w.heap.size, 7, none⟩) (by simp) _)
    refine hK.out _ _ trivial (fun hHeld => ?_)
    clear hK K f q l
    refine take_d 11 13 (.pointer (some ⟨w.heap.size, 3, none⟩)) _ rfl rfl (by kernel_rfl) (by kernel_rfl) (by kernel_rfl) (fun _ _ _ h => h) (Or.inl ⟨by rfl, fun w' hSw => ?_⟩) hHeld ?_
    · go_simp
    simp only [List.setIfInBounds_toArray, List.set_cons_zero, List.set_cons_succ]
    refine take_d 12 14 (.pointer (some ⟨w.heap.size, 8, none⟩)) _ rfl rfl (by kernel_rfl) (by kernel_rfl) (by kernel_rfl) (fun _ _ _ h => h) (Or.inl ⟨by rfl, fun w' hSw => ?_⟩) hHeld ?_
    · go_simp
    simp only [List.setIfInBounds_toArray, List.set_cons_zero, List.set_cons_succ]
    refine wpAnyH_ready (rs := [13]) (by kernel_rfl) (by simp) ?_
    refine AllReadyH.cons rfl (fun K hK => ?_) AllReadyH.nil
    have f := Xs.out.frozen 8
    have q := Xs.out.cell 8
    have l := Xs.out.lt
    go_simp
    have Xt : Hid (Blk ((w7.setCell ⟨w.heap.size, 7, none⟩ (.slice A6 np c6)).setCell ⟨w.heap.size, 8, none⟩ (.slice A7 nd c7)) w.heap.size 93 #[.int .i64 r.vi, .int .i64 r.cl, .int .i64 r.re, .int .i64 r.d.de, .int .i64 r.d.cl, .int .i64 r.d.fu, .int .i64 r.d.st, .slice A6 np c6, .slice A7 nd c7]) := Lib.hid (by simpa using Xs.out.set_ 8 (.slice A7 nd c7))
    have Zt : Hid (Blk ((w7.setCell ⟨w.heap.size, 7, none⟩ (.slice A6 np c6)).setCell ⟨w.heap.size, 8, none⟩ (.slice A7 nd c7)) (w.heap.size + 1) 93 #[.int .i64 0, .int .i64 0, .int .i64 0, .int .i64 0, .int .i64 0, .int .i64 0, .int .i64 0, .slice none 0 0, .slice none 0 0]) := Lib.hid (Zs.out.far (p := ⟨w.heap.size, 8, none⟩) (by simp) _)
    have Bt : Hid (Below w.heap.size w ((w7.setCell ⟨w.heap.size, 7, none⟩ (.slice A6 np c6)).setCell ⟨w.heap.size, 8, none⟩ (.slice A7 nd c7))) := Lib.hid (Bs.out.setCell (p := ⟨w.heap.size, 8, none⟩) (Nat.le_refl _) _)
    have Pt : Hid (OwnU ((w7.setCell ⟨w.heap.size, 7, none⟩ (.slice A6 np c6)).setCell ⟨w.heap.size, 8, none⟩ (.slice A7 nd c7)) (w.heap.size + 2) 114 (.slice A6 np c6) r.d.put) := Lib.hid (orow_set Ps.out (q := ⟨w.heap.size, 8, none⟩) (by simp) _)
    have Dt : Hid (LIntV (w.heap.size + 2) ((w7.setCell ⟨w.heap.size, 7, none⟩ (.slice A6 np c6)).setCell ⟨w.heap.size, 8, none⟩ (.slice A7 nd c7)) (.slice A7 nd c7) r.d.drop) := Lib.hid (orow_set Ds.out (q := ⟨w.heap.size, 8, none⟩) (by simp) _)
    refine hK.out _ _ trivial (fun hHeld => ?_)
    clear hK K f q l
    refine wpAnyH_done (by kernel_rfl) ?_ _
    have z := Zt.out.cell
    have zf := Zt.out.frozen
    have zl := Zt.out.lt
    have x0 := Xt.out.cell 0
    have x1 := Xt.out.cell 1
    have x2 := Xt.out.cell 2
    have x3 := Xt.out.cell 3
    have x4 := Xt.out.cell 4
    have x5 := Xt.out.cell 5
    have x6 := Xt.out.cell 6
    have x7 := Xt.out.cell 7
    have x8 := Xt.out.cell 8
    have z0 := z 0
    have z1 := z 1
    have z2 := z 2
    have z3 := z 3
    have z4 := z 4
    have z5 := z 5
    have z6 := z 6
    have z7 := z 7
    have z8 := z 8
    clear z
    have zz : w.heap.size + 1 < (((w7.setCell ⟨w.heap.size, 7, none⟩ (.slice A6 np c6)).setCell ⟨w.heap.size, 8, none⟩ (.slice A7 nd c7))).heap.size := zl
    generalize ((w7.setCell ⟨w.heap.size, 7, none⟩ (.slice A6 np c6)).setCell ⟨w.heap.size, 8, none⟩ (.slice A7 nd c7)) = wf at *
    go_wp2
    refine bodyPost_ret (v := .agg #[.int .i64 r.vi, .int .i64 r.cl, .int .i64 r.re, .int .i64 r.d.de, .int .i64 r.d.cl, .int .i64 r.d.fu, .int .i64 r.d.st, .slice A6 np c6, .slice A7 nd c7]) (by simp [results, Tryz.results41, go_sem, *]) rfl ⟨_, _, rfl, orow_low ((orow_set (orow_set (orow_set (orow_set (orow_set (orow_set (orow_set (orow_set (orow_set Pt.out (q := ⟨w.heap.size + 1, 0, none⟩) (by simp) (.int .i64 r.vi)) (q := ⟨w.heap.size + 1, 1, none⟩) (by simp) (.int .i64 r.cl)) (q := ⟨w.heap.size + 1, 2, none⟩) (by simp) (.int .i64 r.re)) (q := ⟨w.heap.size + 1, 3, none⟩) (by simp) (.int .i64 r.d.de)) (q := ⟨w.heap.size + 1, 4, none⟩) (by simp) (.int .i64 r.d.cl)) (q := ⟨w.heap.size + 1, 5, none⟩) (by simp) (.int .i64 r.d.fu)) (q := ⟨w.heap.size + 1, 6, none⟩) (by simp) (.int .i64 r.d.st)) (q := ⟨w.heap.size + 1, 7, none⟩) (by simp) (.slice A6 np c6)) (q := ⟨w.heap.size + 1, 8, none⟩) (by simp) (.slice A7 nd c7))) (by omega), orow_low ((orow_set (orow_set (orow_set (orow_set (orow_set (orow_set (orow_set (orow_set (orow_set Dt.out (q := ⟨w.heap.size + 1, 0, none⟩) (by simp) (.int .i64 r.vi)) (q := ⟨w.heap.size + 1, 1, none⟩) (by simp) (.int .i64 r.cl)) (q := ⟨w.heap.size + 1, 2, none⟩) (by simp) (.int .i64 r.re)) (q := ⟨w.heap.size + 1, 3, none⟩) (by simp) (.int .i64 r.d.de)) (q := ⟨w.heap.size + 1, 4, none⟩) (by simp) (.int .i64 r.d.cl)) (q := ⟨w.heap.size + 1, 5, none⟩) (by simp) (.int .i64 r.d.fu)) (q := ⟨w.heap.size + 1, 6, none⟩) (by simp) (.int .i64 r.d.st)) (q := ⟨w.heap.size + 1, 7, none⟩) (by simp) (.slice A6 np c6)) (q := ⟨w.heap.size + 1, 8, none⟩) (by simp) (.slice A7 nd c7))) (by omega), ((((((((((((((((((Bt.out).setCell (p := ⟨w.heap.size + 1, 0, none⟩) (by simp) (.int .i64 r.vi))).setCell (p := ⟨w.heap.size + 1, 1, none⟩) (by simp) (.int .i64 r.cl))).setCell (p := ⟨w.heap.size + 1, 2, none⟩) (by simp) (.int .i64 r.re))).setCell (p := ⟨w.heap.size + 1, 3, none⟩) (by simp) (.int .i64 r.d.de))).setCell (p := ⟨w.heap.size + 1, 4, none⟩) (by simp) (.int .i64 r.d.cl))).setCell (p := ⟨w.heap.size + 1, 5, none⟩) (by simp) (.int .i64 r.d.fu))).setCell (p := ⟨w.heap.size + 1, 6, none⟩) (by simp) (.int .i64 r.d.st))).setCell (p := ⟨w.heap.size + 1, 7, none⟩) (by simp) (.slice A6 np c6))).setCell (p := ⟨w.heap.size + 1, 8, none⟩) (by simp) (.slice A7 nd c7))⟩
end Go.Proofs.YtefgobmpleoafaaGreat

