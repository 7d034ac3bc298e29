/- The reference's Edges, of right ranges: some numbers, in a row of the call's own. -/
import Derived.Test.YtjdboindeikhhaaDoorClone
import Derived.Deep.DeepCutAuto
import Derived.Deep.LoopGhost
namespace Go.Proofs.YtjdboindeikhhaaDoor
open Go.RowKit

/-- A row of ints of the call's own. -/
def OwnI (w : World) (base : Nat) (v : Value) (l : List Int) : Prop := w.ownsRow base 3 1 v l.length (l.map (Value.int .i64))
theorem OwnI.alloc {w : World} {base : Nat} {v : Value} {l : List Int} (h : OwnI w base v l) (o : Obj) : OwnI (w.alloc o) base v l := World.ownsRow.alloc h o
theorem OwnI.below {w w' : World} {base : Nat} {v : Value} {l : List Int} (h : OwnI w base v l) (hB : Below w.heap.size w w') : OwnI w' base v l :=
  World.ownsRow.kept h ⟨hB.os, hB.tape, hB.output, hB.size, fun i hi _ => hB.block i hi⟩ (row := none) (by cases hv : v.ownBlock <;> simp)
theorem OwnI.mono {w : World} {base base' : Nat} {v : Value} {l : List Int} (h : OwnI w base v l) (hb : base' ≤ base) : OwnI w base' v l := World.ownsRow.mono h hb
/-- The row's cells, at each place. -/
theorem OwnI.at_ {w : World} {base n c : Nat} {A : Option Addr} {l : List Int} (h : OwnI w base (.slice A n c) l) {k : Nat} (hk : k < l.length) :
    ∃ g x, A = some ⟨g, 0, none⟩ ∧ base ≤ g ∧ g < w.heap.size ∧ l[k]? = some x ∧ w.cell? ⟨g, k, none⟩ = some (.int .i64 x) := by
  obtain ⟨g, cap, hv, hg1, hg2⟩ := World.ownsRow.form h (by omega)
  have hA : A = some ⟨g, 0, none⟩ := by injection hv
  subst hA
  refine ⟨g, l[k], rfl, hg1, hg2, List.getElem?_eq_getElem hk, ?_⟩
  have hadd : (⟨g, 0, none⟩ : Addr).add k = ⟨g, k, none⟩ := by unfold Addr.add; split <;> simp_all
  have := World.ownsRow.cells h (g := g) rfl k (.int .i64 l[k]) (by simp [hk])
  rwa [hadd] at this
theorem OwnI.len {w : World} {base n c : Nat} {A : Option Addr} {l : List Int} (h : OwnI w base (.slice A n c) l) : n = l.length := by
  rcases h.2 with ⟨hv, h0⟩ | ⟨g, cap, cur, hv, _⟩
  · injection hv
    omega
  · injection hv
theorem OwnI.form {w : World} {base : Nat} {v : Value} {l : List Int} (h : OwnI w base v l) : ∃ A c, v = .slice A l.length c ∧ l.length ≤ c := by
  rcases h.2 with ⟨hv, h0⟩ | ⟨g, cap, cur, hv, _, _, hc, _⟩
  · exact ⟨none, 0, by rw [hv, h0], by omega⟩
  · exact ⟨_, cap, hv, hc⟩

theorem wpList_append_int {P : Program} (w : World) {ops : Array Oper} {rest : List Oper} {o : Oper} {a : Act} {Q : Exit → Act → World → Prop} (hgd : o.guard = none) (s x : Operand) (t : TypeId)
    (ho : o.op = .call { callee := .builtin .append, args := #[s, x], argTypes := #[t, t] })
    (base : Nat) (i : TypeInfo) (ht : P.underlying t = some (.slice 3)) (hi : P.info? 3 = some i) (hz : i.zero = some (.int .i64 0))
    (hsize : i.size = 1) (hby : i.bytes = 8) (v : Value) (xs : List Int) (hs : a.eval s = v) (hown : OwnI w base v xs)
    (b c : Nat) (r : Int) (hx : a.eval x = .slice (some ⟨b, 0, none⟩) 1 c) (hr : ∀ j u, [Value.int .i64 r][j]? = some u → w.cell? ((⟨b, 0, none⟩ : Addr).add j) = some u) (h63 : xs.length + 1 ≤ 8796093022208) (hbase : base ≤ w.heap.size)
    (h : ∀ v' w', OwnI w' base v' (xs ++ [r]) → w.grownBy w' v.ownBlock → (v'.ownBlock = v.ownBlock ∨ v'.ownBlock = some w.heap.size) → wpList P ops Q rest (a.put o.dst v') w') : wpList P ops Q (o :: rest) a w := by
  refine wpList_append_own_at w hgd s x t ho base 3 i (.int .i64 0) 1 8 ht hi hz hsize hby rfl (by decide) v xs.length (xs.map (Value.int .i64)) hs hown ⟨b, 0, none⟩ 1 c [.int .i64 r] hx rfl hr (by intro u hu; simp at hu; subst hu; rfl) (by unfold maxLen; omega) (by omega) hbase fun v' w' h1 h2 _ h4 => h v' w' ?_ h2 h4
  unfold OwnI
  rw [List.length_append, List.map_append]
  exact h1
/-- What one append of a number leaves of another row of the call's own. -/
theorem int_step {w wr w2 : World} {o : Obj} {v5 v5' v6 : Value} {L : List Int} {ab : List Rg} {base base' n : Nat} (hb : n ≤ base) (hown5 : OwnI wr base v5 L) (hown6 : Own wr base' 31 v6 ab) (hne : v5.ownBlock ≠ v6.ownBlock) (hbel : Below n w wr) (hsz : n ≤ wr.heap.size)
    (hgrow : (wr.alloc o).grownBy w2 v5.ownBlock) (hat : v5'.ownBlock = v5.ownBlock ∨ v5'.ownBlock = some (wr.alloc o).heap.size) :
    Own w2 base' 31 v6 ab ∧ v5'.ownBlock ≠ v6.ownBlock ∧ Below n w w2 ∧ wr.heap.size ≤ w2.heap.size := by
  refine ⟨World.ownsRow.kept (hown6.alloc o) hgrow (.inr hne.symm), ?_, below_append (hbel.alloc hsz o) (hown5.alloc o) hb hgrow (by simp; omega), by have := hgrow.size; simp at this; omega⟩
  rcases hat with h | h
  · rw [h]
    exact hne
  · rw [h]
    intro e
    have := (World.ownsRow.lt hown6 _ e.symm).2
    simp at this
    omega
theorem cell_one_at (w : World) (a : Value) (t : TypeId) (n : Nat) (hn : w.heap.size = n) : ∀ j u, [a][j]? = some u → (w.alloc (.cells #[a] t)).cell? ((⟨n, 0, none⟩ : Addr).add j) = some u := by
  subst hn
  intro j u hj
  match j, hj with
  | 0, hj => simp at hj; subst hj; simp [Addr.add]
  | j + 1, hj => simp at hj

theorem addr_inj {b off b2 off2 : Nat} (h : (some ⟨b, off, none⟩ : Option Addr) = some ⟨b2, off2, none⟩) : b = b2 ∧ off = off2 := by simpa using h
theorem pair_inj {a b c d : Int} (h : (some (a, b) : Option Rg) = some (c, d)) : a = c ∧ b = d := by simpa using h
/-- Some numbers. -/
def GivesInts (w : World) (e : Ending) (w' : World) : Prop := ∃ v' l, e = .returned v' ∧ OwnI w' w.heap.size v' l ∧ l.length ≤ 2000000 ∧ Below w.heap.size w w'

set_option maxRecDepth 100000 in
set_option maxHeartbeats 2000000 in
theorem edges_any (v1 v2 : Value) (a b : List Rg) (w : World) (hma : a.length ≤ 100000) (hmb : b.length ≤ 100000) (ha : SetV w.heap.size w v1 a) (hb : SetV w.heap.size w v2 b) (hR : ∀ r ∈ a ++ b, Rt r) :
    Calls Tryd.prog 18 #[v1, v2] w (GivesInts w) := by
  have HA := Lib.hid ha
  have HB := Lib.hid hb
  have HR := Lib.hid hR
  obtain ⟨A1, cap1, rfl, _, _⟩ := id ha
  obtain ⟨A2, cap2, rfl, _, _⟩ := id hb
  clear ha hb hR
  obtain ⟨i0, hi, hz0, hz1, hz2⟩ := info_three info31
  obtain ⟨i3, ji, jz0, jz1, jz2⟩ := info_three info3
  go_enter Tryd.func18, Tryd.ntmps18
  have hO5 : OwnI (w.alloc (.cells #[.int .i64 0, .int .i64 64, .int .i64 65, .int .i64 90, .int .i64 91, .int .i64 96, .int .i64 97, .int .i64 122, .int .i64 123, .int .i64 1114367] 3)) w.heap.size (.slice (some ⟨w.heap.size, 0, none⟩) 10 10) [0, 64, 65, 90, 91, 96, 97, 122, 123, 1114367] :=
    World.ownsRow_lit w _ 10 (Nat.le_refl _) (by unfold maxLen; omega) rfl
  have hB1 := (Below.refl w.heap.size w).alloc (Nat.le_refl _) (.cells #[.int .i64 0, .int .i64 64, .int .i64 65, .int .i64 90, .int .i64 91, .int .i64 96, .int .i64 97, .int .i64 122, .int .i64 123, .int .i64 1114367] 3)
  have hsz1 : (w.alloc (.cells #[.int .i64 0, .int .i64 64, .int .i64 65, .int .i64 90, .int .i64 91, .int .i64 96, .int .i64 97, .int .i64 122, .int .i64 123, .int .i64 1114367] 3)).heap.size = w.heap.size + 1 := by simp
  go_upto_region 2 with (fail)
  generalize w.alloc (.cells #[.int .i64 0, .int .i64 64, .int .i64 65, .int .i64 90, .int .i64 91, .int .i64 96, .int .i64 97, .int .i64 122, .int .i64 123, .int .i64 1114367] 3) = W1 at hO5 hB1 hsz1 ⊢
  have hW2 : w.heap.size + 1 ≤ W1.heap.size := by omega
  clear hsz1
  have hO6 := own_empty W1 (w.heap.size + 1) 31 hW2
  have hB2 := hB1.alloc (by omega) (.cells #[] 31)
  go_wp2_with (first
    | (at_builtin; refine wpList_append_set _ rfl (.tmp 11) (.tmp 12) 28 rfl (w.heap.size + 1) 31 i0 (.agg #[.int .i64 0, .int .i64 0]) 16 Tryd.underlying28 hi hz0 hz1 hz2 rfl _ _ rfl hO6 w.heap.size _ a rfl (HA.out.below hB2) (by unfold maxLen; simp; omega) (by simp; omega) (by simp; omega) ?_; intro v3 w3 hown3 hg3; have hB3 := below_append hB2 hO6 (by omega) hg3 (by simp; omega))
    | (at_builtin; refine wpList_append_set _ rfl (.tmp 13) (.tmp 14) 28 rfl (w.heap.size + 1) 31 i0 (.agg #[.int .i64 0, .int .i64 0]) 16 Tryd.underlying28 hi hz0 hz1 hz2 rfl _ _ rfl hown3 w.heap.size _ b rfl (HB.out.below hB3) (by unfold maxLen; simp; omega) (by simp; omega) (by have := hg3.size; simp at this; omega) ?_; intro v4 w4 hown4 hg4))
  have hs3 : W1.heap.size + 1 ≤ w3.heap.size := by
    have := hg3.size
    simpa using this
  have hB4 := below_append hB3 hown3 (by omega) hg4 (by omega)
  have hO53 : OwnI w3 w.heap.size (.slice (some ⟨w.heap.size, 0, none⟩) 10 10) [0, 64, 65, 90, 91, 96, 97, 122, 123, 1114367] :=
    World.ownsRow.kept (hO5.alloc (.cells #[] 31)) hg3 (.inr (fun e => by
      have e' : some w.heap.size = some W1.heap.size := e
      have := Option.some.inj e'
      omega))
  have hO54 : OwnI w4 w.heap.size (.slice (some ⟨w.heap.size, 0, none⟩) 10 10) [0, 64, 65, 90, 91, 96, 97, 122, 123, 1114367] :=
    World.ownsRow.kept hO53 hg4 (.inr (fun e => by have := (World.ownsRow.lt hown3 w.heap.size e.symm).1; omega))
  have hne4 : (Value.slice (some ⟨w.heap.size, 0, none⟩) 10 10).ownBlock ≠ v4.ownBlock := fun e => by have := (World.ownsRow.lt hown4 w.heap.size e.symm).1; omega
  obtain ⟨A6, c6, rfl, hc6, _⟩ := id hown4.set
  have HNE := Lib.hid hne4
  have HR2 : Hid (∀ r ∈ ([] ++ a) ++ b, Rt r) := Lib.hid (by simpa using HR.out)
  have hn : (([] ++ a) ++ b).length ≤ 200000 := by simp; omega
  generalize ([] ++ a) ++ b = ab at hown4 hc6 HR2 hn HNE ⊢
  clear hO5 hO6 hB1 hB2 hB3 hown3 hg3 hg4 hne4
  go_wp2
  go_loopg [5, 7] ab.length (fun g s i wr => ∃ (k : Nat) (L : List Int), ab.length ≤ k + g ∧ k ≤ ab.length ∧ i = .int .i64 k ∧ OwnI wr w.heap.size s L ∧ L.length ≤ 10 + 6 * k ∧ Own wr (w.heap.size + 1) 31 (.slice A6 ab.length c6) ab ∧ Hid (s.ownBlock ≠ (Value.slice A6 ab.length c6).ownBlock) ∧ Below w.heap.size w wr)
  case atStart => exact ⟨0, _, by omega, by omega, rfl, hO54, by simp, hown4, HNE, hB4⟩
  case round =>
    obtain ⟨k, L, hk, hkn, rfl, hO, hL, hAll, HN, hbel⟩ := hrel
    have hsz := hbel.size
    by_cases hlt : k < ab.length
    · have hltc : (k : Int) < ab.length := by omega
      go_wp2
      go_loopg [5, 8] 3 (fun g2 s t wr => ∃ (y : Int) (L : List Int), -1 ≤ y ∧ y ≤ 2 ∧ t = .int .i64 y ∧ 2 ≤ y + g2 ∧ OwnI wr w.heap.size s L ∧ (L.length : Int) ≤ 12 + 6 * k + 2 * y ∧ Own wr (w.heap.size + 1) 31 (.slice A6 ab.length c6) ab ∧ Hid (s.ownBlock ≠ (Value.slice A6 ab.length c6).ownBlock) ∧ Below w.heap.size w wr)
      case atStart => exact ⟨-1, L, by omega, by omega, rfl, by omega, hO, by omega, hAll, HN, hbel⟩
      case round =>
        clear hO HN hbel hAll hsz hL
        obtain ⟨y, L, hy0, hy1, rfl, hg2, hO, hL, hAll, HN, hbel⟩ := hrel
        have hsz := hbel.size
        by_cases hy : y ≤ 1
        · obtain ⟨b', off, lo, hi', hA, hb', hget, c0, c1⟩ := hAll.set.at_ hlt
          have hr := HR2.out _ (List.mem_of_getElem? hget)
          unfold Rt at hr
          simp only at hr
          obtain ⟨r0, r1, r2⟩ := hr
          have HG := Lib.hid hget
          have HA' := Lib.hid hA
          clear hget hA
          obtain rfl := HA'.out
          have hyc : -1 ≤ y := hy0
          have hLn : L.length ≤ 2000000 := by omega
          go_wp2_with (first
            | (at_builtin; refine wpList_append_int _ rfl (.tmp 26) (.tmp 34) 36 rfl w.heap.size i3 Tryd.underlying36 ji jz0 jz1 jz2 _ _ rfl (hO.alloc _) wr.heap.size 1 (lo + y) rfl (cell_one_at _ _ _ _ rfl) (by omega) (by simp; omega) ?_; intro v5 w5 hO5 hg5 ha5; obtain ⟨hAll5, hne5, hbel5, hsz5⟩ := int_step (Nat.le_refl _) hO hAll HN.out hbel hsz hg5 ha5; obtain ⟨b2, off2, lo2, hi2, hA2, hb2, hget2, e0, e1⟩ := hAll5.set.at_ hlt; obtain ⟨rfl, rfl⟩ := addr_inj hA2; obtain ⟨rfl, rfl⟩ := pair_inj (HG.out.symm.trans hget2); have HG2 := Lib.hid (And.intro hget2 hA2); have HN5 := Lib.hid hne5; clear hget2 hA2 c0 c1 hne5)
            | (at_builtin; refine wpList_append_int _ rfl (.tmp 36) (.tmp 44) 36 rfl w.heap.size i3 Tryd.underlying36 ji jz0 jz1 jz2 _ _ rfl (hO5.alloc _) w5.heap.size 1 (hi' + y) rfl (cell_one_at _ _ _ _ rfl) (by simp; omega) (by simp; omega) ?_; intro v6 w6 hO6 hg6 ha6; obtain ⟨hAll6, hne6, hbel6, hsz6⟩ := int_step (Nat.le_refl _) hO5 hAll5 HN5.out hbel5 (Nat.le_trans hsz hsz5) hg6 ha6; have HN6 := Lib.hid hne6; clear hne6))
          go_roundg (1 - y).toNat
          case measure => omega
          case rel => exact ⟨y + 1, _, by omega, by omega, by go_num, by omega, hO6, by simp; omega, hAll6, HN6, hbel6⟩
        · have hyc : ¬ y ≤ 1 := hy
          go_wp2
          go_roundg (ab.length - (k + 1))
          case measure => omega
          case rel => exact ⟨k + 1, L, by omega, by omega, by go_num, hO, by omega, hAll, HN, hbel⟩
    · have hk' : k = ab.length := by omega
      have HK := Lib.hid hk'
      clear hk'
      go_wp2
      go_loopg [5, 9] 58 (fun g2 s t wr => ∃ (m : Nat) (L : List Int), m ≤ 123 ∧ 65 ≤ m ∧ 123 ≤ m + g2 ∧ t = .int .i64 m ∧ OwnI wr w.heap.size s L ∧ L.length + 65 ≤ 10 + 6 * ab.length + m ∧ Below w.heap.size w wr)
      case atStart => exact ⟨65, L, by omega, by omega, by omega, rfl, hO, by have := HK.out; omega, hbel⟩
      case round =>
        clear hO HN hbel hAll hsz hL
        obtain ⟨m, L, hm0, hm1, hmg, rfl, hO, hL, hbel⟩ := hrel
        have hsz := hbel.size
        by_cases hm : m ≤ 122
        · have hmc : (m : Int) ≤ 122 := by omega
          go_wp2_with (at_builtin; refine wpList_append_int _ rfl (.tmp 50) (.tmp 52) 36 rfl w.heap.size i3 Tryd.underlying36 ji jz0 jz1 jz2 _ _ rfl (hO.alloc _) wr.heap.size 1 (m : Int) rfl (cell_one_at _ _ _ _ rfl) (by simp; omega) (by simp; omega) ?_; intro v' w5 hO' hgrow hat)
          go_roundg (122 - m)
          case measure => omega
          case rel => exact ⟨m + 1, _, by omega, by omega, by omega, by go_num, hO', by simp; omega, below_append (hbel.alloc hsz _) (hO.alloc _) (Nat.le_refl _) hgrow (by simp; omega)⟩
        · have hmc : ¬ (m : Int) ≤ 122 := by omega
          go_wp2
          go_ret
          exact ⟨_, L, rfl, hO, by have := hn; omega, hbel⟩

end Go.Proofs.YtjdboindeikhhaaDoor
