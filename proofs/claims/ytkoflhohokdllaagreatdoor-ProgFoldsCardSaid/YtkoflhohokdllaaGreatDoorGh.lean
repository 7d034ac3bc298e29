/- The writer: options. -/
import Derived.Test.YtkoflhohokdllaaGreatDoorGg
namespace Go.Proofs.YtkoflhohokdllaaGreatDoor
open Go.RowKit
open Go.Proofs.YtkoflhohokdllaaGreatDoor.Cl (Rg SetV SetAt rgCells info_three info3)
variable {w w' w0 : World} {n₀ wb lp lp' base : Nat} {fo : Bool} {M : List In} {G : Int}

def optJ (m x : Nat) : Nat → List Nat
  | 0 => []
  | n + 1 => optJ m x n ++ [m + n * (x + 1)]
theorem optJ_len (m x : Nat) : ∀ n, (optJ m x n).length = n
  | 0 => rfl
  | n + 1 => by rw [optJ, List.length_append, optJ_len m x n]; rfl
theorem optJ_get (m x : Nat) : ∀ (n j : Nat), j < n → (optJ m x n)[j]? = some (m + j * (x + 1))
  | 0, _, h => by omega
  | n + 1, j, h => by
    rw [optJ]
    by_cases e : j = n
    · subst e
      rw [List.getElem?_append_right (by rw [optJ_len]; omega), optJ_len, Nat.sub_self]
      rfl
    · rw [List.getElem?_append_left (by rw [optJ_len]; omega)]
      exact optJ_get m x n j (by omega)
theorem forkI_opt (lz : Bool) (s n : Nat) : forkI lz s n (In.i 3 0 0 0 0) = optI lz s n := by cases lz <;> rfl
theorem opt_fork (lz : Bool) (T n m : Nat) (Q x : List In) (h : n < m) (hT : T = Q.length + m * (x.length + 1)) :
    (optM lz T n m Q x)[Q.length + n * (x.length + 1)]? = some (In.i 3 0 0 0 0) ∧ (optM lz T n m Q x).set (Q.length + n * (x.length + 1)) (forkI lz (Q.length + n * (x.length + 1)) (optM lz T n m Q x).length (In.i 3 0 0 0 0)) = optM lz T (n + 1) m Q x ∧ marks (optM lz T (n + 1) m Q x) = marks (optM lz T n m Q x) := by
  obtain ⟨R, e1, e2⟩ := optM_step lz T n m Q x h
  have hl : (optM lz T n m Q x).length = T := by
    unfold optM
    rw [optS_len, optT_len, hT]
    have : m * (x.length + 1) = n * (x.length + 1) + (m - n) * (x.length + 1) := by rw [← Nat.add_mul]; congr 1; omega
    omega
  rw [forkI_opt, hl, e1, e2]
  have hs := optT_len lz T Q x n
  rw [← hs]
  refine ⟨by simp, by simp, ?_⟩
  rw [marks_append, marks_append, marks_cons, marks_cons, if_neg (by rw [optI_op]; decide), if_neg (by decide)]

set_option maxRecDepth 100000 in
set_option maxHeartbeats 4000000 in
theorem options_step (n : Nat) (ih : RowG n₀ wb fo G n) : AtG n₀ wb fo G n 120 (fun nd => 0 ≤ nd.lo ∧ nd.lo ≤ nd.hi ∧ nd.hi ≤ 64) (fun nd => optC (nd.mode == 1) (nd.hi - nd.lo).toNat (kidsC fo nd)) := by
  intro nd hok hkids w M A1 A2 p1 p2 hE hN hW hlen
  dsimp only at hlen hok
  obtain ⟨ho1, ho2, ho3⟩ := hok
  obtain ⟨b, off, hkv, hm⟩ := NodeB.kids hN
  obtain ⟨hlow1, hlow2⟩ := Wr.low hW
  obtain ⟨cnt, hcnt⟩ : ∃ cnt, cnt = (nd.hi - nd.lo).toNat := ⟨_, rfl⟩
  have hci : nd.hi - nd.lo = (cnt : Int) := by omega
  have hc64 : cnt ≤ 64 := by omega
  have HRow := Lib.hid (fun W M' (h1 : Env5 n₀ W) (h2 : KidsB n₀ W nd.kids A2 b off) (h3 : Wm n₀ wb fo W M') h4 => ih nd.kids hkids hm W M' A2 p2 b off h1 h2 h3 h4)
  have HB0 := Lib.hid (Blk.new w 27 #[.int .i64 nd.kind, .int .i64 nd.lo, .int .i64 nd.hi, .int .i64 nd.mode, .int .i64 nd.ref, .slice A1 nd.set.length p1, .slice A2 nd.kids.length p2])
  have hb0 := new_blk w #[.int .i64 nd.kind, .int .i64 nd.lo, .int .i64 nd.hi, .int .i64 nd.mode, .int .i64 nd.ref, .slice A1 nd.set.length p1, .slice A2 nd.kids.length p2]
  have HE := Lib.hid hE
  have HK := Lib.hid hkv
  have HW0 := Lib.hid (hW.on hb0)
  have HF0 := Lib.hid (FrW.of_below (n₀ := n₀) (wb := wb) hb0)
  obtain ⟨i0, hi, hz0, hz1, hz2⟩ := info_three info3
  rw [← hcnt] at hlen
  have HCnt := Lib.hid hcnt
  have HCi := Lib.hid hci
  unfold kidsC at hlen
  clear ih hkids hE hN hW hkv hm hcnt
  go_enter Tryz.func120, Tryz.ntmps120
  go_upto_region 1 with (fail)
  have hs0 := hb0.size
  generalize w.alloc _ = W at *
  obtain ⟨X, hXe⟩ : ∃ X, X = rowC (nd.kids.map (code fo)) := ⟨_, rfl⟩
  rw [← hXe] at hlen HRow
  have HXe := Lib.hid hXe
  clear hXe
  have hol := optC_len (nd.mode == 1) cnt X
  have hlen' : M.length + cnt * (X.length + 1) ≤ 90000 := by
    have e : (optC (nd.mode == 1) cnt X).length = cnt * (X.length + 1) := by
      unfold len at hol
      have : (((cnt * (X.length + 1) : Nat)) : Int) = (cnt : Int) * ((X.length : Int) + 1) := by simp
      omega
    omega
  clear hol hlen
  have h7 := HB0.out.c7
  go_wp2
  clear h7
  obtain ⟨bx, hbx⟩ : ∃ bx, bx = w.heap.size := ⟨_, rfl⟩
  rw [← hbx] at HB0 ⊢
  have hbx1 : wb < bx := by omega
  have hbx2 : w.heap.size ≤ bx := by omega
  have HBx := Lib.hid hbx
  clear hbx
  go_loopw [4, 12] (fun u i wr => ∃ (k : Nat) (A4 : Option Addr) (c4 : Nat), k ≤ cnt ∧ u = .slice A4 (optJ M.length X.length k).length c4 ∧ (optJ M.length X.length k).length ≤ c4 ∧ i = .int .i64 k ∧ Hid (Wm n₀ wb fo wr (optS k M X) ∧ FrW n₀ wb w wr ∧ RowJ wr w.heap.size u (optJ M.length X.length k) ∧ Blk wr bx 27 #[.int .i64 nd.kind, .int .i64 nd.lo, .int .i64 nd.hi, .int .i64 nd.mode, .int .i64 nd.ref, .slice A1 nd.set.length p1, .slice A2 nd.kids.length p2])) (fun _ i _ => cnt - (intOf i).toNat)
  case atStart => exact ⟨0, none, 0, Nat.zero_le _, rfl, Nat.le_refl _, rfl, Lib.hid ⟨HW0.out, HF0.out, World.ownsRow_nil _ _ _ _, HB0.out⟩⟩
  case round =>
    obtain ⟨k, A4, c4, hk, rfl, hc4, rfl, HR⟩ := hrel
    have hsz := HR.out.2.1.size
    by_cases hlt : k < cnt
    · have hlti : (k : Int) < (cnt : Int) := by omega
      have HLt := Lib.hid hlt
      have hSl : (optS k M X).length = M.length + k * (X.length + 1) := optS_len M X k
      have hSb : (optS k M X).length + X.length + 1 ≤ 90000 := by
        have : (k + 1) * (X.length + 1) ≤ cnt * (X.length + 1) := Nat.mul_le_mul_right _ hlt
        rw [Nat.add_mul] at this
        omega
      have HSl := Lib.hid hSl
      have HSn : Hid (app (optS k M X ++ [In.i 3 0 0 0 0]) X = optS (k + 1) M X) := Lib.hid rfl
      have hJl : (optJ M.length X.length k).length ≤ 100 := by rw [optJ_len]; omega
      clear hSl
      generalize optS k M X = Q at *
      have HP := Lib.hid (put_i 3 0 0 0 0 HR.out.1 (by omega))
      go_wp2_with fail
      refine HP.out.mono ?_
      rintro e w2 ⟨rfl, hW2, hF2⟩
      have hs2 := hF2.size
      have HB2 := Lib.hid (hF2.blk HR.out.2.2.2 (by decide) (by omega))
      have HJ2 := Lib.hid (RowJ.frw HR.out.2.2.1 HR.out.1 hF2)
      have HF2 := Lib.hid (HR.out.2.1.trans hF2)
      have HW2 : Hid (Wm n₀ wb fo w2 (Q ++ [In.i 3 0 0 0 0])) := Lib.hid (by unfold Wm; rw [marks_snoc _ _ (by decide)]; exact hW2)
      clear hW2 hF2 HP
      have HJa := Lib.hid (World.ownsRow.alloc HJ2.out (.cells #[.int .i64 ((Q.length : Nat) : Int)] 3))
      have HWa := Lib.hid (HW2.out.alloc (.cells #[.int .i64 ((Q.length : Nat) : Int)] 3))
      have HFa := Lib.hid (HF2.out.alloc (.cells #[.int .i64 ((Q.length : Nat) : Int)] 3))
      have HBa := Lib.hid (HB2.out.alloc (.cells #[.int .i64 ((Q.length : Nat) : Int)] 3))
      go_wp2_with (at_builtin; refine wpList_append_own _ rfl _ _ 70 rfl w.heap.size 3 i0 (.int .i64 0) 1 8 Tryz.underlying70 hi hz0 hz1 hz2 rfl (by decide) _ _ _ rfl HJa.out ⟨w2.heap.size, 0, none⟩ 1 1 [.int .i64 ((Q.length : Nat) : Int)] rfl rfl ?c1 ?c2 ?c3 ?c4 ?c5 ?_)
      case c1 =>
        intro j u hj
        match j, hj with
        | 0, hj => simp at hj; subst hj; simp [Addr.add]
      case c2 => intro u hu; simp at hu; subst hu; rfl
      case c3 => unfold maxLen; omega
      case c4 => omega
      case c5 => simp; omega
      intro v' w5 hown' hgrow
      have hs5 := hgrow.size
      have HW5 := Lib.hid (HWa.out.grownJ HJa.out hgrow)
      have HF5 := Lib.hid (HFa.out.grownJ HJa.out (Nat.le_refl _) hgrow)
      have HB5 := Lib.hid (HBa.out.grown hgrow (fun e => own_ne HJa.out HBa.out (by decide) e.symm))
      have HJ5 : Hid (RowJ w5 w.heap.size v' (optJ M.length X.length k ++ [Q.length])) := Lib.hid (by
        unfold RowJ
        rw [jv_snoc, List.length_append]
        exact hown')
      obtain ⟨g9, c9, rfl, _, _⟩ := hown'.form (by omega)
      clear hown' hgrow
      intro _
      have h7 := HB5.out.c7
      go_wp2_with fail
      refine (HRow.out w5 _ (HE.out.low (HF5.out.old (by omega))) (HK.out.low (HF5.out.old (by omega))) HW5.out (by rw [List.length_append]; simp; omega)).mono ?_
      rintro e w6 ⟨rfl, hW6, hF6⟩
      have HJ6 := Lib.hid (RowJ.frw HJ5.out HW5.out hF6)
      have HB6 := Lib.hid (hF6.blk HB5.out (by decide) (by omega))
      have HF6 := Lib.hid (HF5.out.trans hF6)
      have HW6 := Lib.hid hW6
      clear hW6 hF6 h7
      go_wp2
      go_roundw
      case rel =>
        have e0 : optJ M.length X.length (k + 1) = optJ M.length X.length k ++ [Q.length] := by rw [HSl.out]; rfl
        refine ⟨k + 1, some ⟨g9, 0, none⟩, c9, HLt.out, by rw [e0, List.length_append]; rfl, ?_, by go_num, Lib.hid ⟨?_, HF6.out, by rw [e0]; exact HJ6.out, HB6.out⟩⟩
        · rw [e0]
          obtain ⟨A', c', e', h'⟩ := RowJ.form_ HJ5.out
          injection e' with _ _ e''
          omega
        · rw [← HSn.out]; exact HW6.out
      case measure => have := HLt.out; simp [intOf]; omega
    · obtain rfl : k = cnt := by omega
      have hjs : (optJ M.length X.length k).length = k := optJ_len _ _ _
      have HJg := Lib.hid (optJ_get M.length X.length k)
      have HJl := Lib.hid hjs
      have hjs' : (optJ M.length X.length k).length ≤ 64 := by omega
      clear hjs
      generalize optJ M.length X.length k = js at *
      obtain ⟨T, hT⟩ : ∃ T, T = M.length + k * (X.length + 1) := ⟨_, rfl⟩
      have HT := Lib.hid hT
      have HZ0 : Hid (optS k M X = optM (nd.mode == 1) T 0 k M X) := Lib.hid rfl
      clear hT
      go_wp2
      go_loopw [27] (fun i wr => ∃ (j : Nat), j ≤ js.length ∧ i = .int .i64 j ∧ Hid (Wm n₀ wb fo wr (optM (nd.mode == 1) T j k M X) ∧ FrW n₀ wb w wr ∧ RowJ wr w.heap.size (.slice A4 js.length c4) js ∧ Blk wr bx 27 #[.int .i64 nd.kind, .int .i64 nd.lo, .int .i64 nd.hi, .int .i64 nd.mode, .int .i64 nd.ref, .slice A1 nd.set.length p1, .slice A2 nd.kids.length p2])) (fun i _ => js.length - (intOf i).toNat)
      case atStart => exact ⟨0, Nat.zero_le _, rfl, Lib.hid ⟨by rw [← HZ0.out]; exact HR.out.1, HR.out.2.1, HR.out.2.2.1, HR.out.2.2.2⟩⟩
      case round =>
        obtain ⟨j, hj, rfl, HR2⟩ := hrel
        by_cases hjl : j < js.length
        · have hji : (j : Int) < js.length := by omega
          have HJ1 := Lib.hid hjl
          have hjk : j < k := by have := HJl.out; omega
          obtain ⟨g7, c7, hv7, hc7, k7⟩ := RowJ.at_ HR2.out.2.2.1 (HJg.out j hjk)
          obtain ⟨rfl, _, rfl⟩ := Value.slice.inj hv7
          obtain ⟨o1, o2, o3⟩ := opt_fork (nd.mode == 1) T j k M X hjk HT.out
          have HFk := Lib.hid (fork_any (lz := nd.mode == 1) HR2.out.1 o1)
          rw [o2] at HFk
          have HO3 := Lib.hid o3
          clear o1 o2 o3
          have h7 := HR2.out.2.2.2.c7
          go_wp2_with fail
          refine HFk.out.mono ?_
          rintro e w7 ⟨rfl, hW7, hF7⟩
          have HN9 : Hid (Wm n₀ wb fo w7 (optM (nd.mode == 1) T (j + 1) k M X) ∧ FrW n₀ wb w w7 ∧ RowJ w7 w.heap.size (.slice (some ⟨g7, 0, none⟩) js.length c4) js ∧ Blk w7 bx 27 #[.int .i64 nd.kind, .int .i64 nd.lo, .int .i64 nd.hi, .int .i64 nd.mode, .int .i64 nd.ref, .slice A1 nd.set.length p1, .slice A2 nd.kids.length p2]) := Lib.hid
            ⟨by unfold Wm; rw [HO3.out]; exact hW7, HR2.out.2.1.trans hF7, RowJ.frw HR2.out.2.2.1 HR2.out.1 hF7, hF7.blk HR2.out.2.2.2 (by decide) (by omega)⟩
          clear hW7 hF7 h7
          go_wp2
          go_roundw
          case rel => exact ⟨j + 1, HJ1.out, by go_num, HN9⟩
          case measure => have := HJ1.out; simp [intOf]; omega
        · obtain rfl : j = js.length := by omega
          go_wp2
          have HR3 := HR2.out
          have e : optM (nd.mode == 1) T js.length k M X = app M (optC (nd.mode == 1) k X) := by
            rw [HJl.out, HT.out, ← optT_code]
            unfold optM
            rw [Nat.sub_self]
            rfl
          rw [e] at HR3
          exact ⟨rfl, .tuple #[], by simp [results, Tryz.results120, go_sem], rfl, (by have := HR3.1; rw [HXe.out, HCnt.out] at this; exact this), HR3.2.1⟩

end Go.Proofs.YtkoflhohokdllaaGreatDoor
