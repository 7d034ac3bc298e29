/- Layer 13: the records of two logs. (Written by genLdJ.py.) -/
import Derived.Test.YtefgobmpleoafaaGreatLdI
namespace Go.Proofs.YtefgobmpleoafaaGreat
open Go.RowKit
variable {w w' : World}

theorem EntsV.tail {n₀ c k b off : Nat} {l : List En} (h : EntsV n₀ w (.slice (some ⟨b, off, none⟩) l.length c) l) (hk : k < l.length) : EntsV n₀ w (.slice (some ⟨b, off + k * 9, none⟩) (l.length - k) (c - k)) (l.drop k) := by
  obtain ⟨A', c', hv, hc, ht⟩ := h
  injection hv with e1 e2 e3
  subst e1 e3
  obtain ⟨b', off', hA, hb, hx⟩ := ht (by rintro rfl; simp at hk)
  injection hA with hA
  injection hA with q1 q2 _
  subst q1 q2
  refine ⟨_, c - k, by rw [List.length_drop], by rw [List.length_drop]; omega, fun _ => ⟨b, off + k * 9, rfl, hb, fun i e he => ?_⟩⟩
  rw [List.getElem?_drop] at he
  rw [show off + k * 9 + i * 9 = off + (k + i) * 9 by omega]
  exact hx (k + i) e he
theorem LEntV.single {base g : Nat} {r : En} {A B : Option Addr} {m c n d : Nat} (hg : Blk w g 93 #[.int .i64 r.vi, .int .i64 r.cl, .int .i64 r.re, .int .i64 r.d.de, .int .i64 r.d.cl, .int .i64 r.d.fu, .int .i64 r.d.st, .slice A m c, .slice B n d]) (hb : base ≤ g)
    (hp : OwnU w base 114 (.slice A m c) r.d.put) (hd : LIntV base w (.slice B n d) r.d.drop) : LEntV base w (.slice (some ⟨g, 0, none⟩) 1 1) [r] :=
  ⟨[(r, .slice A m c, .slice B n d)], rfl, ⟨rfl, .inr ⟨g, 1, _, rfl, hb, hg, Nat.le_refl _, by unfold maxLen; omega, rfl, rfl⟩⟩, fun x hx => by
    obtain rfl := List.mem_singleton.1 hx
    exact ⟨hp, hd⟩⟩
def addR (e : En) : Rc := ⟨2, 0, 0, [e]⟩
set_option maxRecDepth 100000 in
set_option maxHeartbeats 16000000 in
theorem logRecords_any (la lb : List En) (va vb : Value) (w : World) (hma : la.length ≤ 100000) (hmb : lb.length ≤ 100000) (hsa : ∀ e ∈ la, short e) (hsb : ∀ e ∈ lb, short e) (hA : EntsV w.heap.size w va la) (hB : EntsV w.heap.size w vb lb) :
    Calls Tryz.prog 43 #[va, vb] w fun e w' => ∃ n A c, e = .returned (.slice A (logR n la lb).length c) ∧ Com n la lb ∧ RecsO w.heap.size w' (.slice A (logR n la lb).length c) (logR n la lb) ∧ Below w.heap.size w w' := by
  have CC := Lib.hid (common_any la lb va vb w (by omega) (by omega) hsa hA hB)
  obtain ⟨A, ca, rfl⟩ := hA.form
  obtain ⟨B, cb, rfl⟩ := hB.form
  have HB := Lib.hid hB
  have HS := Lib.hid hsb
  have HBN := Lib.hid (show B = none → lb.length = 0 from fun h => by
    subst h
    obtain ⟨A', _, hv, _, ht⟩ := hB
    injection hv with e1
    by_cases hl : lb = []
    · rw [hl]; rfl
    · obtain ⟨b, off, h, _⟩ := ht hl
      rw [← e1] at h; cases h)
  have hcb : lb.length ≤ cb := by obtain ⟨_, _, hv, hc, _⟩ := hB; injection hv with _ _ e3; rw [e3]; omega
  clear hA hB hsa hsb
  obtain ⟨na, hna⟩ : ∃ n, n = la.length := ⟨_, rfl⟩
  obtain ⟨nb, hnb⟩ : ∃ n, n = lb.length := ⟨_, rfl⟩
  rw [← hna] at CC hma
  rw [← hnb] at CC hmb hcb
  rw [← hna, ← hnb]
  have NA := Lib.hid hna
  have NB := Lib.hid hnb
  clear hna hnb
  go_enter Tryz.func43, Tryz.ntmps43
  go_wp2_with fail
  refine CC.out.mono ?_
  rintro e w1 ⟨n, rfl, hc, b1⟩
  have HC := Lib.hid hc
  have B1 := Lib.hid b1
  have hn1 : n ≤ na := by rw [NA.out]; exact hc.le1
  have hn2 : n ≤ nb := by rw [NB.out]; exact hc.le2
  have hn3 : (n : Int) ≤ (nb : Int) := by omega
  have hn4 : (n : Int) ≤ (cb : Int) := by omega
  have hcb1 : (nb : Int) ≤ (cb : Int) := by omega
  have hnn : (0 : Int) ≤ (n : Int) := by omega
  clear CC b1 hc
  by_cases hcase : n < na
  · have hlt : (n : Int) < (na : Int) := by omega
    have HQ : Hid (logR n la lb = [(⟨3, (n : Int), 0, []⟩ : Rc)] ++ (lb.drop n).map addR) := Lib.hid (by
      unfold logR
      rw [if_pos (by rw [← NA.out]; omega)]
      rfl)
    have HQL : Hid ((logR n la lb).length = 1 + (nb - n)) := Lib.hid (by rw [HQ.out]; have := NB.out; simp; omega)
    by_cases hlt2 : n < nb
    · have hb2 : ∃ b2 o2, B = some ⟨b2, o2, none⟩ := by
        obtain ⟨b, off, _, _, h, _⟩ := HB.out.at_ (k := n) (by rw [← NB.out]; exact hlt2)
        exact ⟨b, off, h⟩
      obtain ⟨b2, o2, rfl⟩ := hb2
      have HT : Hid (EntsV w.heap.size w (.slice (some ⟨b2, o2 + n * 9, none⟩) (nb - n) (cb - n)) (lb.drop n)) := Lib.hid (by have := EntsV.tail HB.out (k := n) (by rw [← NB.out]; exact hlt2); rwa [← NB.out] at this)
      have HSD : Hid (∀ e ∈ lb.drop n, short e) := Lib.hid fun e he => HS.out e (List.mem_of_mem_drop he)
      obtain ⟨D, hD⟩ : ∃ D, D = lb.drop n := ⟨_, rfl⟩
      obtain ⟨m, hm⟩ : ∃ m, m = nb - n := ⟨_, rfl⟩
      have HDL : Hid (m = D.length) := Lib.hid (by rw [hm, hD, List.length_drop, ← NB.out])
      rw [← hD] at HT HSD HQ
      rw [← hm] at HT HQL
      have hne : ¬ cb = n := by omega
      have hm1 : (m : Int) = (nb : Int) - (n : Int) := by omega
      have HM := Lib.hid hm
      have hmb2 : m ≤ 100000 := by omega
      have hmi : nb - n = m := hm.symm
      clear hm hD
      go_wp2_with (at_builtin
                   refine wpList_append_rec _ rfl (.tmp 16) (.tmp 19) rfl w.heap.size _ [] rfl (RecsO.nil _ _) _ 1 (⟨3, (n : Int), 0, []⟩ : Rc) none 0 rfl (Blk.at_new _ _ rfl _ _) (OwnE.nil _ _ _ _) (by simp) (by have := B1.out.size; simp; omega) ?_
                   intro v3 w3 o3 g3
                   have B3 : Hid (Below w.heap.size w w3) := Lib.hid ((B1.out.alloc B1.out.size (.cells #[.int .i64 3, .int .i64 (n : Int), .int .i64 0, .slice none 0 0] 82)).grown g3 (by have := B1.out.size; simp; omega) (fun j hj => by cases hj))
                   obtain ⟨A3, c3, hv3⟩ := o3.len
                   subst hv3
                   have O3 : Hid (RecsO w.heap.size w3 (.slice A3 1 c3) [(⟨3, (n : Int), 0, []⟩ : Rc)]) := Lib.hid o3
                   clear o3 g3)
      clear hm1 hmi
      go_loopw [5, 25] (fun V i wr => ∃ (k : Nat) (Ak : Option Addr) (ck : Nat), k ≤ m ∧ i = .int .i64 (k : Int) ∧ V = .slice Ak (1 + k) ck ∧ Hid (RecsO w.heap.size wr (.slice Ak (1 + k) ck) ([(⟨3, (n : Int), 0, []⟩ : Rc)] ++ (D.take k).map addR)) ∧ Hid (Below w.heap.size w wr)) (fun _ i _ => m - (intOf i).toNat)
      case atStart => exact ⟨0, A3, c3, Nat.zero_le _, rfl, rfl, Lib.hid (by simpa using O3.out), B3⟩
      case round =>
        obtain ⟨k, Ak, ck, hk, rfl, rfl, HO, HW⟩ := hrel
        have hsz : w.heap.size ≤ wr.heap.size := HW.out.size
        by_cases hltk : k < m
        · have hkl : k < D.length := by rw [← HDL.out]; exact hltk
          have hki : (k : Int) < (nb : Int) - (n : Int) := by have := HM.out; omega
          obtain ⟨b, off, p, d, hA0, hb, hE0, hp0, hd⟩ := HT.out.at_ hkl
          injection hA0 with hA0
          injection hA0 with q1 q2 _
          subst q1 q2
          have hE := hE0.below hb HW.out
          have hp := (hp0.below HW.out).more HW.out.size
          have hd' := (hd.below HW.out).more HW.out.size
          clear hE0 hp0 hd
          have HG := Lib.hid (List.getElem?_eq_getElem hkl)
          have hsm := HSD.out D[k] (List.getElem_mem _)
          generalize D[k] = r at HG hsm hE hp hd'
          obtain ⟨c0, c1, c2, c3', c4, c5, c6, c7, c8⟩ := hE
          obtain ⟨Ap, cp, rfl⟩ := hp.form
          obtain ⟨Ad, cd, rfl⟩ := hd'.form
          rw [zI_len] at c8 hd'
          have C : Hid (∀ o, Calls Tryz.prog 41 #[r.val (.slice Ap r.d.put.length cp) (.slice Ad r.d.drop.length cd)] (wr.alloc o) fun e w' => ∃ p' d', e = .returned (r.val p' d') ∧ OwnU w' (wr.alloc o).heap.size 114 p' r.d.put ∧ LIntV (wr.alloc o).heap.size w' d' r.d.drop ∧ Below (wr.alloc o).heap.size (wr.alloc o) w') := Lib.hid fun o =>
            ownEntry_any r _ _ _ hsm.1 hsm.2 ((hp.below ((Below.refl _ _).alloc (Nat.le_refl _) o)).more (by simp)) ((hd'.below ((Below.refl _ _).alloc (Nat.le_refl _) o)).more (by simp))
          clear hp hd' hsm hkl
          obtain ⟨np, hnp⟩ : ∃ np, np = r.d.put.length := ⟨_, rfl⟩
          obtain ⟨nd, hnd⟩ : ∃ nd, nd = r.d.drop.length := ⟨_, rfl⟩
          rw [← hnp] at C c7
          rw [← hnd] at C c8
          clear hnp hnd
          have BA : Hid (∀ o, Below w.heap.size w (wr.alloc o)) := Lib.hid fun o => HW.out.alloc hsz o
          have OA : Hid (∀ o, RecsO w.heap.size (wr.alloc o) (.slice Ak (1 + k) ck) ([(⟨3, (n : Int), 0, []⟩ : Rc)] ++ (D.take k).map addR)) := Lib.hid fun o => HO.out.alloc o
          go_wp2_with fail
          refine (C.out _).mono ?_
          rintro e w6 ⟨p6, d6, rfl, o6, q6, b6⟩
          have hs8 : w.heap.size ≤ (wr.alloc (.cells #[.int .i64 r.vi, .int .i64 r.cl, .int .i64 r.re, .int .i64 r.d.de, .int .i64 r.d.cl, .int .i64 r.d.fu, .int .i64 r.d.st, .slice Ap np cp, .slice Ad nd cd] 93)).heap.size := by simp; omega
          obtain ⟨A6, e6, rfl⟩ := orow_form o6
          obtain ⟨A7, e7, rfl⟩ := orow_form q6
          have B6 := Lib.hid ((BA.out _).trans (b6.mono hs8))
          have O6 := Lib.hid (((OA.out _).on b6).alloc (.cells #[.int .i64 r.vi, .int .i64 r.cl, .int .i64 r.re, .int .i64 r.d.de, .int .i64 r.d.cl, .int .i64 r.d.fu, .int .i64 r.d.st, .slice A6 r.d.put.length e6, .slice A7 r.d.drop.length e7] 93))
          have O6r := Lib.hid (O6.out.alloc (.cells #[.int .i64 2, .int .i64 0, .int .i64 0, .slice (some ⟨w6.heap.size, 0, none⟩) 1 1] 82))
          have P6 : OwnU w6 w.heap.size 114 (.slice A6 r.d.put.length e6) r.d.put := orow_low o6 (by omega)
          have D6 : LIntV w.heap.size w6 (.slice A7 r.d.drop.length e7) r.d.drop := orow_low q6 (by omega)
          have hs9 : w.heap.size ≤ w6.heap.size := B6.out.size
          have E6 : Hid (LEntV w.heap.size (w6.alloc (.cells #[.int .i64 r.vi, .int .i64 r.cl, .int .i64 r.re, .int .i64 r.d.de, .int .i64 r.d.cl, .int .i64 r.d.fu, .int .i64 r.d.st, .slice A6 r.d.put.length e6, .slice A7 r.d.drop.length e7] 93)) (.slice (some ⟨w6.heap.size, 0, none⟩) 1 1) [r]) := Lib.hid (LEntV.single (Blk.new _ _ _) hs9 (World.ownsRow.alloc P6 _) (World.ownsRow.alloc D6 _))
          have E6r := Lib.hid (E6.out.alloc (.cells #[.int .i64 2, .int .i64 0, .int .i64 0, .slice (some ⟨w6.heap.size, 0, none⟩) 1 1] 82))
          have B6r := Lib.hid ((B6.out.alloc hs9 (.cells #[.int .i64 r.vi, .int .i64 r.cl, .int .i64 r.re, .int .i64 r.d.de, .int .i64 r.d.cl, .int .i64 r.d.fu, .int .i64 r.d.st, .slice A6 r.d.put.length e6, .slice A7 r.d.drop.length e7] 93)).alloc (by simp; omega) (.cells #[.int .i64 2, .int .i64 0, .int .i64 0, .slice (some ⟨w6.heap.size, 0, none⟩) 1 1] 82))
          have hs10 : w.heap.size ≤ ((w6.alloc (.cells #[.int .i64 r.vi, .int .i64 r.cl, .int .i64 r.re, .int .i64 r.d.de, .int .i64 r.d.cl, .int .i64 r.d.fu, .int .i64 r.d.st, .slice A6 r.d.put.length e6, .slice A7 r.d.drop.length e7] 93)).alloc (.cells #[.int .i64 2, .int .i64 0, .int .i64 0, .slice (some ⟨w6.heap.size, 0, none⟩) 1 1] 82)).heap.size := B6r.out.size
          clear c0 c1 c2 c3' c4 c5 c6 c7 c8 o6 q6 b6 HO BA OA C hs8 P6 D6
          have HLn : Hid (([(⟨3, (n : Int), 0, []⟩ : Rc)] ++ (D.take k).map addR).length + 1 ≤ 1000000) := Lib.hid (by have := HDL.out; simp; omega)
          go_wp2_with (at_builtin
                       go_loud (refine wpList_append_rec _ rfl (.tmp 29) (.tmp 34) rfl w.heap.size (.slice Ak (1 + k) ck) ([(⟨3, (n : Int), 0, []⟩ : Rc)] ++ (D.take k).map addR) rfl O6r.out _ 1 (addR r) (some ⟨w6.heap.size, 0, none⟩) 1 rfl (Blk.at_new _ _ (by simp) _ _) E6r.out HLn.out hs10 ?_)
                       intro v7 w7 o7 g7
                       go_loud (have B7 : Hid (Below w.heap.size w w7) := Lib.hid (B6r.out.grown g7 hs10 (fun j hj => (O6r.out.lt j hj).1)))
                       obtain ⟨A8, c8, hv8⟩ := o7.len
                       go_loud (rw [show ([(⟨3, (n : Int), 0, []⟩ : Rc)] ++ (D.take k).map addR ++ [addR r]).length = 1 + (k + 1) by have := HDL.out; simp; omega] at hv8)
                       subst hv8
                       have O7 : Hid (RecsO w.heap.size w7 (.slice A8 (1 + (k + 1)) c8) ([(⟨3, (n : Int), 0, []⟩ : Rc)] ++ (D.take k).map addR ++ [addR r])) := Lib.hid o7
                       clear o7 g7)
          go_roundw
          case rel => exact ⟨k + 1, A8, c8, by omega, by go_num, rfl, by rw [ent_take HG.out, List.map_append, ← List.append_assoc]; exact O7, B7⟩
          case measure => simp [intOf]; omega
        · obtain rfl : k = m := by omega
          have hki : ¬ (k : Int) < (nb : Int) - (n : Int) := by have := HM.out; omega
          have hO := HO.out
          rw [List.take_of_length_le (by rw [← HDL.out]; omega)] at hO
          have O := Lib.hid hO
          clear hO HO
          go_wp2
          go_ret
          refine ⟨n, Ak, ck, ?_, HC.out, ?_, HW.out⟩
          · rw [HQL.out]; rfl
          · rw [HQL.out, HQ.out]; exact O.out
    · obtain rfl : n = nb := by omega
      clear hlt2
      cases B with
      | none =>
        have hz := HBN.out rfl
        rw [← NB.out] at hz
        subst hz
        go_wp2_with (at_builtin
                     refine wpList_append_rec _ rfl (.tmp 16) (.tmp 19) rfl w.heap.size _ [] rfl (RecsO.nil _ _) _ 1 (⟨3, 0, 0, []⟩ : Rc) none 0 rfl (Blk.at_new _ _ rfl _ _) (OwnE.nil _ _ _ _) (by simp) (by have := B1.out.size; simp; omega) ?_
                     intro v3 w3 o3 g3
                     have B3 : Hid (Below w.heap.size w w3) := Lib.hid ((B1.out.alloc B1.out.size (.cells #[.int .i64 3, .int .i64 0, .int .i64 0, .slice none 0 0] 82)).grown g3 (by have := B1.out.size; simp; omega) (fun j hj => by cases hj))
                     obtain ⟨A3, c3, hv3⟩ := o3.len
                     subst hv3
                     have O3 : Hid (RecsO w.heap.size w3 (.slice A3 1 c3) [(⟨3, 0, 0, []⟩ : Rc)]) := Lib.hid o3
                     clear o3 g3)
        go_loopw [5, 25] (fun V i wr => i = .int .i64 0 ∧ V = (.slice A3 1 c3) ∧ wr = w3) (fun _ i _ => 0)
        case atStart => exact ⟨rfl, rfl, rfl⟩
        case round =>
          obtain ⟨rfl, rfl, rfl⟩ := hrel
          go_wp2
          go_ret
          refine ⟨_, A3, c3, ?_, HC.out, ?_, B3.out⟩
          · rw [HQL.out, Nat.sub_self]; rfl
          · rw [HQL.out, HQ.out, show lb.drop 0 = [] from List.drop_of_length_le (by rw [← NB.out]; omega), Nat.sub_self]
            exact O3.out
      | some ad =>
        by_cases hcn : cb = n
        · subst hcn
          go_wp2_with (at_builtin
                       refine wpList_append_rec _ rfl (.tmp 16) (.tmp 19) rfl w.heap.size _ [] rfl (RecsO.nil _ _) _ 1 (⟨3, (cb : Int), 0, []⟩ : Rc) none 0 rfl (Blk.at_new _ _ rfl _ _) (OwnE.nil _ _ _ _) (by simp) (by have := B1.out.size; simp; omega) ?_
                       intro v3 w3 o3 g3
                       have B3 : Hid (Below w.heap.size w w3) := Lib.hid ((B1.out.alloc B1.out.size (.cells #[.int .i64 3, .int .i64 (cb : Int), .int .i64 0, .slice none 0 0] 82)).grown g3 (by have := B1.out.size; simp; omega) (fun j hj => by cases hj))
                       obtain ⟨A3, c3, hv3⟩ := o3.len
                       subst hv3
                       have O3 : Hid (RecsO w.heap.size w3 (.slice A3 1 c3) [(⟨3, (cb : Int), 0, []⟩ : Rc)]) := Lib.hid o3
                       clear o3 g3)
          go_loopw [5, 25] (fun V i wr => i = .int .i64 0 ∧ V = (.slice A3 1 c3) ∧ wr = w3) (fun _ i _ => 0)
          case atStart => exact ⟨rfl, rfl, rfl⟩
          case round =>
            obtain ⟨rfl, rfl, rfl⟩ := hrel
            go_wp2
            go_ret
            refine ⟨_, A3, c3, ?_, HC.out, ?_, B3.out⟩
            · rw [HQL.out, Nat.sub_self]; rfl
            · rw [HQL.out, HQ.out, show lb.drop cb = [] from List.drop_of_length_le (by rw [← NB.out]; omega), Nat.sub_self]
              exact O3.out
        · skip
          go_wp2_with (at_builtin
                       refine wpList_append_rec _ rfl (.tmp 16) (.tmp 19) rfl w.heap.size _ [] rfl (RecsO.nil _ _) _ 1 (⟨3, (n : Int), 0, []⟩ : Rc) none 0 rfl (Blk.at_new _ _ rfl _ _) (OwnE.nil _ _ _ _) (by simp) (by have := B1.out.size; simp; omega) ?_
                       intro v3 w3 o3 g3
                       have B3 : Hid (Below w.heap.size w w3) := Lib.hid ((B1.out.alloc B1.out.size (.cells #[.int .i64 3, .int .i64 (n : Int), .int .i64 0, .slice none 0 0] 82)).grown g3 (by have := B1.out.size; simp; omega) (fun j hj => by cases hj))
                       obtain ⟨A3, c3, hv3⟩ := o3.len
                       subst hv3
                       have O3 : Hid (RecsO w.heap.size w3 (.slice A3 1 c3) [(⟨3, (n : Int), 0, []⟩ : Rc)]) := Lib.hid o3
                       clear o3 g3)
          go_loopw [5, 25] (fun V i wr => i = .int .i64 0 ∧ V = (.slice A3 1 c3) ∧ wr = w3) (fun _ i _ => 0)
          case atStart => exact ⟨rfl, rfl, rfl⟩
          case round =>
            obtain ⟨rfl, rfl, rfl⟩ := hrel
            go_wp2
            go_ret
            refine ⟨_, A3, c3, ?_, HC.out, ?_, B3.out⟩
            · rw [HQL.out, Nat.sub_self]; rfl
            · rw [HQL.out, HQ.out, show lb.drop n = [] from List.drop_of_length_le (by rw [← NB.out]; omega), Nat.sub_self]
              exact O3.out
  · have hge : ¬ (n : Int) < (na : Int) := by omega
    have HQ : Hid (logR n la lb = ([] : List Rc) ++ (lb.drop n).map addR) := Lib.hid (by
      unfold logR
      rw [if_neg (by rw [← NA.out]; omega)]
      rfl)
    have HQL : Hid ((logR n la lb).length = nb - n) := Lib.hid (by rw [HQ.out]; have := NB.out; simp; omega)
    by_cases hlt2 : n < nb
    · have hb2 : ∃ b2 o2, B = some ⟨b2, o2, none⟩ := by
        obtain ⟨b, off, _, _, h, _⟩ := HB.out.at_ (k := n) (by rw [← NB.out]; exact hlt2)
        exact ⟨b, off, h⟩
      obtain ⟨b2, o2, rfl⟩ := hb2
      have HT : Hid (EntsV w.heap.size w (.slice (some ⟨b2, o2 + n * 9, none⟩) (nb - n) (cb - n)) (lb.drop n)) := Lib.hid (by have := EntsV.tail HB.out (k := n) (by rw [← NB.out]; exact hlt2); rwa [← NB.out] at this)
      have HSD : Hid (∀ e ∈ lb.drop n, short e) := Lib.hid fun e he => HS.out e (List.mem_of_mem_drop he)
      obtain ⟨D, hD⟩ : ∃ D, D = lb.drop n := ⟨_, rfl⟩
      obtain ⟨m, hm⟩ : ∃ m, m = nb - n := ⟨_, rfl⟩
      have HDL : Hid (m = D.length) := Lib.hid (by rw [hm, hD, List.length_drop, ← NB.out])
      rw [← hD] at HT HSD HQ
      rw [← hm] at HT HQL
      have hne : ¬ cb = n := by omega
      have hm1 : (m : Int) = (nb : Int) - (n : Int) := by omega
      have HM := Lib.hid hm
      have hmb2 : m ≤ 100000 := by omega
      have hmi : nb - n = m := hm.symm
      clear hm hD
      go_wp2
      clear hm1 hmi
      go_loopw [5, 25] (fun V i wr => ∃ (k : Nat) (Ak : Option Addr) (ck : Nat), k ≤ m ∧ i = .int .i64 (k : Int) ∧ V = .slice Ak (k) ck ∧ Hid (RecsO w.heap.size wr (.slice Ak (k) ck) (([] : List Rc) ++ (D.take k).map addR)) ∧ Hid (Below w.heap.size w wr)) (fun _ i _ => m - (intOf i).toNat)
      case atStart => exact ⟨0, none, 0, Nat.zero_le _, rfl, rfl, Lib.hid (by simpa using RecsO.nil w.heap.size w1), B1⟩
      case round =>
        obtain ⟨k, Ak, ck, hk, rfl, rfl, HO, HW⟩ := hrel
        have hsz : w.heap.size ≤ wr.heap.size := HW.out.size
        by_cases hltk : k < m
        · have hkl : k < D.length := by rw [← HDL.out]; exact hltk
          have hki : (k : Int) < (nb : Int) - (n : Int) := by have := HM.out; omega
          obtain ⟨b, off, p, d, hA0, hb, hE0, hp0, hd⟩ := HT.out.at_ hkl
          injection hA0 with hA0
          injection hA0 with q1 q2 _
          subst q1 q2
          have hE := hE0.below hb HW.out
          have hp := (hp0.below HW.out).more HW.out.size
          have hd' := (hd.below HW.out).more HW.out.size
          clear hE0 hp0 hd
          have HG := Lib.hid (List.getElem?_eq_getElem hkl)
          have hsm := HSD.out D[k] (List.getElem_mem _)
          generalize D[k] = r at HG hsm hE hp hd'
          obtain ⟨c0, c1, c2, c3', c4, c5, c6, c7, c8⟩ := hE
          obtain ⟨Ap, cp, rfl⟩ := hp.form
          obtain ⟨Ad, cd, rfl⟩ := hd'.form
          rw [zI_len] at c8 hd'
          have C : Hid (∀ o, Calls Tryz.prog 41 #[r.val (.slice Ap r.d.put.length cp) (.slice Ad r.d.drop.length cd)] (wr.alloc o) fun e w' => ∃ p' d', e = .returned (r.val p' d') ∧ OwnU w' (wr.alloc o).heap.size 114 p' r.d.put ∧ LIntV (wr.alloc o).heap.size w' d' r.d.drop ∧ Below (wr.alloc o).heap.size (wr.alloc o) w') := Lib.hid fun o =>
            ownEntry_any r _ _ _ hsm.1 hsm.2 ((hp.below ((Below.refl _ _).alloc (Nat.le_refl _) o)).more (by simp)) ((hd'.below ((Below.refl _ _).alloc (Nat.le_refl _) o)).more (by simp))
          clear hp hd' hsm hkl
          obtain ⟨np, hnp⟩ : ∃ np, np = r.d.put.length := ⟨_, rfl⟩
          obtain ⟨nd, hnd⟩ : ∃ nd, nd = r.d.drop.length := ⟨_, rfl⟩
          rw [← hnp] at C c7
          rw [← hnd] at C c8
          clear hnp hnd
          have BA : Hid (∀ o, Below w.heap.size w (wr.alloc o)) := Lib.hid fun o => HW.out.alloc hsz o
          have OA : Hid (∀ o, RecsO w.heap.size (wr.alloc o) (.slice Ak (k) ck) (([] : List Rc) ++ (D.take k).map addR)) := Lib.hid fun o => HO.out.alloc o
          go_wp2_with fail
          refine (C.out _).mono ?_
          rintro e w6 ⟨p6, d6, rfl, o6, q6, b6⟩
          have hs8 : w.heap.size ≤ (wr.alloc (.cells #[.int .i64 r.vi, .int .i64 r.cl, .int .i64 r.re, .int .i64 r.d.de, .int .i64 r.d.cl, .int .i64 r.d.fu, .int .i64 r.d.st, .slice Ap np cp, .slice Ad nd cd] 93)).heap.size := by simp; omega
          obtain ⟨A6, e6, rfl⟩ := orow_form o6
          obtain ⟨A7, e7, rfl⟩ := orow_form q6
          have B6 := Lib.hid ((BA.out _).trans (b6.mono hs8))
          have O6 := Lib.hid (((OA.out _).on b6).alloc (.cells #[.int .i64 r.vi, .int .i64 r.cl, .int .i64 r.re, .int .i64 r.d.de, .int .i64 r.d.cl, .int .i64 r.d.fu, .int .i64 r.d.st, .slice A6 r.d.put.length e6, .slice A7 r.d.drop.length e7] 93))
          have O6r := Lib.hid (O6.out.alloc (.cells #[.int .i64 2, .int .i64 0, .int .i64 0, .slice (some ⟨w6.heap.size, 0, none⟩) 1 1] 82))
          have P6 : OwnU w6 w.heap.size 114 (.slice A6 r.d.put.length e6) r.d.put := orow_low o6 (by omega)
          have D6 : LIntV w.heap.size w6 (.slice A7 r.d.drop.length e7) r.d.drop := orow_low q6 (by omega)
          have hs9 : w.heap.size ≤ w6.heap.size := B6.out.size
          have E6 : Hid (LEntV w.heap.size (w6.alloc (.cells #[.int .i64 r.vi, .int .i64 r.cl, .int .i64 r.re, .int .i64 r.d.de, .int .i64 r.d.cl, .int .i64 r.d.fu, .int .i64 r.d.st, .slice A6 r.d.put.length e6, .slice A7 r.d.drop.length e7] 93)) (.slice (some ⟨w6.heap.size, 0, none⟩) 1 1) [r]) := Lib.hid (LEntV.single (Blk.new _ _ _) hs9 (World.ownsRow.alloc P6 _) (World.ownsRow.alloc D6 _))
          have E6r := Lib.hid (E6.out.alloc (.cells #[.int .i64 2, .int .i64 0, .int .i64 0, .slice (some ⟨w6.heap.size, 0, none⟩) 1 1] 82))
          have B6r := Lib.hid ((B6.out.alloc hs9 (.cells #[.int .i64 r.vi, .int .i64 r.cl, .int .i64 r.re, .int .i64 r.d.de, .int .i64 r.d.cl, .int .i64 r.d.fu, .int .i64 r.d.st, .slice A6 r.d.put.length e6, .slice A7 r.d.drop.length e7] 93)).alloc (by simp; omega) (.cells #[.int .i64 2, .int .i64 0, .int .i64 0, .slice (some ⟨w6.heap.size, 0, none⟩) 1 1] 82))
          have hs10 : w.heap.size ≤ ((w6.alloc (.cells #[.int .i64 r.vi, .int .i64 r.cl, .int .i64 r.re, .int .i64 r.d.de, .int .i64 r.d.cl, .int .i64 r.d.fu, .int .i64 r.d.st, .slice A6 r.d.put.length e6, .slice A7 r.d.drop.length e7] 93)).alloc (.cells #[.int .i64 2, .int .i64 0, .int .i64 0, .slice (some ⟨w6.heap.size, 0, none⟩) 1 1] 82)).heap.size := B6r.out.size
          clear c0 c1 c2 c3' c4 c5 c6 c7 c8 o6 q6 b6 HO BA OA C hs8 P6 D6
          have HLn : Hid ((([] : List Rc) ++ (D.take k).map addR).length + 1 ≤ 1000000) := Lib.hid (by have := HDL.out; simp; omega)
          go_wp2_with (at_builtin
                       go_loud (refine wpList_append_rec _ rfl (.tmp 29) (.tmp 34) rfl w.heap.size (.slice Ak (k) ck) (([] : List Rc) ++ (D.take k).map addR) rfl O6r.out _ 1 (addR r) (some ⟨w6.heap.size, 0, none⟩) 1 rfl (Blk.at_new _ _ (by simp) _ _) E6r.out HLn.out hs10 ?_)
                       intro v7 w7 o7 g7
                       go_loud (have B7 : Hid (Below w.heap.size w w7) := Lib.hid (B6r.out.grown g7 hs10 (fun j hj => (O6r.out.lt j hj).1)))
                       obtain ⟨A8, c8, hv8⟩ := o7.len
                       go_loud (rw [show (([] : List Rc) ++ (D.take k).map addR ++ [addR r]).length = (k + 1) by have := HDL.out; simp; omega] at hv8)
                       subst hv8
                       have O7 : Hid (RecsO w.heap.size w7 (.slice A8 ((k + 1)) c8) (([] : List Rc) ++ (D.take k).map addR ++ [addR r])) := Lib.hid o7
                       clear o7 g7)
          go_roundw
          case rel => exact ⟨k + 1, A8, c8, by omega, by go_num, rfl, by rw [ent_take HG.out, List.map_append, ← List.append_assoc]; exact O7, B7⟩
          case measure => simp [intOf]; omega
        · obtain rfl : k = m := by omega
          have hki : ¬ (k : Int) < (nb : Int) - (n : Int) := by have := HM.out; omega
          have hO := HO.out
          rw [List.take_of_length_le (by rw [← HDL.out]; omega)] at hO
          have O := Lib.hid hO
          clear hO HO
          go_wp2
          go_ret
          refine ⟨n, Ak, ck, ?_, HC.out, ?_, HW.out⟩
          · rw [HQL.out]; rfl
          · rw [HQL.out, HQ.out]; exact O.out
    · obtain rfl : n = nb := by omega
      clear hlt2
      cases B with
      | none =>
        have hz := HBN.out rfl
        rw [← NB.out] at hz
        subst hz
        go_wp2
        go_loopw [5, 25] (fun V i wr => i = .int .i64 0 ∧ V = (.slice none 0 0) ∧ wr = w1) (fun _ i _ => 0)
        case atStart => exact ⟨rfl, rfl, rfl⟩
        case round =>
          obtain ⟨rfl, rfl, rfl⟩ := hrel
          go_wp2
          go_ret
          refine ⟨_, none, 0, ?_, HC.out, ?_, B1.out⟩
          · rw [HQL.out, Nat.sub_self]; rfl
          · rw [HQL.out, HQ.out, show lb.drop 0 = [] from List.drop_of_length_le (by rw [← NB.out]; omega), Nat.sub_self]
            exact (RecsO.nil _ _)
      | some ad =>
        by_cases hcn : cb = n
        · subst hcn
          go_wp2
          go_loopw [5, 25] (fun V i wr => i = .int .i64 0 ∧ V = (.slice none 0 0) ∧ wr = w1) (fun _ i _ => 0)
          case atStart => exact ⟨rfl, rfl, rfl⟩
          case round =>
            obtain ⟨rfl, rfl, rfl⟩ := hrel
            go_wp2
            go_ret
            refine ⟨_, none, 0, ?_, HC.out, ?_, B1.out⟩
            · rw [HQL.out, Nat.sub_self]; rfl
            · rw [HQL.out, HQ.out, show lb.drop cb = [] from List.drop_of_length_le (by rw [← NB.out]; omega), Nat.sub_self]
              exact (RecsO.nil _ _)
        · skip
          go_wp2
          go_loopw [5, 25] (fun V i wr => i = .int .i64 0 ∧ V = (.slice none 0 0) ∧ wr = w1) (fun _ i _ => 0)
          case atStart => exact ⟨rfl, rfl, rfl⟩
          case round =>
            obtain ⟨rfl, rfl, rfl⟩ := hrel
            go_wp2
            go_ret
            refine ⟨_, none, 0, ?_, HC.out, ?_, B1.out⟩
            · rw [HQL.out, Nat.sub_self]; rfl
            · rw [HQL.out, HQ.out, show lb.drop n = [] from List.drop_of_length_le (by rw [← NB.out]; omega), Nat.sub_self]
              exact (RecsO.nil _ _)
end Go.Proofs.YtefgobmpleoafaaGreat
