/- HistoryOwn: the law's walk. (Written by genHsOw.py.) -/
import Derived.Test.YtefgobmpleoafaaGreatDoorJHsL
namespace Go.Proofs.YtefgobmpleoafaaGreatDoor
open Go.RowKit Go.Maps

set_option maxRecDepth 100000 in
set_option maxHeartbeats 16000000 in
theorem historyOwn_law (v : Value) (l : List En) (w : World) (hT : TabsAt w.heap.size w) (hm : l.length ≤ 9223372036854775807) (hV : EntsV w.heap.size w v l) :
    Calls Tryz.prog 6 #[v] w fun e w' => e = .returned (.bool true) ∧ Below w.heap.size w w' := by
  obtain ⟨i0, hi, hz0, hz1, hz2⟩ := info_three info_rule13
  obtain ⟨A, c, rfl⟩ := hV.form
  obtain ⟨n, hn⟩ : ∃ n, n = l.length := ⟨_, rfl⟩
  rw [← hn] at hV hm ⊢
  have HT := Lib.hid hT
  have HV := Lib.hid hV
  have HL := Lib.hid hn
  clear hT hV hn
  go_enter Tryz.func6, Tryz.ntmps6
  go_wp2_with fail
  refine (anchor14_any w HT.out).mono ?_
  rintro e w1 ⟨rfl, b1⟩
  have B1 := Lib.hid b1
  have SM := Lib.hid (small_any (.slice A n c) l w1 (by rw [← HL.out]; exact hm) (HV.out.on b1))
  obtain ⟨q1, hq1⟩ : ∃ q, q = smallL l := ⟨_, rfl⟩
  rw [← hq1] at SM
  have HQ1 := Lib.hid hq1
  clear b1 hq1
  go_wp2_with fail
  refine SM.out.mono ?_
  rintro e w2 ⟨rfl, b2⟩
  have B2 := Lib.hid (B1.out.trans (b2.mono B1.out.size))
  clear b2 SM B1
  cases q1 with
  | false =>
    go_wp2
    go_ret
    exact ⟨rfl, B2.out⟩
  | true =>
    have HSm : Hid (∀ e ∈ l, smallE e = true) := Lib.hid (by
      have h := HQ1.out
      unfold smallL at h
      have h2 : (l.all smallE && decide (l.length ≤ 70)) = true := h.symm
      rw [Bool.and_eq_true, List.all_eq_true] at h2
      exact h2.1)
    by_cases h12 : n ≤ 12
    · have h12i : ¬ (12 : Int) < (n : Int) := by omega
      have NW := Lib.hid (new_one w.heap.size w w2 (Nat.le_refl _) B2.out)
      go_wp2_with fail
      refine NW.out.mono ?_
      rintro e w3 ⟨g, rfl, og⟩
      have TW0 := Lib.hid og.u
      clear NW og
      go_wp2
      go_loopw [26] (fun i wr => ∃ k : Nat, k ≤ n ∧ i = .int .i64 (k : Int) ∧ Hid (OneU w.heap.size w wr (fun _ => False) g (runM pvM (l.take k)))) (fun i _ => n - (intOf i).toNat)
      case atStart => exact ⟨0, Nat.zero_le _, rfl, TW0⟩
      case round =>
        obtain ⟨k, hk, rfl, TW⟩ := hrel
        have BW := Lib.hid TW.out.below
        have hsz : w.heap.size ≤ wr.heap.size := BW.out.size
        by_cases hlt : k < n
        · have hkl : k < l.length := by rw [← HL.out]; exact hlt
          obtain ⟨b, off, p, dd, rfl, hb, hef, hen⟩ := enf HV.out hkl
          have HG := Lib.hid (List.getElem?_eq_getElem hkl)
          have HSM : Hid (smallE l[k] = true) := Lib.hid (HSm.out _ (List.getElem_mem hkl))
          obtain ⟨c0, c1, c2, c3, c4, c5, c6, c7, c8⟩ := hen wr BW.out
          generalize l[k] = x at HG HSM hef c0 c1 c2 c3 c4 c5 c6 c7 c8
          obtain ⟨Ap, cp, Ad, cd, rfl, rfl⟩ := hef.forms
          obtain ⟨np, hnp⟩ : ∃ np, np = x.d.put.length := ⟨_, rfl⟩
          obtain ⟨nd, hnd⟩ : ∃ nd, nd = x.d.drop.length := ⟨_, rfl⟩
          rw [← hnp, ← hnd] at hef
          rw [← hnp] at c7
          rw [← hnd] at c8
          have HNP := Lib.hid hnp
          have hp20 : np ≤ 20 := by
            have h := HSM.out
            unfold smallE at h
            simp only [Bool.and_eq_true, decide_eq_true_eq] at h
            omega
          have HEF := Lib.hid hef
          have HN1 := Lib.hid (runM_n (p := pvM) (l.take k))
          have LK : Hid ((l.take k).length = k) := Lib.hid (by simp; omega)
          have HRT := Lib.hid (runM_take (p := pvM) HG.out)
          clear hef hnp hnd hen hkl
          have ba : Below wr.heap.size wr ((wr.alloc (.cells #[.int .i64 x.vi, .int .i64 x.cl, .int .i64 x.re, .int .i64 x.d.de, .int .i64 x.d.cl, .int .i64 x.d.fu, .int .i64 x.d.st, .slice Ap np cp, .slice Ad nd cd] 39)).alloc (.cells #[] 72)) := ((Below.refl _ _).alloc (Nat.le_refl _) _).alloc (by simp) _
          have BA := Lib.hid ba
          have XE := Lib.hid ((Blk.new wr 39 #[.int .i64 x.vi, .int .i64 x.cl, .int .i64 x.re, .int .i64 x.d.de, .int .i64 x.d.cl, .int .i64 x.d.fu, .int .i64 x.d.st, .slice Ap np cp, .slice Ad nd cd]).alloc (.cells #[] 72))
          have HO0 : Hid (((wr.alloc (.cells #[.int .i64 x.vi, .int .i64 x.cl, .int .i64 x.re, .int .i64 x.d.de, .int .i64 x.d.cl, .int .i64 x.d.fu, .int .i64 x.d.st, .slice Ap np cp, .slice Ad nd cd] 39)).alloc (.cells #[] 72)).ownsRow (wr.heap.size + 1) 72 5 (.slice (some ⟨wr.heap.size + 1, 0, none⟩) 0 0) 0 []) := Lib.hid (by
            have h := World.ownsRow_made (e := 72) (size := 5) (wr.alloc (.cells #[.int .i64 x.vi, .int .i64 x.cl, .int .i64 x.re, .int .i64 x.d.de, .int .i64 x.d.cl, .int .i64 x.d.fu, .int .i64 x.d.st, .slice Ap np cp, .slice Ad nd cd] 39)) #[] 0 (Nat.le_refl _) (by unfold maxLen; omega) (by simp)
            simpa using h)
          have RP := Lib.hid ((HEF.out _ (BW.out.trans (ba.mono hsz))).1)
          have hmt : wr.heap.size + 1 < ((wr.alloc (.cells #[.int .i64 x.vi, .int .i64 x.cl, .int .i64 x.re, .int .i64 x.d.de, .int .i64 x.d.cl, .int .i64 x.d.fu, .int .i64 x.d.st, .slice Ap np cp, .slice Ad nd cd] 39)).alloc (.cells #[] 72)).heap.size := by simp
          clear ba
          go_wp2_with (at_builtin
                       go_loud (refine wpList_append_gen _ rfl (.tmp 30) (.tmp 33) 34 rfl (wr.heap.size + 1) 72 i0 (.agg #[.int .i64 0, .int .i64 0, .int .i64 0, .int .i64 0, .string ⟨#[]⟩]) 5 48 Tryz.underlying34 hi hz0 hz1 hz2 rfl (by decide) _ 0 [] rfl HO0.out _ _ _ (ruCells x.d.put) rfl (by rw [ruCells_len, HNP.out]) RP.out.src.1 RP.out.src.2 (ruCells_one x.d.put) (by unfold maxLen; omega) (by omega) (Nat.le_of_lt hmt) ?_)
                       intro v' w' o3 g3
                       go_loud (rw [List.nil_append, Nat.zero_add] at o3)
                       go_loud (obtain ⟨An, cn, hv'⟩ := orow_form o3)
                       subst hv'
                       have O3 : Hid (w'.ownsRow (wr.heap.size + 1) 72 5 (.slice An np cn) np (ruCells x.d.put)) := Lib.hid o3
                       have b3 : Below wr.heap.size wr w' := BA.out.grown g3 (Nat.le_of_lt (Nat.lt_of_le_of_lt (Nat.le_succ _) hmt)) (fun j hj => by cases hj; exact Nat.le_succ _)
                       have B3 := Lib.hid b3
                       have XE3 : Hid (Blk w' wr.heap.size 39 #[.int .i64 x.vi, .int .i64 x.cl, .int .i64 x.re, .int .i64 x.d.de, .int .i64 x.d.cl, .int .i64 x.d.fu, .int .i64 x.d.st, .slice Ap np cp, .slice Ad nd cd]) := Lib.hid (XE.out.grown g3 (fun e => absurd (Option.some.inj (show some wr.heap.size = some (wr.heap.size + 1) from e)) (by omega)))
                       have e0 := XE3.out.cell 0
                       have e1 := XE3.out.cell 1
                       have e2 := XE3.out.cell 2
                       have e3 := XE3.out.cell 3
                       have e4 := XE3.out.cell 4
                       have e5 := XE3.out.cell 5
                       have e6 := XE3.out.cell 6
                       have e7 := XE3.out.cell 7
                       have e8 := XE3.out.cell 8
                       have ef := XE3.out.frozen
                       have el := XE3.out.lt
                       clear g3 o3)
          clear e0 e1 e2 e3 e4 e5 e6 e7 e8 el ef
          have hne : (Value.slice An np cn).ownBlock ≠ some wr.heap.size := fun e => by have := (World.ownsRow.lt O3.out _ e).1; omega
          have OA : Hid (OwnU (w'.setCell ⟨wr.heap.size, 7, none⟩ (.slice An np cn)) (wr.heap.size + 1) 72 (.slice An np cn) x.d.put) := Lib.hid (OwnU.farset (by unfold OwnU; rw [← HNP.out]; exact O3.out) hne _)
          have BS := Lib.hid (B3.out.setCell (p := ⟨wr.heap.size, 7, none⟩) (Nat.le_refl _) (.slice An np cn))
          have XE4 : Hid (Blk (w'.setCell ⟨wr.heap.size, 7, none⟩ (.slice An np cn)) wr.heap.size 39 #[.int .i64 x.vi, .int .i64 x.cl, .int .i64 x.re, .int .i64 x.d.de, .int .i64 x.d.cl, .int .i64 x.d.fu, .int .i64 x.d.st, .slice An np cn, .slice Ad nd cd]) := Lib.hid (XE3.out.set_ 7 _)
          have OM := Lib.hid (TW.out.more BS.out)
          clear hne XE3 B3 O3 b3 BA XE HO0 RP hmt BW hsz TW
          generalize w'.setCell _ _ = ws at *
          obtain ⟨xe, hxe⟩ : ∃ xe, xe = wr.heap.size := ⟨_, rfl⟩
          rw [← hxe] at OA XE4 OM BS ⊢
          clear hxe
          have HAB : Hid (∀ i, (Value.slice An np cn).ownBlock = some i → xe + 1 ≤ i ∧ i < ws.heap.size) := Lib.hid fun i hi => World.ownsRow.lt OA.out i hi
          have AD := Lib.hid (add_u x (.slice An np cn) (.slice Ad nd cd) OM.out HT.out (fun w2 _ hk => (OwnU.set OA.out).kept fun i hi => hk i (.inr ⟨Nat.le_of_lt (HAB.out i hi).1, (HAB.out i hi).2⟩)) (fun w2 hb2 => (HEF.out w2 hb2).2) (by have := HN1.out.2.2; have := LK.out; omega) (by have := HN1.out.1; have := LK.out; omega))
          refine AD.out.mono ?_
          rintro e wa ⟨rfl, ta, ka⟩
          have XE5 := Lib.hid (ka.blk (.inr ⟨Nat.le_refl _, XE4.out.lt⟩) XE4.out)
          have RW0 : Hid (Rw (xe + 1) wa (.slice An np cn) np) := Lib.hid ⟨_, by
            have h := own_keep (w' := wa) OA.out fun i hi => ka i (.inr ⟨Nat.le_of_lt (HAB.out i hi.symm).1, (HAB.out i hi.symm).2⟩)
            rw [← HNP.out] at h
            exact h⟩
          have TA := Lib.hid ta
          clear ta ka AD OM OA XE4
          obtain ⟨B, hB⟩ : ∃ B, B = ws.heap.size := ⟨_, rfl⟩
          rw [← hB] at TA HAB
          clear hB
          have e7 := XE5.out.cell 7
          have el := XE5.out.lt
          go_upto_region 12 with (fail)
          clear e7 el c0 c1 c2 c3 c4 c5 c6 c7 c8
          go_loopw [44] (fun i wj => ∃ m : Nat, m ≤ np ∧ i = .int .i64 (m : Int) ∧ Hid (OneU w.heap.size w wj (fun i => False ∨ Rg xe B i) g ((runM pvM (l.take k)).put pvM x)) ∧ Hid (Rw (xe + 1) wj (.slice An np cn) np) ∧ Hid (Blk wj xe 39 #[.int .i64 x.vi, .int .i64 x.cl, .int .i64 x.re, .int .i64 x.d.de, .int .i64 x.d.cl, .int .i64 x.d.fu, .int .i64 x.d.st, .slice An np cn, .slice Ad nd cd])) (fun i _ => np - (intOf i).toNat)
          case atStart => exact ⟨0, Nat.zero_le _, rfl, TA, RW0, XE5⟩
          case round =>
            obtain ⟨m, hmm, rfl, TJ, RJ, XJ⟩ := hrel
            have e7 := XJ.out.cell 7
            have ejl := XJ.out.lt
            by_cases hmn : m < np
            · have hmni : (m : Int) < (np : Int) := by omega
              obtain ⟨b1, hb1, hb2, hb3, hb4, hcl, hfz, hst⟩ := RJ.out.open_ (by omega)
              subst hb1
              obtain ⟨u, hu⟩ := hcl (m * 5 + 2) (by omega)
              have hf := hfz (m * 5 + 2)
              go_wp2
              go_roundw
              case rel => exact ⟨m + 1, hmn, by go_num, Lib.hid (TJ.out.store (q := ⟨b1, m * 5 + 2, none⟩) (.inr ⟨by show xe ≤ b1; omega, (HAB.out b1 rfl).2⟩) _), Lib.hid (hst _ _), Lib.hid (XJ.out.far (p := ⟨b1, m * 5 + 2, none⟩) (by show xe ≠ b1; omega) _)⟩
              case measure => simp [intOf]; omega
            · obtain rfl : m = np := by omega
              go_wp2
              go_roundw
              case rel => exact ⟨k + 1, hlt, by go_num, Lib.hid (by rw [HRT.out]; exact TJ.out.less (fun _ e => e.elim))⟩
              case measure => simp [intOf]; omega
        · obtain rfl : k = n := by omega
          have TW4 : Hid (OneU w.heap.size w wr (fun _ => False) g (runM pvM l)) := Lib.hid (by have := TW.out; rwa [List.take_of_length_le (by rw [← HL.out]; omega)] at this)
          clear TW
          obtain ⟨kk, hkk⟩ : ∃ kk, (runM pvM l).vs.length = kk + 1 := ⟨(runM pvM l).vs.length - 1, by have := (runM_n (p := pvM) l).2.1; omega⟩
          have HKG := Lib.hid hkk
          obtain ⟨s, hs⟩ : ∃ s, (runM pvM l).vs[kk]? = some s := ⟨_, List.getElem?_eq_getElem (by omega)⟩
          have HSG := Lib.hid hs
          obtain ⟨ns, hns⟩ : ∃ ns, ns = s.rs.length := ⟨_, rfl⟩
          have HNS := Lib.hid hns
          clear hkk hs hns
          have V1 := Lib.hid (version_one kk HKG.out TW4.out.one)
          go_wp2_with fail
          refine V1.out.mono ?_
          rintro e wv ⟨rfl, rfl⟩
          have S1 := Lib.hid (set_u kk kk s HKG.out HSG.out TW4.out)
          go_wp2_with fail
          refine S1.out.mono ?_
          rintro e w5 ⟨As, cs, rfl, ho, hok, b5⟩
          have SOK := Lib.hid hok
          have FW : Hid (s.rs.length ≤ 16) := Lib.hid hok.2.1
          rw [← HNS.out] at ho ⊢
          have b6 := b5.alloc b5.size (.cells #[.int .i64 s.de, .int .i64 s.cl, .int .i64 s.fu, .int .i64 s.st, .slice As ns cs] 54)
          have OW6 := Lib.hid (OwnU.alloc ho (.cells #[.int .i64 s.de, .int .i64 s.cl, .int .i64 s.fu, .int .i64 s.st, .slice As ns cs] 54))
          have T6 := Lib.hid (TW4.out.more b6)
          have XS6 := Lib.hid (Blk.new w5 54 #[.int .i64 s.de, .int .i64 s.cl, .int .i64 s.fu, .int .i64 s.st, .slice As ns cs])
          have B6 := Lib.hid b6
          have BW6 := Lib.hid (BW.out.trans (b6.mono hsz))
          have HAB : Hid (∀ i, (Value.slice As ns cs).ownBlock = some i → wr.heap.size ≤ i ∧ i < w5.heap.size) := Lib.hid fun i hi => World.ownsRow.lt ho i hi
          have HSZ : Hid (w5.heap.size < (w5.alloc (.cells #[.int .i64 s.de, .int .i64 s.cl, .int .i64 s.fu, .int .i64 s.st, .slice As ns cs] 54)).heap.size) := Lib.hid (by simp)
          clear ho hok b6 V1 S1 TW4 b5
          go_upto_region 18 with (fail)
          obtain ⟨sb, hsb⟩ : ∃ sb, sb = w5.heap.size := ⟨_, rfl⟩
          rw [← hsb] at XS6 HAB HSZ ⊢
          clear hsb
          generalize w5.alloc _ = w6 at *
          obtain ⟨A0, hA0⟩ : ∃ A0, A0 = wr.heap.size := ⟨_, rfl⟩
          rw [← hA0] at OW6 T6 HAB
          have q0 := XS6.out.cell 0
          have q1 := XS6.out.cell 1
          have q2 := XS6.out.cell 2
          have q3 := XS6.out.cell 3
          have q4 := XS6.out.cell 4
          have ql := XS6.out.lt
          have MD := Lib.hid (madeSet_any s (.slice As ns cs) w6 (by have := FW.out; omega) (OwnU.set OW6.out))
          go_wp2_with fail
          refine MD.out.mono ?_
          rintro e w7 ⟨MV, rfl, ox, b7⟩
          obtain ⟨Ms, Ns, rfl⟩ := OwnU.form ox
          rw [← HNS.out] at ox ⊢
          clear q0 q1 q2 q3 q4 ql
          have OM8 := Lib.hid (OwnU.alloc ox (.cells #[.int .i64 s.de, .int .i64 s.cl, .int .i64 s.fu, .int .i64 s.st, .slice Ms ns Ns] 60))
          have b8 := b7.alloc b7.size (.cells #[.int .i64 s.de, .int .i64 s.cl, .int .i64 s.fu, .int .i64 s.st, .slice Ms ns Ns] 60)
          have T8 := Lib.hid (T6.out.on b8)
          have XS8 := Lib.hid (XS6.out.on b8)
          have XM8 := Lib.hid (Blk.new w7 60 #[.int .i64 s.de, .int .i64 s.cl, .int .i64 s.fu, .int .i64 s.st, .slice Ms ns Ns])
          have RW8 : Hid (Rw A0 (w7.alloc (.cells #[.int .i64 s.de, .int .i64 s.cl, .int .i64 s.fu, .int .i64 s.st, .slice Ms ns Ns] 60)) (.slice As ns cs) ns) := Lib.hid ⟨_, by
            have h := OwnU.on OW6.out b8
            unfold OwnU at h
            rw [← HNS.out] at h
            exact h⟩
          have HM : Hid (w6.heap.size ≤ w7.heap.size) := Lib.hid b7.size
          clear b7 b8 ox MD T6 XS6 OW6 BW6 B6
          have q4 := XS8.out.cell 4
          have ql := XS8.out.lt
          go_upto_region 20 with (fail)
          clear q4 ql
          obtain ⟨mb, hmb⟩ : ∃ mb, mb = w7.heap.size := ⟨_, rfl⟩
          rw [← hmb] at XM8 HM ⊢
          clear hmb
          generalize w7.alloc _ = w8 at *
          obtain ⟨M0, hM0⟩ : ∃ M0, M0 = w6.heap.size := ⟨_, rfl⟩
          rw [← hM0] at HM HSZ OM8 T8
          clear hM0
          go_loopw [67] (fun i wj => ∃ m : Nat, m ≤ ns ∧ i = .int .i64 (m : Int) ∧ Hid (OneU w.heap.size w wj (fun i => False ∨ Rg A0 M0 i) g (runM pvM l)) ∧ Hid (Rw A0 wj (.slice As ns cs) ns) ∧ Hid (Blk wj sb 54 #[.int .i64 s.de, .int .i64 s.cl, .int .i64 s.fu, .int .i64 s.st, .slice As ns cs]) ∧ Hid (Blk wj mb 60 #[.int .i64 s.de, .int .i64 s.cl, .int .i64 s.fu, .int .i64 s.st, .slice Ms ns Ns]) ∧ Hid (OwnU wj M0 96 (.slice Ms ns Ns) s.rs)) (fun i _ => ns - (intOf i).toNat)
          case atStart => exact ⟨0, Nat.zero_le _, rfl, T8, RW8, XS8, XM8, OM8⟩
          case round =>
            obtain ⟨m, hmm, rfl, TJ, RJ, XJ, MJ, OJ⟩ := hrel
            by_cases hmn : m < ns
            · have hmni : (m : Int) < (ns : Int) := by omega
              have hn16 : ns ≤ 16 := by have := FW.out; have := HNS.out; omega
              have e4 := XJ.out.cell 4
              have ejl := XJ.out.lt
              obtain ⟨b1, hb1, hb2, hb3, hb4, hcl, hfz, hst⟩ := RJ.out.open_ (by omega)
              subst hb1
              obtain ⟨u, hu⟩ := hcl (m * 5) (by omega)
              have hf := hfz (m * 5)
              have hbl := (HAB.out b1 rfl).2
              have hbm : b1 ≠ mb := by have := HSZ.out; have := HM.out; omega
              go_wp2
              go_roundw
              case rel => exact ⟨m + 1, hmn, by go_num, Lib.hid (TJ.out.store (q := ⟨b1, m * 5, none⟩) (.inr ⟨by show A0 ≤ b1; omega, by show b1 < M0; have := HSZ.out; omega⟩) _), Lib.hid (hst _ _), Lib.hid (XJ.out.far (p := ⟨b1, m * 5, none⟩) (by show sb ≠ b1; omega) _), Lib.hid (MJ.out.far (p := ⟨b1, m * 5, none⟩) (by show mb ≠ b1; omega) _), Lib.hid (OJ.out.farset (a := ⟨b1, m * 5, none⟩) (fun e => by have h1 := (World.ownsRow.lt OJ.out _ e).1; have h2 : M0 ≤ b1 := h1; have := HSZ.out; omega) _)⟩
              case measure => simp [intOf]; omega
            · obtain rfl : ns = m := by omega
              have V2 := Lib.hid (version_one kk HKG.out TJ.out.one)
              go_wp2_with fail
              refine V2.out.mono ?_
              rintro e wv ⟨rfl, rfl⟩
              have S2 := Lib.hid (set_u kk kk s HKG.out HSG.out TJ.out)
              go_wp2_with fail
              refine S2.out.mono ?_
              rintro e w9 ⟨At, ct, rfl, hp, _, b9⟩
              rw [← HNS.out] at hp ⊢
              have bz := b9.alloc b9.size (.cells #[.int .i64 s.de, .int .i64 s.cl, .int .i64 s.fu, .int .i64 s.st, .slice At ns ct] 54)
              have RT := Lib.hid (OwnU.set (OwnU.alloc hp (.cells #[.int .i64 s.de, .int .i64 s.cl, .int .i64 s.fu, .int .i64 s.st, .slice At ns ct] 54)))
              have RM := Lib.hid (OwnU.set (OwnU.on OJ.out bz))
              have XM := Lib.hid (MJ.out.on bz)
              have XT := Lib.hid (Blk.new w9 54 #[.int .i64 s.de, .int .i64 s.cl, .int .i64 s.fu, .int .i64 s.st, .slice At ns ct])
              have BZ := Lib.hid (TJ.out.below.trans (bz.mono TJ.out.low))
              clear hp b9 bz V2 S2 TJ RJ XJ MJ OJ
              go_upto_region 25 with (fail)
              obtain ⟨tb, htb⟩ : ∃ tb, tb = w9.heap.size := ⟨_, rfl⟩
              rw [← htb] at XT ⊢
              clear htb
              generalize w9.alloc _ = wz at *
              refine wp_region_held_drew (S := fun w' => Below wz.heap.size wz w') (by kernel_rfl) (Below.drewN' (Below.refl _ wz) 1) (fun hHeld => ?_)
              refine take_d 0 83 (.agg #[.int .i64 s.de, .int .i64 s.cl, .int .i64 s.fu, .int .i64 s.st, .slice At ns ct]) _ rfl rfl (by kernel_rfl) (by kernel_rfl) (by kernel_rfl) (fun _ _ _ h => h) (Or.inl ⟨by rfl, fun w' hSw => ?_⟩) hHeld ?_
              · have q0 := (XT.out.on hSw).cell 0
                have q1 := (XT.out.on hSw).cell 1
                have q2 := (XT.out.on hSw).cell 2
                have q3 := (XT.out.on hSw).cell 3
                have q4 := (XT.out.on hSw).cell 4
                go_simp
              simp only [List.setIfInBounds_toArray, List.set_cons_zero, List.set_cons_succ]
              refine take_d 2 85 (.agg #[.int .i64 s.de, .int .i64 s.cl, .int .i64 s.fu, .int .i64 s.st, .slice Ms ns Ns]) _ rfl rfl (by kernel_rfl) (by kernel_rfl) (by kernel_rfl) (fun _ _ _ h => h) (Or.inl ⟨by rfl, fun w' hSw => ?_⟩) hHeld ?_
              · have q0 := (XM.out.on hSw).cell 0
                have q1 := (XM.out.on hSw).cell 1
                have q2 := (XM.out.on hSw).cell 2
                have q3 := (XM.out.on hSw).cell 3
                have q4 := (XM.out.on hSw).cell 4
                go_simp
              simp only [List.setIfInBounds_toArray, List.set_cons_zero, List.set_cons_succ]
              refine wpAnyH_ready (rs := [1]) (by kernel_rfl) (by simp) ?_
              refine AllReadyH.cons rfl (fun K hK => ?_) AllReadyH.nil
              go_simp
              refine (madeSet_any s (.slice At ns ct) _ (by have := FW.out; omega) (RT.out.on hHeld)).mono ?_
              rintro e m2 ⟨MV, rfl, ox, hbk⟩
              obtain ⟨Mm2, Nm2, rfl⟩ := OwnU.form ox
              have Om2 := Lib.hid (OwnU.set ox)
              have hSk := hHeld.trans (hbk.mono hHeld.size)
              rw [← HNS.out] at Om2 ⊢
              refine hK.out _ _ hSk (fun hHeld => ?_)
              clear hK K hbk hSk ox
              refine wpAnyH_ready (rs := [3]) (by kernel_rfl) (by simp) ?_
              refine AllReadyH.cons rfl (fun K hK => ?_) AllReadyH.nil
              go_simp
              refine (same_any s s (.slice Mm2 ns Nm2) (.slice Ms ns Ns) _ (by have := FW.out; omega) (by have := FW.out; omega) Om2.out (RM.out.on hHeld)).mono ?_
              rintro e wk3 ⟨cc, rfl, hcc, hbk⟩
              have hct : cc = true := hcc.2 rfl
              subst hct
              have hSk := hHeld.trans (hbk.mono hHeld.size)
              refine hK.out _ _ hSk (fun hHeld => ?_)
              clear hK K hbk hSk hcc
              refine take_d 4 87 (.bool true) _ rfl rfl (by kernel_rfl) (by kernel_rfl) (by kernel_rfl) (fun _ _ _ h => h) (Or.inl ⟨by rfl, fun w' hSw => ?_⟩) hHeld ?_
              · go_simp
              simp only [List.setIfInBounds_toArray, List.set_cons_zero, List.set_cons_succ]
              refine take_d 5 88 (.agg #[.int .i64 s.de, .int .i64 s.cl, .int .i64 s.fu, .int .i64 s.st, .slice At ns ct]) _ rfl rfl (by kernel_rfl) (by kernel_rfl) (by kernel_rfl) (fun _ _ _ h => h) (Or.inl ⟨by rfl, fun w' hSw => ?_⟩) hHeld ?_
              · have q0 := (XT.out.on hSw).cell 0
                have q1 := (XT.out.on hSw).cell 1
                have q2 := (XT.out.on hSw).cell 2
                have q3 := (XT.out.on hSw).cell 3
                have q4 := (XT.out.on hSw).cell 4
                go_simp
              simp only [List.setIfInBounds_toArray, List.set_cons_zero, List.set_cons_succ]
              refine wpAnyH_ready (rs := [6]) (by kernel_rfl) (by simp) ?_
              refine AllReadyH.cons rfl (fun K hK => ?_) AllReadyH.nil
              go_simp
              refine (setRight_any s (.slice At ns ct) _ (by have := FW.out; omega) (RT.out.on hHeld)).mono ?_
              rintro e wk4 ⟨rfl, hbk⟩
              rw [decide_eq_true SOK.out]
              have hSk := hHeld.trans (hbk.mono hHeld.size)
              refine hK.out _ _ hSk (fun hHeld => ?_)
              clear hK K hbk hSk
              refine take_d 7 90 (.bool true) _ rfl rfl (by kernel_rfl) (by kernel_rfl) (by kernel_rfl) (fun _ _ _ h => h) (Or.inl ⟨by rfl, fun w' hSw => ?_⟩) hHeld ?_
              · go_simp
              simp only [List.setIfInBounds_toArray, List.set_cons_zero, List.set_cons_succ]
              refine take_d 8 2 (.bool true) _ rfl rfl (by kernel_rfl) (by kernel_rfl) (by kernel_rfl) (fun _ _ _ h => h) (Or.inl ⟨by rfl, fun w' hSw => ?_⟩) hHeld ?_
              · go_simp
              simp only [List.setIfInBounds_toArray, List.set_cons_zero, List.set_cons_succ]
              refine wpAnyH_done (by kernel_rfl) ?_ _
              have FB := Lib.hid (BZ.out.trans (hHeld.mono BZ.out.size))
              clear hHeld
              go_wp2
              go_ret
              exact ⟨rfl, FB.out⟩
    · have h12i : (12 : Int) < (n : Int) := by omega
      go_wp2
      go_ret
      exact ⟨rfl, B2.out⟩
end Go.Proofs.YtefgobmpleoafaaGreatDoor

