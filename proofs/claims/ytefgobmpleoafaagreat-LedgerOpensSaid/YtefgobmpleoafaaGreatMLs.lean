/- Joined: LdS, LdX. -/
import Derived.Test.YtefgobmpleoafaaGreatLdW
import Derived.Test.YtefgobmpleoafaaGreatPkQ
import Derived.Test.YtefgobmpleoafaaGreatMSa
import Derived.Test.YtefgobmpleoafaaGreatPkX
/- The document's state, made of the program's; small states. (Written by genLdS.py.) -/
namespace Go.Proofs.YtefgobmpleoafaaGreat
open Go.RowKit
variable {w w' : World}

set_option maxRecDepth 100000 in
set_option maxHeartbeats 8000000 in
theorem madeState_any (n₀ : Nat) (m : St) (v : Value) (w : World) (hn0 : n₀ ≤ w.heap.size) (hm : m.log.length ≤ 70) (hs : ∀ e ∈ m.log, smallE e = true) (hV : EntsV n₀ w v m.log) :
    Calls Tryz.prog 25 #[m.val v] w fun e w' => ∃ A c, e = .returned (m.val (.slice A m.log.length c)) ∧ OwnX n₀ w.heap.size w' (.slice A m.log.length c) m.log ∧ Below w.heap.size w w' := by
  obtain ⟨A, cp, rfl⟩ := hV.form
  have HM := Lib.hid hm
  have HSm := Lib.hid hs
  obtain ⟨n, hn⟩ : ∃ n, n = m.log.length := ⟨_, rfl⟩
  have hV' := hV
  rw [← hn] at hV' ⊢
  have HL := Lib.hid hn
  have b0 : Below w.heap.size w ((w.alloc (.cells #[.int .i64 m.vi, .int .i64 m.no, .int .i64 m.co, .int .i64 m.ac, .slice A n cp] 41)).alloc (.cells #[.int .i64 0, .int .i64 0, .int .i64 0, .int .i64 0, .slice none 0 0] 31)) := ((Below.refl _ _).alloc (Nat.le_refl _) _).alloc (by simp) _
  have B0 := Lib.hid b0
  have HX : Hid (Blk ((w.alloc (.cells #[.int .i64 m.vi, .int .i64 m.no, .int .i64 m.co, .int .i64 m.ac, .slice A n cp] 41)).alloc (.cells #[.int .i64 0, .int .i64 0, .int .i64 0, .int .i64 0, .slice none 0 0] 31)) w.heap.size 41 #[.int .i64 m.vi, .int .i64 m.no, .int .i64 m.co, .int .i64 m.ac, .slice A n cp]) := Lib.hid ((Blk.new _ _ _).alloc _)
  have HZ : Hid (Blk ((w.alloc (.cells #[.int .i64 m.vi, .int .i64 m.no, .int .i64 m.co, .int .i64 m.ac, .slice A n cp] 41)).alloc (.cells #[.int .i64 0, .int .i64 0, .int .i64 0, .int .i64 0, .slice none 0 0] 31)) (w.heap.size + 1) 31 #[.int .i64 0, .int .i64 0, .int .i64 0, .int .i64 0, .slice none 0 0]) := Lib.hid (Blk.at_new _ _ (by simp) _ _)
  have HV := Lib.hid (hV'.below (b0.mono hn0))
  have hs0 : ((w.alloc (.cells #[.int .i64 m.vi, .int .i64 m.no, .int .i64 m.co, .int .i64 m.ac, .slice A n cp] 41)).alloc (.cells #[.int .i64 0, .int .i64 0, .int .i64 0, .int .i64 0, .slice none 0 0] 31)).heap.size = w.heap.size + 2 := by simp
  clear hV hV' hn hm hs b0
  go_enter Tryz.func25, Tryz.ntmps25
  go_upto_region 1 with (fail)
  generalize (w.alloc _).alloc _ = wx at *
  have B5 : Hid (Below w.heap.size w wx.drew) := Lib.hid (Below.drewN' B0.out 1)
  have hs5 : w.heap.size ≤ wx.drew.heap.size := by show w.heap.size ≤ wx.heap.size; omega
  have hs7 : w.heap.size + 2 ≤ wx.drew.heap.size := by show w.heap.size + 2 ≤ wx.heap.size; omega
  have hn1 : n₀ ≤ wx.drew.heap.size := by omega
  have HVd : Hid (EntsV n₀ wx.drew (.slice A n cp) m.log) := Lib.hid (HV.out.below (Below.drewN' (Below.refl _ _) 1))
  have HZd : Hid (Blk wx.drew (w.heap.size + 1) 31 #[.int .i64 0, .int .i64 0, .int .i64 0, .int .i64 0, .slice none 0 0]) := Lib.hid HZ.out
  refine wp_region_held_drew (S := fun w' => Blk w' w.heap.size 41 #[.int .i64 m.vi, .int .i64 m.no, .int .i64 m.co, .int .i64 m.ac, .slice A n cp]) (by kernel_rfl) HX.out (fun hHeld => ?_)
  refine take_d 0 3 (.pointer (some ⟨w.heap.size, 0, none⟩)) _ rfl rfl (by kernel_rfl) (by kernel_rfl) (by kernel_rfl) (fun _ _ _ h => h) (Or.inl ⟨by rfl, fun w' hSw => ?_⟩) hHeld ?_
  · go_simp
  simp only [List.setIfInBounds_toArray, List.set_cons_zero, List.set_cons_succ]
  refine take_d 1 4 (.int .i64 m.vi) _ rfl rfl (by kernel_rfl) (by kernel_rfl) (by kernel_rfl) (fun _ _ _ h => h) (Or.inl ⟨by rfl, fun w' hSw => ?_⟩) hHeld ?_
  · have q := Blk.cell hSw 0
    go_simp
  simp only [List.setIfInBounds_toArray, List.set_cons_zero, List.set_cons_succ]
  refine take_d 2 5 (.pointer (some ⟨w.heap.size, 1, none⟩)) _ rfl rfl (by kernel_rfl) (by kernel_rfl) (by kernel_rfl) (fun _ _ _ h => h) (Or.inl ⟨by rfl, fun w' hSw => ?_⟩) hHeld ?_
  · go_simp
  simp only [List.setIfInBounds_toArray, List.set_cons_zero, List.set_cons_succ]
  refine take_d 3 6 (.int .i64 m.no) _ rfl rfl (by kernel_rfl) (by kernel_rfl) (by kernel_rfl) (fun _ _ _ h => h) (Or.inl ⟨by rfl, fun w' hSw => ?_⟩) hHeld ?_
  · have q := Blk.cell hSw 1
    go_simp
  simp only [List.setIfInBounds_toArray, List.set_cons_zero, List.set_cons_succ]
  refine take_d 4 7 (.pointer (some ⟨w.heap.size, 2, none⟩)) _ rfl rfl (by kernel_rfl) (by kernel_rfl) (by kernel_rfl) (fun _ _ _ h => h) (Or.inl ⟨by rfl, fun w' hSw => ?_⟩) hHeld ?_
  · go_simp
  simp only [List.setIfInBounds_toArray, List.set_cons_zero, List.set_cons_succ]
  refine take_d 5 8 (.int .i64 m.co) _ rfl rfl (by kernel_rfl) (by kernel_rfl) (by kernel_rfl) (fun _ _ _ h => h) (Or.inl ⟨by rfl, fun w' hSw => ?_⟩) hHeld ?_
  · have q := Blk.cell hSw 2
    go_simp
  simp only [List.setIfInBounds_toArray, List.set_cons_zero, List.set_cons_succ]
  refine take_d 6 9 (.pointer (some ⟨w.heap.size, 3, none⟩)) _ rfl rfl (by kernel_rfl) (by kernel_rfl) (by kernel_rfl) (fun _ _ _ h => h) (Or.inl ⟨by rfl, fun w' hSw => ?_⟩) hHeld ?_
  · go_simp
  simp only [List.setIfInBounds_toArray, List.set_cons_zero, List.set_cons_succ]
  refine take_d 7 10 (.int .i64 m.ac) _ rfl rfl (by kernel_rfl) (by kernel_rfl) (by kernel_rfl) (fun _ _ _ h => h) (Or.inl ⟨by rfl, fun w' hSw => ?_⟩) hHeld ?_
  · have q := Blk.cell hSw 3
    go_simp
  simp only [List.setIfInBounds_toArray, List.set_cons_zero, List.set_cons_succ]
  refine take_d 8 11 (.pointer (some ⟨w.heap.size, 4, none⟩)) _ rfl rfl (by kernel_rfl) (by kernel_rfl) (by kernel_rfl) (fun _ _ _ h => h) (Or.inl ⟨by rfl, fun w' hSw => ?_⟩) hHeld ?_
  · go_simp
  simp only [List.setIfInBounds_toArray, List.set_cons_zero, List.set_cons_succ]
  refine take_d 9 12 (.slice A n cp) _ rfl rfl (by kernel_rfl) (by kernel_rfl) (by kernel_rfl) (fun _ _ _ h => h) (Or.inl ⟨by rfl, fun w' hSw => ?_⟩) hHeld ?_
  · have q := Blk.cell hSw 4
    go_simp
  simp only [List.setIfInBounds_toArray, List.set_cons_zero, List.set_cons_succ]
  refine wpAnyH_ready (rs := [10]) (by kernel_rfl) (by simp) ?_
  refine AllReadyH.cons rfl (fun K hK => ?_) AllReadyH.nil
  go_simp
  refine (entries_any _ _ m.log _ hn1 HM.out HSm.out HVd.out).mono ?_
  rintro e w6 ⟨V6, rfl, o6, hB6⟩
  obtain ⟨A6, c6, rfl⟩ := o6.len
  rw [← HL.out] at o6 ⊢
  have hS6 : Blk w6 w.heap.size 41 #[.int .i64 m.vi, .int .i64 m.no, .int .i64 m.co, .int .i64 m.ac, .slice A n cp] := Blk.on hHeld hB6
  have B6 := Lib.hid (B5.out.trans (hB6.mono hs5))
  have Z6 := Blk.on HZd.out hB6
  have O6 := Lib.hid (o6.lowX (b := w.heap.size + 2) hs7)
  have z0 := Z6.cell 0
  have z1 := Z6.cell 1
  have z2 := Z6.cell 2
  have z3 := Z6.cell 3
  have z4 := Z6.cell 4
  have f := Z6.frozen
  have hl6 := Z6.lt
  refine hK.out _ _ hS6 (fun hHeld => ?_)
  clear hK K hS6 o6 hB6
  refine take_d 11 14 (.agg #[.int .i64 m.vi, .int .i64 m.no, .int .i64 m.co, .int .i64 m.ac, .slice A6 n c6]) _ rfl rfl (by kernel_rfl) (by kernel_rfl) (by kernel_rfl) (fun _ _ _ h => h) (Or.inl ⟨by rfl, fun w' hSw => ?_⟩) hHeld ?_
  · go_simp
  simp only [List.setIfInBounds_toArray, List.set_cons_zero, List.set_cons_succ]
  refine wpAnyH_ready (rs := [12]) (by kernel_rfl) (by simp) ?_
  refine AllReadyH.cons rfl (fun K hK => ?_) AllReadyH.nil
  go_simp
  refine hK.out _ _ (Blk.far ((Blk.far ((Blk.far ((Blk.far ((Blk.far (hHeld) (p := ⟨w.heap.size + 1, 0, none⟩) (by simp) _)) (p := ⟨w.heap.size + 1, 1, none⟩) (by simp) _)) (p := ⟨w.heap.size + 1, 2, none⟩) (by simp) _)) (p := ⟨w.heap.size + 1, 3, none⟩) (by simp) _)) (p := ⟨w.heap.size + 1, 4, none⟩) (by simp) _) (fun hHeld => ?_)
  clear hK K
  refine wpAnyH_done (by kernel_rfl) ?_ _
  go_wp2
  refine bodyPost_ret (v := .agg #[.int .i64 m.vi, .int .i64 m.no, .int .i64 m.co, .int .i64 m.ac, .slice A6 n c6]) (by simp [results, Tryz.results25, go_sem, *]) rfl ⟨A6, c6, rfl, ?_, (((((B6.out).setCell (p := ⟨w.heap.size + 1, 0, none⟩) (by simp) _).setCell (p := ⟨w.heap.size + 1, 1, none⟩) (by simp) _).setCell (p := ⟨w.heap.size + 1, 2, none⟩) (by simp) _).setCell (p := ⟨w.heap.size + 1, 3, none⟩) (by simp) _).setCell (p := ⟨w.heap.size + 1, 4, none⟩) (by simp) _⟩
  exact OwnX.lowX ((((((O6.out).set_ (q := ⟨w.heap.size + 1, 0, none⟩) (by simp only; omega) (by simp only; omega) (.int .i64 m.vi)).set_ (q := ⟨w.heap.size + 1, 1, none⟩) (by simp only; omega) (by simp only; omega) (.int .i64 m.no)).set_ (q := ⟨w.heap.size + 1, 2, none⟩) (by simp only; omega) (by simp only; omega) (.int .i64 m.co)).set_ (q := ⟨w.heap.size + 1, 3, none⟩) (by simp only; omega) (by simp only; omega) (.int .i64 m.ac)).set_ (q := ⟨w.heap.size + 1, 4, none⟩) (by simp only; omega) (by simp only; omega) (.slice A6 n c6)) (by omega)
end Go.Proofs.YtefgobmpleoafaaGreat

/- The document's states: Right, Same. -/
namespace Go.Proofs.YtefgobmpleoafaaGreat
open Go.RowKit
variable {w w' : World}

theorem allB_false' {l : List En} {k : Nat} {r : En} (h : l[k]? = some r) (hr : r.ok = false) : l.all En.ok = false := allB_false h hr
set_option maxRecDepth 100000 in
set_option maxHeartbeats 8000000 in
theorem xsright_any (s : St) (v : Value) (w : World) (hV : EntsV w.heap.size w v s.log) (hm : s.log.length ≤ 1000000) :
    Calls Tryz.prog 118 #[s.val v] w fun e w' => e = .returned (.bool s.ok) ∧ Below w.heap.size w w' := by
  obtain ⟨A, c, rfl⟩ := hV.form
  obtain ⟨vi, no, co, ac, l⟩ := s
  simp only at hV hm ⊢
  obtain ⟨n, hn⟩ : ∃ n, n = l.length := ⟨_, rfl⟩
  rw [← hn] at hV hm ⊢
  have HL := Lib.hid hn
  obtain ⟨q, hk⟩ : ∃ q, q = St.ok ⟨vi, no, co, ac, l⟩ := ⟨_, rfl⟩
  rw [← hk]
  have b0 : Below w.heap.size w (w.alloc (.cells #[.int .i64 vi, .int .i64 no, .int .i64 co, .int .i64 ac, .slice A n c] 31)) := (Below.refl w.heap.size w).alloc (Nat.le_refl _) _
  by_cases hnum : (0 ≤ vi ∧ vi ≤ 1099511627776) ∧ (0 ≤ no ∧ no ≤ vi) ∧ n ≤ 64 ∧ (0 ≤ co ∧ co ≤ (n : Int)) ∧ (0 ≤ ac ∧ ac ≤ 64)
  · have hq : q = l.all En.ok := by
      rw [hk]
      obtain ⟨⟨h1, h2⟩, ⟨h3, h4⟩, h5, ⟨h6, h7⟩, h8, h9⟩ := hnum
      unfold St.ok
      simp only
      rw [← hn, inR_iff.2 ⟨h1, h2⟩, inR_iff.2 ⟨h3, h4⟩, decide_eq_true h5, inR_iff.2 ⟨h6, h7⟩, inR_iff.2 ⟨h8, h9⟩]
      simp
    clear hk
    obtain ⟨⟨h1, h2⟩, ⟨h3, h4⟩, h5, ⟨h6, h7⟩, h8, h9⟩ := hnum
    have h5' : (n : Int) ≤ 64 := by omega
    have HX : Hid (Blk (w.alloc (.cells #[.int .i64 vi, .int .i64 no, .int .i64 co, .int .i64 ac, .slice A n c] 31)) w.heap.size 31 #[.int .i64 vi, .int .i64 no, .int .i64 co, .int .i64 ac, .slice A n c]) := Lib.hid (Blk.new _ _ _)
    have HQ := Lib.hid hq
    have HV := Lib.hid hV
    clear hq hV hn
    go_enter Tryz.func118, Tryz.ntmps118
    go_upto_region 1 with (fail)
    generalize w.alloc _ = wx at *
    have B0 := Lib.hid b0
    have x0 := HX.out.cell 0
    have x1 := HX.out.cell 1
    have x2 := HX.out.cell 2
    have x3 := HX.out.cell 3
    have x4 := HX.out.cell 4
    have lx := HX.out.lt
    clear b0
    go_wp2
    clear x0 x1 x2 x3 x4
    go_loopw [3] (fun i wr => ∃ k : Nat, k ≤ n ∧ i = .int .i64 k ∧ Hid ((l.take k).all En.ok = true) ∧ Hid (Below wx.heap.size wx wr)) (fun i _ => n - (intOf i).toNat)
    case atStart => exact ⟨0, Nat.zero_le _, rfl, Lib.hid rfl, Lib.hid (Below.refl _ _)⟩
    case round =>
      obtain ⟨k, hk, rfl, HH, HB⟩ := hrel
      have HW : Hid (Below w.heap.size w wr) := Lib.hid (B0.out.trans (HB.out.mono B0.out.size))
      have X := Lib.hid (HX.out.on HB.out)
      have x4 := X.out.cell 4
      have lx2 := X.out.lt
      by_cases hlt : k < n
      · have hkl : k < l.length := by rw [← HL.out]; exact hlt
        obtain ⟨b, off, p, d, rfl, hb, ⟨c0, c1, c2, c3, c4, c5, c6, c7, c8⟩, hp, hd⟩ := (HV.out.below HW.out).at_ hkl
        have HG := Lib.hid (List.getElem?_eq_getElem hkl)
        generalize l[k] = r at HG c0 c1 c2 c3 c4 c5 c6 c7 c8 hp hd
        obtain ⟨Ap, cp, rfl⟩ := hp.form
        obtain ⟨Ad, cd, rfl⟩ := hd.form
        have hsz := HW.out.size
        have C : Hid (Calls Tryz.prog 69 #[r.val (.slice Ap r.d.put.length cp) (.slice Ad (zI r.d.drop).length cd)] wr fun e w' => e = .returned (.bool r.ok) ∧ Below wr.heap.size wr w') := Lib.hid
          (xentry_any r _ _ _ (hp.more hsz) (hd.more hsz))
        clear hp hd hkl
        cases hok : r.ok
        · have HI := Lib.hid hok
          clear hok
          go_wp2_with fail
          refine C.out.mono ?_
          rintro e w1 ⟨rfl, hb1⟩
          rw [HI.out]
          have HB1 := Lib.hid (HW.out.trans (hb1.mono hsz))
          clear hb1
          go_wp2
          go_ret
          exact ⟨ret_bool (by rw [HQ.out, allB_false HG.out HI.out]), HB1.out⟩
        · have HI := Lib.hid hok
          clear hok
          go_wp2_with fail
          refine C.out.mono ?_
          rintro e w1 ⟨rfl, hb1⟩
          rw [HI.out]
          have HB1 := Lib.hid (HB.out.trans (hb1.mono HB.out.size))
          clear hb1
          go_wp2
          go_roundw
          case rel => exact ⟨k + 1, by omega, by go_num, Lib.hid (by rw [allB_take HG.out, HH.out, HI.out]; rfl), HB1.out |> Lib.hid⟩
          case measure => simp [intOf]; omega
      · obtain rfl : k = n := by omega
        have hH := HH.out
        rw [List.take_of_length_le (by rw [← HL.out]; omega)] at hH
        have HF := Lib.hid hH
        clear hH
        go_wp2
        go_ret
        exact ⟨ret_bool (by rw [HQ.out, HF.out]), HW.out⟩
  · have hq : q = false := by
      rw [hk]
      cases h : St.ok ⟨vi, no, co, ac, l⟩ with
      | false => rfl
      | true =>
        obtain ⟨h1, h2, h3, _, h5, h6⟩ := St.ok_iff.1 h
        exact absurd ⟨h1, h2, by rw [hn]; exact h3, by rw [hn]; exact h5, h6⟩ hnum
    subst hq
    clear hk hn hV
    have B0 := Lib.hid b0
    clear b0
    by_cases a0 : vi < 0
    · go_enter Tryz.func118, Tryz.ntmps118
      go_wp2
      go_ret
      exact ⟨rfl, B0.out⟩
    by_cases a1 : 1099511627776 < vi
    · go_enter Tryz.func118, Tryz.ntmps118
      go_wp2
      go_ret
      exact ⟨rfl, B0.out⟩
    by_cases a2 : no < 0
    · go_enter Tryz.func118, Tryz.ntmps118
      go_wp2
      go_ret
      exact ⟨rfl, B0.out⟩
    by_cases a3 : vi < no
    · go_enter Tryz.func118, Tryz.ntmps118
      go_wp2
      go_ret
      exact ⟨rfl, B0.out⟩
    by_cases a4 : 64 < (n : Int)
    · go_enter Tryz.func118, Tryz.ntmps118
      go_wp2
      go_ret
      exact ⟨rfl, B0.out⟩
    by_cases a5 : co < 0
    · go_enter Tryz.func118, Tryz.ntmps118
      go_wp2
      go_ret
      exact ⟨rfl, B0.out⟩
    by_cases a6 : (n : Int) < co
    · go_enter Tryz.func118, Tryz.ntmps118
      go_wp2
      go_ret
      exact ⟨rfl, B0.out⟩
    by_cases a7 : ac < 0
    · go_enter Tryz.func118, Tryz.ntmps118
      go_wp2
      go_ret
      exact ⟨rfl, B0.out⟩
    by_cases a8 : 64 < ac
    · go_enter Tryz.func118, Tryz.ntmps118
      go_wp2
      go_ret
      exact ⟨rfl, B0.out⟩
    exact absurd ⟨⟨by omega, by omega⟩, ⟨by omega, by omega⟩, by omega, ⟨by omega, by omega⟩, by omega, by omega⟩ hnum
set_option maxRecDepth 100000 in
set_option maxHeartbeats 8000000 in
theorem xsameSt_any (a b : St) (va vb : Value) (w : World) (hm : a.log.length ≤ 1000000) (hsa : ∀ e ∈ a.log, e.d.put.length ≤ 1000000 ∧ e.d.drop.length ≤ 1000000) (hsb : ∀ e ∈ b.log, e.d.put.length ≤ 1000000 ∧ e.d.drop.length ≤ 1000000) (hA : EntsV w.heap.size w va a.log) (hB : EntsV w.heap.size w vb b.log) :
    Calls Tryz.prog 24 #[a.val va, b.val vb] w fun e w' => ∃ c, e = .returned (.bool c) ∧ (c = true ↔ a = b) ∧ Below w.heap.size w w' := by
  obtain ⟨A, c, rfl⟩ := hA.form
  obtain ⟨B, d, rfl⟩ := hB.form
  obtain ⟨avi, ano, aco, aac, la⟩ := a
  obtain ⟨bvi, bno, bco, bac, lb⟩ := b
  simp only at hm hsa hsb hA hB ⊢
  have BO : ∀ o o', Below w.heap.size w ((w.alloc o).alloc o') := fun o o' => ((Below.refl _ _).alloc (Nat.le_refl _) o).alloc (by simp) o'
  have C : Hid (∀ o o', Calls Tryz.prog 39 #[.slice A la.length c, .slice B lb.length d] ((w.alloc o).alloc o') fun e w' => ∃ c, e = .returned (.bool c) ∧ (c = true ↔ la = lb) ∧ Below ((w.alloc o).alloc o').heap.size ((w.alloc o).alloc o') w') := Lib.hid fun o o' =>
    xsame_any la lb _ _ _ hm hsa hsb (hA.on (BO o o')) (hB.on (BO o o'))
  have HBO := Lib.hid BO
  clear BO hA hB hsa hsb hm
  by_cases hn0 : avi = bvi
  · subst hn0
    by_cases hn1 : ano = bno
    · subst hn1
      by_cases hn2 : aco = bco
      · subst hn2
        by_cases hn3 : aac = bac
        · subst hn3
          go_enter Tryz.func24, Tryz.ntmps24
          go_wp2_with fail
          refine (C.out _ _).mono ?_
          rintro e w1 ⟨q, rfl, hq, hb⟩
          have HB1 := Lib.hid ((HBO.out _ _).trans (hb.mono (by simp; omega)))
          have HQ := Lib.hid hq
          clear hb C hq
          go_wp2
          go_ret
          exact ⟨q, rfl, by rw [HQ.out]; exact ⟨fun h => by rw [h], fun h => by injection h⟩, HB1.out⟩
        · go_enter Tryz.func24, Tryz.ntmps24
          go_wp2
          go_ret
          exact ⟨false, rfl, ⟨fun h => (by cases h), fun h => (by injection h; contradiction)⟩, HBO.out _ _⟩
      · go_enter Tryz.func24, Tryz.ntmps24
        go_wp2
        go_ret
        exact ⟨false, rfl, ⟨fun h => (by cases h), fun h => (by injection h; contradiction)⟩, HBO.out _ _⟩
    · go_enter Tryz.func24, Tryz.ntmps24
      go_wp2
      go_ret
      exact ⟨false, rfl, ⟨fun h => (by cases h), fun h => (by injection h; contradiction)⟩, HBO.out _ _⟩
  · go_enter Tryz.func24, Tryz.ntmps24
    go_wp2
    go_ret
    exact ⟨false, rfl, ⟨fun h => (by cases h), fun h => (by injection h; contradiction)⟩, HBO.out _ _⟩
end Go.Proofs.YtefgobmpleoafaaGreat

