/- Layer 13: a state of the call's own. -/
import Derived.Test.YtefgobmpleoafaaGreatMLa
import Derived.Test.YtefgobmpleoafaaGreatMSa
namespace Go.Proofs.YtefgobmpleoafaaGreat
open Go.RowKit
variable {w w' : World}

theorem info_entry13 : (Tryz.prog.info? 93).map (fun i => (i.zero, i.size, i.bytes)) = some (some (.agg #[.int .i64 0, .int .i64 0, .int .i64 0, .int .i64 0, .int .i64 0, .int .i64 0, .int .i64 0, .slice none 0 0, .slice none 0 0]), 9, 104) := by kernel_rfl
theorem ent_take {l : List En} {k : Nat} {r : En} (h : l[k]? = some r) : l.take (k + 1) = l.take k ++ [r] := by
  obtain ⟨hk, rfl⟩ := List.getElem?_eq_some_iff.1 h
  rw [List.take_succ_eq_append_getElem hk]
/-- How long an entry's lists are. -/
def short (e : En) : Prop := e.d.put.length ≤ 1000000 ∧ e.d.drop.length ≤ 1000000
theorem short_ok {l : List En} (h : ∀ e ∈ l, e.ok = true) : ∀ e ∈ l, short e := ok_lens h
set_option maxRecDepth 100000 in
set_option maxHeartbeats 8000000 in
theorem own_any (s : St) (v : Value) (w : World) (hm : s.log.length ≤ 100000) (hsh : ∀ e ∈ s.log, short e) (hV : EntsV w.heap.size w v s.log) :
    Calls Tryz.prog 26 #[s.val v] w fun e w' => ∃ A c, e = .returned (s.val (.slice A s.log.length c)) ∧ LEntV w.heap.size w' (.slice A s.log.length c) s.log ∧ Below w.heap.size w w' := by
  obtain ⟨A, cap, rfl⟩ := hV.form
  obtain ⟨vi, no, co, ac, l⟩ := s
  simp only at hm hsh hV ⊢
  obtain ⟨i0, hi, hz0, hz1, hz2⟩ := info_three info_entry13
  have HSm := Lib.hid hsh
  obtain ⟨n, hn⟩ : ∃ n, n = l.length := ⟨_, rfl⟩
  rw [← hn] at hV hm ⊢
  have HV := Lib.hid hV
  have HL := Lib.hid hn
  have b0 : Below w.heap.size w ((w.alloc (.cells #[.int .i64 vi, .int .i64 no, .int .i64 co, .int .i64 ac, .slice A n cap] 41)).alloc (.cells #[.int .i64 0, .int .i64 0, .int .i64 0, .int .i64 0, .slice none 0 0] 41)) := ((Below.refl _ _).alloc (Nat.le_refl _) _).alloc (by simp) _
  have HX : Hid (Blk ((w.alloc (.cells #[.int .i64 vi, .int .i64 no, .int .i64 co, .int .i64 ac, .slice A n cap] 41)).alloc (.cells #[.int .i64 0, .int .i64 0, .int .i64 0, .int .i64 0, .slice none 0 0] 41)) w.heap.size 41 #[.int .i64 vi, .int .i64 no, .int .i64 co, .int .i64 ac, .slice A n cap]) := Lib.hid ((Blk.new _ _ _).alloc _)
  have HZ : Hid (Blk ((w.alloc (.cells #[.int .i64 vi, .int .i64 no, .int .i64 co, .int .i64 ac, .slice A n cap] 41)).alloc (.cells #[.int .i64 0, .int .i64 0, .int .i64 0, .int .i64 0, .slice none 0 0] 41)) (w.heap.size + 1) 41 #[.int .i64 0, .int .i64 0, .int .i64 0, .int .i64 0, .slice none 0 0]) := Lib.hid (Blk.at_new _ _ (by simp) _ _)
  have hs0 : ((w.alloc (.cells #[.int .i64 vi, .int .i64 no, .int .i64 co, .int .i64 ac, .slice A n cap] 41)).alloc (.cells #[.int .i64 0, .int .i64 0, .int .i64 0, .int .i64 0, .slice none 0 0] 41)).heap.size = w.heap.size + 2 := by simp
  clear hV hn hsh
  go_enter Tryz.func26, Tryz.ntmps26
  go_upto_region 2 with (fail)
  generalize (w.alloc _).alloc _ = wx at *
  have B5 : Hid (Below w.heap.size w wx) := Lib.hid b0
  have hs7 : w.heap.size + 2 ≤ wx.heap.size := by omega
  have x4 := HX.out.cell 4
  have hlx := HX.out.lt
  have HS0 := Lib.hid hs0
  clear b0 hs0
  go_wp2
  clear x4 hlx
  go_loopw [3, 9] (fun V i wr => ∃ k : Nat, k ≤ n ∧ i = .int .i64 k ∧ Hid (LEntV (w.heap.size + 2) wr V (l.take k)) ∧ Hid (Below wx.heap.size wx wr)) (fun _ i _ => n - (intOf i).toNat)
  case atStart => exact ⟨0, Nat.zero_le _, rfl, Lib.hid (OwnE.nil _ _ _ _), Lib.hid (Below.refl _ _)⟩
  case round =>
    obtain ⟨k, hk, rfl, HO, HB⟩ := hrel
    have hsz : wx.heap.size ≤ wr.heap.size := HB.out.size
    have HW : Hid (Below w.heap.size w wr) := Lib.hid (B5.out.trans (HB.out.mono (by omega)))
    by_cases hlt : k < n
    · have hkl : k < l.length := by rw [← HL.out]; exact hlt
      obtain ⟨b, off, p, d, rfl, hb, hE0, hp0, hd⟩ := HV.out.at_ hkl
      have hE := hE0.below hb HW.out
      have hp := (hp0.below HW.out).more HW.out.size
      have hd' := (hd.below HW.out).more HW.out.size
      clear hE0 hp0 hd
      have HG := Lib.hid (List.getElem?_eq_getElem hkl)
      have hsm := HSm.out l[k] (List.getElem_mem _)
      generalize l[k] = r at HG hsm hE hp hd'
      obtain ⟨c0, c1, c2, c3, c4, c5, c6, c7, c8⟩ := hE
      obtain ⟨Ap, cp, rfl⟩ := hp.form
      obtain ⟨Ad, cd, rfl⟩ := hd'.form
      rw [zI_len] at c8 hd'
      have C : Hid (∀ o, Calls Tryz.prog 41 #[r.val (.slice Ap r.d.put.length cp) (.slice Ad r.d.drop.length cd)] (wr.alloc o) fun e w' => ∃ p' d', e = .returned (r.val p' d') ∧ OwnU w' (wr.alloc o).heap.size 114 p' r.d.put ∧ LIntV (wr.alloc o).heap.size w' d' r.d.drop ∧ Below (wr.alloc o).heap.size (wr.alloc o) w') := Lib.hid fun o =>
        ownEntry_any r _ _ _ hsm.1 hsm.2 ((hp.below ((Below.refl _ _).alloc (Nat.le_refl _) o)).more (by simp)) ((hd'.below ((Below.refl _ _).alloc (Nat.le_refl _) o)).more (by simp))
      clear hp hd' hsm hkl
      obtain ⟨np, hnp⟩ : ∃ np, np = r.d.put.length := ⟨_, rfl⟩
      obtain ⟨nd, hnd⟩ : ∃ nd, nd = r.d.drop.length := ⟨_, rfl⟩
      rw [← hnp] at C c7
      rw [← hnd] at C c8
      clear hnp hnd
      have BA : Hid (∀ o, Below wx.heap.size wx (wr.alloc o)) := Lib.hid fun o => HB.out.alloc hsz o
      have OA : Hid (∀ o, LEntV (w.heap.size + 2) (wr.alloc o) u3 (l.take k)) := Lib.hid fun o => HO.out.alloc o
      go_wp2_with fail
      refine (C.out _).mono ?_
      rintro e w6 ⟨p6, d6, rfl, o6, q6, b6⟩
      have hs8 : wx.heap.size ≤ (wr.alloc (.cells #[.int .i64 r.vi, .int .i64 r.cl, .int .i64 r.re, .int .i64 r.d.de, .int .i64 r.d.cl, .int .i64 r.d.fu, .int .i64 r.d.st, .slice Ap np cp, .slice Ad nd cd] 93)).heap.size := by simp; omega
      obtain ⟨A6, e6, rfl⟩ := orow_form o6
      obtain ⟨A7, e7, rfl⟩ := orow_form q6
      have B6 := Lib.hid ((BA.out _).trans (b6.mono hs8))
      have O6 := Lib.hid ((OA.out _).on b6)
      have P6 : Hid (OwnU w6 (w.heap.size + 2) 114 (.slice A6 r.d.put.length e6) r.d.put) := Lib.hid (orow_low o6 (by omega))
      have D6 : Hid (LIntV (w.heap.size + 2) w6 (.slice A7 r.d.drop.length e7) r.d.drop) := Lib.hid (orow_low q6 (by omega))
      have hs9 : wx.heap.size ≤ w6.heap.size := B6.out.size
      clear c0 c1 c2 c3 c4 c5 c6 c7 c8 o6 q6 b6 HO BA OA C hs8
      go_wp2_with (at_builtin
                   refine wpList_append_ent _ rfl (.tmp 13) (.tmp 16) 39 rfl (w.heap.size + 2) 93 114 i0 _ 104 Tryz.underlying39 hi hz0 hz1 hz2 rfl (by decide) (by decide) u3 (l.take k) rfl (O6.out.alloc _) _ 1 r A6 A7 _ e6 _ e7 rfl (Blk.at_new _ _ rfl _ _) (World.ownsRow.alloc P6.out _) (World.ownsRow.alloc D6.out _) (by simp; omega) (by decide) (by simp; omega) ?_
                   intro V' w7 o7 g7
                   have B7 : Hid (Below wx.heap.size wx w7) := Lib.hid ((B6.out.alloc hs9 (.cells #[.int .i64 r.vi, .int .i64 r.cl, .int .i64 r.re, .int .i64 r.d.de, .int .i64 r.d.cl, .int .i64 r.d.fu, .int .i64 r.d.st, .slice A6 r.d.put.length e6, .slice A7 r.d.drop.length e7] 93)).grown g7 (by simp; omega) (fun j hj => by have := (O6.out.lt j hj).1; have := HS0.out; omega))
                   have O7 : Hid (LEntV (w.heap.size + 2) w7 V' (l.take k ++ [r])) := Lib.hid o7
                   clear o7 g7)
      go_roundw
      case rel => exact ⟨k + 1, by omega, by go_num, by rw [ent_take HG.out]; exact O7, B7⟩
      case measure => simp [intOf]; omega
    · obtain rfl : k = n := by omega
      have hO := HO.out
      rw [List.take_of_length_le (by rw [← HL.out]; omega)] at hO
      obtain ⟨VA, VC, hv⟩ := hO.len
      subst hv
      rw [← HL.out] at hO ⊢
      have HOf := Lib.hid hO
      clear hO HO
      have X := Lib.hid (HX.out.on HB.out)
      have Z := Lib.hid (HZ.out.on HB.out)
      have f4 := X.out.frozen 4
      have x0 := X.out.cell 0
      have x1 := X.out.cell 1
      have x2 := X.out.cell 2
      have x3 := X.out.cell 3
      have x4 := X.out.cell 4
      have hl := X.out.lt
      have z0 := Z.out.cell 0
      have z1 := Z.out.cell 1
      have z2 := Z.out.cell 2
      have z3 := Z.out.cell 3
      have z4 := Z.out.cell 4
      have zf := Z.out.frozen
      have zl := Z.out.lt
      go_wp2
      refine bodyPost_ret (v := .agg #[.int .i64 vi, .int .i64 no, .int .i64 co, .int .i64 ac, .slice VA k VC]) (by simp [results, Tryz.results26, go_sem, *]) rfl ⟨VA, VC, rfl, OwnE.low ((((((HOf.out.set_ (q := ⟨w.heap.size, 4, none⟩) (by simp) (.slice VA k VC)).set_ (q := ⟨w.heap.size + 1, 0, none⟩) (by simp) (.int .i64 vi)).set_ (q := ⟨w.heap.size + 1, 1, none⟩) (by simp) (.int .i64 no)).set_ (q := ⟨w.heap.size + 1, 2, none⟩) (by simp) (.int .i64 co)).set_ (q := ⟨w.heap.size + 1, 3, none⟩) (by simp) (.int .i64 ac)).set_ (q := ⟨w.heap.size + 1, 4, none⟩) (by simp) (.slice VA k VC)) (by omega), ((((((HW.out.setCell (p := ⟨w.heap.size, 4, none⟩) (Nat.le_refl _) (.slice VA k VC)).setCell (p := ⟨w.heap.size + 1, 0, none⟩) (by simp) (.int .i64 vi)).setCell (p := ⟨w.heap.size + 1, 1, none⟩) (by simp) (.int .i64 no)).setCell (p := ⟨w.heap.size + 1, 2, none⟩) (by simp) (.int .i64 co)).setCell (p := ⟨w.heap.size + 1, 3, none⟩) (by simp) (.int .i64 ac)).setCell (p := ⟨w.heap.size + 1, 4, none⟩) (by simp) (.slice VA k VC))⟩
end Go.Proofs.YtefgobmpleoafaaGreat
