/- The laws' anchor; whether entries can be gone through with. -/
import Derived.Test.YtgddcbjlhplmgaaPkL
import Derived.Test.YtgddcbjlhplmgaaPkN
namespace Go.Proofs.Ytgddcbjlhplmgaa
open Go.RowKit
variable {w w' : World}

def r0 : Rc := ⟨1, 5, 3, []⟩
theorem r0_ok : r0.ok = true := by decide
theorem r0_bytes : eC r0 = [0, 0, 0, 0, 0, 2, 0, 0, 0, 0, 0, 6, 0, 0, 0, 0, 0, 4, 0, 0, 0, 0, 0, 1] := by decide
theorem r0_dec : dC (eC r0) = some r0 := dC_some.2 ⟨by decide, r0_ok, rfl⟩
def smallE (e : En) : Bool := decide (e.d.put.length ≤ 20) && decide (e.d.drop.length ≤ 20) && e.d.put.all fun r => decide (r.pat.size ≤ 300)
def smallL (l : List En) : Bool := l.all smallE && decide (l.length ≤ 70)
set_option maxRecDepth 100000 in
set_option maxHeartbeats 4000000 in
theorem small_any (v : Value) (l : List En) (w : World) (hm : l.length ≤ 9223372036854775807) (hV : EntsV w.heap.size w v l) :
    Calls Try.prog 9 #[v] w fun e w' => e = .returned (.bool (smallL l)) ∧ Below w.heap.size w w' := by
  obtain ⟨A, cap, rfl⟩ := hV.form
  have HV := Lib.hid hV
  obtain ⟨n, hn⟩ : ∃ n, n = l.length := ⟨_, rfl⟩
  rw [← hn] at HV hm ⊢
  have HL := Lib.hid hn
  clear hV hn
  have bad : ∀ (k : Nat) (r : En), l[k]? = some r → smallE r = false → smallL l = false := fun _ _ h1 h2 => by unfold smallL; rw [allB_false h1 h2]; rfl
  have BAD := Lib.hid bad
  clear bad
  go_enter Try.func9, Try.ntmps9
  go_wp2
  go_loopw [9] (fun i wr => ∃ k : Nat, k ≤ n ∧ i = .int .i64 k ∧ Hid ((l.take k).all smallE = true) ∧ Hid (Below w.heap.size w wr)) (fun i _ => n - (intOf i).toNat)
  case atStart => exact ⟨0, Nat.zero_le _, rfl, Lib.hid rfl, Lib.hid (Below.refl _ _)⟩
  case round =>
    obtain ⟨k, hk, rfl, HH, HB⟩ := hrel
    have hsz : w.heap.size ≤ wr.heap.size := HB.out.size
    by_cases hlt : k < n
    · have hkl : k < l.length := by rw [← HL.out]; exact hlt
      obtain ⟨b, off, p, d, rfl, hb, ⟨c0, c1, c2, c3, c4, c5, c6, c7, c8⟩, hp, hd⟩ := (HV.out.below HB.out).at_ hkl
      have HG := Lib.hid (List.getElem?_eq_getElem hkl)
      generalize l[k] = r at HG c0 c1 c2 c3 c4 c5 c6 c7 c8 hp hd
      clear hkl
      obtain ⟨Ap, cp, rfl⟩ := hp.form
      obtain ⟨Ad, cd, rfl⟩ := hd.form
      obtain ⟨np, hnp⟩ : ∃ np, np = r.d.put.length := ⟨_, rfl⟩
      obtain ⟨nd, hnd⟩ : ∃ nd, nd = r.d.drop.length := ⟨_, rfl⟩
      have HP := Lib.hid hp
      rw [zI_len] at c8
      rw [← hnp] at c7 HP
      rw [← hnd] at c8
      have HNP := Lib.hid hnp
      have HND := Lib.hid hnd
      clear hp hd hnp hnd
      have HBe := Lib.hid (HB.out.alloc hsz (.cells #[.int .i64 r.vi, .int .i64 r.cl, .int .i64 r.re, .int .i64 r.d.de, .int .i64 r.d.cl, .int .i64 r.d.fu, .int .i64 r.d.st, .slice Ap np cp, .slice Ad nd cd] 63))
      by_cases h1 : np ≤ 20
      · by_cases h2 : nd ≤ 20
        · have hbe : wr.heap.size < (wr.alloc (.cells #[.int .i64 r.vi, .int .i64 r.cl, .int .i64 r.re, .int .i64 r.d.de, .int .i64 r.d.cl, .int .i64 r.d.fu, .int .i64 r.d.st, .slice Ap np cp, .slice Ad nd cd] 63)).heap.size := by simp
          have HPe := Lib.hid (HP.out.below ((Below.refl w.heap.size wr).alloc hsz (.cells #[.int .i64 r.vi, .int .i64 r.cl, .int .i64 r.re, .int .i64 r.d.de, .int .i64 r.d.cl, .int .i64 r.d.fu, .int .i64 r.d.st, .slice Ap np cp, .slice Ad nd cd] 63)))
          go_upto_region 6 with (fail)
          have x7 := (Blk.new wr 63 #[.int .i64 r.vi, .int .i64 r.cl, .int .i64 r.re, .int .i64 r.d.de, .int .i64 r.d.cl, .int .i64 r.d.fu, .int .i64 r.d.st, .slice Ap np cp, .slice Ad nd cd]).cell 7
          generalize wr.alloc _ = wx at *
          clear c0 c1 c2 c3 c4 c5 c6 c7 c8
          go_wp2
          go_loopw [29] (fun i wr => ∃ j : Nat, j ≤ np ∧ i = .int .i64 j ∧ Hid ((r.d.put.take j).all (fun r => decide (r.pat.size ≤ 300)) = true) ∧ Hid (Below wx.heap.size wx wr)) (fun i _ => np - (intOf i).toNat)
          case atStart => exact ⟨0, Nat.zero_le _, rfl, Lib.hid rfl, Lib.hid (Below.refl _ _)⟩
          case round =>
            obtain ⟨j, hj, rfl, HJ, HBj⟩ := hrel
            have hsx : wx.heap.size ≤ wr.heap.size := HBj.out.size
            by_cases hjl : j < np
            · have hjl2 : j < r.d.put.length := by rw [← HNP.out]; exact hjl
              obtain ⟨bj, oj, rfl, hbj, y0, y1, y2, y3, y4⟩ := (HPe.out.below (HBj.out.mono (by omega))).at_ hjl2
              have HGj := Lib.hid (List.getElem?_eq_getElem hjl2)
              generalize r.d.put[j] = q at HGj y0 y1 y2 y3 y4
              clear hjl2
              by_cases h3 : q.pat.size ≤ 300
              · go_wp2
                go_roundw
                case rel => exact ⟨j + 1, by omega, by go_num, Lib.hid (by rw [allB_take HGj.out, HJ.out, decide_eq_true h3]; rfl), Lib.hid (HBj.out.alloc hsx _)⟩
                case measure => simp [intOf]; omega
              · go_wp2
                go_ret
                refine ⟨ret_bool (BAD.out _ _ HG.out ?_).symm, HBe.out.trans ((HBj.out.alloc hsx _).mono (by omega))⟩
                unfold smallE
                rw [allB_false HGj.out (decide_eq_false h3)]
                simp
            · obtain rfl : j = np := by omega
              go_wp2
              go_roundw
              case rel =>
                refine ⟨k + 1, by omega, by go_num, Lib.hid ?_, Lib.hid (HBe.out.trans (HBj.out.mono (by omega)))⟩
                rw [allB_take HG.out, HH.out]
                unfold smallE
                have := HJ.out
                rw [List.take_of_length_le (by rw [← HNP.out]; omega)] at this
                rw [this, ← HNP.out, ← HND.out, decide_eq_true h1, decide_eq_true h2]
                rfl
              case measure => simp [intOf]; omega
        · go_wp2
          go_ret
          refine ⟨ret_bool (BAD.out _ _ HG.out ?_).symm, HBe.out⟩
          unfold smallE
          rw [← HND.out, decide_eq_false h2]
          simp
      · go_wp2
        go_ret
        refine ⟨ret_bool (BAD.out _ _ HG.out ?_).symm, HBe.out⟩
        unfold smallE
        rw [← HNP.out, decide_eq_false h1]
        simp
    · obtain rfl : k = n := by omega
      have hall : l.all smallE = true := by have := HH.out; rwa [List.take_of_length_le (by rw [← HL.out]; omega)] at this
      have HA := Lib.hid hall
      clear hall
      by_cases h70 : k ≤ 70
      · go_wp2
        go_ret
        exact ⟨ret_bool (by unfold smallL; rw [HA.out, ← HL.out, decide_eq_true h70]; simp; omega), HB.out⟩
      · go_wp2
        go_ret
        exact ⟨ret_bool (by unfold smallL; rw [HA.out, ← HL.out, decide_eq_false h70]; simp; omega), HB.out⟩
end Go.Proofs.Ytgddcbjlhplmgaa
