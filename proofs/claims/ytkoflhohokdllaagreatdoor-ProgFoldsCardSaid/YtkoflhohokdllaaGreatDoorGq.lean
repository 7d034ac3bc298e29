/- ProgPlaces' walk. -/
import Derived.Test.YtkoflhohokdllaaGreatDoorGp
import Derived.Test.YtkoflhohokdllaaGreatDoorMPg
namespace Go.Proofs.YtkoflhohokdllaaGreatDoor
open Go.RowKit
open Go.Proofs.YtkoflhohokdllaaGreatDoor.Cl (Rg SetV SetAt rgCells info_three normal_any normB normB_true)
variable {w w' w0 : World} {n₀ : Nat}

theorem lt_of_cell {b o : Nat} {v : Value} (h : w.cell? ⟨b, o, none⟩ = some v) : b < w.heap.size := block_lt_of_cell h
theorem whole_at {fo : Bool} {g : Nat} {nd : Nd} (hf : Wf nd) (hn : Wn (g : Nat) nd) {k : Nat} {x : In} (h : (whole fo nd)[k]? = some x) : (k + 1 = (whole fo nd).length ∧ x = .i 0 0 0 0 0) ∨ (k + 1 < (whole fo nd).length ∧ OkI (g : Nat) (body fo nd) k x) := by
  have e := whole_body fo nd
  have hl : (whole fo nd).length = (body fo nd).length + 1 := by rw [e, List.length_append]; rfl
  rw [e, List.getElem?_append] at h
  split at h
  · rename_i hk
    refine .inr ⟨by omega, ?_⟩
    have := body_ok fo hf hn k x h
    rwa [show ((0 : Nat) : Int) = 0 from rfl, sh_zero, Nat.zero_add] at this
  · rename_i hk
    have hkl := (List.getElem?_eq_some_iff.1 h).1
    simp at hkl
    have : k - (body fo nd).length = 0 := by omega
    rw [this] at h
    simp at h
    exact .inl ⟨by omega, h.symm⟩
theorem body_get {fo : Bool} {nd : Nd} {j : Nat} {y : In} (h : (body fo nd)[j]? = some y) : (whole fo nd)[j]? = some y := by
  rw [whole_body, List.getElem?_append_left (List.getElem?_eq_some_iff.1 h).1]
  exact h
theorem body_take {fo : Bool} {nd : Nd} {k : Nat} (h : k ≤ (body fo nd).length) : (whole fo nd).take k = (body fo nd).take k := by
  rw [whole_body, List.take_append_of_le_length h]
theorem whole_len {fo : Bool} {nd : Nd} (hf : Wf nd) (h : verdictN nd = 0) : ((whole fo nd).length : Int) = ndSize nd + 3 ∧ ((whole fo nd).length : Int) = len (body fo nd) + 1 ∧ (whole fo nd).length ≤ 2000 := by
  have h1 := code_len fo hf
  have h2 := ok_len fo hf h
  have h3 := body_len fo nd
  have h4 : (whole fo nd).length = (body fo nd).length + 1 := by rw [whole_body, List.length_append]; rfl
  have h5 : capF (len (code fo nd)) = len (code fo nd) := by unfold capF far len; rw [if_neg (by omega)]
  rw [h5] at h1
  unfold len at *
  omega

set_option maxRecDepth 100000 in
set_option maxHeartbeats 2000000 in
theorem places_law (x : ByteArray) (hT : TabL w.heap.size w) : Calls Tryz.prog 4 #[.string x] w fun e w' => e = .returned (.bool true) ∧ Below w.heap.size w w' := by
  have HT := Lib.hid hT
  have HA := Lib.hid (anchor5_any hT)
  clear hT
  by_cases hlen : 400 < x.size
  · have hlen' : (400 : Int) < (x.size : Int) := by omega
    go_enter Tryz.func4, Tryz.ntmps4
    go_wp2_with fail
    refine HA.out.mono ?_
    rintro e w1 ⟨rfl, hb1⟩
    go_wp2
    go_ret
    exact ⟨rfl, hb1⟩
  have hlen' : ¬ (400 : Int) < (x.size : Int) := by omega
  have HM := Lib.hid (fun (W : World) (k : TabL W.heap.size W) => made_any x (by omega) k)
  have HP1 : Hid (∀ W : World, TabsAt W.heap.size W → Calls Tryz.prog 10 #[.string x] W (ParsePost W (parse 1026 x.data.toList))) := Lib.hid (fun W hW => parse_any (s := x.data.toList) 1026 (by omega) (by have : x.data.toList.length = x.size := rfl; omega) hW)
  have HR : Hid (fcT x = 0 → Wf (ndT x) ∧ Wn (gT x : Nat) (ndT x) ∧ gT x ≤ 9) := Lib.hid pat_ok
  have HV : Hid (vdT x = if fcT x = 0 then verdictN (ndT x) else 0) := Lib.hid rfl
  have HPr : Hid (prT x = if fcT x = 0 ∧ verdictN (ndT x) = 0 then whole (foT x) (ndT x) else []) := Lib.hid rfl
  go_enter Tryz.func4, Tryz.ntmps4
  go_wp2_with fail
  refine HA.out.mono ?_
  rintro e w0 ⟨rfl, hb0⟩
  have HT0 := Lib.hid (HT.out.on hb0)
  go_wp2_with fail
  refine (HM.out _ HT0.out).mono ?_
  rintro e w2 ⟨hb2, A, c, rfl, hP⟩
  have hbw2 := hb0.trans (hb2.mono hb0.size)
  have HT2 := Lib.hid (HT.out.on hbw2)
  by_cases hfc : fcT x = 0
  · by_cases hvd : verdictN (ndT x) = 0
    · have e1 : prT x = whole (foT x) (ndT x) := by rw [HPr.out, if_pos ⟨hfc, hvd⟩]
      have e2 : vdT x = 0 := by rw [HV.out, if_pos hfc, hvd]
      rw [e1] at hP ⊢
      rw [e2, hfc]
      have HP := Lib.hid hP
      clear hP e1 e2
      obtain ⟨hwf, hwn, hg9⟩ := HR.out hfc
      obtain ⟨hl1, hl2, hl3⟩ := whole_len (fo := foT x) hwf hvd
      go_wp2_with fail
      refine (HP1.out _ HT2.out.tabs).mono ?_
      intro e w3 hp
      obtain ⟨A1, B1, p1, q1, rfl, hN, hb3⟩ := hp.uni
      rw [show ndOf (parse 1026 x.data.toList) = ndT x from rfl] at hN ⊢
      rw [show gOf (parse 1026 x.data.toList) = gT x from rfl, show foOf (parse 1026 x.data.toList) = foT x from rfl]
      generalize (fOf (parse 1026 x.data.toList)).1 = fc1
      generalize (fOf (parse 1026 x.data.toList)).2 = fp1
      have HWat : Hid (∀ k i, (whole (foT x) (ndT x))[k]? = some i → (k + 1 = (whole (foT x) (ndT x)).length ∧ i = .i 0 0 0 0 0) ∨ (k + 1 < (whole (foT x) (ndT x)).length ∧ OkI (gT x : Nat) (body (foT x) (ndT x)) k i)) := Lib.hid (fun k i h => whole_at hwf hwn h)
      have HBg : Hid (∀ j y, (body (foT x) (ndT x))[j]? = some y → (whole (foT x) (ndT x))[j]? = some y) := Lib.hid (fun j y h => body_get h)
      have HBt : Hid (∀ k, k ≤ (body (foT x) (ndT x)).length → (whole (foT x) (ndT x)).take k = (body (foT x) (ndT x)).take k) := Lib.hid (fun k h => body_take h)
      have HLim : Hid (∀ y ∈ whole (foT x) (ndT x), y.set.length ≤ 1000000) := Lib.hid (whole_lim (foT x) hwn)
      have HSz := Lib.hid (fun W (hW : NodeV (fun b => b < W.heap.size) W (ndT x) (.slice A1 (ndT x).set.length p1) (.slice B1 (ndT x).kids.length q1)) => size_any (ndT x) hwf W A1 B1 p1 q1 hW)
      generalize whole (foT x) (ndT x) = X at *
      generalize body (foT x) (ndT x) = Y at *
      generalize foT x = fo1 at *
      generalize gT x = g1 at *
      clear HR HV HPr HM HP1 hwf hwn hvd
      generalize ndT x = n1 at *
      unfold pCells
      have P1 := Lib.hid (put_new w2 w3 #[.int .i64 n1.kind, .int .i64 n1.lo, .int .i64 n1.hi, .int .i64 n1.mode, .int .i64 n1.ref, .slice A1 n1.set.length p1, .slice B1 n1.kids.length q1, .int .i64 (g1 : Nat), .bool fo1] #[.int .i64 (fc1 : Nat), .int .i64 (fp1 : Nat)] hb3)
      have HN1 := Lib.hid (hN.on (put_on w3 #[.int .i64 n1.kind, .int .i64 n1.lo, .int .i64 n1.hi, .int .i64 n1.mode, .int .i64 n1.ref, .slice A1 n1.set.length p1, .slice B1 n1.kids.length q1, .int .i64 (g1 : Nat), .bool fo1] #[.int .i64 (fc1 : Nat), .int .i64 (fp1 : Nat)]))
      clear hN hp
      go_upto_region 9 with (fail)
      generalize (w3.alloc _).alloc _ = v1 at *
      have hbv1 := hbw2.trans (P1.out.keep.mono hbw2.size)
      have h9 := P1.out.node.nine
      have hX0 : 0 < X.length := by have := len_nonneg Y; omega
      obtain ⟨m, hm⟩ : ∃ m, X.length = m + 1 := ⟨X.length - 1, by omega⟩
      have hm2 : m + 1 ≤ 2000 := by omega
      have hz : ndSize n1 = (m : Int) + 1 - 3 := by omega
      have HYl : Hid ((m : Int) = len Y) := Lib.hid (by omega)
      rw [hz] at HSz
      have hbP := P1.out.keep
      have hlast : X[m]? = some (.i 0 0 0 0 0) := by
        have := List.getElem?_eq_getElem (l := X) (i := m) (by omega)
        rcases HWat.out m _ this with ⟨_, h⟩ | ⟨h, _⟩
        · rw [this, h]
        · omega
      obtain ⟨g, c', _, _, hv, _, _, _, _, l0, _, _, _, _, _⟩ := (HP.out.on hbP).six hlast
      obtain ⟨rfl, _, rfl⟩ := Value.slice.inj hv
      have HN := Lib.hid (HSz.out v1 HN1.out)
      have HPX := HP
      rw [hm] at HP ⊢
      have hXm : Hid (X.length = m + 1) := Lib.hid hm
      have hcm : m + 1 ≤ c := by
        obtain ⟨_, _, e9, h9', _⟩ := PgV.form (by rw [← hm] at HP; exact HP.out)
        obtain ⟨_, _, rfl⟩ := Value.slice.inj e9
        omega
      clear hv hl1 hl2 hl3 hz HSz hX0 hm hlast
      simp only [In.i] at l0
      go_wp2_with fail
      refine HN.out.mono ?_
      rintro e w4 ⟨rfl, hb4⟩
      have hbw4 := hbv1.trans (hb4.mono hbv1.size)
      replace l0 := (hb4.cell (p := ⟨g, m * 6, none⟩) (lt_of_cell l0)).trans l0
      clear h9
      go_wp2
      clear l0
      go_loopw [8, 56] (fun mk i wr => ∃ k : Nat, k ≤ m + 1 ∧ i = .int .i64 k ∧ mk = .int .i64 (marks (X.take k) : Nat) ∧ Below v1.heap.size v1 wr) (fun _ i _ => m + 1 - (intOf i).toNat)
      case atStart => exact ⟨0, Nat.zero_le _, rfl, by simp [marks_nil], hb4⟩
      case round =>
        obtain ⟨k, hk, rfl, rfl, hbel⟩ := hrel
        have hmk := marks_le (X.take k)
        rw [List.length_take] at hmk
        have hmk' : marks (X.take k) ≤ 2000 := by omega
        clear hmk
        by_cases hlt : k < m + 1
        · have hlti : (k : Int) < (m : Int) + 1 := by omega
          have HLt := Lib.hid hlt
          have hget := List.getElem?_eq_getElem (l := X) (i := k) (by rw [hXm.out]; exact hlt)
          have HMt := Lib.hid (marks_take hget)
          have HGet := Lib.hid hget
          obtain ⟨g', c'', As, cs, hv, hc, hg, _, hO, d0, d1, d2, d3, d4, d5⟩ := ((HPX.out.on hbP).on hbel).six hget
          have hgg := (Value.slice.inj hv).1
          obtain ⟨rfl⟩ : g = g' := by simpa using hgg
          have hwat := HWat.out k _ hget
          have HL1 := Lib.hid (HLim.out _ (List.mem_of_getElem? hget))
          clear hv hgg hget
          generalize X[k] = x at *
          have hb6 := hbel.alloc hbel.size (.cells #[.int .i64 x.op, .int .i64 x.a, .int .i64 x.b, .int .i64 x.c, .int .i64 x.d, .slice As x.set.length cs] 51)
          have HB := Lib.hid (Blk.new wr 51 #[.int .i64 x.op, .int .i64 x.a, .int .i64 x.b, .int .i64 x.c, .int .i64 x.d, .slice As x.set.length cs])
          have HO := Lib.hid (World.ownsRow.alloc hO (.cells #[.int .i64 x.op, .int .i64 x.a, .int .i64 x.b, .int .i64 x.c, .int .i64 x.d, .slice As x.set.length cs] 51))
          clear hO
          go_upto_region 15 with (fail)
          clear d0 d1 d2 d3 d4 d5
          generalize wr.alloc _ = W at *
          have b6 := HB.out.c6_
          rcases hwat with ⟨hk1, rfl⟩ | ⟨hk1, hok⟩
          · simp only [In.i] at b6
            obtain rfl : k = m := by have := hXm.out; omega
            have HM : Hid (marks (X.take (k + 1)) = marks (X.take k)) := Lib.hid (by rw [HMt.out, if_neg (by decide)]; rfl)
            clear HMt hk1
            go_wp2
            go_roundw
            case rel => exact ⟨k + 1, HLt.out, by go_num, by rw [HM.out], hb6⟩
            case measure => have := HLt.out; first | (simp [intOf]; done) | (simp [intOf]; omega)
          · have HYt : Hid (X.take k = Y.take k) := Lib.hid (HBt.out k (by have := hXm.out; have := HYl.out; unfold len at this; omega))
            have hYl1 : len Y ≤ (m : Int) := by have := HYl.out; omega
            have hYl2 : (m : Int) ≤ len Y := by have := HYl.out; omega
            have HOk := Lib.hid hok
            clear hok hk1
            obtain ⟨xo, xa, xb, xc, xd, xs⟩ := x
            simp only at b6
            have HOs := Lib.hid HO.out
            have HXs : Hid (xs.length ≤ 1000000) := Lib.hid HL1.out
            by_cases o0 : xo = 0
            · subst o0
              exact absurd rfl HOk.out.go
            by_cases o1 : xo = 1
            · subst o1
              have HM : Hid (marks (X.take (k + 1)) = marks (X.take k)) := Lib.hid (by rw [HMt.out, if_neg (show ¬ (1 : Int) = 10 by decide)]; rfl)
              clear HMt
              have hns := HOk.out.set
              have HNo := Lib.hid (normal_any (.slice As xs.length cs) xs W HXs.out (by have := HOs.out; exact Cl.Own.set this))
              rw [normB_true hns] at HNo
              clear hns
              go_wp2_with fail
              refine HNo.out.mono ?_
              rintro e w5 ⟨rfl, hb5⟩
              have hb7 := hb6.trans (hb5.mono hb6.size)
              clear hb5
              go_wp2
              go_roundw
              case rel => exact ⟨k + 1, HLt.out, by go_num, by rw [HM.out], hb7⟩
              case measure => have := HLt.out; first | (simp [intOf]; done) | (simp [intOf]; omega)
            by_cases o2 : xo = 2
            · subst o2
              have HM : Hid (marks (X.take (k + 1)) = marks (X.take k)) := Lib.hid (by rw [HMt.out, if_neg (show ¬ (2 : Int) = 10 by decide)]; rfl)
              clear HMt
              obtain ⟨ha1, ha2⟩ := HOk.out.jump rfl
              simp only at ha1 ha2
              have ha3 : xa < (m : Int) + 1 := by omega
              go_wp2
              go_roundw
              case rel => exact ⟨k + 1, HLt.out, by go_num, by rw [HM.out], hb6⟩
              case measure => have := HLt.out; first | (simp [intOf]; done) | (simp [intOf]; omega)
            by_cases o3 : xo = 3
            · subst o3
              have HM : Hid (marks (X.take (k + 1)) = marks (X.take k)) := Lib.hid (by rw [HMt.out, if_neg (show ¬ (3 : Int) = 10 by decide)]; rfl)
              clear HMt
              obtain ⟨ha1, ha2, ha3, ha4, ha5⟩ := HOk.out.split rfl
              simp only at ha1 ha2 ha3 ha4 ha5
              have ha6 : xa < (m : Int) + 1 := by omega
              have ha7 : xb < (m : Int) + 1 := by omega
              go_wp2
              go_roundw
              case rel => exact ⟨k + 1, HLt.out, by go_num, by rw [HM.out], hb6⟩
              case measure => have := HLt.out; first | (simp [intOf]; done) | (simp [intOf]; omega)
            by_cases o4 : xo = 4
            · subst o4
              have HM : Hid (marks (X.take (k + 1)) = marks (X.take k)) := Lib.hid (by rw [HMt.out, if_neg (show ¬ (4 : Int) = 10 by decide)]; rfl)
              clear HMt
              obtain ⟨ha1, ha2⟩ := HOk.out.save rfl
              simp only at ha1 ha2
              have h9 := (P1.out.node.on hb6).nine
              go_wp2
              go_roundw
              case rel => exact ⟨k + 1, HLt.out, by go_num, by rw [HM.out], hb6⟩
              case measure => have := HLt.out; first | (simp [intOf]; done) | (simp [intOf]; omega)
            by_cases o5 : xo = 5
            · subst o5
              have HM : Hid (marks (X.take (k + 1)) = marks (X.take k)) := Lib.hid (by rw [HMt.out, if_neg (show ¬ (5 : Int) = 10 by decide)]; rfl)
              clear HMt
              obtain ⟨ha1, ha2⟩ := HOk.out.back rfl
              simp only at ha1 ha2
              have h9 := (P1.out.node.on hb6).nine
              go_wp2
              go_roundw
              case rel => exact ⟨k + 1, HLt.out, by go_num, by rw [HM.out], hb6⟩
              case measure => have := HLt.out; first | (simp [intOf]; done) | (simp [intOf]; omega)
            by_cases o7 : xo = 7
            · subst o7
              have HM : Hid (marks (X.take (k + 1)) = marks (X.take k)) := Lib.hid (by rw [HMt.out, if_neg (show ¬ (7 : Int) = 10 by decide)]; rfl)
              clear HMt
              obtain ⟨ha1, ha2, j, y, hj, hy, hyo⟩ := HOk.out.upto (.inl rfl)
              simp only at ha1 ha2 hj
              obtain ⟨g9, c9, _, _, hv9, _, _, _, _, q0, _, _, _, _, _⟩ := ((HP.out.on hbP).on hb6).six (HBg.out j y hy)
              have hgg := (Value.slice.inj hv9).1
              obtain ⟨rfl⟩ : g = g9 := by simpa using hgg
              rw [hyo] at q0
              obtain rfl : xb = (j : Int) + 1 := by omega
              have ha3 : (j : Int) + 1 < (m : Int) + 1 := by omega
              have ha4 : (j : Int) < (m : Int) + 1 := by omega
              have ha5 : (k : Int) < (j : Int) := by omega
              clear hv9 hgg hj hy hyo
              go_wp2
              go_roundw
              case rel => exact ⟨k + 1, HLt.out, by go_num, by rw [HM.out], hb6⟩
              case measure => have := HLt.out; first | (simp [intOf]; done) | (simp [intOf]; omega)
            by_cases o8 : xo = 8
            · subst o8
              have HM : Hid (marks (X.take (k + 1)) = marks (X.take k)) := Lib.hid (by rw [HMt.out, if_neg (show ¬ (8 : Int) = 10 by decide)]; rfl)
              clear HMt
              obtain ⟨ha1, ha2, j, y, hj, hy, hyo⟩ := HOk.out.upto (.inr rfl)
              simp only at ha1 ha2 hj
              obtain ⟨g9, c9, _, _, hv9, _, _, _, _, q0, _, _, _, _, _⟩ := ((HP.out.on hbP).on hb6).six (HBg.out j y hy)
              have hgg := (Value.slice.inj hv9).1
              obtain ⟨rfl⟩ : g = g9 := by simpa using hgg
              rw [hyo] at q0
              obtain rfl : xb = (j : Int) + 1 := by omega
              have ha3 : (j : Int) + 1 < (m : Int) + 1 := by omega
              have ha4 : (j : Int) < (m : Int) + 1 := by omega
              have ha5 : (k : Int) < (j : Int) := by omega
              clear hv9 hgg hj hy hyo
              go_wp2
              go_roundw
              case rel => exact ⟨k + 1, HLt.out, by go_num, by rw [HM.out], hb6⟩
              case measure => have := HLt.out; first | (simp [intOf]; done) | (simp [intOf]; omega)
            by_cases o10 : xo = 10
            · subst o10
              have HM : Hid (marks (X.take (k + 1)) = marks (X.take k) + 1) := Lib.hid (by rw [HMt.out, if_pos (show (10 : Int) = 10 from rfl)])
              clear HMt
              have ha1 := HOk.out.mark rfl
              simp only at ha1
              rw [← HYt.out] at ha1
              subst ha1
              go_wp2
              go_roundw
              case rel => exact ⟨k + 1, HLt.out, by go_num, by rw [HM.out]; go_num, hb6⟩
              case measure => have := HLt.out; first | (simp [intOf]; done) | (simp [intOf]; omega)
            by_cases o11 : xo = 11
            · subst o11
              have HM : Hid (marks (X.take (k + 1)) = marks (X.take k)) := Lib.hid (by rw [HMt.out, if_neg (show ¬ (11 : Int) = 10 by decide)]; rfl)
              clear HMt
              obtain ⟨ha1, y, z, j, hy, hyo, hya, hz, hzo⟩ := HOk.out.guard rfl
              simp only at ha1
              rw [← HYt.out] at ha1
              obtain ⟨g9, c9, _, _, hv9, _, _, _, _, q0, q1, _, _, _, _⟩ := ((HP.out.on hbP).on hb6).six (HBg.out _ y hy)
              have hgg := (Value.slice.inj hv9).1
              obtain ⟨rfl⟩ : g = g9 := by simpa using hgg
              obtain ⟨g8, c8, _, _, hv8, _, _, _, _, r0, _, _, _, _, _⟩ := ((HP.out.on hbP).on hb6).six (HBg.out _ z hz)
              have hgh := (Value.slice.inj hv8).1
              obtain ⟨rfl⟩ : g = g8 := by simpa using hgh
              rw [hyo] at q0
              rw [hya] at q1
              rw [hzo] at r0
              have ha3 : (k : Int) + 1 < (m : Int) + 1 := by have := (List.getElem?_eq_some_iff.1 (HBg.out _ y hy)).1; have := hXm.out; omega
              have ha4 : (j : Int) < (m : Int) + 1 := by have := (List.getElem?_eq_some_iff.1 (HBg.out _ z hz)).1; have := hXm.out; omega
              clear hv9 hgg hv8 hgh hy hyo hya hz hzo
              go_wp2
              go_roundw
              case rel => exact ⟨k + 1, HLt.out, by go_num, by rw [HM.out], hb6⟩
              case measure => have := HLt.out; first | (simp [intOf]; done) | (simp [intOf]; omega)
            have HM : Hid (marks (X.take (k + 1)) = marks (X.take k)) := Lib.hid (by rw [HMt.out, if_neg o10]; rfl)
            clear HMt
            have p0 : (xo == 0) = false := by simp [o0]
            have p1 : (xo == 1) = false := by simp [o1]
            have p2 : (xo == 2) = false := by simp [o2]
            have p3 : (xo == 3) = false := by simp [o3]
            have p4 : (xo == 4) = false := by simp [o4]
            have p5 : (xo == 5) = false := by simp [o5]
            have p7 : (xo == 7) = false := by simp [o7]
            have p8 : (xo == 8) = false := by simp [o8]
            have p10 : (xo == 10) = false := by simp [o10]
            have p11 : (xo == 11) = false := by simp [o11]
            clear o0 o1 o2 o3 o4 o5 o7 o8 o10 o11
            go_wp2
            go_roundw
            case rel => exact ⟨k + 1, HLt.out, by go_num, by rw [HM.out], hb6⟩
            case measure => have := HLt.out; first | (simp [intOf]; done) | (simp [intOf]; omega)
        · have hkm : k = m + 1 := by omega
          have HKm : Hid (X.take k = X) := Lib.hid (by rw [hkm, ← hXm.out, List.take_length])
          subst hkm
          rw [HKm.out]
          have HLp := Lib.hid (loops_any ((HPX.out.on hbP).on hbel))
          rw [hXm.out] at HLp
          have hmX := marks_le X
          go_wp2_with fail
          refine HLp.out.mono ?_
          rintro e w9 ⟨rfl, hb9⟩
          have hbw9 := hbv1.trans ((hbel.trans (hb9.mono hbel.size)).mono hbv1.size)
          go_wp2
          go_ret
          exact ⟨rfl, hbw9⟩
    · have e1 : prT x = [] := by rw [HPr.out, if_neg (fun h => hvd h.2)]
      have e2 : vdT x = verdictN (ndT x) := by rw [HV.out, if_pos hfc]
      rw [e1, e2, hfc]
      have hv' := off_zero hvd
      clear hP e1 e2 hvd hfc
      go_wp2
      go_ret
      exact ⟨rfl, hbw2⟩
  · have e1 : prT x = [] := by rw [HPr.out, if_neg (fun h => hfc h.1)]
    rw [e1]
    have hv' := off_zero hfc
    clear hP e1 hfc
    go_wp2
    go_ret
    exact ⟨rfl, hbw2⟩

end Go.Proofs.YtkoflhohokdllaaGreatDoor
