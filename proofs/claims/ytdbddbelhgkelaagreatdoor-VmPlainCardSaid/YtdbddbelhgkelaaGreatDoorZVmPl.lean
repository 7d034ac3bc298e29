/- VmPlain. -/
import Derived.Test.YtdbddbelhgkelaaGreatDoorZMWe
import Derived.Test.YtdbddbelhgkelaaGreatDoorZVmAh
import Derived.Test.YtdbddbelhgkelaaGreatDoorZMRf
namespace Go.Proofs.YtdbddbelhgkelaaGreatDoor
open Go.RowKit
open Go.Proofs.YtdbddbelhgkelaaGreatDoor.Cl (Rg SetV SetAt rgCells info_three hasB)
variable {w w' w0 : World}

theorem isPre_step {s : List UInt8} {U : List Int} {p j : Nat} (h : j < s.length) : isPre (s.take (j + 1)) U p = (isPre (s.take j) U p && decide (U[p + j]? = some ((at_ s j : Nat) : Int))) := by
  have e : at_ s j = s[j].toNat := by simp [at_, List.getD_eq_getElem?_getD, h]
  rw [e]
  unfold isPre
  rw [List.take_succ_eq_append_getElem h, List.map_append, List.map_cons, List.map_nil]
  have hl : ((s.take j).map fun c => (c.toNat : Int)).length = j := by simp; omega
  rw [Bool.eq_iff_iff, Bool.and_eq_true, decide_eq_true_eq, List.isPrefixOf_iff_prefix, List.isPrefixOf_iff_prefix]
  constructor
  · rintro ⟨t, ht⟩
    refine ⟨⟨_, by rw [← ht, List.append_assoc]⟩, ?_⟩
    rw [← List.getElem?_drop, ← ht, List.append_assoc, List.getElem?_append_right (by omega), hl, Nat.sub_self]
    rfl
  · rintro ⟨⟨t, ht⟩, hu⟩
    rw [← List.getElem?_drop, ← ht, List.getElem?_append_right (by omega), hl, Nat.sub_self] at hu
    cases t with
    | nil => simp at hu
    | cons x t =>
      simp at hu
      subst hu
      exact ⟨t, by rw [← ht, List.append_assoc]; rfl⟩
theorem isPre_le {s : List UInt8} {U : List Int} {p : Nat} (h : isPre s U p = true) (hp : p ≤ U.length) : p + s.length ≤ U.length := by
  unfold isPre at h
  rw [List.isPrefixOf_iff_prefix] at h
  have := h.length_le
  simp at this
  omega

set_option maxRecDepth 100000 in
set_option maxHeartbeats 4000000 in
theorem plain_law (wv dv : Value) (sw sd : List UInt8) (hT : TabL w.heap.size w) (hw : Bytes w.heap.size w wv sw) (hd : Bytes w.heap.size w dv sd) :
    Calls Tryz.prog 4 #[wv, dv] w fun e w' => e = .returned (.bool true) ∧ Below w.heap.size w w' := by
  have HT := Lib.hid hT
  have HW := Lib.hid hw
  have HD := Lib.hid hd
  have HA := Lib.hid (anchor6_any hT)
  obtain ⟨A, cap, rfl, hcap, hA⟩ := hw
  obtain ⟨D, dcap, rfl, hdcap, _⟩ := hd
  clear hT
  by_cases hl : sw.length ≤ 30 ∧ sd.length ≤ 200
  · obtain ⟨hl1, hl2⟩ := hl
    have hl1i : (sw.length : Int) ≤ 30 := by omega
    have hl2i : (sd.length : Int) ≤ 200 := by omega
    go_enter Tryz.func4, Tryz.ntmps4
    go_wp2_with fail
    refine HA.out.mono ?_
    rintro e w1 ⟨rfl, hb1⟩
    have HB1 := Lib.hid hb1
    clear hb1
    go_wp2
    go_loopw [6, 26] (fun _ i wr => wr = w1 ∧ ∃ k : Nat, k ≤ sw.length ∧ i = .int .i64 k ∧ ∀ j, j < k → 97 ≤ at_ sw j ∧ at_ sw j ≤ 122) (fun _ i _ => sw.length - (intOf i).toNat)
    case atStart => exact ⟨rfl, 0, Nat.zero_le _, rfl, fun j h => absurd h (by omega)⟩
    case round =>
      obtain ⟨rfl, k, hk, rfl, hlo⟩ := hrel
      by_cases hlt : k < sw.length
      · have hlti : (k : Int) < (sw.length : Int) := by omega
        obtain ⟨b, off, rfl, hbl, ht⟩ := hA (by intro e; rw [e] at hlt; simp at hlt)
        have hx : wr.cell? ⟨b, off + k, none⟩ = some (.int .u8 ((at_ sw k : Nat) : Int)) := (HB1.out.cell (p := ⟨b, off + k, none⟩) hbl).trans (ht k hlt)
        have HLo := Lib.hid hlo
        have HLt := Lib.hid hlt
        generalize hxx : at_ sw k = x at hx
        have HX := Lib.hid hxx
        clear hlo hxx ht
        by_cases hlet : 97 ≤ x ∧ x ≤ 122
        · have h1 : (97 : Int) ≤ (x : Int) := by omega
          have h2 : (x : Int) ≤ 122 := by omega
          go_wp2
          go_roundw
          case rel => exact ⟨trivial, k + 1, HLt.out, by go_num, fun j hj => by
            by_cases e : j = k
            · rw [e, HX.out]; exact hlet
            · exact HLo.out j (by omega)⟩
          case measure => have := HLt.out; simp [intOf]; omega
        · have h1 : (x : Int) < 97 ∨ 122 < (x : Int) := by omega
          go_wp2
          all_goals first | (go_ret; exact ⟨rfl, HB1.out⟩) | skip
      · obtain rfl : k = sw.length := by omega
        have hlti : ¬ (sw.length : Int) < (sw.length : Int) := by omega
        have HLow : Hid (Low sw) := Lib.hid (fun c hc => by
          obtain ⟨j, hj, rfl⟩ := List.getElem_of_mem hc
          have := hlo j hj
          have e : at_ sw j = sw[j].toNat := by simp [at_, List.getD_eq_getElem?_getD, hj]
          rw [e] at this
          exact this)
        clear hlo hlt
        have HS := Lib.hid (refSplit_own _ sd (by omega) wr w.heap.size HB1.out.size (HD.out.below HB1.out))
        go_wp2_with fail
        refine HS.out.mono ?_
        rintro e w2 ⟨v, rfl, hU, hb2⟩
        have HB2 := Lib.hid (HB1.out.trans (hb2.mono HB1.out.size))
        obtain ⟨U, hUd⟩ : ∃ U, (un sd).map (fun n : Nat => (n : Int)) = U := ⟨_, rfl⟩
        have hul : (un sd).length = U.length := by rw [← hUd, List.length_map]
        have hui : ints (un sd) = zI U := by rw [← hUd, zI, List.map_map]; rfl
        have hue : U.length ≤ 2000 := by rw [← hul]; have := un_len sd; omega
        rw [hul, hui] at hU
        have hcs := run_string_bytes6 (HW.out.below HB2.out)
        have HM := Lib.hid (made6_any (w := w2) ⟨sw.toArray⟩ (by show sw.toArray.size ≤ _; simp; omega) (HT.out.on HB2.out))
        unfold MadeQ at HM
        rw [prT_low (s := sw) (by simp) HLow.out (by omega)] at HM
        have HU := Lib.hid hU
        clear hb2 hU
        go_wp2_with fail
        refine HM.out.mono ?_
        rintro e w3 ⟨hb3, A3, c3, rfl, hP⟩
        have HB3 := Lib.hid (HB2.out.trans (hb3.mono HB2.out.size))
        have hE : EnvV w3 (.slice A3 (plainC sw).length c3) v (plainC sw) U := ⟨hP.more (Nat.zero_le _), own_kept (HU.out.mono (Nat.zero_le _)) fun i hi _ _ => hb3.block i hi, hue⟩
        have HE := Lib.hid hE
        have HR3 : Hid (w3.ownsRow w.heap.size 3 1 v U.length (zI U)) := Lib.hid (own_kept (HU.out.mono (by have := HB1.out.size; omega)) fun i hi _ _ => hb3.block i hi)
        clear hE hP hb3 HM hcs HS
        go_wp2_with fail
        refine (full_any).mono ?_
        rintro e w4 ⟨rfl, hb4⟩
        have HB4 := Lib.hid (HB3.out.trans (hb4.mono HB3.out.size))
        have HR4 : Hid (w4.ownsRow w.heap.size 3 1 v U.length (zI U)) := Lib.hid (own_kept HR3.out fun i hi _ _ => hb4.block i hi)
        have HF := Lib.hid (vfind_any (F := 1048576) (S := 4096) (HE.out.on hb4) (plain_ok sw (by omega)) (by simp [plainC]) (by omega) (by omega))
        clear hb4 HR3 HE
        go_wp2_with fail
        refine HF.out.mono ?_
        rintro e w5 ⟨V, rfl, h1, h3, hb5⟩
        have HB5 := Lib.hid (HB4.out.trans (hb5.mono HB4.out.size))
        have HR5 : Hid (w5.ownsRow w.heap.size 3 1 v U.length (zI U)) := Lib.hid (own_kept HR4.out fun i hi _ _ => hb5.block i hi)
        have hmul : (U.length + 1) * (sw.length + 1) ≤ 2001 * 31 := Nat.mul_le_mul (by omega) (by omega)
        have hpf := plain_find (U := U) (fuel := 1048576) (stack := 4096) sw (by omega) (U.length + 1) 0 (startM (plainC sw)) (by show 0 + _ + _ + _ ≤ _; omega) rfl rfl (by simp [startM]; omega)
        have HPF := Lib.hid hpf
        have HV := Lib.hid (And.intro h1 h3)
        generalize findM (plainC sw) U 1048576 4096 (U.length + 1) 0 (startM (plainC sw)) = R at HPF HV ⊢
        obtain ⟨kr, sr⟩ := R
        simp only at HV ⊢
        obtain ⟨A5, n5, c5, rfl⟩ : ∃ A n c, V = .slice A n c := by
          by_cases hk : kr = 1
          · rcases own_at (HV.out.1 hk) with ⟨_, h⟩ | ⟨g, c, rfl, _⟩
            · omega
            · exact ⟨_, _, _, rfl⟩
          · exact ⟨_, _, _, HV.out.2 hk⟩
        clear h1 h3 hb5 hpf HF HR4
        have hA6 := Blk.new w5 51 #[.int .i64 (kr : Nat), .int .i64 (sr.steps : Nat), .int .i64 (sr.deep : Nat), .slice A5 n5 c5]
        have h56 := (Below.refl w5.heap.size w5).alloc (Nat.le_refl _) (.cells #[.int .i64 (kr : Nat), .int .i64 (sr.steps : Nat), .int .i64 (sr.deep : Nat), .slice A5 n5 c5] 51)
        have HB6 := Lib.hid (HB5.out.trans (h56.mono HB5.out.size))
        have HR6 : Hid ((w5.alloc (.cells #[.int .i64 (kr : Nat), .int .i64 (sr.steps : Nat), .int .i64 (sr.deep : Nat), .slice A5 n5 c5] 51)).ownsRow w.heap.size 3 1 v U.length (zI U)) := Lib.hid (own_kept HR5.out fun i hi _ _ => h56.block i hi)
        have HA6 := Lib.hid hA6
        have HV6 : Hid (kr = 1 → ∃ g c, A5 = some ⟨g, 0, none⟩ ∧ n5 = 20 ∧ c5 = c ∧ g < w5.heap.size + 1 ∧ ∀ j, j < 20 → (w5.alloc (.cells #[.int .i64 (kr : Nat), .int .i64 (sr.steps : Nat), .int .i64 (sr.deep : Nat), .slice A5 n5 c5] 51)).cell? ⟨g, j, none⟩ = (zI (sr.sl.take 20))[j]?) := Lib.hid (fun hk => by
          rcases own_at (HV.out.1 hk) with ⟨_, h⟩ | ⟨g, c, hv, _, _, ⟨cs, z, hg⟩, hcell, _⟩
          · omega
          · obtain ⟨rfl, rfl, rfl⟩ := Value.slice.inj hv
            have hl := lt_of_some hg
            exact ⟨g, c5, rfl, rfl, rfl, by omega, fun j hj => (h56.cell (p := ⟨g, j, none⟩) hl).trans (hcell j (by omega))⟩)
        obtain ⟨Av, nv, cv, rfl, hnv⟩ : ∃ A n c, v = .slice A n c ∧ n = U.length := by
          rcases own_at HR5.out with ⟨rfl, h⟩ | ⟨g, c, rfl, _⟩
          · exact ⟨_, _, _, rfl, h.symm⟩
          · exact ⟨_, _, _, rfl, rfl⟩
        subst hnv
        clear hA6 h56 HV HR5
        go_upto_region 14 with (fail)
        have hg6 : w5.heap.size + 1 ≤ (w5.alloc (.cells #[.int .i64 (kr : Nat), .int .i64 (sr.steps : Nat), .int .i64 (sr.deep : Nat), .slice A5 n5 c5] 51)).heap.size := by simp
        have HG6 := Lib.hid hg6
        clear hg6
        generalize w5.alloc (.cells #[.int .i64 (kr : Nat), .int .i64 (sr.steps : Nat), .int .i64 (sr.deep : Nat), .slice A5 n5 c5] 51) = w6 at *
        go_loopw [10] (fun i wr => wr = w6 ∧ ∃ p : Nat, i = .int .i64 p ∧ p ≤ U.length + 1 ∧ Hid (∀ r, r < p → isPre sw U r = false)) (fun i _ => U.length + 1 - (intOf i).toNat)
        case atStart => exact ⟨rfl, 0, rfl, by omega, Lib.hid fun r h => absurd h (by omega)⟩
        case round =>
          obtain ⟨rfl, p, rfl, hp, HNo⟩ := hrel
          by_cases hin : p + sw.length ≤ U.length
          · have hini : (p : Int) + (sw.length : Int) ≤ (U.length : Int) := by omega
            go_wp2
            go_loopw [11, 59] (fun b i w' => w' = wr ∧ ∃ j : Nat, j ≤ sw.length ∧ i = .int .i64 j ∧ b = .bool (isPre (sw.take j) U p)) (fun _ i _ => sw.length - (intOf i).toNat)
            case atStart => exact ⟨rfl, 0, Nat.zero_le _, rfl, by simp [isPre]⟩
            case round =>
              obtain ⟨hwj, j, hj, rfl, rfl⟩ := hrel
              subst hwj
              by_cases hlt : j < sw.length
              · have hlti : (j : Int) < (sw.length : Int) := by omega
                obtain ⟨b, off, rfl, hbl, ht⟩ := hA (by intro e; rw [e] at hlt; simp at hlt)
                have hx : wr.cell? ⟨b, off + j, none⟩ = some (.int .u8 ((at_ sw j : Nat) : Int)) := (HB6.out.cell (p := ⟨b, off + j, none⟩) hbl).trans (ht j hlt)
                have hstep := isPre_step (U := U) (p := p) hlt
                have hx9 := at_lt sw j
                rcases own_at HR6.out with ⟨_, h0⟩ | ⟨gu, cu, hv, _, _, _, hcell, _⟩
                · omega
                obtain ⟨rfl, _, rfl⟩ := Value.slice.inj hv
                have hpj : p + j < U.length := by omega
                have hpji : (p : Int) + (j : Int) < (U.length : Int) := by omega
                have hu := hcell (p + j) (by omega)
                rw [zI_get (List.getElem?_eq_getElem hpj)] at hu
                rw [List.getElem?_eq_getElem hpj] at hstep
                have HLt := Lib.hid hlt
                generalize U[p + j] = u at hu hstep
                generalize at_ sw j = x at hx hstep hx9
                have hxi : (x : Int) < 256 := by omega
                clear hcell ht hA hv
                cases hq : isPre (sw.take j) U p with
                | false =>
                  have HS := Lib.hid (hstep.trans (by rw [hq, Bool.false_and]))
                  clear hstep hq hu
                  go_wp2
                  go_roundw
                  case rel => exact ⟨trivial, j + 1, HLt.out, by go_num, by rw [HS.out]⟩
                  case measure => have := HLt.out; simp [intOf]; omega
                | true =>
                  have HS := Lib.hid (hstep.trans (by rw [hq, Bool.true_and]))
                  clear hstep hq
                  go_wp2
                  go_roundw
                  case rel => exact ⟨trivial, j + 1, HLt.out, by go_num, by
                    rw [HS.out]
                    congr 1
                    rw [Bool.eq_iff_iff, beq_iff_eq, decide_eq_true_eq, Option.some.injEq]⟩
                  case measure => have := HLt.out; simp [intOf]; omega
              · obtain rfl : j = sw.length := by omega
                rw [List.take_length]
                cases hq : isPre sw U p with
                | false =>
                  have HQ := Lib.hid hq
                  clear hq
                  go_wp2
                  go_roundw
                  case rel => exact ⟨trivial, p + 1, by go_num, by omega, Lib.hid fun r hr => by
                    by_cases e : r = p
                    · rw [e]; exact HQ.out
                    · exact HNo.out r (by omega)⟩
                  case measure => simp [intOf]; omega
                | true =>
                  rcases HPF.out with ⟨q, s', _, hq2, hpre, hno, e, _, ea, eb⟩ | ⟨hno, _⟩
                  · have hqp : q = p := by
                      rcases Nat.lt_trichotomy q p with h | h | h
                      · rw [HNo.out q h] at hpre
                        cases hpre
                      · exact h
                      · rw [hno p (Nat.zero_le _) h] at hq
                        cases hq
                    subst hqp
                    obtain ⟨rfl, rfl⟩ := Prod.mk.inj e
                    obtain ⟨g, c, rfl, rfl, rfl, hgl, hcell⟩ := HV6.out rfl
                    have hgl' := Nat.lt_of_lt_of_le hgl HG6.out
                    have d0 := HA6.out.cell 0
                    have d3 := HA6.out.cell 3
                    have hl5 := HA6.out.lt
                    have ca := (hcell 0 (by omega)).trans (zI_get (by rw [List.getElem?_take_of_lt (by omega)]; exact ea))
                    have cb := (hcell 1 (by omega)).trans (zI_get (by rw [List.getElem?_take_of_lt (by omega)]; exact eb))
                    have eqq : ((q + sw.length : Nat) : Int) = (q : Int) + (sw.length : Int) := by omega
                    rw [eqq] at cb
                    clear hcell hno ea eb hq hpre HPF HV6 eqq
                    go_wp2
                    go_ret
                    exact ⟨rfl, HB6.out⟩
                  · rw [hno p (Nat.zero_le _) (by omega)] at hq
                    cases hq
          · have hini : ¬ ((p : Int) + (sw.length : Int) ≤ (U.length : Int)) := by omega
            have hk0 : kr = 0 := by
              rcases HPF.out with ⟨q, s', _, hq, hpre, _, _⟩ | ⟨_, s', e⟩
              · have := isPre_le hpre (by omega)
                rw [HNo.out q (by omega)] at hpre
                cases hpre
              · exact congrArg Prod.fst e
            subst hk0
            have d0 := HA6.out.cell 0
            go_wp2
            go_ret
            exact ⟨rfl, HB6.out⟩
  · have hor : (30 < (sw.length : Int) ∨ 200 < (sd.length : Int)) := by omega
    go_enter Tryz.func4, Tryz.ntmps4
    go_wp2_with fail
    refine HA.out.mono ?_
    rintro e w1 ⟨rfl, hb1⟩
    go_wp2
    all_goals first | (go_ret; exact ⟨rfl, hb1⟩) | skip
theorem vmPlain_law (wv : Value) (sw : List UInt8) (dv : Value) (sd : List UInt8) (w : World) (hT : TabL w.heap.size w) (hw : Bytes w.heap.size w wv sw) (hd : Bytes w.heap.size w dv sd) :
    Calls Tryz.prog 4 #[wv, dv] w fun e w' => e = .returned (.bool true) ∧ Below w.heap.size w w' := plain_law wv dv sw sd hT hw hd

end Go.Proofs.YtdbddbelhgkelaaGreatDoor
