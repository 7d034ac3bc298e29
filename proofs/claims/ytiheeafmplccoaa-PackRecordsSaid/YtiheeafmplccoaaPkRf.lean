/- The document's reader: a list of entries. -/
import Derived.Test.YtiheeafmplccoaaPkRe
namespace Go.Proofs.Ytiheeafmplccoaa
open Go.RowKit
variable {w w' w'' : World} {n₀ rb : Nat} {V : Value} {b s : List UInt8} {wr : Bool}

set_option maxRecDepth 100000 in
set_option maxHeartbeats 8000000 in
theorem xrlog_any (h : Rx n₀ rb V b w s wr) : Calls Try.prog 45 #[.pointer (some ⟨rb, 0, none⟩)] w (RxP n₀ rb V b w (pL pE s) wr (OwnE 68 104 w.heap.size)) := by
  have H := Lib.hid h
  have hrb := h.lt
  obtain ⟨i0, hi, hz0, hz1, hz2⟩ := info_three info_xentry
  clear h
  go_enter Try.func45, Try.ntmps45
  go_wp2_with fail
  refine (xrcount_any H.out).mono ?_
  rintro e w1 ⟨n, t0, wr1, rfl, hn, h1, h2, h3⟩
  have H1 := Lib.hid h1
  have H2 := Lib.hid h2
  have H3 := Lib.hid h3
  have hn2 : n ≤ 100000 := by obtain ⟨_, _, _, _, _, hl, hs⟩ := h1; rw [hs, List.length_drop] at hn; omega
  clear h1 h2 h3 hn
  go_wp2
  go_loopw [3, 5] (fun U i wr => ∃ (k : Nat) (l : List En) (t : S) (wrk : Bool), k ≤ n ∧ i = .int .i64 (k : Int) ∧ Hid (l.length = k) ∧ Hid (OwnE 68 104 w.heap.size wr U l) ∧ Hid (Rx n₀ rb V b wr t wrk) ∧ Hid (FrR rb w wr) ∧ Hid (Out (pK pE k t0) wr1 l t wrk)) (fun _ i _ => n - (intOf i).toNat)
  case atStart => exact ⟨0, [], t0, wr1, Nat.zero_le _, rfl, Lib.hid rfl, Lib.hid (OwnE.nil _ _ _ _), H1, H2, Lib.hid (Out.pure _ _ _)⟩
  case round =>
    obtain ⟨k, l, t, wrk, hk, rfl, HL, HV, HR, HF, HO⟩ := hrel
    obtain ⟨p0, hB, _⟩ := HR.out
    have c2 := hB.cell 2
    have hlt0 := hB.lt
    clear hB
    by_cases hlt : k < n
    · cases wrk
      · have hsz : w.heap.size ≤ wr.heap.size := HF.out.size
        go_wp2_with fail
        refine (xrentry_any HR.out).mono ?_
        rintro e w2 ⟨x, u, wr2, v2, rfl, ⟨Ap, cp, Ad, cd, rfl, hpv, hdv⟩, h1, h2, h3⟩
        have HR2 := Lib.hid h1
        have HF2 := Lib.hid (HF.out.trans h2)
        have HO2 := Lib.hid (out_snoc HO.out h3)
        have HV2 : Hid (OwnE 68 104 w.heap.size w2 u3 l) := Lib.hid (HV.out.fr h2 hrb)
        have hsz2 : w.heap.size ≤ w2.heap.size := HF2.out.size
        have HL1 : Hid ((l ++ [x]).length = k + 1) := Lib.hid (by have := HL.out; simp; omega)
        have HPV := Lib.hid (orow_low hpv hsz)
        have HDV := Lib.hid (orow_low hdv hsz)
        clear hpv hdv
        clear h1 h2 h3
        go_wp2_with (at_builtin
                     refine wpList_append_ent _ rfl (.tmp 20) (.tmp 23) 27 rfl w.heap.size 68 104 i0 _ 104 Try.underlying27 hi hz0 hz1 hz2 rfl (by decide) (by decide) u3 l rfl (HV2.out.alloc _) _ 1 x Ap Ad _ cp _ cd rfl (Blk.at_new _ _ rfl _ _) (World.ownsRow.alloc HPV.out _) (World.ownsRow.alloc HDV.out _) (by have := HL.out; omega) (by decide) (by simp; omega) ?_
                     intro V' w3 hown' hgrow
                     have HR3 := Lib.hid (Rx.grown (HR2.out.alloc (.cells #[.int .i64 x.vi, .int .i64 x.cl, .int .i64 x.re, .int .i64 x.d.de, .int .i64 x.d.cl, .int .i64 x.d.fu, .int .i64 x.d.st, .slice Ap x.d.put.length cp, .slice Ad x.d.drop.length cd] 68)) hgrow (fun k hk => by have := (OwnE.lt (HV2.out) k hk.symm).1; omega))
                     have HF3 := Lib.hid ((HF2.out.alloc (.cells #[.int .i64 x.vi, .int .i64 x.cl, .int .i64 x.re, .int .i64 x.d.de, .int .i64 x.d.cl, .int .i64 x.d.fu, .int .i64 x.d.st, .slice Ap x.d.put.length cp, .slice Ad x.d.drop.length cd] 68)).grown hgrow (fun k hk => by have := (OwnE.lt (HV2.out) k hk.symm).1; omega))
                     have HV3 : Hid (OwnE 68 104 w.heap.size w3 V' (l ++ [x])) := Lib.hid hown'
                     clear hgrow hown')
        go_roundw
        case rel => exact ⟨k + 1, l ++ [x], u, wr2, by omega, by go_num, HL1, HV3, HR3, HF3, HO2⟩
        case measure => simp [intOf]; omega
      · obtain ⟨A, c, hv⟩ := HV.out.len
        subst hv
        go_wp2
        go_ret
        exact ⟨l, t, true, _, rfl, HV.out, HR.out, HF.out, Out.bind H3.out (out_gone HO.out hk _ _)⟩
    · obtain rfl : k = n := by omega
      obtain ⟨A, c, hv⟩ := HV.out.len
      subst hv
      go_wp2
      go_ret
      exact ⟨l, t, wrk, _, rfl, HV.out, HR.out, HF.out, Out.bind H3.out HO.out⟩
end Go.Proofs.Ytiheeafmplccoaa
