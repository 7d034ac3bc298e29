/- Package tape: Crash, as a contract. -/
import Derived.Test.YtjnhjpjebklalaaTpB
namespace Go.Proofs.Ytjnhjpjebklalaa
open Go.RowKit
variable {w w' : World} {S : Nat → Prop} {g : Nat} {T : Tp}

theorem xr_take (s : List UInt8) (a k : Nat) (t : List UInt8) (n : Nat) : (xr s a k t).take n = xr (s.take n) a k t := by
  apply List.ext_getElem?
  intro i
  simp only [xr, List.getElem?_take, List.getElem?_mapIdx]
  split <;> simp
/-- The tape with k of its bytes turned. -/
def Tp.turned (T : Tp) (k : Nat) (t : List UInt8) : Tp := { T with bs := xr T.bs T.safe k t }
theorem turned_succ {a k : Nat} {t : List UInt8} (ha : a = T.safe) (h : a + k < T.bs.length) : (T.turned k t).bs.set (a + k) (T.bs[a + k] ^^^ t.getD k 0) = (T.turned (k + 1) t).bs := by
  subst ha
  exact (xr_succ h).symm
theorem vstep {b cp m a k : Nat} {t : List UInt8} {z : UInt8} (h : TapeV w g S (T.turned k t) (.slice (some ⟨b, 0, none⟩) m cp)) (hl : (T.turned k t).bs.length = m) (hx : (T.turned k t).bs.set (a + k) z = (T.turned (k + 1) t).bs) (hok : (T.turned (k + 1) t).ok) :
    TapeV (w.drew.setCell ⟨b, a + k, none⟩ (.int .u8 ((z.toNat : Nat) : Int))) g S (T.turned (k + 1) t) (.slice (some ⟨b, 0, none⟩) m cp) := by
  have hd : Own w.drew g (.slice (some ⟨b, 0, none⟩) m cp) (T.turned k t).bs := h.own
  have hb : Blk w.drew g 47 #[.slice (some ⟨b, 0, none⟩) m cp, .int .i64 T.room, .int .i64 (T.safe : Int), .int .i64 T.left, .bool T.down] := h.blk
  refine ⟨hb.far (p := ⟨b, a + k, none⟩) (fun e => h.own.kind h.blk (by decide) (by rw [e]; rfl)) _, ?_, h.foot, h.self, fun i hi => by have := h.old i hi; simpa [World.setCell] using this, hok⟩
  have := hd.set_ hl z (k := a + k)
  rwa [hx] at this
theorem Tp.turned_zero (T : Tp) (t : List UInt8) : T.turned 0 t = T := by unfold Tp.turned; rw [xr_zero]
theorem Tp.ok.turned (h : T.ok) (k : Nat) (t : List UInt8) : (T.turned k t).ok := ⟨by simp only [Tp.turned, xr_len]; exact h.safe, by simp only [Tp.turned, xr_len]; exact h.fits, h.room, h.left⟩
theorem Tp.crash_eq (h : T.ok) (keep : Int) (t : List UInt8) (q : Nat) (hq : q = min (T.stays keep) t.length) :
    T.crash keep t = { ((T.turned q t).kept (T.safe + T.stays keep)) with left := -1, down := false } := by
  have h1 := h.safe
  have hr : T.stays keep ≤ T.bs.length - T.safe := by unfold Tp.stays; omega
  unfold Tp.crash Tp.kept Tp.turned
  simp only [Tp.mk.injEq, and_true]
  rw [xr_take, xr_xo (T.bs.take (T.safe + T.stays keep)) ((T.bs.drop T.safe).take (T.stays keep)) t T.safe q (by rw [List.drop_take]; congr 1; omega) (by simp; omega) (by rw [hq]; simp; omega), List.take_take, Nat.min_eq_left (by omega)]
theorem crash_fin {keep : Int} {t : List UInt8} {q : Nat} (hok : T.ok) (hq : q = min (T.stays keep) t.length) (h : TapeAt w g S ((T.turned q t).kept (T.safe + T.stays keep))) :
    TapeAt ((w.setCell ⟨g, 3, none⟩ (.int .i64 (-1))).setCell ⟨g, 4, none⟩ (.bool false)) g S (T.crash keep t) ∧ Fr S w ((w.setCell ⟨g, 3, none⟩ (.int .i64 (-1))).setCell ⟨g, 4, none⟩ (.bool false)) := by
  have hc := hok.crash keep t
  rw [Tp.crash_eq hok keep t q hq] at hc ⊢
  obtain ⟨v, h⟩ := h
  refine ⟨⟨v, ?_, ?_, h.foot, h.self, fun j hj => by have := h.old j hj; simpa [World.setCell] using this, hc⟩, ((Fr.refl w).set_ (q := ⟨g, 3, none⟩) (.inl h.self) _).set_ (q := ⟨g, 4, none⟩) (.inl h.self) _⟩
  · have := (h.blk.set_ 3 (.int .i64 (-1))).set_ 4 (.bool false)
    simpa using this
  · refine h.own.keep fun j hj => ?_
    have hne : j ≠ g := by
      rintro rfl
      exact h.own.kind h.blk (by decide) hj
    exact (Below.heap_setCell _ _ _ _ hne).trans (Below.heap_setCell _ _ _ _ hne)

set_option maxRecDepth 100000 in
set_option maxHeartbeats 4000000 in
theorem crash_any {n₀ : Nat} (keep : Int) (u : Value) (t : List UInt8) (htl : t.length ≤ 9223372036854775807) (hu : ∀ w', Fr S w w' → Bytes n₀ w' u t) (h : TapeAt w g S T) :
    Calls Try.prog 18 #[.pointer (some ⟨g, 0, none⟩), .int .i64 keep, u] w fun e w' => e = .returned (.tuple #[]) ∧ TapeAt w' g S (T.crash keep t) ∧ Fr S w w' := by
  have HU := Lib.hid hu
  have HB0 := hu w (Fr.refl w)
  obtain ⟨A, c, rfl, htc, _⟩ := hu w (Fr.refl w)
  obtain ⟨v, hv⟩ := h
  have c0 := hv.blk.cell 0
  have c2 := hv.blk.cell 2
  have H := Lib.hid hv
  have k1 := hv.ok.safe
  have k2 := hv.ok.fits
  have k3 := hv.ok.room
  have ho := hv.own
  clear hv hu
  obtain ⟨a, ha⟩ : ∃ a, a = T.safe := ⟨_, rfl⟩
  obtain ⟨m, hm⟩ : ∃ m, m = T.bs.length := ⟨_, rfl⟩
  obtain ⟨L, hL⟩ : ∃ L, L = m - a := ⟨_, rfl⟩
  obtain ⟨tl, ht⟩ : ∃ tl, tl = t.length := ⟨_, rfl⟩
  obtain ⟨r, hr⟩ : ∃ r, r = T.stays keep := ⟨_, rfl⟩
  obtain ⟨q, hq⟩ : ∃ q, q = min r tl := ⟨_, rfl⟩
  have hr' : r = min keep.toNat (m - a) := by rw [hr, ha, hm]; rfl
  have FIN : Hid (∀ w2, TapeAt w2 g S ((T.turned q t).kept (a + r)) → TapeAt ((w2.setCell ⟨g, 3, none⟩ (.int .i64 (-1))).setCell ⟨g, 4, none⟩ (.bool false)) g S (T.crash keep t) ∧ Fr S w2 ((w2.setCell ⟨g, 3, none⟩ (.int .i64 (-1))).setCell ⟨g, 4, none⟩ (.bool false))) := Lib.hid fun w2 h2 => crash_fin (q := q) H.out.ok (by rw [hq, ht, hr]) (by rw [← hr, ← ha]; exact h2)
  have KP : Hid (∀ w2, TapeAt w2 g S (T.turned q t) → Calls Try.prog 23 #[.pointer (some ⟨g, 0, none⟩), .int .i64 ((a : Int) + (r : Int))] w2 fun e w' => e = .returned (.tuple #[]) ∧ TapeAt w' g S ((T.turned q t).kept (a + r)) ∧ Fr S w2 w') := Lib.hid fun w2 h2 => by
    have := keep_any (a + r) (by simp only [Tp.turned, xr_len]; omega) h2
    rwa [Int.natCast_add] at this
  rw [← ha] at c2 k1
  rw [← hm] at k1 k2
  rw [← ht] at htl HU htc HB0 ⊢
  obtain ⟨k0, hk0⟩ : ∃ k0, k0 = keep.toNat := ⟨_, rfl⟩
  have m1 : max keep 0 = (k0 : Int) := by omega
  have m2 : min (k0 : Int) ((m - a : Nat) : Int) = (r : Int) := by omega
  have m3 : min (r : Int) (tl : Int) = (q : Int) := by omega
  have HA := Lib.hid ha
  have HM := Lib.hid hm
  have HT := Lib.hid ht
  have l1 : r ≤ L := by omega
  have l2 : q ≤ r := by omega
  have l3 : q ≤ tl := by omega
  have l4 : (L : Int) = (m : Int) - (a : Int) := by omega
  by_cases hq0 : q = 0
  · subst hq0
    have Z0 : Hid (∀ w2, Below w.heap.size w w2 → TapeAt w2 g S (T.turned 0 t)) := Lib.hid fun w2 hB => by
      rw [Tp.turned_zero]
      exact TapeAt.on ⟨v, H.out⟩ hB
    rcases ho.form with ⟨rfl, hb⟩ | ⟨b, cp, rfl, hc⟩
    · have hm0 : m = 0 := by rw [hm, hb]; rfl
      subst hm0
      obtain rfl : a = 0 := by omega
      obtain rfl : L = 0 := by omega
      obtain rfl : r = 0 := by omega
      have m2' : min (k0 : Int) 0 = 0 := by omega
      have m3' : min 0 (tl : Int) = 0 := by omega
      clear hk0 ho hb ha hm hr ht hq hr' hL k1 l1 l2 l3 l4 htc HB0 m2 m3
      go_enter Try.func18, Try.ntmps18
      go_wp2_with fail
      go_quiet (fail)
      have ZB := Lib.hid (Below.drewN' (Below.refl w.heap.size w) nq)
      go_upto_region 3 with (fail)
      refine wp_loop_rounds 1 ?_
      rw [rounds_succ]
      have D0 := Lib.hid (Z0.out (w.drewN nq) ZB.out)
      have dc2 := (Below.cell ZB.out (p := ⟨g, 2, none⟩) H.out.blk.lt).trans c2
      have ZF := Lib.hid ((Fr.of_below ZB.out : Fr S w (w.drewN nq)))
      generalize (w.drewN nq) = w1 at *
      have KP1 := KP.out w1 D0.out
      simp only [Int.natCast_zero, Int.add_zero] at KP1
      have KP2 := Lib.hid KP1
      clear KP1
      go_wp2_with fail
      refine KP2.out.mono ?_
      rintro e w2 ⟨rfl, t2, f2⟩
      have FI := Lib.hid (FIN.out w2 t2)
      have ZG := Lib.hid (ZF.out.next f2)
      obtain ⟨v2, hv2⟩ := t2
      have e3 := hv2.blk.cell 3
      have e4 := hv2.blk.cell 4
      have f3 := hv2.blk.frozen 3
      have f4 := hv2.blk.frozen 4
      have flt := hv2.blk.lt
      clear hv2 f2
      go_wp2
      go_end0
      exact ⟨rfl, FI.out.1, ZG.out.next FI.out.2⟩
    · rw [← hm] at hc c0
      by_cases hac : a < cp
      · have m3' : min (r : Int) (tl : Int) = 0 := by omega
        clear hk0 ho ha hm hr ht hq hr' hL l2 l3 htc HB0 m3
        go_enter Try.func18, Try.ntmps18
        go_wp2_with fail
        go_quiet (fail)
        have ZB := Lib.hid (Below.drewN' (Below.refl w.heap.size w) nq)
        go_upto_region 3 with (fail)
        refine wp_loop_rounds 1 ?_
        rw [rounds_succ]
        have D0 := Lib.hid (Z0.out (w.drewN nq) ZB.out)
        have dc2 := (Below.cell ZB.out (p := ⟨g, 2, none⟩) H.out.blk.lt).trans c2
        have ZF := Lib.hid ((Fr.of_below ZB.out : Fr S w (w.drewN nq)))
        generalize (w.drewN nq) = w1 at *
        have KP1 := KP.out w1 D0.out
        have KP2 := Lib.hid KP1
        clear KP1
        go_wp2_with fail
        refine KP2.out.mono ?_
        rintro e w2 ⟨rfl, t2, f2⟩
        have FI := Lib.hid (FIN.out w2 t2)
        have ZG := Lib.hid (ZF.out.next f2)
        obtain ⟨v2, hv2⟩ := t2
        have e3 := hv2.blk.cell 3
        have e4 := hv2.blk.cell 4
        have f3 := hv2.blk.frozen 3
        have f4 := hv2.blk.frozen 4
        have flt := hv2.blk.lt
        clear hv2 f2
        go_wp2
        go_end0
        exact ⟨rfl, FI.out.1, ZG.out.next FI.out.2⟩
      · obtain rfl : a = cp := by omega
        obtain rfl : m = a := by omega
        obtain rfl : L = 0 := by omega
        obtain rfl : r = 0 := by omega
        have m2' : min (k0 : Int) 0 = 0 := by omega
        have m3' : min 0 (tl : Int) = 0 := by omega
        clear hk0 ho ha hm hr ht hq hr' hL k1 l1 l2 l3 l4 htc HB0 m2 m3 hac
        go_enter Try.func18, Try.ntmps18
        go_wp2_with fail
        go_quiet (fail)
        have ZB := Lib.hid (Below.drewN' (Below.refl w.heap.size w) nq)
        go_upto_region 3 with (fail)
        refine wp_loop_rounds 1 ?_
        rw [rounds_succ]
        have D0 := Lib.hid (Z0.out (w.drewN nq) ZB.out)
        have dc2 := (Below.cell ZB.out (p := ⟨g, 2, none⟩) H.out.blk.lt).trans c2
        have ZF := Lib.hid ((Fr.of_below ZB.out : Fr S w (w.drewN nq)))
        generalize (w.drewN nq) = w1 at *
        have KP1 := KP.out w1 D0.out
        simp only [Int.natCast_zero, Int.add_zero] at KP1
        have KP2 := Lib.hid KP1
        clear KP1
        go_wp2_with fail
        refine KP2.out.mono ?_
        rintro e w2 ⟨rfl, t2, f2⟩
        have FI := Lib.hid (FIN.out w2 t2)
        have ZG := Lib.hid (ZF.out.next f2)
        obtain ⟨v2, hv2⟩ := t2
        have e3 := hv2.blk.cell 3
        have e4 := hv2.blk.cell 4
        have f3 := hv2.blk.frozen 3
        have f4 := hv2.blk.frozen 4
        have flt := hv2.blk.lt
        clear hv2 f2
        go_wp2
        go_end0
        exact ⟨rfl, FI.out.1, ZG.out.next FI.out.2⟩
  · rcases ho.form with ⟨rfl, hb⟩ | ⟨b, cp, rfl, hc⟩
    · have hm0 : m = 0 := by rw [hm, hb]; rfl
      omega
    rw [← hm] at hc c0
    have hac : a < cp := by omega
    obtain ⟨b2, o2, rfl, _, _⟩ : ∃ b2 o2, A = some ⟨b2, o2, none⟩ ∧ b2 < n₀ ∧ True := by
      obtain ⟨A', c', hv, _, hcc⟩ := HB0
      injection hv with h1 h2 h3
      obtain ⟨b2, o2, h4, h5, _⟩ := hcc (by rintro rfl; simp at ht; omega)
      exact ⟨b2, o2, by rw [h1, h4], h5, trivial⟩
    clear hk0 ho ha hm hr ht hq hr' hL htc HB0
    go_enter Try.func18, Try.ntmps18
    go_wp2_with fail
    go_quiet (fail)
    have ZB := Lib.hid (Below.drewN' (Below.refl w.heap.size w) nq)
    go_upto_region 3 with (fail)
    have D0 : Hid (TapeV (w.drewN nq) g S (T.turned 0 t) (.slice (some ⟨b, 0, none⟩) m cp)) := Lib.hid (by
      rw [Tp.turned_zero]
      have h := H.out
      rw [← HM.out] at h
      exact ⟨h.blk.on ZB.out, h.own.below ZB.out, h.foot, h.self, fun i hi => ⟨(h.old i hi).1, Nat.lt_of_lt_of_le (h.old i hi).2 ZB.out.size⟩, h.ok⟩)
    have ZF := Lib.hid ((Fr.of_below ZB.out : Fr S w (w.drewN nq)))
    generalize w.drewN nq = w1 at *
    go_loopw [29] (fun i wr => ∃ k : Nat, k ≤ q ∧ i = .int .i64 k ∧ Hid (TapeV wr g S (T.turned k t) (.slice (some ⟨b, 0, none⟩) m cp)) ∧ Hid (Fr S w wr)) (fun i _ => q - (intOf i).toNat)
    case atStart => exact ⟨0, Nat.zero_le _, rfl, D0, ZF⟩
    case round =>
      obtain ⟨k, hk9, rfl, HV, HF⟩ := hrel
      by_cases hlt : k < q
      · have ho9 := HV.out.own
        have hl9 : (T.turned k t).bs.length = m := by rw [HM.out]; exact xr_len _ _ _ _
        have hak : a + k < T.bs.length := by rw [← HM.out]; omega
        have c5 : wr.cell? ⟨b, a + k, none⟩ = some (.int .u8 ((at_ T.bs (a + k) : Nat) : Int)) := by
          have e : at_ (T.turned k t).bs (a + k) = at_ T.bs (a + k) := by rw [HA.out] at hak ⊢; exact xr_at hak
          rw [← e]
          exact ho9.at_ hl9 (by omega)
        have f5 : wr.frozen? ⟨b, a + k, none⟩ = false := ho9.frozen hl9
        have e5 : wr.cell? ⟨b2, o2 + k, none⟩ = some (.int .u8 ((at_ t k : Nat) : Int)) := by
          obtain ⟨A', c', hv, _, hcc⟩ := HU.out wr HF.out
          injection hv with h1 h2 h3
          obtain ⟨b3, o3, h4, _, h5⟩ := hcc (by rintro rfl; have := HT.out; simp at this; omega)
          rw [h4] at h1
          injection h1 with h1
          injection h1 with h6 h7
          rw [h6, h7]
          exact h5 k (by rw [← HT.out]; omega)
        obtain ⟨z, hz⟩ : ∃ z : UInt8, z = T.bs[a + k] ^^^ t.getD k 0 := ⟨_, rfl⟩
        have x5 : bits .xor .u8 ((at_ T.bs (a + k) : Nat) : Int) ((at_ t k : Nat) : Int) = ((z.toNat : Nat) : Int) := by
          rw [at_get _ _ hak, hz]
          exact xor_uu _ _
        have x6 : Hid ((T.turned k t).bs.set (a + k) z = (T.turned (k + 1) t).bs) := Lib.hid (by rw [hz]; exact turned_succ HA.out hak)
        have hbl : b < wr.heap.size := (ho9.lt b rfl).2
        have q5 := at_lt T.bs (a + k)
        have q6 := at_lt t k
        generalize at_ T.bs (a + k) = y1 at *
        generalize at_ t k = y2 at *
        have HL9 := Lib.hid hl9
        have OK9 := Lib.hid (H.out.ok.turned (k + 1) t)
        clear ho9 hl9 hak hz
        go_wp2
        go_region
        all_goals
          go_wp2
          go_roundw
          case rel =>
            refine ⟨k + 1, by omega, by go_num, Lib.hid ?_, Lib.hid ?_⟩
            · exact vstep HV.out HL9.out x6.out OK9.out
            · exact HF.out.drew.set_ (q := ⟨b, a + k, none⟩) (.inl (HV.out.foot b rfl)) _
          case measure => simp [intOf]; omega
      · obtain rfl : k = q := by omega
        have KP1 := Lib.hid (KP.out wr ⟨_, HV.out⟩)
        have d2 := HV.out.blk.cell 2
        rw [show (T.turned k t).safe = a from HA.out.symm] at d2
        go_wp2_with fail
        refine KP1.out.mono ?_
        rintro e w2 ⟨rfl, t2, f2⟩
        have FI := Lib.hid (FIN.out w2 t2)
        have ZG := Lib.hid (HF.out.next f2)
        obtain ⟨v2, hv2⟩ := t2
        have e3 := hv2.blk.cell 3
        have e4 := hv2.blk.cell 4
        have f3 := hv2.blk.frozen 3
        have f4 := hv2.blk.frozen 4
        have flt := hv2.blk.lt
        clear hv2 f2
        go_wp2
        go_end0
        exact ⟨rfl, FI.out.1, ZG.out.next FI.out.2⟩
end Go.Proofs.Ytjnhjpjebklalaa
