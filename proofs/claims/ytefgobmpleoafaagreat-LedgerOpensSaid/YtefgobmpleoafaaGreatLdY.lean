/- Layer 13: the laws' anchor. -/
import Derived.Test.YtefgobmpleoafaaGreatLdT
import Derived.Test.YtefgobmpleoafaaGreatLdV
namespace Go.Proofs.YtefgobmpleoafaaGreat
open Go.RowKit
variable {w w' : World} {S : Nat → Prop} {g gt : Nat}

theorem com_zero {n : Nat} {t : St} (h : Com n St.zero.log t.log) : n = 0 := by
  have := h.le1
  simp [St.zero] at this
  exact this
/-- The first state that is saved. -/
theorem save_first {w w' : World} {S S' : Nat → Prop} {t s2 : St} {br2 : Bool} {room E : Int} {bs' : List UInt8} (h : SaveP w g gt S .zero t false room [] E w' S' s2 br2 bs') (ht : t.ok = true) (hr : ((fcat (recs 0 .zero t)).length : Int) ≤ room) : E = 0 ∧ s2 = t ∧ br2 = false ∧ bs' = fcat (recs 0 .zero t) := by
  rcases h.what with ⟨h1, _, h2, h3, _, n, hc, _, h4⟩ | ⟨_, _, _, h | h | ⟨n, hc, h | h⟩⟩
  · obtain rfl := com_zero hc
    exact ⟨h1, h2, h3, by rw [h4, List.nil_append]⟩
  · cases h
  · rw [ht] at h; cases h
  · obtain rfl := com_zero hc
    rw [recs_zero ht] at h
    cases h
  · obtain rfl := com_zero hc
    simp at h
    omega
def t1 : St := ⟨1, 0, 0, 0, []⟩
theorem t1_ok : t1.ok = true := by decide
theorem t1_recs : fcat (recs 0 .zero t1) = frm (eC ⟨1, 1, 0, []⟩) := by
  have : recs 0 .zero t1 = [⟨1, 1, 0, []⟩] := rfl
  rw [this]
  simp [fcat]
theorem t1_len : (fcat (recs 0 .zero t1)).length = 34 := by
  rw [t1_recs, frm_len]
  rfl
theorem whole_saved {n : Nat} {b : List UInt8} {s t : St} (h : Whole b s) (ht : t.ok = true) (hr : runs s (recs n s t) = some t) : Whole (b ++ fcat (recs n s t)) t :=
  h.steps (recs_ok h.ok ht) hr
set_option maxRecDepth 100000 in
set_option maxHeartbeats 8000000 in
theorem anchor13_any (w : World) : Calls Tryz.prog 4 #[] w fun e w' => e = .returned (.bool true) ∧ Below w.heap.size w w' := by
  have NW := Lib.hid (new_any 1000 (by decide) (by decide) w)
  rw [Tq.new] at NW
  go_enter Tryz.func4, Tryz.ntmps4
  go_wp2_with fail
  refine NW.out.mono ?_
  rintro e w1 ⟨rfl, ht1, b1⟩
  have B1 := Lib.hid b1
  have hl1 : w.heap.size < w1.heap.size := ht1.lt
  have OP := Lib.hid (open_whole ht1 Whole.nil)
  clear ht1 b1 NW
  go_wp2_with fail
  refine OP.out.mono ?_
  rintro e w2 ⟨g, rfl, hg, hl, ht, b2⟩
  have B2 := Lib.hid (B1.out.trans (b2.mono B1.out.size))
  have hng : ¬ (fun i => i = w.heap.size) g := fun e => by have e' : g = w.heap.size := e; omega
  have SV := Lib.hid (save_any (t := t1) (.slice none 0 0) ht hl hng St.zero_ok (LogV.nil _ _))
  clear OP hl ht b2
  go_wp2_with fail
  refine SV.out.mono ?_
  rintro e w3 ⟨E, S3, s3, br3, bs3, rfl, hsp⟩
  obtain ⟨rfl, rfl, rfl, hbs⟩ := save_first hsp t1_ok (by rw [t1_len]; decide)
  have hlen : bs3.length = 34 := by rw [hbs, t1_len]
  have B3 : Hid (Below w.heap.size w w3) := Lib.hid (B2.out.trans (hsp.fr.old B2.out.size (fun i hi => hi.elim (fun e => by have e' : i = w.heap.size := e; omega) (fun e => by omega))))
  have BY := Lib.hid (bytes_at hsp.tape)
  have T3 := Lib.hid hsp.tape
  have L3 := Lib.hid hsp.led
  have hq : (Tq 1000 bs3).bs.length = 34 := hlen
  rw [hq] at BY
  have HQ := Lib.hid hlen
  clear hsp hbs hlen hq SV hng hl1 hg
  go_wp2_with fail
  refine BY.out.mono ?_
  rintro e w4 ⟨rfl, _, b4⟩
  have B4 := Lib.hid (B3.out.trans (b4.mono B3.out.size))
  have SF := Lib.hid (safe_any (T3.out.on b4))
  have hq : ((Tq 1000 bs3).safe : Int) = 34 := by show ((bs3.length : Nat) : Int) = 34; rw [HQ.out]; rfl
  rw [hq] at SF
  have ST := Lib.hid (state_any (by decide) (fun e h => by cases h) (L3.out.on b4))
  clear b4 BY hq
  go_wp2_with fail
  refine SF.out.mono ?_
  rintro e w5 ⟨rfl, rfl⟩
  go_wp2_with fail
  refine ST.out.mono ?_
  rintro e w6 ⟨A6, c6, he, _, b6⟩
  have he' : e = .returned (.agg #[.int .i64 1, .int .i64 0, .int .i64 0, .int .i64 0, .slice A6 0 c6]) := he
  clear he
  subst he'
  have B6 := Lib.hid (B4.out.trans (b6.mono B4.out.size))
  clear b6 ST SF
  have hfd : ∀ (A : Option Addr) (c : Nat) (w : World), (Instr.field 41 (.agg #[.int .i64 1, .int .i64 0, .int .i64 0, .int .i64 0, .slice A 0 c]) 0).run Tryz.prog w = .ok (.int .i64 1) w := fun _ _ _ => by kernel_rfl
  go_wp2
  go_ret
  exact ⟨rfl, B6.out⟩
end Go.Proofs.YtefgobmpleoafaaGreat
