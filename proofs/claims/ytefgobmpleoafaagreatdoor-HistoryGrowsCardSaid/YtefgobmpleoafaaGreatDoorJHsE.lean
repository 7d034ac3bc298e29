/- Package history: what a history's blocks bear when it counts, and when a client's last is put. -/
import Derived.Test.YtefgobmpleoafaaGreatDoorJHsC
namespace Go.Proofs.YtefgobmpleoafaaGreatDoor
open Go.RowKit Go.Maps
variable {w w' w'' : World} {S U : Nat → Prop} {g : Nat} {H : Hs}

theorem run_look {b n : Nat} {D : DataW La} {cl : Int → Option La} (hown : w.ownsMap Tryz.prog 3 laR b n D) (hc : Cm D cl) {z : Int} (hz : (Lit.int .i64 z).wf = true) : (Instr.lookup 78 (.map (some b)) (.int .i64 z) false).run Tryz.prog w = .ok ((cl z).getD .zero).val w := by
  obtain ⟨v, ps, hrun, hv⟩ := hown.lookup (int_keyed Tryz.underlying3) Tryz.underlying78 (zeroLa w) (zd := .held .zero) (zp := []) rfl (keyC hz)
  obtain ⟨l, rfl, he⟩ := laR_inv hv
  obtain ⟨_, h2⟩ := hc.2 z hz
  rw [h2] at he
  obtain ⟨h3, _⟩ := Prod.mk.inj he
  have h4 : (cl z).getD .zero = l := by injection h3
  rw [h4]
  exact hrun
theorem Cm.put {D : DataW La} {cl : Int → Option La} (hc : Cm D cl) {z : Int} (hz : (Lit.int .i64 z).wf = true) (l : La) : Cm (D.put (.int .i64 z) (.held l)) (fun c => if c = z then some l else cl c) := by
  refine ⟨hc.1.put _ _, fun c hcw => ?_⟩
  have hk : WideAt.IsKeyLit (.int .i64 z) := (int_keyed Tryz.underlying3).key (keyC hz)
  by_cases e : c = z
  · subst e
    simp only [if_true]
    exact ⟨has_put_same hc.1 hk _, atKey_put_same hc.1 hk _ _⟩
  · have hne : (Lit.int .i64 c) ≠ (Lit.int .i64 z) := fun h => e (by injection h)
    simp only [if_neg e]
    rw [has_put_other hne, atKey_put_other hne]
    exact hc.2 c hcw
/-- One entry more. -/
theorem HistAt.count (h : HistAt w g S U H) : HistAt (w.setCell ⟨g, 0, none⟩ (.int .i64 ((H.n + 1 : Nat) : Int))) g S U { H with n := H.n + 1, q := H.q + 1 } := by
  obtain ⟨vv, L, mb, m, D, h⟩ := h
  have hmg : mb ≠ g := map_blk h.map_ h.blk
  have hne : vv.ownBlock ≠ some g := own_ne h.row h.blk (by decide)
  refine ⟨vv, L, mb, m, D, by simpa using h.blk.set_ 0 (.int .i64 ((H.n + 1 : Nat) : Int)), own_keep h.row fun i hi => Below.heap_setCell _ _ _ _ (by rintro rfl; exact hne hi.symm), h.vs, fun x hx => (h.rul x hx).next ((Fh.refl w).set_ (.inl (h.wide g h.self)) _), map_keep h.map_ (Below.heap_setCell _ _ _ _ hmg), h.cm, by have := h.few; show m + (H.q + 1) ≤ H.n + 1; omega, h.ok, h.foot, h.self, h.smap, h.wide, fun i hi => by have := h.uold i hi; simpa [World.setCell] using this⟩
/-- Its slack may be let go. -/
theorem HistAt.slack {q : Nat} (h : HistAt w g S U H) (hq : q ≤ H.q) : HistAt w g S U { H with q := q } := by
  obtain ⟨vv, L, mb, m, D, h⟩ := h
  exact ⟨vv, L, mb, m, D, h.blk, h.row, h.vs, h.rul, h.map_, h.cm, by have := h.few; show m + q ≤ H.n; omega, h.ok, h.foot, h.self, h.smap, h.wide, h.uold⟩
/-- A client's last is put. -/
theorem HistV.last_ {vv : Value} {L : List SeV} {mb m : Nat} {D : DataW La} {q : Nat} (h : HistV w g S U H vv L mb m D) {z : Int} (hz : (Lit.int .i64 z).wf = true) (l : La) (hq : q + 1 = H.q) (ho : w'.ownsMap Tryz.prog 3 laR mb (m + 1) (D.put (.int .i64 z) (.held l))) (hg : w.grownBy w' (some mb)) :
    HistAt w' g S U { H with q := q, cl := fun c => if c = z then some l else H.cl c } ∧ Fh S w w' := by
  have hF : Fh S w w' := (Fh.refl w).grown hg fun k hk => .inl (by injection hk with hk; rw [← hk]; exact h.smap)
  have hmg : mb ≠ g := map_blk h.map_ h.blk
  have hms : vv.ownBlock ≠ some mb := map_ne h.map_ h.row
  refine ⟨⟨vv, L, mb, m + 1, D.put (.int .i64 z) (.held l), h.blk.grown hg (fun e => hmg (by injection e with e; exact e.symm)), own_keep h.row fun i hi => hg.block i (h.uold i (h.wide i (h.foot i hi.symm))) (fun e => hms (by rw [← hi, e])), h.vs, fun x hx => (h.rul x hx).next (hF.sub fun i _ hi => h.wide i hi), ho, h.cm.put hz l, by have := h.few; show m + 1 + q ≤ H.n; omega, h.ok, h.foot, h.self, h.smap, h.wide, fun i hi => Nat.lt_of_lt_of_le (h.uold i hi) hF.size⟩, hF⟩
/-- 'm[k] = v' of a map of lasts, as a step of a region that draws. -/
theorem step_put_la (w : World) {ops : Array Oper} {o : Oper} {a : Act} {K : Act → World → Prop} {Q : Exit → Act → World → Prop} {E : Prop} (hgd : o.guard = none) (hdd : o.dst = none) (m x v : Operand) (ho : o.op = Op.mapUpdate 78 m x v)
    (b n : Nat) (D : DataW La) (hm : a.eval m = .map (some b)) (hown : w.ownsMap Tryz.prog 3 laR b n D) (hn : n < maxLen) (z : Int) (hx : a.eval x = .int .i64 z) (hz : (Lit.int .i64 z).wf = true) (l : La) (hv : a.eval v = l.val)
    (hK : ∀ w', w'.ownsMap Tryz.prog 3 laR b (n + 1) (D.put (.int .i64 z) (.held l)) → w.grownBy w' (some b) → K a w') :
    if Region.wanted o (yielded ops a.tmps) = true then Oper.wp Tryz.prog o a w K Q else E := by
  have hw : Region.wanted o (yielded ops a.tmps) = true := by simp [Region.wanted, hgd]
  rw [if_pos hw]
  obtain ⟨w', hrun, r1, r2⟩ := hown.update (int_keyed Tryz.underlying3) Tryz.underlying78 hn (keyC hz) (laR_val l)
  unfold Oper.wp
  simp [execOp, ho, hm, hx, hv, hrun, Result.andThen]
  show K (a.put o.dst undef) w'
  rw [hdd]
  exact hK w' r1 r2
end Go.Proofs.YtefgobmpleoafaaGreatDoor

