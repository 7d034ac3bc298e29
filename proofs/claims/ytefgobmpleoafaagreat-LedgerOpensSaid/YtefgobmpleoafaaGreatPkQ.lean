/- The document's things made of the program's: colandermade's Message, Record. -/
import Derived.Test.YtefgobmpleoafaaGreatPkP
namespace Go.Proofs.YtefgobmpleoafaaGreat
open Go.RowKit
variable {w w' : World}

theorem OwnX.lowX {n₀ base b : Nat} {v : Value} {l : List En} (h : OwnX n₀ base w v l) (hb : b ≤ base) : OwnX n₀ b w v l := by
  obtain ⟨L, hL, h, hx⟩ := h
  exact ⟨L, hL, orow_low h hb, fun x hm => ⟨orow_low (hx x hm).1 hb, (hx x hm).2⟩⟩
theorem OwnX.set_ {n₀ base : Nat} {v : Value} {l : List En} (h : OwnX n₀ base w v l) {q : Addr} (hq : q.block < base) (hn : n₀ ≤ q.block) (u : Value) : OwnX n₀ base (w.setCell q u) v l := by
  obtain ⟨L, hL, h, hx⟩ := h
  exact ⟨L, hL, orow_set h hq u, fun x hm => ⟨orow_set (hx x hm).1 hq u, (hx x hm).2.below ((Below.refl _ _).setCell hn u)⟩⟩
/-- The document's Message, made of the program's. -/
def XMsgV (n₀ base : Nat) (w : World) (v : Value) (m : Ms) : Prop := ∃ A c, v = .agg #[.int .i64 m.k, .int .i64 m.vi, .int .i64 m.fr, .int .i64 m.to, .int .i64 m.op, .int .i64 m.co, .int .i64 m.no, .slice A m.log.length c] ∧ OwnX n₀ base w (.slice A m.log.length c) m.log
/-- The document's Record, made of the program's. -/
def XRecV (n₀ base : Nat) (w : World) (v : Value) (m : Rc) : Prop := ∃ A c, v = .agg #[.int .i64 m.k, .int .i64 m.a, .int .i64 m.b, .slice A m.log.length c] ∧ OwnX n₀ base w (.slice A m.log.length c) m.log
end Go.Proofs.YtefgobmpleoafaaGreat
