/- Package rule: unlike, Diff. -/
import Derived.Test.YtihhjcjmchlafaaRuDf
import Derived.Test.YtihhjcjmchlafaaRuKs
import Derived.Test.YtihhjcjmchlafaaRuM2
import Derived.Test.YtihhjcjmchlafaaRuN
namespace Go.Proofs.Ytihhjcjmchlafaa
open Go.RowKit Go.Maps
variable {w w' : World}

theorem unlike_any (old new : Int) (w : World) : Calls Try.prog 34 #[.int .i64 old, .int .i64 new] w fun e w' => e = .returned (.int .i64 (unl old new)) ∧ w' = w := by
  go_enter Try.func34, Try.ntmps34
  unfold unl
  by_cases h : old = new
  · subst h
    rw [if_pos rfl]
    have hb : (old == old) = true := by simp
    go_wp2
    go_ret
    exact ⟨rfl, rfl⟩
  · rw [if_neg h]
    have hb : (old == new) = false := by simp [h]
    go_wp2
    go_ret
    exact ⟨rfl, rfl⟩

/-- 'm[k]' of a map of rules -/
theorem wpList_lookup_ru1 (w : World) {ops : Array Oper} {rest : List Oper} {o : Oper} {a : Act} {Q : Exit → Act → World → Prop} (hg : o.guard = none) (m x : Operand) (hop : o.op = Op.lookup 58 m x false) (b n : Nat) (L : List Ru)
    (hm : a.eval m = .map (some b)) (hown : w.ownsMap Try.prog 3 ruR b n (dm L)) (z : Int) (hx : a.eval x = .int .i64 z) (hz : (Lit.int .i64 z).wf = true) (q : Ru) (hq : look L z = q)
    (hK : wpList Try.prog ops Q rest (a.put o.dst (.agg #[.int .i64 q.id, .int .i64 q.pr, .int .i64 q.ac, .int .i64 q.sc, .string q.pat])) w) :
    wpList Try.prog ops Q (o :: rest) a w := by
  refine wpList_plain hg fun K' hK' => ?_
  obtain ⟨v, ps, hrun, hv⟩ := hown.lookup (int_keyed Try.underlying3) Try.underlying58 (zeroRu w) (z := .agg #[.int .i64 0, .int .i64 0, .int .i64 0, .int .i64 0, .string ⟨#[]⟩]) (zd := .held .none) (zp := []) rfl (keyI z hz)
  obtain ⟨r, rfl, he⟩ := ruR_inv hv
  rw [dm_atKey] at he
  obtain ⟨h1, _⟩ := Prod.mk.inj he
  have h2 : look L z = r := by injection h1
  subst h2
  subst hq
  unfold Oper.wp
  simp [execOp, hop, hm, hx, hrun, Result.andThen]
  exact hK' _ _ hK

theorem look_drops {l : List Ru} {ids : List Int} {i : Int} (h : i ∉ ids) : look (drops l ids) i = look l i := by
  unfold look drops
  rw [List.find?_filter]
  congr 2
  funext x
  by_cases e : x.id = i
  · simp [e, h]
  · simp [e]
def unTake (a : List Ru) (b : List Ru) (k : Nat) : List Ru := unlike a (b.take k)
theorem unTake_succ {a b : List Ru} {k : Nat} {r : Ru} (h : b[k]? = some r) : unTake a b (k + 1) = unTake a b k ++ (if look a r.id = r then [] else [r]) := by
  unfold unTake unlike
  rw [ru_take h, List.filter_append]
  congr 1
  by_cases e : look a r.id = r
  · simp [e]
  · simp [e]
theorem unTake_len {a b : List Ru} {k : Nat} : (unTake a b k).length ≤ k := by
  unfold unTake unlike
  exact Nat.le_trans (List.length_filter_le _ _) (by simp; omega)
theorem drops_all (a b : List Ru) : (drops a (b.map Ru.id)).map Ru.id = lost a b := rfl

end Go.Proofs.Ytihhjcjmchlafaa
