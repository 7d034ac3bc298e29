/- The document's reader: an entry. -/
import Derived.Test.YtiheeafmplccoaaPkRc
namespace Go.Proofs.Ytiheeafmplccoaa
open Go.RowKit
variable {w w' w'' : World} {n₀ rb : Nat} {V : Value} {b s : List UInt8} {wr : Bool}

/-- append of one rule that lies in a block of its own, onto a row of the call's own, as a step of a region that draws. -/
theorem step_append_ruleX (w : World) {ops : Array Oper} {o : Oper} {a : Act} {K : Act → World → Prop} {Q : Exit → Act → World → Prop} {E : Prop} (hgd : o.guard = none) (dd : Nat) (hdd : o.dst = some dd) (s x : Operand)
    (ho : o.op = .call { callee := .builtin .append, args := #[s, x], argTypes := #[64, 64] }) (base : Nat) (i : TypeInfo) (z : Value) (bytes : Nat) (hi : Try.prog.info? 104 = some i) (hz : i.zero = some z)
    (hsize : i.size = 5) (hby : i.bytes = bytes) (hzs : z.cells.size = 5) (v : Value) (l : List Ru) (hs : a.eval s = v) (hown : OwnU w base 104 v l)
    (b c : Nat) (r : Ru) (hx : a.eval x = .slice (some ⟨b, 0, none⟩) 1 c) (hr : Blk w b 104 #[.int .i64 r.id, .int .i64 r.pr, .int .i64 r.ac, .int .i64 r.sc, .string r.pat]) (h63 : l.length + 1 ≤ 1000000) (hbytes : bytes ≤ 200) (hbase : base ≤ w.heap.size)
    (h : ∀ v' w', OwnU w' base 104 v' (l ++ [r]) → w.grownBy w' v.ownBlock → K { tmps := a.tmps.setIfInBounds dd v', defers := a.defers } w') :
    if Region.wanted o (yielded ops a.tmps) = true then Oper.wp Try.prog o a w K Q else E := by
  have hw : Region.wanted o (yielded ops a.tmps) = true := by simp [Region.wanted, hgd]
  rw [if_pos hw]
  have hm : (l.length + 1) * bytes ≤ 1000000 * 200 := Nat.mul_le_mul h63 hbytes
  obtain ⟨v', w', h1, h2, h3, h4, h5⟩ := run_append_own_at (P := Try.prog) w base 64 o.type 104 i z 5 bytes Try.underlying64 hi hz hsize hby hzs (by decide) v l.length (ruCells l) hown ⟨b, 0, none⟩ 1 c r.cells rfl (fun j u hu => by
    have hadd : (⟨b, 0, none⟩ : Addr).add j = ⟨b, 0 + j, none⟩ := by unfold Addr.add; split <;> simp_all
    rw [hadd, Nat.zero_add, hr.cell j, ← hu, Ru.cells, ← List.getElem?_toArray]) (ru_one r) (by unfold maxLen; omega) (by omega) hbase
  unfold Oper.wp execOp
  simp only [ho, resolve, invoke, builtin, Sem.run_bind, Sem.run_pure, Result.andThen_ok, List.map_toArray, List.map_cons, List.map_nil, hs, hx, h1]
  show K (a.put o.dst v') w'
  rw [hdd]
  refine h v' w' ?_ h3
  unfold OwnU
  rw [List.length_append, ruCells_append, show ruCells [r] = r.cells by simp [ruCells]]
  exact h2
/-- append of one number likewise. -/
theorem step_append_intX (w : World) {ops : Array Oper} {o : Oper} {a : Act} {K : Act → World → Prop} {Q : Exit → Act → World → Prop} {E : Prop} (hgd : o.guard = none) (dd : Nat) (hdd : o.dst = some dd) (s x : Operand)
    (ho : o.op = .call { callee := .builtin .append, args := #[s, x], argTypes := #[59, 59] }) (base : Nat) (i : TypeInfo) (hi : Try.prog.info? 3 = some i) (hz : i.zero = some (.int .i64 0))
    (hsize : i.size = 1) (hby : i.bytes = 8) (v : Value) (l : List Int) (hs : a.eval s = v) (hown : LIntV base w v l)
    (b c : Nat) (r : Int) (hx : a.eval x = .slice (some ⟨b, 0, none⟩) 1 c) (hr : Blk w b 3 #[.int .i64 r]) (h63 : l.length + 1 ≤ 1000000) (hbase : base ≤ w.heap.size)
    (h : ∀ v' w', LIntV base w' v' (l ++ [r]) → w.grownBy w' v.ownBlock → K { tmps := a.tmps.setIfInBounds dd v', defers := a.defers } w') :
    if Region.wanted o (yielded ops a.tmps) = true then Oper.wp Try.prog o a w K Q else E := by
  have hw : Region.wanted o (yielded ops a.tmps) = true := by simp [Region.wanted, hgd]
  rw [if_pos hw]
  obtain ⟨v', w', h1, h2, h3, h4, h5⟩ := run_append_own_at (P := Try.prog) w base 59 o.type 3 i _ 1 8 Try.underlying59 hi hz hsize hby rfl (by decide) v l.length (zI l) hown ⟨b, 0, none⟩ 1 c [.int .i64 r] rfl (fun j u hu => by
    have hadd : (⟨b, 0, none⟩ : Addr).add j = ⟨b, 0 + j, none⟩ := by unfold Addr.add; split <;> simp_all
    rw [hadd, Nat.zero_add, hr.cell j, ← hu, ← List.getElem?_toArray]) (by intro y hy; simp at hy; subst hy; rfl) (by unfold maxLen; omega) (by omega) hbase
  unfold Oper.wp execOp
  simp only [ho, resolve, invoke, builtin, Sem.run_bind, Sem.run_pure, Result.andThen_ok, List.map_toArray, List.map_cons, List.map_nil, hs, hx, h1]
  show K (a.put o.dst v') w'
  rw [hdd]
  refine h v' w' ?_ h3
  unfold LIntV
  rw [List.length_append, show zI (l ++ [r]) = zI l ++ [.int .i64 r] by simp [zI]]
  exact h2
end Go.Proofs.Ytiheeafmplccoaa
