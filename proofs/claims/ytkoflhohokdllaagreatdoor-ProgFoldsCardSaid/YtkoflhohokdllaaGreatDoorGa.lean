/- The writer: here, put. -/
import Derived.Test.YtkoflhohokdllaaGreatDoorGw
import Derived.Maps.AppendAt
import Derived.Deep.RegionLaw
namespace Go.Proofs.YtkoflhohokdllaaGreatDoor
open Go.RowKit
open Go.Proofs.YtkoflhohokdllaaGreatDoor.Cl (Rg SetV SetAt rgCells info_three)
variable {w w' : World} {n₀ wb lp : Nat} {fo : Bool} {cv : Value} {L : List (In × Value)} {M : List In}

theorem info51 : (Tryz.prog.info? 51).map (fun i => (i.zero, i.size, i.bytes)) = some (some (.agg #[.int .i64 0, .int .i64 0, .int .i64 0, .int .i64 0, .int .i64 0, .slice none 0 0]), 6, 64) := by kernel_rfl
theorem here_any (h : Wr n₀ wb fo w M lp) : Calls Tryz.prog 74 #[.pointer (some ⟨wb, 0, none⟩)] w fun e w' => e = .returned (.int .i64 (M.length : Nat)) ∧ w = w' := by
  obtain ⟨cv, L, h, rfl⟩ := h
  obtain ⟨A, c, rfl, _⟩ := h.form
  obtain ⟨c0, _, _⟩ := h.c3
  rw [List.length_map]
  clear h
  go_enter Tryz.func74, Tryz.ntmps74
  go_wp2
  go_ret
  exact ⟨rfl, rfl⟩
theorem in_one {x : In} {A : Option Addr} {n c : Nat} : ∀ u ∈ inCells x (.slice A n c), u.oneCell' = true := by
  intro u hu
  simp [inCells] at hu
  rcases hu with rfl | rfl | rfl | rfl | rfl | rfl <;> rfl
theorem Blk.in_cells {b : Nat} {x : In} {v : Value} (h : Blk w b 51 #[.int .i64 x.op, .int .i64 x.a, .int .i64 x.b, .int .i64 x.c, .int .i64 x.d, v]) : ∀ j u, (inCells x v)[j]? = some u → w.cell? ((⟨b, 0, none⟩ : Addr).add j) = some u := by
  intro j u hu
  have hl : j < 6 := (List.getElem?_eq_some_iff.1 hu).1
  have e : (⟨b, 0, none⟩ : Addr).add j = ⟨b, j, none⟩ := by unfold Addr.add; split <;> simp_all
  rw [e, h.cell j]
  rw [← hu]
  match j, hl with
  | 0, _ => rfl
  | 1, _ => rfl
  | 2, _ => rfl
  | 3, _ => rfl
  | 4, _ => rfl
  | 5, _ => rfl
theorem wpList_append_in {ops : Array Oper} {rest : List Oper} {o : Oper} {a : Act} {Q : Exit → Act → World → Prop} (w : World) (hgd : o.guard = none) (x y : Operand)
    (ho : o.op = .call { callee := .builtin .append, args := #[x, y], argTypes := #[47, 47] }) (base : Nat) (i : TypeInfo) (hi : Tryz.prog.info? 51 = some i) (hz : i.zero = some (.agg #[.int .i64 0, .int .i64 0, .int .i64 0, .int .i64 0, .int .i64 0, .slice none 0 0])) (hsize : i.size = 6) (hby : i.bytes = 64)
    (v : Value) (L : List (In × Value)) (hs : a.eval x = v) (hown : w.ownsRow base 51 6 v L.length (ciCells L)) (b : Nat) (nd : In) (A : Option Addr) (n c : Nat) (hy : a.eval y = .slice (some ⟨b, 0, none⟩) 1 1)
    (hb : Blk w b 51 #[.int .i64 nd.op, .int .i64 nd.a, .int .i64 nd.b, .int .i64 nd.c, .int .i64 nd.d, .slice A n c]) (hL : L.length ≤ 100000) (hbase : base ≤ w.heap.size)
    (h : ∀ v' w', w'.ownsRow base 51 6 v' (L.length + 1) (ciCells L ++ inCells nd (.slice A n c)) → w.grownBy w' v.ownBlock → wpList Tryz.prog ops Q rest (a.put o.dst v') w') : wpList Tryz.prog ops Q (o :: rest) a w := by
  refine wpList_plain hgd fun K hK => ?_
  obtain ⟨v', w', hrun, h2, h3, _, h5⟩ := run_append_own_at (P := Tryz.prog) w base 47 o.type 51 i _ 6 64 Tryz.underlying47 hi hz hsize hby rfl (by decide) v L.length (ciCells L) hown ⟨b, 0, none⟩ 1 1 (inCells nd (.slice A n c)) rfl
    hb.in_cells in_one (by unfold maxLen; omega) (by omega) hbase
  unfold Oper.wp execOp
  simp only [ho, resolve, invoke, builtin, Sem.run_bind, Sem.run_pure, Result.andThen_ok, List.map_toArray, List.map_cons, List.map_nil, hs, hy, hrun]
  exact hK _ _ (h v' w' h2 h3)
/-- append of an instruction, as a step of a region that draws. -/
theorem step_append_in (w : World) {ops : Array Oper} {o : Oper} {a : Act} {K : Act → World → Prop} {Q : Exit → Act → World → Prop} {E : Prop} (hgd : o.guard = none) (x y : Operand)
    (ho : o.op = .call { callee := .builtin .append, args := #[x, y], argTypes := #[47, 47] }) (base : Nat) (i : TypeInfo) (hi : Tryz.prog.info? 51 = some i) (hz : i.zero = some (.agg #[.int .i64 0, .int .i64 0, .int .i64 0, .int .i64 0, .int .i64 0, .slice none 0 0])) (hsize : i.size = 6) (hby : i.bytes = 64)
    (v : Value) (L : List (In × Value)) (hs : a.eval x = v) (hown : w.ownsRow base 51 6 v L.length (ciCells L)) (b : Nat) (nd : In) (A : Option Addr) (n c : Nat) (hy : a.eval y = .slice (some ⟨b, 0, none⟩) 1 1)
    (hb : Blk w b 51 #[.int .i64 nd.op, .int .i64 nd.a, .int .i64 nd.b, .int .i64 nd.c, .int .i64 nd.d, .slice A n c]) (hL : L.length ≤ 100000) (hbase : base ≤ w.heap.size)
    (h : ∀ v' w', w'.ownsRow base 51 6 v' (L.length + 1) (ciCells L ++ inCells nd (.slice A n c)) → w.grownBy w' v.ownBlock → K (a.put o.dst v') w') :
    if Region.wanted o (yielded ops a.tmps) = true then Oper.wp Tryz.prog o a w K Q else E := by
  have hw : Region.wanted o (yielded ops a.tmps) = true := by simp [Region.wanted, hgd]
  rw [if_pos hw]
  obtain ⟨v', w', hrun, h2, h3, _, h5⟩ := run_append_own_at (P := Tryz.prog) w base 47 o.type 51 i _ 6 64 Tryz.underlying47 hi hz hsize hby rfl (by decide) v L.length (ciCells L) hown ⟨b, 0, none⟩ 1 1 (inCells nd (.slice A n c)) rfl
    hb.in_cells in_one (by unfold maxLen; omega) (by omega) hbase
  unfold Oper.wp execOp
  simp only [ho, resolve, invoke, builtin, Sem.run_bind, Sem.run_pure, Result.andThen_ok, List.map_toArray, List.map_cons, List.map_nil, hs, hy, hrun]
  exact h v' w' h2 h3
theorem Blk.c6_ {g : Nat} {t : TypeId} {x0 x1 x2 x3 x4 x5 : Value} (h : Blk w g t #[x0, x1, x2, x3, x4, x5]) : w.cell? ⟨g, 0, none⟩ = some x0 ∧ w.cell? ⟨g, 1, none⟩ = some x1 ∧ w.cell? ⟨g, 2, none⟩ = some x2 ∧ w.cell? ⟨g, 3, none⟩ = some x3 ∧ w.cell? ⟨g, 4, none⟩ = some x4 ∧ w.cell? ⟨g, 5, none⟩ = some x5 :=
  ⟨h.cell 0, h.cell 1, h.cell 2, h.cell 3, h.cell 4, h.cell 5⟩

/-- What an instruction more leaves. -/
def PutP (n₀ wb : Nat) (fo : Bool) (w : World) (M : List In) (lp : Nat) (x : In) (e : Ending) (w' : World) : Prop :=
  e = .returned (.int .i64 (M.length : Nat)) ∧ Wr n₀ wb fo w' (M ++ [x]) lp ∧ FrW n₀ wb w w'

set_option maxRecDepth 100000 in
set_option maxHeartbeats 2000000 in
theorem put_any (x : In) {A : Option Addr} {n c : Nat} (hv : OwnS w n₀ (.slice A n c) x.set) (h : Wr n₀ wb fo w M lp) (hl : M.length + 1 ≤ 100000) :
    Calls Tryz.prog 59 #[.pointer (some ⟨wb, 0, none⟩), .agg #[.int .i64 x.op, .int .i64 x.a, .int .i64 x.b, .int .i64 x.c, .int .i64 x.d, .slice A n c]] w (PutP n₀ wb fo w M lp x) := by
  obtain ⟨cv, L, h, rfl⟩ := h
  rw [List.length_map] at hl
  have HH := Lib.hid (fun W (k : Wr n₀ wb fo W (L.map (·.1)) lp) => here_any k)
  obtain ⟨arr, harr⟩ : ∃ arr : Array Value, arr = #[.int .i64 x.op, .int .i64 x.a, .int .i64 x.b, .int .i64 x.c, .int .i64 x.d, .slice A n c] := ⟨_, rfl⟩
  have HW0 := Lib.hid (h.alloc (.cells arr 51))
  have HB0 := Lib.hid (Blk.new w 51 arr)
  have HV0 := Lib.hid (World.ownsRow.alloc hv (.cells arr 51))
  have HF0 := Lib.hid ((FrW.refl (n₀ := n₀) (wb := wb) w).alloc (.cells arr 51))
  have hs0 := h.size
  obtain ⟨i0, hi, hz0, hz1, hz2⟩ := info_three info51
  subst harr
  clear h hv
  go_enter Tryz.func59, Tryz.ntmps59
  go_upto_region 1 with (fail)
  have hsz : w.heap.size < (w.alloc (.cells #[.int .i64 x.op, .int .i64 x.a, .int .i64 x.b, .int .i64 x.c, .int .i64 x.d, .slice A n c] 51)).heap.size := by simp
  generalize w.alloc _ = w1 at *
  go_wp2_with fail
  refine (HH.out _ ⟨cv, L, HW0.out, rfl⟩).mono ?_
  rintro e w2 ⟨rfl, rfl⟩
  obtain ⟨c0, _, _⟩ := HW0.out.c3
  have f0 := HW0.out.fz 0
  have b6 := HB0.out.c6_
  obtain ⟨Ac, cc, rfl, hcc⟩ := HW0.out.form
  have HWa := Lib.hid (HW0.out.alloc (.cells #[.int .i64 x.op, .int .i64 x.a, .int .i64 x.b, .int .i64 x.c, .int .i64 x.d, .slice A n c] 51)).drew
  have HBa : Hid (Blk (w1.alloc (.cells #[.int .i64 x.op, .int .i64 x.a, .int .i64 x.b, .int .i64 x.c, .int .i64 x.d, .slice A n c] 51)).drew w1.heap.size 51 #[.int .i64 x.op, .int .i64 x.a, .int .i64 x.b, .int .i64 x.c, .int .i64 x.d, .slice A n c]) := Lib.hid (Blk.new w1 51 #[.int .i64 x.op, .int .i64 x.a, .int .i64 x.b, .int .i64 x.c, .int .i64 x.d, .slice A n c])
  have HVa : Hid (OwnS (w1.alloc (.cells #[.int .i64 x.op, .int .i64 x.a, .int .i64 x.b, .int .i64 x.c, .int .i64 x.d, .slice A n c] 51)).drew n₀ (.slice A n c) x.set) := Lib.hid (World.ownsRow.alloc HV0.out (.cells #[.int .i64 x.op, .int .i64 x.a, .int .i64 x.b, .int .i64 x.c, .int .i64 x.d, .slice A n c] 51))
  have HFa : Hid (FrW n₀ wb w (w1.alloc (.cells #[.int .i64 x.op, .int .i64 x.a, .int .i64 x.b, .int .i64 x.c, .int .i64 x.d, .slice A n c] 51)).drew) := Lib.hid (HF0.out.alloc (.cells #[.int .i64 x.op, .int .i64 x.a, .int .i64 x.b, .int .i64 x.c, .int .i64 x.d, .slice A n c] 51)).drew
  have hwb := HW0.out.blk.lt
  go_wp2_with fail
  go_region_law (refine step_append_in _ rfl (.tmp 12) (.tmp 14) rfl n₀ i0 hi hz0 hz1 hz2 _ L (by simp [Act.eval]) HWa.out.own w1.heap.size x A n c (by simp [Act.eval]) HBa.out (by omega) (by simp; omega) ?_; intro v' w4 hown' hgrow; obtain ⟨g9, c9, rfl, _, _⟩ := hown'.form (by omega); have hB4 := HWa.out.blk.grown hgrow (fun e => own_ne HWa.out.own HWa.out.blk (by decide) e.symm); have c4 := hB4.cell 0; have f4 := hB4.frozen 0)
  all_goals
    have HW9 := Lib.hid (HWa.out.push hl HVa.out hown' hgrow)
    have HF9 := Lib.hid (HFa.out.trans (FrW.push (v' := .slice (some ⟨g9, 0, none⟩) (L.length + 1) c9) HWa.out hgrow))
    clear hown' hgrow hB4 c4 f4
    go_wp2
    go_ret
    exact ⟨by rw [List.length_map]; rfl, ⟨_, _, HW9.out, by simp⟩, HF9.out⟩

end Go.Proofs.YtkoflhohokdllaaGreatDoor
