/- Rows of nodes that a call collects; append of a node. -/
import Derived.Test.YthipgidddgdojaaDoorPQ
namespace Go.Proofs.YthipgidddgdojaaDoor
open Go.RowKit
open Go.Proofs.YthipgidddgdojaaDoor.Cl (info_three)
variable {n₀ rb tb cap d : Nat} {s : List UInt8} {w w' : World} {σ σ1 : St} {fc fa : Int} {bv v : Value}

theorem info27 : (Tryd.prog.info? 27).map (fun i => (i.zero, i.size, i.bytes)) = some (some (.agg zeros), 7, 88) := by kernel_rfl

structure RowR (n₀ rb : Nat) (a w : World) (base : Nat) (v : Value) (L : List (Nd × Value × Value)) : Prop where
  own : w.ownsRow base 27 7 v L.length (rowCells L)
  nodes : ∀ x ∈ L, NodeV (fun b => KB n₀ rb a w b ∧ some b ≠ v.ownBlock) w x.1 x.2.1 x.2.2
  low : a.heap.size ≤ base
theorem RowR.nil (n₀ rb : Nat) (a w : World) (base : Nat) (h : a.heap.size ≤ base) : RowR n₀ rb a w base (.slice none 0 0) [] := ⟨World.ownsRow_nil _ _ _ _, by simp, h⟩
theorem own_block {base : Nat} {e : TypeId} {size n : Nat} {v : Value} {xs : List Value} (h : w.ownsRow base e size v n xs) {i : Nat} (hi : some i = v.ownBlock) : ∃ cs, w.heap[i]? = some (.cells cs e (0, 0)) := by
  rcases h.2 with ⟨rfl, _⟩ | ⟨g, cap, cur, rfl, _, hh, _⟩
  · simp [Value.ownBlock] at hi
  · have : i = g := by simpa [Value.ownBlock] using hi
    subst this
    exact ⟨cur, hh⟩
theorem own_fr {base : Nat} {size n : Nat} {v : Value} {xs : List Value} (h : w.ownsRow base 27 size v n xs) (hR : Rd n₀ rb tb cap s w σ d fc fa bv) (hF : Fr n₀ rb w w') : w'.ownsRow base 27 size v n xs :=
  own_keep h fun i hi => by
    obtain ⟨cs, hh⟩ := own_block h hi
    exact hF.same (okB.of_type hh (by decide) (ne_of_types hh hR.blk (by decide)))
theorem KB.fr {a : World} {b : Nat} (h : KB n₀ rb a w b) (hF : Fr n₀ rb w w') : KB n₀ rb a w' b := ⟨hF.ok h.1, h.2.imp id (fun k => k.keep (hF.same h.1))⟩
theorem RowR.fr {a : World} {base : Nat} {L : List (Nd × Value × Value)} (h : RowR n₀ rb a w base v L) (hR : Rd n₀ rb tb cap s w σ d fc fa bv) (hF : Fr n₀ rb w w') : RowR n₀ rb a w' base v L :=
  ⟨own_fr h.own hR hF, fun x hx => (h.nodes x hx).keep fun _ hb => ⟨⟨hb.1.fr hF, hb.2⟩, hF.same hb.1.1⟩, h.low⟩
theorem RowR.node {a : World} {base : Nat} {L : List (Nd × Value × Value)} (h : RowR n₀ rb a w base v L) (hR : Rd n₀ rb tb cap s w σ d fc fa bv) (k : Int) (hne : L ≠ []) (hm : L.length ≤ 1000000) :
    NodeV (KB n₀ rb a w) w (.mk k 0 0 0 0 [] (L.map (·.1))) (.slice none 0 0) v :=
  RowN.node (K := KB n₀ rb a w) ⟨h.own, fun x hx => (h.nodes x hx).keep fun _ hb => ⟨hb.1, rfl⟩⟩ (fun g hg => by
    obtain ⟨cs, hh⟩ := own_block h.own hg.symm
    exact ⟨okB.of_type hh (by decide) (ne_of_types hh hR.blk (by decide)), .inl (Nat.le_trans h.low (h.own.lt g hg).1)⟩) k 0 0 0 0 hne hm
theorem RowR.form {a : World} {base : Nat} {L : List (Nd × Value × Value)} (h : RowR n₀ rb a w base v L) : ∃ A c, v = .slice A L.length c := by
  rcases h.own.2 with ⟨hv, hn⟩ | ⟨g, c, cur, hv, _⟩
  · exact ⟨none, 0, by rw [hv, hn]⟩
  · exact ⟨_, c, hv⟩
/-- The only node of a row. -/
theorem RowR.first {a : World} {base : Nat} {x : Nd × Value × Value} (h : RowR n₀ rb a w base v [x]) :
    ∃ g c, v = .slice (some ⟨g, 0, none⟩) 1 c ∧ NodeV (KB n₀ rb a w) w x.1 x.2.1 x.2.2 ∧ ∀ j u, (ndCells x.1 x.2.1 x.2.2)[j]? = some u → w.cell? ⟨g, j, none⟩ = some u := by
  obtain ⟨g, c, hv⟩ := own_slice h.own (by simp)
  refine ⟨g, c, hv, (h.nodes x (by simp)).keep fun _ hb => ⟨hb.1, rfl⟩, fun j u hu => ?_⟩
  have hv' := hv
  subst hv
  have hc := h.own.cells (g := g) rfl j u (by
    have := rowCells_get [x] 0 j x u rfl hu
    simpa using this)
  rw [← hc]
  unfold Addr.add
  split <;> simp_all
/-- A node more. -/
theorem RowR.push {a a' : World} {base : Nat} {L : List (Nd × Value × Value)} {nd : Nd} {sv kv v' : Value} (h : RowR n₀ rb a w base v L) (hN : NodeV (KB n₀ rb a' w) w nd sv kv) (ha : a.heap.size ≤ a'.heap.size) (hv : ∀ g, v.ownBlock = some g → g < a'.heap.size)
    (hO : w'.ownsRow base 27 7 v' (L.length + 1) (rowCells L ++ ndCells nd sv kv)) (hg : w.grownBy w' v.ownBlock) (hb : v'.ownBlock = v.ownBlock ∨ v'.ownBlock = some w.heap.size) :
    RowR n₀ rb a w' base v' (L ++ [(nd, sv, kv)]) := by
  have hF : ∀ b, KB n₀ rb a w b ∧ some b ≠ v.ownBlock → (KB n₀ rb a w' b ∧ some b ≠ v'.ownBlock) ∧ w'.heap[b]? = w.heap[b]? := by
    rintro b ⟨⟨⟨h1, h2⟩, h3⟩, h4⟩
    have hs := hg.block b h1 h4
    refine ⟨⟨⟨⟨Nat.lt_of_lt_of_le h1 hg.size, h2.imp id fun ⟨k1, k2⟩ => ⟨k1, fun ⟨cs, z, hh⟩ => k2 ⟨cs, z, by rw [← hs]; exact hh⟩⟩⟩, h3.imp id fun k => k.keep hs⟩, ?_⟩, hs⟩
    rcases hb with e | e
    · rw [e]; exact h4
    · rw [e]
      intro e'
      have := Option.some.inj e'
      omega
  refine ⟨?_, fun x hx => ?_, h.low⟩
  · rw [List.length_append, rowCells_append, rowCells_one]
    exact hO
  · rcases List.mem_append.1 hx with hx | hx
    · exact (h.nodes x hx).keep hF
    · obtain rfl := List.mem_singleton.1 hx
      exact (hN.keep (K' := fun b => KB n₀ rb a w b ∧ some b ≠ v.ownBlock) fun b hb' => ⟨⟨⟨hb'.1, hb'.2.imp (fun k => Nat.le_trans ha k) id⟩, fun e => by
        rcases hb'.2 with k | ⟨_, _, k⟩
        · have := hv b e.symm
          omega
        · obtain ⟨cs, hh⟩ := own_block h.own e
          exact ne_of_types k hh (by decide) rfl⟩, rfl⟩).keep hF

theorem nd_one {nd : Nd} {A B : Option Addr} {n c m e : Nat} : ∀ u ∈ ndCells nd (.slice A n c) (.slice B m e), u.oneCell' = true := by
  intro u hu
  simp [ndCells] at hu
  rcases hu with rfl | rfl | rfl | rfl | rfl | rfl | rfl <;> rfl

theorem wpList_append_node {ops : Array Oper} {rest : List Oper} {o : Oper} {a : Act} {Q : Exit → Act → World → Prop} (w : World) (hgd : o.guard = none) (x y : Operand)
    (ho : o.op = .call { callee := .builtin .append, args := #[x, y], argTypes := #[25, 25] }) (base : Nat) (i : TypeInfo) (hi : Tryd.prog.info? 27 = some i) (hz : i.zero = some (.agg zeros)) (hsize : i.size = 7) (hby : i.bytes = 88)
    (v : Value) (L : List (Nd × Value × Value)) (hs : a.eval x = v) (hown : w.ownsRow base 27 7 v L.length (rowCells L)) (b : Nat) (nd : Nd) (A B : Option Addr) (n c m e : Nat) (hy : a.eval y = .slice (some ⟨b, 0, none⟩) 1 1)
    (hb : Blk w b 27 #[.int .i64 nd.kind, .int .i64 nd.lo, .int .i64 nd.hi, .int .i64 nd.mode, .int .i64 nd.ref, .slice A n c, .slice B m e]) (hL : L.length ≤ 1000) (hbase : base ≤ w.heap.size)
    (h : ∀ v' w', w'.ownsRow base 27 7 v' (L.length + 1) (rowCells L ++ ndCells nd (.slice A n c) (.slice B m e)) → w.grownBy w' v.ownBlock → (v'.ownBlock = v.ownBlock ∨ v'.ownBlock = some w.heap.size) → wpList Tryd.prog ops Q rest (a.put o.dst v') w') : wpList Tryd.prog ops Q (o :: rest) a w := by
  refine wpList_plain hgd fun K hK => ?_
  obtain ⟨v', w', hrun, h2, h3, _, h5⟩ := run_append_own_at (P := Tryd.prog) w base 25 o.type 27 i (.agg zeros) 7 88 Tryd.underlying25 hi hz hsize hby rfl (by decide) v L.length (rowCells L) hown ⟨b, 0, none⟩ 1 1 (ndCells nd (.slice A n c) (.slice B m e)) rfl
    (fun j u hu => by
      have := NCells.of_blk hb j u hu
      rw [← this]
      unfold Addr.add
      split <;> simp_all) nd_one (by unfold maxLen; omega) (by omega) hbase
  unfold Oper.wp execOp
  simp only [ho, resolve, invoke, builtin, Sem.run_bind, Sem.run_pure, Result.andThen_ok, List.map_toArray, List.map_cons, List.map_nil, hs, hy, hrun]
  exact hK _ _ (h v' w' h2 h3 h5)

end Go.Proofs.YthipgidddgdojaaDoor
