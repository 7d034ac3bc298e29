/- Package history: a version more. -/
import Derived.Test.YtefgobmpleoafaaGreatDoorJHsB
import Derived.Deep.RegionWith
import Derived.Deep.RegionLaw
import Derived.Deep.RegionHeld
import Derived.Deep.Cut
import Derived.Laws.StructEq
namespace Go.Proofs.YtefgobmpleoafaaGreatDoor
open Go.RowKit Go.Maps
variable {w w' w'' : World} {S U : Nat → Prop} {g : Nat} {H : Hs}

def Stp (P : Prop) := P
theorem stp {P : Prop} (h : Stp P) : P := h
theorem info_set14 : (Tryz.prog.info? 54).map (fun i => (i.zero, i.size, i.bytes)) = some (some (.agg #[.int .i64 0, .int .i64 0, .int .i64 0, .int .i64 0, .slice none 0 0]), 5, 56) := by kernel_rfl
/-- append of one set that lies in a block of its own, as a step of a region that draws: the row behind it is the elder one's block, or a new one. -/
theorem step_app_set (w : World) {ops : Array Oper} {o : Oper} {a : Act} {K : Act → World → Prop} {Q : Exit → Act → World → Prop} {E : Prop} (hgd : o.guard = none) (dd : Nat) (hdd : o.dst = some dd) (x y : Operand)
    (ho : o.op = .call { callee := .builtin .append, args := #[x, y], argTypes := #[77, 77] })
    (v : Value) (L : List SeV) (hs : a.eval x = v) (hown : w.ownsRow 0 54 5 v L.length (seCells L)) (b : Nat) (s : RS) (A : Option Addr) (n c : Nat) (hy : a.eval y = .slice (some ⟨b, 0, none⟩) 1 1)
    (hb : Blk w b 54 #[.int .i64 s.de, .int .i64 s.cl, .int .i64 s.fu, .int .i64 s.st, .slice A n c]) (hL : L.length ≤ 1000000)
    (h : ∀ v' w', w'.ownsRow 0 54 5 v' (L.length + 1) (seCells (L ++ [(s, .slice A n c)])) → w.grownBy w' v.ownBlock → (v'.ownBlock = v.ownBlock ∨ v'.ownBlock = some w.heap.size) → K { tmps := a.tmps.setIfInBounds dd v', defers := a.defers } w') :
    if Region.wanted o (yielded ops a.tmps) = true then Oper.wp Tryz.prog o a w K Q else E := by
  have hw : Region.wanted o (yielded ops a.tmps) = true := by simp [Region.wanted, hgd]
  rw [if_pos hw]
  obtain ⟨i0, hi, hz0, hz1, hz2⟩ := info_three info_set14
  obtain ⟨v', w', hrun, h2, h3, _, h5⟩ := run_append_own_at (P := Tryz.prog) w 0 77 o.type 54 i0 (.agg #[.int .i64 0, .int .i64 0, .int .i64 0, .int .i64 0, .slice none 0 0]) 5 56 Tryz.underlying77 hi hz0 hz1 hz2 rfl (by decide) v L.length (seCells L) hown ⟨b, 0, none⟩ 1 1 (SeV.cells (s, .slice A n c)) rfl
    (fun j u hu => by
      have hl : j < 5 := by simpa [SeV.cells] using (List.getElem?_eq_some_iff.1 hu).1
      have e : (⟨b, 0, none⟩ : Addr).add j = ⟨b, j, none⟩ := by unfold Addr.add; split <;> simp_all
      rw [e, hb.cell j, ← hu]
      simp [SeV.cells]) (seV_one s A n c) (by unfold maxLen; omega) (by omega) (Nat.zero_le _)
  unfold Oper.wp execOp
  simp only [ho, resolve, invoke, builtin, Sem.run_bind, Sem.run_pure, Result.andThen_ok, List.map_toArray, List.map_cons, List.map_nil, hs, hy, hrun]
  show K (a.put o.dst v') w'
  rw [hdd]
  exact h v' w' (by rw [seCells_append, seCells_one]; exact h2) h3 h5
theorem map_ne {b n : Nat} {D : DataW La} {m : Nat} {e : TypeId} {v : Value} {xs : List Value} {sz : Nat} (h : w.ownsMap Tryz.prog 3 laR b n D) (ho : w.ownsRow 0 e sz v m xs) : v.ownBlock ≠ some b := by
  obtain ⟨es, clock, hb, _⟩ := h
  rcases ho.2 with ⟨rfl, _⟩ | ⟨g, cap, cur, rfl, _, hh, _⟩
  · simp [Value.ownBlock]
  · intro e
    obtain rfl : g = b := by simpa [Value.ownBlock] using e
    rw [hb] at hh
    cases hh
theorem map_blk {b n : Nat} {D : DataW La} {t : TypeId} {cs : Array Value} (h : w.ownsMap Tryz.prog 3 laR b n D) (hg : Blk w g t cs) : b ≠ g := by
  rintro rfl
  obtain ⟨es, clock, hb, _⟩ := h
  unfold Blk at hg
  rw [hb] at hg
  cases hg
/-- What is left when a version is put behind the others. -/
theorem HistV.grown {vv v' : Value} {L : List SeV} {mb m : Nat} {D : DataW La} {w1 w2 : World} {s : RS} {A : Option Addr} {n c : Nat} (h : HistV w g S U H vv L mb m D) (hF : Below w.heap.size w w1) (hs : (rulesM pvM s).1 = 0) (hfar : Far w.heap.size (.slice A n c)) (hr : RulesV w1.heap.size w1 (.slice A n c) s.rs)
    (ho : w2.ownsRow 0 54 5 v' (L.length + 1) (seCells (L ++ [(s, .slice A n c)]))) (hg : w1.grownBy w2 vv.ownBlock) (hv : v'.ownBlock = vv.ownBlock ∨ v'.ownBlock = some w1.heap.size) :
    HistAt (w2.setCell ⟨g, 1, none⟩ v') g (fun i => S i ∨ v'.ownBlock = some i) (fun i => U i ∨ (S i ∨ v'.ownBlock = some i)) { H with vs := H.vs ++ [s] } ∧ Fh S w (w2.setCell ⟨g, 1, none⟩ v') ∧ ∀ i, v'.ownBlock = some i → S i ∨ w.heap.size ≤ i := by
  have hsz : w.heap.size ≤ w1.heap.size := hF.size
  have hgo : ∀ i, vv.ownBlock = some i → i < w.heap.size := fun i hi => h.uold i (h.wide i (h.foot i hi))
  have hF2 : Fh S w w2 := (Fh.of_below hF).grown hg fun k hk => .inl (h.foot k hk)
  have hF3 : Fh S w (w2.setCell ⟨g, 1, none⟩ v') := hF2.set_ (.inl h.self) v'
  have hnew : ∀ i, v'.ownBlock = some i → S i ∨ w.heap.size ≤ i := fun i hi => by
    rcases hv with e | e
    · exact .inl (h.foot i (e ▸ hi))
    · rw [e] at hi
      injection hi with hi
      exact .inr (by omega)
  have b2 : Blk w2 g 80 #[.int .i64 (H.n : Int), vv, .map (some mb)] := (h.blk.on hF).grown hg fun e => own_ne h.row h.blk (by decide) e.symm
  have hgS : S g := h.self
  have hne : v'.ownBlock ≠ some g := own_ne ho b2 (by decide)
  have hmS : some mb ≠ vv.ownBlock := fun e => map_ne h.map_ h.row e.symm
  have hmg : mb ≠ g := map_blk h.map_ h.blk
  have hm2 : w2.ownsMap Tryz.prog 3 laR mb m D := (map_keep h.map_ (hF.block mb (h.uold mb (h.wide mb h.smap)))).kept hg hmS
  have b1 : Fh (fun i => U i ∨ (S i ∨ v'.ownBlock = some i)) w1 (w2.setCell ⟨g, 1, none⟩ v') := (Fh.grown (Fh.refl w1) hg fun k hk => .inl (.inr (.inl (h.foot k hk)))).set_ (.inl (.inr (.inl h.self))) v'
  refine ⟨⟨v', L ++ [(s, .slice A n c)], mb, m, D, by simpa using b2.set_ 1 v', ?_, by simp [h.vs], ?_, map_keep hm2 (Below.heap_setCell _ _ _ _ hmg), h.cm, h.few, ⟨by simp, fun x hx => ?_⟩, fun i hi => .inr hi, .inl h.self, .inl h.smap, fun i hi => .inr hi, fun i hi => ?_⟩, hF3, hnew⟩
  · rw [List.length_append]
    exact own_keep ho fun i hi => Below.heap_setCell _ _ _ _ (by rintro rfl; exact hne hi.symm)
  · intro x hx
    rcases List.mem_append.1 hx with hx | hx
    · have a : RulesF (fun i => U i ∨ (S i ∨ v'.ownBlock = some i)) w x.2 x.1.rs := (h.rul x hx).sub fun i hi => by
        rcases hi with hi | hi | hi
        · exact .inl hi
        · exact .inl (h.wide i hi)
        · exact (hnew i hi).imp (h.wide i) id
      exact a.next (hF3.sub fun i _ hi => .inr (.inl hi))
    · rw [List.mem_singleton.1 hx]
      have a : RulesF U w1 (.slice A n c) s.rs := RulesF.of_far hr hfar fun i hi => h.uold i hi
      have a' : RulesF (fun i => U i ∨ (S i ∨ v'.ownBlock = some i)) w1 (.slice A n c) s.rs := a.sub fun i hi => by
        rcases hi with hi | hi | hi
        · exact .inl hi
        · exact .inl (h.wide i hi)
        · rcases hv with e | e
          · exact .inl (h.wide i (h.foot i (e ▸ hi)))
          · rw [e] at hi
            injection hi with hi
            exact .inr (by omega)
      exact a'.next b1
  · rcases List.mem_append.1 hx with hx | hx
    · exact h.ok.2 x hx
    · rw [List.mem_singleton.1 hx]; exact hs
  · have hs3 := hF3.size
    rcases hi with hi | hi | hi
    · exact Nat.lt_of_lt_of_le (h.uold i hi) hs3
    · exact Nat.lt_of_lt_of_le (h.uold i (h.wide i hi)) hs3
    · have := (World.ownsRow.lt ho i hi).2
      simpa [World.setCell] using this
end Go.Proofs.YtefgobmpleoafaaGreatDoor

