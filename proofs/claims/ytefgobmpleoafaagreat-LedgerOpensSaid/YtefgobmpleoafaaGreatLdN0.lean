/- Layer 13: what comes of a state by a record, whatever its Kind; a row of records behind another one. -/
import Derived.Test.YtefgobmpleoafaaGreatMLg
import Derived.Test.YtefgobmpleoafaaGreatLdI
namespace Go.Proofs.YtefgobmpleoafaaGreat
open Go.RowKit
variable {w w' : World} {S : Nat → Prop}

theorem change_any (s : St) (r : Rc) (A B : Option Addr) (n c m d : Nat) (w : World) (hs : s.ok = true) (hr : r.ok = true) (hf : fits s r = true) (hl : LogV S w (.slice A n c) s.log) (hrl : LogV S w (.slice B m d) r.log) (hS : ∀ i, S i → i < w.heap.size) :
    Calls Tryz.prog 38 #[s.val (.slice A n c), r.val (.slice B m d)] w fun e w' => ∃ A' n' c', e = .returned ((chg s r).val (.slice A' n' c')) ∧ LogV S w' (.slice A' n' c') (chg s r).log ∧ n' = (chg s r).log.length ∧ Below w.heap.size w w' := by
  obtain ⟨vi, no, co, ac, l⟩ := s
  obtain ⟨k, a, b, rl⟩ := r
  obtain ⟨_, _, h5, _, _, _⟩ := St.ok_iff.1 hs
  obtain ⟨⟨k1, k2⟩, ⟨k3, k4⟩, _, k7, _⟩ := Rc.ok_iff.1 hr
  simp only at *
  have hk : k = 1 ∨ k = 2 ∨ k = 3 ∨ k = 4 ∨ k = 5 := by omega
  rcases hk with rfl | rfl | rfl | rfl | rfl
  · exact chg1_any vi no co ac 1 a b A B n c m d l rl w rfl hl hrl hS
  · exact chg2_any vi no co ac 2 a b A B n c m d l rl w rfl hl hrl hS (by omega) (by have : (rl.length : Int) = 1 := k7; omega)
  · refine chg3_any vi no co ac 3 a b A B n c m d l rl w rfl hl hrl hS ⟨k3, ?_⟩
    unfold fits at hf
    simp only [Int.reduceEq, if_false, true_or, if_true] at hf
    exact (inR_iff.1 hf).2
  · exact chg4_any vi no co ac 4 a b A B n c m d l rl w rfl hl hrl hS
  · exact chg5_any vi no co ac 5 a b A B n c m d l rl w rfl hl hrl hS
theorem RecsO.ne {base : Nat} {v : Value} {l : List Rc} (h : RecsO base w v l) {g : Nat} {t : TypeId} {cs : Array Value} (hg : Blk w g t cs) (ht : 82 ≠ t) : v.ownBlock ≠ some g := by
  obtain ⟨L, _, h, _⟩ := h
  exact own_ne h hg ht
set_option maxRecDepth 100000 in
/-- append of a row of records to another one, as a step of a region that draws. -/
theorem step_append_recs (w : World) {ops : Array Oper} {o : Oper} {a : Act} {K : Act → World → Prop} {Q : Exit → Act → World → Prop} {E : Prop} (hgd : o.guard = none) (dd : Nat) (hdd : o.dst = some dd) (x y : Operand)
    (ho : o.op = .call { callee := .builtin .append, args := #[x, y], argTypes := #[64, 64] })
    (base : Nat) (v u : Value) (l1 l2 : List Rc) (hs : a.eval x = v) (hown : RecsO base w v l1) (hy : a.eval y = u) (hown2 : RecsO base w u l2) (h63 : l1.length + l2.length ≤ 1000000) (hbase : base ≤ w.heap.size)
    (h : ∀ v' w', RecsO base w' v' (l1 ++ l2) → w.grownBy w' v.ownBlock → K { tmps := a.tmps.setIfInBounds dd v', defers := a.defers } w') :
    if Region.wanted o (yielded ops a.tmps) = true then Oper.wp Tryz.prog o a w K Q else E := by
  obtain ⟨i0, hi, hz0, hz1, hz2⟩ := info_three info_rec13
  obtain ⟨L1, rfl, h1, hx1⟩ := hown
  obtain ⟨L2, rfl, h2, hx2⟩ := hown2
  rw [List.length_map, List.length_map] at h63
  obtain ⟨A, c, rfl⟩ := orow_form h2
  refine step_append_gen w hgd dd hdd x y 64 ho base 82 i0 _ 4 48 Tryz.underlying64 hi hz0 hz1 hz2 rfl (by decide) v L1.length (rcCells L1) hs h1 A L2.length c (rcCells L2) hy (rcCells_len L2) (fun hA => ?_) (fun ad ha j u hu => ?_) (fun u hu => ?_) (by unfold maxLen; omega) (by omega) hbase (fun v' w' h2' h3 => h v' w' ⟨L1 ++ L2, by simp, by rw [List.length_append, rcCells_append]; exact h2', fun x hm => ?_⟩ h3)
  · rcases h2.2 with ⟨_, hn⟩ | ⟨g, cap, cur, hv, _⟩
    · exact hn
    · rw [hA] at hv; cases hv
  · rcases h2.2 with ⟨hv, hn⟩ | ⟨g, cap, cur, hv, _⟩
    · rw [ha] at hv; cases hv
    · have hg : A = some ⟨g, 0, none⟩ := by injection hv
      subst hg
      have := h2.cells (g := g) rfl j u hu
      obtain rfl := Option.some.inj ha
      exact this
  · obtain ⟨x, hx, hu⟩ := List.mem_flatMap.1 hu
    obtain ⟨⟨Ax, cx, he⟩, _⟩ := hx2 x hx
    rw [he] at hu
    simp at hu
    rcases hu with rfl | rfl | rfl | rfl <;> rfl
  · rcases List.mem_append.1 hm with hm | hm
    · exact ⟨(hx1 x hm).1, LEntV.grownR (hx1 x hm).2 h1 h3⟩
    · exact ⟨(hx2 x hm).1, LEntV.grownR (hx2 x hm).2 h1 h3⟩
theorem runs_snoc {s t : St} {l : List Rc} {k : Nat} {r : Rc} (h : runs s (l.take k) = some t) (hr : l[k]? = some r) (hf : fits t r = true) : runs s (l.take (k + 1)) = some (chg t r) := by
  obtain ⟨hk, rfl⟩ := List.getElem?_eq_some_iff.1 hr
  rw [List.take_succ_eq_append_getElem hk, runs_app, h, Option.bind_some, runs_one hf]
theorem runs_stop {s t : St} {l : List Rc} {k : Nat} {r : Rc} (h : runs s (l.take k) = some t) (hr : l[k]? = some r) (hf : fits t r = false) : runs s l = none := by
  obtain ⟨hk, rfl⟩ := List.getElem?_eq_some_iff.1 hr
  have e : l = l.take k ++ (l[k] :: l.drop (k + 1)) := by
    rw [← List.drop_eq_getElem_cons hk, List.take_append_drop]
  rw [e, runs_app, h, Option.bind_some, runs_cons, hf]
  rfl
end Go.Proofs.YtefgobmpleoafaaGreat
