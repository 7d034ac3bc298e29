/- The document's things made of the program's: colandermade's Delta, Entries. -/
import Derived.Test.YtefgobmpleoafaaGreatPkO
import Derived.Deep.RegionHeld
namespace Go.Proofs.YtefgobmpleoafaaGreat
open Go.RowKit
variable {w w' : World}

/-- An operation of a region that draws its order, taken first: its slot is named. -/
theorem take_d {P : Program} {md : Region.Mode} {ops : Array Oper} {Q : Exit → Act → World → Prop} {S : World → Prop} {fuel : Nat} {listed : Array Bool} {a : Act} {w : World} (i d : Nat) (v : Value) (oi : Oper) (hi : ops[i]? = some oi) (hd : oi.dst = some d)
    (hs : Region.noSelect ops = true) (hf : Region.free md ops listed i = true) (hr : (Region.ready md ops listed).contains i = true)
    (hQ : ∀ c a w, Q (.panic c) (a.put oi.dst v) w → Q (.panic c) a w) (hy : YieldsIf P ops S oi v a) (hS : S w)
    (h : wpAnyH P md ops Q S fuel (listed.setIfInBounds i true) { tmps := a.tmps.setIfInBounds d v, defers := a.defers } w) : wpAnyH P md ops Q S (fuel + 1) listed a w :=
  wpAnyH_take hi hs hf hr hQ hy hS (by rw [hd]; exact h)
theorem infoX : (Tryz.prog.info? 125).map (fun i => (i.zero, i.size, i.bytes)) = some (some (.agg #[.int .i64 0, .int .i64 0, .int .i64 0, .int .i64 0, .string ⟨#[]⟩]), 5, 48) := by kernel_rfl
theorem OwnU.farset {base : Nat} {e : TypeId} {V : Value} {l : List Ru} (h : OwnU w base e V l) {a : Addr} (ha : V.ownBlock ≠ some a.block) (u : Value) : OwnU (w.setCell a u) base e V l := ownsRow_setCell_other h ha u
theorem OwnU.form {base : Nat} {e : TypeId} {V : Value} {l : List Ru} (h : OwnU w base e V l) : ∃ A c, V = .slice A l.length c := by
  obtain ⟨A, c, hv, _⟩ := h.set
  exact ⟨A, c, hv⟩
theorem Blk.c6 {g : Nat} {t : TypeId} {x0 x1 x2 x3 x4 x5 : Value} (h : Blk w g t #[x0, x1, x2, x3, x4, x5]) : w.cell? ⟨g, 0, none⟩ = some x0 ∧ w.cell? ⟨g, 1, none⟩ = some x1 ∧ w.cell? ⟨g, 2, none⟩ = some x2 ∧ w.cell? ⟨g, 3, none⟩ = some x3 ∧ w.cell? ⟨g, 4, none⟩ = some x4 ∧ w.cell? ⟨g, 5, none⟩ = some x5 :=
  ⟨h.cell 0, h.cell 1, h.cell 2, h.cell 3, h.cell 4, h.cell 5⟩
theorem ru_take {l : List Ru} {k : Nat} {r : Ru} (h : l[k]? = some r) : l.take (k + 1) = l.take k ++ [r] := by
  obtain ⟨hk, rfl⟩ := List.getElem?_eq_some_iff.1 h
  rw [List.take_succ_eq_append_getElem hk]
theorem RulesV.on_ {w w' : World} {v : Value} {l : List Ru} (h : RulesV w.heap.size w v l) (hB : Below w.heap.size w w') : RulesV w'.heap.size w' v l := (h.below hB).more hB.size
set_option maxRecDepth 100000 in
set_option maxHeartbeats 4000000 in
theorem madeDelta_any (s : Dl) (v : Value) (D : Option Addr) (dn dc : Nat) (w : World) (hmax : s.put.length ≤ 1000) (hS : RulesV w.heap.size w v s.put) :
    Calls Tryz.prog 59 #[.agg #[.int .i64 s.de, .int .i64 s.cl, .int .i64 s.fu, .int .i64 s.st, v, .slice D dn dc]] w
      fun e w' => ∃ V, e = .returned (.agg #[.int .i64 s.de, .int .i64 s.cl, .int .i64 s.fu, .int .i64 s.st, V, .slice D dn dc]) ∧ OwnU w' w.heap.size 125 V s.put ∧ Below w.heap.size w w' := by
  obtain ⟨A, cap, rfl⟩ := hS.form
  obtain ⟨i0, hi, hz0, hz1, hz2⟩ := info_three infoX
  have HS := Lib.hid hS
  clear hS
  go_enter Tryz.func59, Tryz.ntmps59
  go_wp2_with fail
  go_upto_region 3 with (fail)
  have hb0 : Below w.heap.size w (((w.alloc (.cells #[.int .i64 s.de, .int .i64 s.cl, .int .i64 s.fu, .int .i64 s.st, .slice A s.put.length cap, .slice D dn dc] 91)).alloc (.cells #[.int .i64 0, .int .i64 0, .int .i64 0, .int .i64 0, .slice none 0 0, .slice none 0 0] 76)).alloc (.cells #[.int .i64 s.de, .int .i64 s.cl, .int .i64 s.fu, .int .i64 s.st, .slice none 0 0, .slice D dn dc] 76)) := (((Below.refl _ _).alloc (Nat.le_refl _) _).alloc (by simp) _).alloc (by simp; omega) _
  have hz : Blk (((w.alloc (.cells #[.int .i64 s.de, .int .i64 s.cl, .int .i64 s.fu, .int .i64 s.st, .slice A s.put.length cap, .slice D dn dc] 91)).alloc (.cells #[.int .i64 0, .int .i64 0, .int .i64 0, .int .i64 0, .slice none 0 0, .slice none 0 0] 76)).alloc (.cells #[.int .i64 s.de, .int .i64 s.cl, .int .i64 s.fu, .int .i64 s.st, .slice none 0 0, .slice D dn dc] 76)) (w.heap.size + 1) 76 #[.int .i64 0, .int .i64 0, .int .i64 0, .int .i64 0, .slice none 0 0, .slice none 0 0] := (Blk.at_new _ _ (by simp) _ _).alloc _
  have hx : Blk (((w.alloc (.cells #[.int .i64 s.de, .int .i64 s.cl, .int .i64 s.fu, .int .i64 s.st, .slice A s.put.length cap, .slice D dn dc] 91)).alloc (.cells #[.int .i64 0, .int .i64 0, .int .i64 0, .int .i64 0, .slice none 0 0, .slice none 0 0] 76)).alloc (.cells #[.int .i64 s.de, .int .i64 s.cl, .int .i64 s.fu, .int .i64 s.st, .slice none 0 0, .slice D dn dc] 76)) (w.heap.size + 2) 76 #[.int .i64 s.de, .int .i64 s.cl, .int .i64 s.fu, .int .i64 s.st, .slice none 0 0, .slice D dn dc] := Blk.at_new _ _ (by simp) _ _
  generalize ((w.alloc (.cells #[.int .i64 s.de, .int .i64 s.cl, .int .i64 s.fu, .int .i64 s.st, .slice A s.put.length cap, .slice D dn dc] 91)).alloc (.cells #[.int .i64 0, .int .i64 0, .int .i64 0, .int .i64 0, .slice none 0 0, .slice none 0 0] 76)).alloc (.cells #[.int .i64 s.de, .int .i64 s.cl, .int .i64 s.fu, .int .i64 s.st, .slice none 0 0, .slice D dn dc] 76) = w0 at *
  have HB0 := Lib.hid hb0
  have HZ0 := Lib.hid hz
  have HX0 := Lib.hid hx
  clear hb0 hz hx
  go_loopw [20] (fun i wr => ∃ (k : Nat) (V : Value), k ≤ s.put.length ∧ i = .int .i64 k ∧ Hid (Blk wr (w.heap.size + 2) 76 #[.int .i64 s.de, .int .i64 s.cl, .int .i64 s.fu, .int .i64 s.st, V, .slice D dn dc]) ∧ Hid (Blk wr (w.heap.size + 1) 76 #[.int .i64 0, .int .i64 0, .int .i64 0, .int .i64 0, .slice none 0 0, .slice none 0 0]) ∧ Hid (OwnU wr w.heap.size 125 V (s.put.take k)) ∧ Hid (Below w.heap.size w wr)) (fun i _ => s.put.length - (intOf i).toNat)
  case atStart => exact ⟨0, _, Nat.zero_le _, rfl, HX0, HZ0, Lib.hid (OwnU.nil _ _ _), HB0⟩
  case round =>
    obtain ⟨k, V, hk, rfl, HX, HZ, HO, HB⟩ := hrel
    by_cases hlt : k < s.put.length
    · obtain ⟨b, off, rfl, hb, c0, c1, c2, c3, c4⟩ := (HS.out.below HB.out).at_ hlt
      have HG := Lib.hid (List.getElem?_eq_getElem hlt)
      generalize s.put[k] = r at HG c0 c1 c2 c3 c4
      have HLt := Lib.hid hlt
      have HLen : Hid ((s.put.take k ++ [r]).length = k + 1) := Lib.hid (by simp; omega)
      have d4 := HX.out.cell 4
      have hlx := HX.out.lt
      have hne := own_ne HO.out HX.out (by decide)
      have HNe := Lib.hid hne
      clear hne hlt
      go_wp2_with (first
        | (at_builtin
           refine wpList_append_rule _ rfl (.tmp 25) (.tmp 27) 73 rfl w.heap.size 125 i0 (.agg #[.int .i64 0, .int .i64 0, .int .i64 0, .int .i64 0, .string ⟨#[]⟩]) 48 Tryz.underlying73 hi hz0 hz1 hz2 rfl V (s.put.take k) rfl ((HO.out.alloc _).alloc _) _ 1 r rfl (Blk.at_new _ _ (by simp) _ _) (by simp; omega) (by decide) (by have := HB.out.size; simp; omega) ?_
           intro V' w1 hown' hgrow'
           obtain ⟨VA, VC, hV⟩ := hown'.form
           rw [HLen.out] at hV
           subst hV
           have hX1 := ((HX.out.alloc (.cells #[.int .i64 r.id, .int .i64 r.pr, .int .i64 r.ac, .int .i64 r.sc, .string r.pat] 114)).alloc (.cells #[.int .i64 r.id, .int .i64 r.pr, .int .i64 r.ac, .int .i64 r.sc, .string r.pat] 125)).grown hgrow' (fun e => HNe.out e.symm)
           have g4 := hX1.frozen 4
           have e4 := hX1.cell 4
           have hl1 := hX1.lt)
        | go_in)
      have hne1 := own_ne hown' hX1 (by decide)
      have hX2 : Blk (w1.setCell ⟨w.heap.size + 2, 4, none⟩ (.slice VA (k + 1) VC)) (w.heap.size + 2) 76 #[.int .i64 s.de, .int .i64 s.cl, .int .i64 s.fu, .int .i64 s.st, .slice VA (k + 1) VC, .slice D dn dc] := hX1.set_ 4 _
      have hO2 : OwnU (w1.setCell ⟨w.heap.size + 2, 4, none⟩ (.slice VA (k + 1) VC)) w.heap.size 125 (.slice VA (k + 1) VC) (s.put.take (k + 1)) := by
        rw [ru_take HG.out]
        exact hown'.farset hne1 _
      have hB1 : Below w.heap.size w w1 := ((HB.out.alloc HB.out.size _).alloc (by have := HB.out.size; simp; omega) _).grown hgrow' (by have := HB.out.size; simp; omega) (fun j hj => (World.ownsRow.lt HO.out j hj).1)
      have hZ1 : Blk w1 (w.heap.size + 1) 76 #[.int .i64 0, .int .i64 0, .int .i64 0, .int .i64 0, .slice none 0 0, .slice none 0 0] := ((HZ.out.alloc _).alloc _).grown hgrow' (fun e => by
        have := own_ne HO.out HZ.out (by decide)
        exact this e.symm)
      have HX2 := Lib.hid hX2
      have HO2 := Lib.hid hO2
      have HB2 := Lib.hid (hB1.setCell (p := ⟨w.heap.size + 2, 4, none⟩) (show w.heap.size ≤ w.heap.size + 2 by omega) (.slice VA (k + 1) VC))
      have HZ2 := Lib.hid (hZ1.far (p := ⟨w.heap.size + 2, 4, none⟩) (show w.heap.size + 1 ≠ w.heap.size + 2 by omega) (.slice VA (k + 1) VC))
      clear hne1 hX2 hO2 hB1 hZ1 hX1 hown' hgrow' g4 e4
      go_roundw
      case rel => exact ⟨k + 1, _, HLt.out, by go_num, HX2, HZ2, HO2, HB2⟩
      case measure => have := HLt.out; simp [intOf]; omega
    · obtain rfl : k = s.put.length := by omega
      have hO := HO.out
      rw [List.take_length] at hO
      obtain ⟨VA, VC, rfl⟩ := hO.form
      obtain ⟨z0, z1, z2, z3, z4, z5⟩ := HZ.out.c6
      have f := HZ.out.frozen
      obtain ⟨x0, x1, x2, x3, x4, x5⟩ := HX.out.c6
      have hlr := HZ.out.lt
      have hlx := HX.out.lt
      have HOf := Lib.hid hO
      have hne := own_ne hO HZ.out (by decide)
      have HNe := Lib.hid hne
      clear hO hne
      go_wp2
      refine bodyPost_ret (v := .agg #[.int .i64 s.de, .int .i64 s.cl, .int .i64 s.fu, .int .i64 s.st, .slice VA s.put.length VC, .slice D dn dc]) (by simp [results, Tryz.results59, go_sem, *]) rfl ⟨_, rfl, ?_, ?_⟩
      · have k : ∀ {W : World} {V : Value} {l : List Ru}, OwnU W w.heap.size 125 V l → V.ownBlock ≠ some (w.heap.size + 1) → ∀ (i : Nat) (u : Value), OwnU (W.setCell ⟨w.heap.size + 1, i, none⟩ u) w.heap.size 125 V l := fun h ha i u => OwnU.farset h (a := ⟨w.heap.size + 1, i, none⟩) ha u
        have n := HNe.out
        exact k (k (k (k (k (k HOf.out n 0 _) n 1 _) n 2 _) n 3 _) n 4 _) n 5 _
      · have k : ∀ {W : World}, Below w.heap.size w W → ∀ (i : Nat) (u : Value), Below w.heap.size w (W.setCell ⟨w.heap.size + 1, i, none⟩ u) := fun h i u => h.setCell (p := ⟨w.heap.size + 1, i, none⟩) (by simp) u
        exact k (k (k (k (k (k HB.out 0 _) 1 _) 2 _) 3 _) 4 _) 5 _


/-- A row of the document's entries; their numbers of Drop are the program's own. -/
def OwnX (n₀ base : Nat) (w : World) (v : Value) (l : List En) : Prop :=
  ∃ L : List EnV, L.map (·.1) = l ∧ w.ownsRow base 78 9 v L.length (enCells L) ∧ ∀ x ∈ L, OwnU w base 125 x.2.1 x.1.d.put ∧ Row n₀ w x.2.2 (zI x.1.d.drop)
section
variable {n₀ base : Nat} {v : Value} {l : List En}
theorem OwnX.nil (n₀ base : Nat) (w : World) : OwnX n₀ base w (.slice none 0 0) [] := ⟨[], rfl, World.ownsRow_nil _ _ _ _, fun x h => by cases h⟩
theorem OwnX.len (h : OwnX n₀ base w v l) : ∃ A c, v = .slice A l.length c := by
  obtain ⟨L, rfl, h, _⟩ := h
  rw [List.length_map]
  exact orow_form h
theorem OwnX.lt (h : OwnX n₀ base w v l) (k : Nat) (hk : v.ownBlock = some k) : base ≤ k ∧ k < w.heap.size := by
  obtain ⟨L, rfl, h, _⟩ := h
  exact World.ownsRow.lt h k hk
theorem OwnX.on (h : OwnX n₀ base w v l) (hb : n₀ ≤ w.heap.size) (k : Below w.heap.size w w') : OwnX n₀ base w' v l := by
  obtain ⟨L, hL, h, hx⟩ := h
  exact ⟨L, hL, own_kept h fun i h1 _ _ => k.block i h1, fun x hm => ⟨own_kept (hx x hm).1 fun i h1 _ _ => k.block i h1, (hx x hm).2.below (k.mono hb)⟩⟩
theorem OwnX.read (h : OwnX n₀ base w v l) (hb : n₀ ≤ w.heap.size) : EntsV w.heap.size w v l := by
  obtain ⟨L, rfl, h, hx⟩ := h
  have h0 := h
  rcases h.2 with ⟨hv, hn⟩ | ⟨g, cap, cur, hv, _, hh, hnc, _⟩
  · obtain rfl : L = [] := List.length_eq_zero_iff.1 hn
    subst hv
    exact EntsV.nil _ _
  · subst hv
    refine ⟨_, cap, by rw [List.length_map], by rw [List.length_map]; exact hnc, fun _ => ⟨g, 0, rfl, lt_of_some hh, fun i r hr => ?_⟩⟩
    rw [List.getElem?_map, Option.map_eq_some_iff] at hr
    obtain ⟨x, hx', rfl⟩ := hr
    have hadd : ∀ j, (⟨g, 0, none⟩ : Addr).add j = ⟨g, 0 + j, none⟩ := fun j => by unfold Addr.add; split <;> simp_all
    have c : ∀ k u, k < 9 → (x.1.cells x.2.1 x.2.2)[k]? = some u → w.cell? ⟨g, 0 + i * 9 + k, none⟩ = some u := fun k u hk hu => by
      have := h.cells (g := g) rfl _ _ ((enCells_get L i k x hx' hk).trans hu)
      rw [hadd] at this
      rwa [Nat.add_assoc]
    obtain ⟨h1, h2⟩ := hx x (List.mem_of_getElem? hx')
    exact ⟨x.2.1, x.2.2, ⟨c 0 _ (by omega) rfl, c 1 _ (by omega) rfl, c 2 _ (by omega) rfl, c 3 _ (by omega) rfl, c 4 _ (by omega) rfl, c 5 _ (by omega) rfl, c 6 _ (by omega) rfl, c 7 _ (by omega) rfl, c 8 _ (by omega) rfl⟩, OwnU.set h1, h2.more hb⟩
end
theorem Row.own_below {w w' : World} {n₀ : Nat} {row : Value} {v : Value} {xs : List Value} (h : Row n₀ w v xs) (hb : n₀ ≤ w.heap.size) (hg : w.grownBy w' row.ownBlock) (hr : ∀ k, row.ownBlock = some k → n₀ ≤ k) : Row n₀ w' v xs :=
  h.below ⟨hg.os, hg.tape, hg.output, hg.size, fun i hi => hg.block i (by omega) (fun e => by have := hr i e.symm; omega)⟩
/-- append of one of the document's entries, that lies in a block of its own, onto a row of the call's own, as a step of a region that draws. -/
theorem step_append_entX (w : World) {ops : Array Oper} {o : Oper} {a : Act} {K : Act → World → Prop} {Q : Exit → Act → World → Prop} {E : Prop} (hgd : o.guard = none) (dd : Nat) (hdd : o.dst = some dd) (s x : Operand)
    (ho : o.op = .call { callee := .builtin .append, args := #[s, x], argTypes := #[29, 29] }) (n₀ base : Nat) (hn₀ : n₀ ≤ base) (i : TypeInfo) (z : Value) (bytes : Nat) (hi : Tryz.prog.info? 78 = some i) (hz : i.zero = some z)
    (hsize : i.size = 9) (hby : i.bytes = bytes) (hzs : z.cells.size = 9) (v : Value) (l : List En) (hs : a.eval s = v) (hown : OwnX n₀ base w v l)
    (b c : Nat) (r : En) (A B : Option Addr) (m mc n nc : Nat) (hx : a.eval x = .slice (some ⟨b, 0, none⟩) 1 c) (hr : Blk w b 78 #[.int .i64 r.vi, .int .i64 r.cl, .int .i64 r.re, .int .i64 r.d.de, .int .i64 r.d.cl, .int .i64 r.d.fu, .int .i64 r.d.st, .slice A m mc, .slice B n nc])
    (hp : OwnU w base 125 (.slice A m mc) r.d.put) (hd : Row n₀ w (.slice B n nc) (zI r.d.drop)) (h63 : l.length + 1 ≤ 1000000) (hbytes : bytes ≤ 200) (hbase : base ≤ w.heap.size)
    (h : ∀ v' w', OwnX n₀ base w' v' (l ++ [r]) → w.grownBy w' v.ownBlock → K { tmps := a.tmps.setIfInBounds dd v', defers := a.defers } w') :
    if Region.wanted o (yielded ops a.tmps) = true then Oper.wp Tryz.prog o a w K Q else E := by
  have hw : Region.wanted o (yielded ops a.tmps) = true := by simp [Region.wanted, hgd]
  rw [if_pos hw]
  obtain ⟨L, rfl, ho', hx'⟩ := hown
  rw [List.length_map] at h63
  have hm : (L.length + 1) * bytes ≤ 1000000 * 200 := Nat.mul_le_mul h63 hbytes
  obtain ⟨v', w', h1, h2, h3, h4, h5⟩ := run_append_own_at (P := Tryz.prog) w base 29 o.type 78 i z 9 bytes Tryz.underlying29 hi hz hsize hby hzs (by decide) v L.length (enCells L) ho' ⟨b, 0, none⟩ 1 c (r.cells (.slice A m mc) (.slice B n nc)) rfl (fun j u hu => by
    have hadd : (⟨b, 0, none⟩ : Addr).add j = ⟨b, 0 + j, none⟩ := by unfold Addr.add; split <;> simp_all
    rw [hadd, Nat.zero_add, hr.cell j, ← hu, En.cells, ← List.getElem?_toArray]) (en_one r A B m mc n nc) (by unfold maxLen; omega) (by omega) hbase
  unfold Oper.wp execOp
  simp only [ho, resolve, invoke, builtin, Sem.run_bind, Sem.run_pure, Result.andThen_ok, List.map_toArray, List.map_cons, List.map_nil, hs, hx, h1]
  have hlow : ∀ k, v.ownBlock = some k → n₀ ≤ k := fun k hk => Nat.le_trans hn₀ (World.ownsRow.lt ho' k hk).1
  have hb0 : n₀ ≤ w.heap.size := by omega
  show K (a.put o.dst v') w'
  rw [hdd]
  refine h v' w' ⟨L ++ [(r, .slice A m mc, .slice B n nc)], by simp, by rw [List.length_append, enCells_append, enCells_one]; exact h2, fun x hm => ?_⟩ h3
  rcases List.mem_append.1 hm with hm | hm
  · exact ⟨own_grown (hx' x hm).1 ho' (by decide) h3, (hx' x hm).2.own_below hb0 h3 hlow⟩
  · obtain rfl := List.mem_singleton.1 hm
    exact ⟨own_grown hp ho' (by decide) h3, hd.own_below hb0 h3 hlow⟩
theorem info_xentry : (Tryz.prog.info? 78).map (fun i => (i.zero, i.size, i.bytes)) = some (some (.agg #[.int .i64 0, .int .i64 0, .int .i64 0, .int .i64 0, .int .i64 0, .int .i64 0, .int .i64 0, .slice none 0 0, .slice none 0 0]), 9, 104) := by kernel_rfl
theorem take_snocE {l : List En} {k : Nat} {r : En} (h : l[k]? = some r) : l.take (k + 1) = l.take k ++ [r] := by
  obtain ⟨hk, rfl⟩ := List.getElem?_eq_some_iff.1 h
  rw [List.take_succ_eq_append_getElem hk]
theorem OwnX.ne {n₀ base : Nat} {v : Value} {l : List En} (h : OwnX n₀ base w v l) {g : Nat} {cs : Array Value} (hg : Blk w g 93 cs) : v.ownBlock ≠ some g := by
  obtain ⟨L, rfl, h, _⟩ := h
  exact own_ne h hg (by decide)
set_option maxRecDepth 100000 in
set_option maxHeartbeats 8000000 in
theorem entries_any (n₀ : Nat) (v : Value) (l : List En) (w : World) (hn0 : n₀ ≤ w.heap.size) (hm : l.length ≤ 70) (hs : ∀ e ∈ l, smallE e = true) (hV : EntsV n₀ w v l) :
    Calls Tryz.prog 40 #[v] w fun e w' => ∃ V, e = .returned V ∧ OwnX n₀ w.heap.size w' V l ∧ Below w.heap.size w w' := by
  obtain ⟨A, cap, rfl⟩ := hV.form
  obtain ⟨i0, hi, hz0, hz1, hz2⟩ := info_three info_xentry
  have HV := Lib.hid hV
  have HSm := Lib.hid hs
  obtain ⟨n, hn⟩ : ∃ n, n = l.length := ⟨_, rfl⟩
  rw [← hn] at HV hm ⊢
  have HL := Lib.hid hn
  clear hV hn hs
  go_enter Tryz.func40, Tryz.ntmps40
  go_wp2
  go_loopw [3, 8] (fun V i wr => ∃ k : Nat, k ≤ n ∧ i = .int .i64 k ∧ Hid (OwnX n₀ w.heap.size wr V (l.take k)) ∧ Hid (Below w.heap.size w wr)) (fun _ i _ => n - (intOf i).toNat)
  case atStart => exact ⟨0, Nat.zero_le _, rfl, Lib.hid (OwnX.nil _ _ _), Lib.hid (Below.refl _ _)⟩
  case round =>
    obtain ⟨k, hk, rfl, HO, HB⟩ := hrel
    have hsz : w.heap.size ≤ wr.heap.size := HB.out.size
    by_cases hlt : k < n
    · have hkl : k < l.length := by rw [← HL.out]; exact hlt
      obtain ⟨b, off, p, d, rfl, hb, hE0, hp0, hd⟩ := HV.out.at_ hkl
      have hE := hE0.below hb (HB.out.mono hn0)
      have hp := hp0.below (HB.out.mono hn0)
      clear hE0 hp0
      have HG := Lib.hid (List.getElem?_eq_getElem hkl)
      have hsm := HSm.out l[k] (List.getElem_mem _)
      generalize l[k] = r at HG hsm hE hp hd
      obtain ⟨c0, c1, c2, c3, c4, c5, c6, c7, c8⟩ := hE
      have hput : r.d.put.length ≤ 1000 := by simp only [smallE, Bool.and_eq_true, decide_eq_true_eq] at hsm; omega
      clear hkl hsm
      obtain ⟨Ap, cp, rfl⟩ := hp.form
      obtain ⟨Ad, cd, rfl⟩ := hd.form
      obtain ⟨np, hnp⟩ : ∃ np, np = r.d.put.length := ⟨_, rfl⟩
      obtain ⟨nd, hnd⟩ : ∃ nd, nd = r.d.drop.length := ⟨_, rfl⟩
      have HP := Lib.hid hp
      have HD := Lib.hid hd
      rw [zI_len] at c8 HD
      rw [← hnp] at c7 HP
      rw [← hnd] at c8 HD
      have HNP := Lib.hid hnp
      have HMD : Hid (∀ W, RulesV W.heap.size W (.slice Ap np cp) r.d.put → Calls Tryz.prog 59 #[.agg #[.int .i64 r.d.de, .int .i64 r.d.cl, .int .i64 r.d.fu, .int .i64 r.d.st, .slice Ap np cp, .slice Ad nd cd]] W
        fun e w' => ∃ V, e = .returned (.agg #[.int .i64 r.d.de, .int .i64 r.d.cl, .int .i64 r.d.fu, .int .i64 r.d.st, V, .slice Ad nd cd]) ∧ OwnU w' W.heap.size 125 V r.d.put ∧ Below W.heap.size W w') := Lib.hid (fun W h => madeDelta_any r.d _ Ad nd cd W hput h)
      clear hp hd hnp hnd hput
      have HBe := Lib.hid (HB.out.alloc hsz (.cells #[.int .i64 r.vi, .int .i64 r.cl, .int .i64 r.re, .int .i64 r.d.de, .int .i64 r.d.cl, .int .i64 r.d.fu, .int .i64 r.d.st, .slice Ap np cp, .slice Ad nd cd] 93))
      have HX := Lib.hid (Blk.new wr 93 #[.int .i64 r.vi, .int .i64 r.cl, .int .i64 r.re, .int .i64 r.d.de, .int .i64 r.d.cl, .int .i64 r.d.fu, .int .i64 r.d.st, .slice Ap np cp, .slice Ad nd cd])
      have HXo := Lib.hid (HO.out.on (Nat.le_trans hn0 hsz) ((Below.refl _ wr).alloc (Nat.le_refl _) (.cells #[.int .i64 r.vi, .int .i64 r.cl, .int .i64 r.re, .int .i64 r.d.de, .int .i64 r.d.cl, .int .i64 r.d.fu, .int .i64 r.d.st, .slice Ap np cp, .slice Ad nd cd] 93)))
      have HPx := Lib.hid ((HP.out.more (Nat.le_trans hn0 hsz)).on_ ((Below.refl _ wr).alloc (Nat.le_refl _) (.cells #[.int .i64 r.vi, .int .i64 r.cl, .int .i64 r.re, .int .i64 r.d.de, .int .i64 r.d.cl, .int .i64 r.d.fu, .int .i64 r.d.st, .slice Ap np cp, .slice Ad nd cd] 93)))
      have hsx : w.heap.size ≤ (wr.alloc (.cells #[.int .i64 r.vi, .int .i64 r.cl, .int .i64 r.re, .int .i64 r.d.de, .int .i64 r.d.cl, .int .i64 r.d.fu, .int .i64 r.d.st, .slice Ap np cp, .slice Ad nd cd] 93)).heap.size := by simp; omega
      go_upto_region 5 with (fail)
      generalize wr.alloc _ = wx at *
      have B5 : Hid (Below w.heap.size w wx.drew) := Lib.hid (Below.drewN' HBe.out 1)
      have hs5 : w.heap.size ≤ wx.drew.heap.size := hsx
      have X5 : Hid (OwnX n₀ w.heap.size wx.drew u3 (l.take k)) := Lib.hid (HXo.out.on (Nat.le_trans hn0 hsx) (Below.drewN' (Below.refl _ _) 1))
      have HPD : Hid (RulesV wx.drew.heap.size wx.drew (.slice Ap np cp) r.d.put) := Lib.hid (HPx.out.on_ (Below.drewN' (Below.refl _ _) 1))
      clear c0 c1 c2 c3 c4 c5 c6 c7 c8
      refine wp_region_held_drew (S := fun w' => Blk w' wr.heap.size 93 #[.int .i64 r.vi, .int .i64 r.cl, .int .i64 r.re, .int .i64 r.d.de, .int .i64 r.d.cl, .int .i64 r.d.fu, .int .i64 r.d.st, .slice Ap np cp, .slice Ad nd cd]) (by kernel_rfl) HX.out (fun hHeld => ?_)
      refine take_d 0 12 (u3) _ rfl rfl (by kernel_rfl) (by kernel_rfl) (by kernel_rfl) (fun _ _ _ h => h) (Or.inl ⟨by rfl, fun w' hSw => ?_⟩) hHeld ?_
      · go_simp
      simp only [List.setIfInBounds_toArray, List.set_cons_zero, List.set_cons_succ]
      refine take_d 1 13 (.pointer (some ⟨wr.heap.size, 0, none⟩)) _ rfl rfl (by kernel_rfl) (by kernel_rfl) (by kernel_rfl) (fun _ _ _ h => h) (Or.inl ⟨by rfl, fun w' hSw => ?_⟩) hHeld ?_
      · go_simp
      simp only [List.setIfInBounds_toArray, List.set_cons_zero, List.set_cons_succ]
      refine take_d 2 14 (.int .i64 r.vi) _ rfl rfl (by kernel_rfl) (by kernel_rfl) (by kernel_rfl) (fun _ _ _ h => h) (Or.inl ⟨by rfl, fun w' hSw => ?_⟩) hHeld ?_
      · have q := Blk.cell hSw 0
        go_simp
      simp only [List.setIfInBounds_toArray, List.set_cons_zero, List.set_cons_succ]
      refine take_d 3 15 (.pointer (some ⟨wr.heap.size, 1, none⟩)) _ rfl rfl (by kernel_rfl) (by kernel_rfl) (by kernel_rfl) (fun _ _ _ h => h) (Or.inl ⟨by rfl, fun w' hSw => ?_⟩) hHeld ?_
      · go_simp
      simp only [List.setIfInBounds_toArray, List.set_cons_zero, List.set_cons_succ]
      refine take_d 4 16 (.int .i64 r.cl) _ rfl rfl (by kernel_rfl) (by kernel_rfl) (by kernel_rfl) (fun _ _ _ h => h) (Or.inl ⟨by rfl, fun w' hSw => ?_⟩) hHeld ?_
      · have q := Blk.cell hSw 1
        go_simp
      simp only [List.setIfInBounds_toArray, List.set_cons_zero, List.set_cons_succ]
      refine take_d 5 17 (.pointer (some ⟨wr.heap.size, 2, none⟩)) _ rfl rfl (by kernel_rfl) (by kernel_rfl) (by kernel_rfl) (fun _ _ _ h => h) (Or.inl ⟨by rfl, fun w' hSw => ?_⟩) hHeld ?_
      · go_simp
      simp only [List.setIfInBounds_toArray, List.set_cons_zero, List.set_cons_succ]
      refine take_d 6 18 (.int .i64 r.re) _ rfl rfl (by kernel_rfl) (by kernel_rfl) (by kernel_rfl) (fun _ _ _ h => h) (Or.inl ⟨by rfl, fun w' hSw => ?_⟩) hHeld ?_
      · have q := Blk.cell hSw 2
        go_simp
      simp only [List.setIfInBounds_toArray, List.set_cons_zero, List.set_cons_succ]
      refine take_d 7 19 (.pointer (some ⟨wr.heap.size, 3, none⟩)) _ rfl rfl (by kernel_rfl) (by kernel_rfl) (by kernel_rfl) (fun _ _ _ h => h) (Or.inl ⟨by rfl, fun w' hSw => ?_⟩) hHeld ?_
      · go_simp
      simp only [List.setIfInBounds_toArray, List.set_cons_zero, List.set_cons_succ]
      refine take_d 8 20 (.agg #[.int .i64 r.d.de, .int .i64 r.d.cl, .int .i64 r.d.fu, .int .i64 r.d.st, .slice Ap np cp, .slice Ad nd cd]) _ rfl rfl (by kernel_rfl) (by kernel_rfl) (by kernel_rfl) (fun _ _ _ h => h) (Or.inl ⟨by rfl, fun w' hSw => ?_⟩) hHeld ?_
      · have q3 := Blk.cell hSw 3
        have q4 := Blk.cell hSw 4
        have q5 := Blk.cell hSw 5
        have q6 := Blk.cell hSw 6
        have q7 := Blk.cell hSw 7
        have q8 := Blk.cell hSw 8
        go_simp
      simp only [List.setIfInBounds_toArray, List.set_cons_zero, List.set_cons_succ]
      refine wpAnyH_ready (rs := [9]) (by kernel_rfl) (by simp) ?_
      refine AllReadyH.cons rfl (fun K hK => ?_) AllReadyH.nil
      go_simp
      refine (HMD.out _ HPD.out).mono ?_
      rintro e w6 ⟨V6, rfl, o6, hB6⟩
      obtain ⟨A6, c6, rfl⟩ := o6.form
      rw [← HNP.out]
      have hS6 : Blk w6 wr.heap.size 93 #[.int .i64 r.vi, .int .i64 r.cl, .int .i64 r.re, .int .i64 r.d.de, .int .i64 r.d.cl, .int .i64 r.d.fu, .int .i64 r.d.st, .slice Ap np cp, .slice Ad nd cd] := Blk.on hHeld hB6
      have B6 := Lib.hid (B5.out.trans (hB6.mono hs5))
      have X6 := Lib.hid (X5.out.on (Nat.le_trans hn0 hs5) hB6)
      have O6 : Hid (OwnU w6 w.heap.size 125 (.slice A6 np c6) r.d.put) := Lib.hid (by rw [HNP.out]; exact orow_low o6 hs5)
      have hs6 : w.heap.size ≤ w6.heap.size := Nat.le_trans hs5 hB6.size
      refine hK.out _ _ hS6 (fun hHeld => ?_)
      clear hK K hS6 o6 hB6
      refine take_d 10 22 (.agg #[.int .i64 r.vi, .int .i64 r.cl, .int .i64 r.re, .int .i64 r.d.de, .int .i64 r.d.cl, .int .i64 r.d.fu, .int .i64 r.d.st, .slice A6 np c6, .slice Ad nd cd]) _ rfl rfl (by kernel_rfl) (by kernel_rfl) (by kernel_rfl) (fun _ _ _ h => h) (Or.inl ⟨by rfl, fun w' hSw => ?_⟩) hHeld ?_
      · go_simp
      simp only [List.setIfInBounds_toArray, List.set_cons_zero, List.set_cons_succ]
      refine wpAnyH_ready (rs := [11]) (by kernel_rfl) (by simp) ?_
      refine AllReadyH.cons rfl (fun K hK => ?_) AllReadyH.nil
      go_simp
      refine hK.out _ _ (Blk.alloc hHeld _) (fun hHeld => ?_)
      clear hK K
      refine wpAnyH_ready (rs := [12]) (by kernel_rfl) (by simp) ?_
      refine AllReadyH.cons rfl (fun K hK => ?_) AllReadyH.nil
      have O6n := O6.out
      clear O6n
      refine step_append_entX _ rfl 24 rfl (.tmp 12) (.tmp 23) rfl n₀ w.heap.size hn0 i0 _ 104 hi hz0 hz1 hz2 rfl u3 (l.take k) (by simp [Act.eval]) (X6.out.on (Nat.le_trans hn0 hs6) ((Below.refl _ _).alloc (Nat.le_refl _) _)) w6.heap.size 1 r A6 Ad np c6 nd cd (by simp [Act.eval]) (Blk.at_new _ _ rfl _ _) (World.ownsRow.alloc O6.out _) ((HD.out.below (B6.out.mono hn0)).below ((Below.refl _ _).alloc (Nat.le_trans hn0 hs6) _)) (by simp; omega) (by decide) (by simp; omega) ?_
      intro v7 w7 o7 g7
      have hS7 : Blk w7 wr.heap.size 93 #[.int .i64 r.vi, .int .i64 r.cl, .int .i64 r.re, .int .i64 r.d.de, .int .i64 r.d.cl, .int .i64 r.d.fu, .int .i64 r.d.st, .slice Ap np cp, .slice Ad nd cd] := Blk.grown hHeld g7 (fun e => OwnX.ne (X6.out.on (Nat.le_trans hn0 hs6) ((Below.refl _ _).alloc (Nat.le_refl _) _)) hHeld e.symm)
      have B7 := Lib.hid ((B6.out.alloc hs6 (.cells #[.int .i64 r.vi, .int .i64 r.cl, .int .i64 r.re, .int .i64 r.d.de, .int .i64 r.d.cl, .int .i64 r.d.fu, .int .i64 r.d.st, .slice A6 np c6, .slice Ad nd cd] 78)).grown g7 (by simp; omega) (fun j hj => (X6.out.lt j hj).1))
      have X7 := Lib.hid o7
      simp only [List.setIfInBounds_toArray, List.set_cons_zero, List.set_cons_succ]
      refine hK.out _ _ hS7 (fun hHeld => ?_)
      clear hK K o7 g7 hS7
      refine take_d 13 3 (v7) _ rfl rfl (by kernel_rfl) (by kernel_rfl) (by kernel_rfl) (fun _ _ _ h => h) (Or.inl ⟨by rfl, fun w' hSw => ?_⟩) hHeld ?_
      · go_simp
      simp only [List.setIfInBounds_toArray, List.set_cons_zero, List.set_cons_succ]
      refine wpAnyH_done (by kernel_rfl) ?_ _
      go_wp2
      go_roundw
      case rel => exact ⟨k + 1, by omega, by go_num, by rw [take_snocE HG.out]; exact X7, B7⟩
      case measure => simp [intOf]; omega
    · obtain rfl : k = n := by omega
      have hO := HO.out
      rw [List.take_of_length_le (by rw [← HL.out]; omega)] at hO
      obtain ⟨VA, VC, hv⟩ := hO.len
      subst hv
      rw [← HL.out] at hO ⊢
      have HOf := Lib.hid hO
      clear hO HO
      go_wp2
      go_ret
      exact ⟨_, rfl, HOf.out, HB.out⟩
end Go.Proofs.YtefgobmpleoafaaGreat
