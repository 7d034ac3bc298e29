/- The reader: a list of entries, a message, a record. -/
import Derived.Test.YtefgobmpleoafaaGreatPkJ
namespace Go.Proofs.YtefgobmpleoafaaGreat
open Go.RowKit
variable {w w' : World} {n₀ rb : Nat} {s : List UInt8} {wr : Bool}

abbrev EnV := En × Value × Value
def enCells (L : List EnV) : List Value := L.flatMap fun x => x.1.cells x.2.1 x.2.2
theorem enCells_append (a b : List EnV) : enCells (a ++ b) = enCells a ++ enCells b := by simp [enCells]
theorem enCells_one (x : EnV) : enCells [x] = x.1.cells x.2.1 x.2.2 := by simp [enCells]
theorem enCells_get : ∀ (L : List EnV) (i k : Nat) (x : EnV), L[i]? = some x → k < 9 → (enCells L)[i * 9 + k]? = (x.1.cells x.2.1 x.2.2)[k]?
  | [], i, k, r, h, _ => by simp at h
  | x :: l, 0, k, r, h, hk => by
    simp at h
    subst h
    rw [Nat.zero_mul, Nat.zero_add]
    show (x.1.cells x.2.1 x.2.2 ++ enCells l)[k]? = _
    exact List.getElem?_append_left (by simp [En.cells]; omega)
  | x :: l, i + 1, k, r, h, hk => by
    have := enCells_get l i k r (by simpa using h) hk
    show (x.1.cells x.2.1 x.2.2 ++ enCells l)[(i + 1) * 9 + k]? = _
    rw [List.getElem?_append_right (by simp [En.cells]; omega), ← this]
    congr 1
    simp [En.cells]
    omega
/-- A row of entries of the call's own; the type of the row, of its rules. -/
def OwnE (te tr : TypeId) (base : Nat) (w : World) (v : Value) (l : List En) : Prop :=
  ∃ L : List EnV, L.map (·.1) = l ∧ w.ownsRow base te 9 v L.length (enCells L) ∧ ∀ x ∈ L, OwnU w base tr x.2.1 x.1.d.put ∧ LIntV base w x.2.2 x.1.d.drop
abbrev LEntV (base : Nat) (w : World) (v : Value) (l : List En) : Prop := OwnE 93 114 base w v l
section
variable {te tr : TypeId} {base : Nat} {v : Value} {l : List En}
theorem OwnE.nil (te tr : TypeId) (base : Nat) (w : World) : OwnE te tr base w (.slice none 0 0) [] := ⟨[], rfl, World.ownsRow_nil _ _ _ _, fun x h => by cases h⟩
theorem OwnE.len (h : OwnE te tr base w v l) : ∃ A c, v = .slice A l.length c := by
  obtain ⟨L, rfl, h, _⟩ := h
  rw [List.length_map]
  exact orow_form h
theorem OwnE.lt (h : OwnE te tr base w v l) (k : Nat) (hk : v.ownBlock = some k) : base ≤ k ∧ k < w.heap.size := by
  obtain ⟨L, rfl, h, _⟩ := h
  exact World.ownsRow.lt h k hk
theorem OwnE.keep (h : OwnE te tr base w v l) (hk : ∀ i, i < w.heap.size → base ≤ i → w'.heap[i]? = w.heap[i]?) : OwnE te tr base w' v l := by
  obtain ⟨L, hL, h, hx⟩ := h
  refine ⟨L, hL, own_kept h fun i h1 h2 _ => hk i h1 h2, fun x hm => ?_⟩
  obtain ⟨h1, h2⟩ := hx x hm
  exact ⟨own_kept h1 fun i h1 h2 _ => hk i h1 h2, own_kept h2 fun i h1 h2 _ => hk i h1 h2⟩
theorem OwnE.fr (h : OwnE te tr base w v l) (k : FrR rb w w') (hb : rb < base) : OwnE te tr base w' v l := h.keep fun i h1 h2 => k.block i h1 (by omega)
theorem OwnE.on (h : OwnE te tr base w v l) (k : Below w.heap.size w w') : OwnE te tr base w' v l := h.keep fun i h1 _ => k.block i h1
theorem OwnE.set_ (h : OwnE te tr base w v l) {q : Addr} (hq : q.block < base) (u : Value) : OwnE te tr base (w.setCell q u) v l := h.keep fun i _ h2 => Below.heap_setCell _ _ _ _ (by omega)
theorem OwnE.alloc (h : OwnE te tr base w v l) (o : Obj) : OwnE te tr base (w.alloc o) v l := h.keep fun i h1 _ => Below.heap_alloc w o i h1
theorem OwnE.drew (h : OwnE te tr base w v l) : OwnE te tr base w.drew v l := h.keep fun _ _ _ => rfl
theorem OwnE.low (h : OwnE te tr base w v l) {b : Nat} (hb : b ≤ base) : OwnE te tr b w v l := by
  obtain ⟨L, hL, h, hx⟩ := h
  exact ⟨L, hL, orow_low h hb, fun x hm => ⟨orow_low (hx x hm).1 hb, orow_low (hx x hm).2 hb⟩⟩
theorem own_grown {e e' : TypeId} {size n size' n' : Nat} {v' : Value} {xs xs' : List Value} (h : w.ownsRow base e size v n xs) (h' : w.ownsRow base e' size' v' n' xs') (hne : e' ≠ e) (hg : w.grownBy w' v'.ownBlock) : w'.ownsRow base e size v n xs :=
  own_kept h fun i hi _ ⟨_, _, hh⟩ => hg.block i hi fun e0 => own_ne h' hh hne e0.symm
/-- The row as others read it. -/
theorem OwnE.read (h : OwnE te tr base w v l) : EntsV w.heap.size w v l := by
  obtain ⟨L, rfl, h, hx⟩ := h
  have h0 := h
  rcases h.2 with ⟨hv, hn⟩ | ⟨g, cap, cur, hv, _, hh, hnc, _⟩
  · obtain rfl : L = [] := List.length_eq_zero_iff.1 hn
    subst hv
    exact EntsV.nil _ _
  · subst hv
    refine ⟨_, cap, by rw [List.length_map], by rw [List.length_map]; exact hnc, fun _ => ⟨g, 0, rfl, lt_of_some hh, fun i r hr => ?_⟩⟩
    rw [List.getElem?_map, Option.map_eq_some_iff] at hr
    obtain ⟨x, hx', rfl⟩ := hr
    have hadd : ∀ j, (⟨g, 0, none⟩ : Addr).add j = ⟨g, 0 + j, none⟩ := fun j => by unfold Addr.add; split <;> simp_all
    have c : ∀ k u, k < 9 → (x.1.cells x.2.1 x.2.2)[k]? = some u → w.cell? ⟨g, 0 + i * 9 + k, none⟩ = some u := fun k u hk hu => by
      have := h.cells (g := g) rfl _ _ ((enCells_get L i k x hx' hk).trans hu)
      rw [hadd] at this
      rwa [Nat.add_assoc]
    obtain ⟨h1, h2⟩ := hx x (List.mem_of_getElem? hx')
    exact ⟨x.2.1, x.2.2, ⟨c 0 _ (by omega) rfl, c 1 _ (by omega) rfl, c 2 _ (by omega) rfl, c 3 _ (by omega) rfl, c 4 _ (by omega) rfl, c 5 _ (by omega) rfl, c 6 _ (by omega) rfl, c 7 _ (by omega) rfl, c 8 _ (by omega) rfl⟩, OwnU.set h1, Row.of_own h2⟩
end
theorem en_one (e : En) (A B : Option Addr) (m c n d : Nat) : ∀ y ∈ e.cells (.slice A m c) (.slice B n d), y.oneCell' = true := by
  intro y hy
  simp [En.cells] at hy
  rcases hy with rfl | rfl | rfl | rfl | rfl | rfl | rfl | rfl | rfl <;> rfl
section
variable {P : Program} (w : World)
/-- append of one entry that lies in a block of its own, onto a row of the call's own: what it runs to. -/
theorem run_append_ent (base : Nat) (t ty e tr : TypeId) (i : TypeInfo) (z : Value) (bytes : Nat) (ht : P.underlying t = some (.slice e)) (hi : P.info? e = some i) (hz : i.zero = some z)
    (hsize : i.size = 9) (hby : i.bytes = bytes) (hzs : z.cells.size = 9) (hne1 : e ≠ tr) (hne2 : e ≠ 3) (v : Value) (l : List En) (hown : OwnE e tr base w v l)
    (b c : Nat) (r : En) (A B : Option Addr) (m mc n nc : Nat) (hr : Blk w b e #[.int .i64 r.vi, .int .i64 r.cl, .int .i64 r.re, .int .i64 r.d.de, .int .i64 r.d.cl, .int .i64 r.d.fu, .int .i64 r.d.st, .slice A m mc, .slice B n nc])
    (hp : OwnU w base tr (.slice A m mc) r.d.put) (hd : LIntV base w (.slice B n nc) r.d.drop) (h63 : l.length + 1 ≤ 1000000) (hbytes : bytes ≤ 200) (hbase : base ≤ w.heap.size) :
    ∃ v' w', (Builtin.append_ #[t, t] ty #[v, .slice (some ⟨b, 0, none⟩) 1 c]).run P w = .ok v' w' ∧ OwnE e tr base w' v' (l ++ [r]) ∧ w.grownBy w' v.ownBlock ∧ v' ≠ .slice none 0 0 := by
  obtain ⟨L, rfl, ho, hx⟩ := hown
  rw [List.length_map] at h63
  have hm : (L.length + 1) * bytes ≤ 1000000 * 200 := Nat.mul_le_mul h63 hbytes
  obtain ⟨v', w', h1, h2, h3, h4, h5⟩ := run_append_own_at (P := P) w base t ty e i z 9 bytes ht hi hz hsize hby hzs (by decide) v L.length (enCells L) ho ⟨b, 0, none⟩ 1 c (r.cells (.slice A m mc) (.slice B n nc)) rfl (fun j u hu => by
    have hadd : (⟨b, 0, none⟩ : Addr).add j = ⟨b, 0 + j, none⟩ := by unfold Addr.add; split <;> simp_all
    rw [hadd, Nat.zero_add, hr.cell j, ← hu, En.cells, ← List.getElem?_toArray]) (en_one r A B m mc n nc) (by unfold maxLen; omega) (by omega) hbase
  refine ⟨v', w', h1, ⟨L ++ [(r, .slice A m mc, .slice B n nc)], by simp, by rw [List.length_append, enCells_append, enCells_one]; exact h2, fun x hx' => ?_⟩, h3, ?_⟩
  · rcases List.mem_append.1 hx' with hx' | hx'
    · exact ⟨own_grown (hx x hx').1 ho hne1 h3, own_grown (hx x hx').2 ho hne2 h3⟩
    · obtain rfl := List.mem_singleton.1 hx'
      exact ⟨own_grown hp ho hne1 h3, own_grown hd ho hne2 h3⟩
  · rintro rfl
    rcases h2.2 with ⟨_, hn⟩ | ⟨g, cap, cur, hv, _⟩
    · omega
    · simp at hv
theorem wpList_append_ent {ops : Array Oper} {rest : List Oper} {o : Oper} {a : Act} {Q : Exit → Act → World → Prop} (hgd : o.guard = none) (s x : Operand) (t : TypeId)
    (ho : o.op = .call { callee := .builtin .append, args := #[s, x], argTypes := #[t, t] })
    (base : Nat) (e tr : TypeId) (i : TypeInfo) (z : Value) (bytes : Nat) (ht : P.underlying t = some (.slice e)) (hi : P.info? e = some i) (hz : i.zero = some z)
    (hsize : i.size = 9) (hby : i.bytes = bytes) (hzs : z.cells.size = 9) (hne1 : e ≠ tr) (hne2 : e ≠ 3) (v : Value) (l : List En) (hs : a.eval s = v) (hown : OwnE e tr base w v l)
    (b c : Nat) (r : En) (A B : Option Addr) (m mc n nc : Nat) (hx : a.eval x = .slice (some ⟨b, 0, none⟩) 1 c) (hr : Blk w b e #[.int .i64 r.vi, .int .i64 r.cl, .int .i64 r.re, .int .i64 r.d.de, .int .i64 r.d.cl, .int .i64 r.d.fu, .int .i64 r.d.st, .slice A m mc, .slice B n nc])
    (hp : OwnU w base tr (.slice A m mc) r.d.put) (hd : LIntV base w (.slice B n nc) r.d.drop) (h63 : l.length + 1 ≤ 1000000) (hbytes : bytes ≤ 200) (hbase : base ≤ w.heap.size)
    (h : ∀ v' w', OwnE e tr base w' v' (l ++ [r]) → w.grownBy w' v.ownBlock → wpList P ops Q rest (a.put o.dst v') w') : wpList P ops Q (o :: rest) a w := by
  refine wpList_plain hgd fun K hK => ?_
  obtain ⟨v', w', hrun, h1, h2, _⟩ := run_append_ent (P := P) w base t o.type e tr i z bytes ht hi hz hsize hby hzs hne1 hne2 v l hown b c r A B m mc n nc hr hp hd h63 hbytes hbase
  unfold Oper.wp execOp
  simp only [ho, resolve, invoke, builtin, Sem.run_bind, Sem.run_pure, Result.andThen_ok, List.map_toArray, List.map_cons, List.map_nil, hs, hx, hrun]
  exact hK _ _ (h v' w' h1 h2)
end
theorem info_entry : (Tryz.prog.info? 93).map (fun i => (i.zero, i.size, i.bytes)) = some (some (.agg #[.int .i64 0, .int .i64 0, .int .i64 0, .int .i64 0, .int .i64 0, .int .i64 0, .int .i64 0, .slice none 0 0, .slice none 0 0]), 9, 104) := by kernel_rfl
set_option maxRecDepth 100000 in
set_option maxHeartbeats 4000000 in
theorem rlE_any (h : Rd n₀ rb w s wr) : Calls Tryz.prog 71 #[.pointer (some ⟨rb, 0, none⟩), mv 72 rb] w (RdP n₀ rb w (pL pE s) wr (LEntV w.heap.size)) := by
  have H := Lib.hid h
  have hrb := h.lt
  obtain ⟨i0, hi, hz0, hz1, hz2⟩ := info_three info_entry
  clear h
  go_enter Tryz.func71, Tryz.ntmps71
  go_wp2_with fail
  refine (rcount_any H.out).mono ?_
  rintro e w1 ⟨n, t0, wr1, rfl, hn, h1, h2, h3⟩
  have H1 := Lib.hid h1
  have H2 := Lib.hid h2
  have H3 := Lib.hid h3
  have hn2 : n ≤ 65536 := by obtain ⟨_, _, _, _, hl⟩ := h1; omega
  clear h1 h2 h3 hn
  go_wp2
  go_loopw [5, 8] (fun V i wr => ∃ (k : Nat) (l : List En) (t : S) (wrk : Bool), k ≤ n ∧ i = .int .i64 (k : Int) ∧ Hid (l.length = k) ∧ Hid (LEntV w.heap.size wr V l) ∧ Hid (Rd n₀ rb wr t wrk) ∧ Hid (FrR rb w wr) ∧ Hid (Out (pK pE k t0) wr1 l t wrk)) (fun _ i _ => n - (intOf i).toNat)
  case atStart => exact ⟨0, [], t0, wr1, Nat.zero_le _, rfl, Lib.hid rfl, Lib.hid (OwnE.nil _ _ _ _), H1, H2, Lib.hid (Out.pure _ _ _)⟩
  case round =>
    obtain ⟨k, l, t, wrk, hk, rfl, HL, HV, HR, HF, HO⟩ := hrel
    by_cases hlt : k < n
    · obtain ⟨v0, hB, _⟩ := HR.out
      have c1 := hB.cell 1
      have hlt0 := hB.lt
      clear hB
      cases wrk
      · have hsz : w.heap.size ≤ wr.heap.size := HF.out.size
        go_wp2_with fail
        refine (rentry_any HR.out).mono ?_
        rintro e w2 ⟨x, u, wr2, v2, rfl, ⟨Ap, cp, Ad, cd, rfl, hpv, hdv⟩, h1, h2, h3⟩
        have HR2 := Lib.hid h1
        have HF2 := Lib.hid (HF.out.trans h2)
        have HO2 := Lib.hid (out_snoc HO.out h3)
        have HV2 : Hid (LEntV w.heap.size w2 u5 l) := Lib.hid (HV.out.fr h2 hrb)
        have hsz2 : w.heap.size ≤ w2.heap.size := HF2.out.size
        have HL1 : Hid ((l ++ [x]).length = k + 1) := Lib.hid (by have := HL.out; simp; omega)
        have HPV := Lib.hid (orow_low hpv hsz)
        have HDV := Lib.hid (orow_low hdv hsz)
        clear hpv hdv
        clear h1 h2 h3
        go_wp2_with (at_builtin
                     refine wpList_append_ent _ rfl (.tmp 14) (.tmp 17) 39 rfl w.heap.size 93 114 i0 _ 104 Tryz.underlying39 hi hz0 hz1 hz2 rfl (by decide) (by decide) u5 l rfl (HV2.out.alloc _) _ 1 x Ap Ad _ cp _ cd rfl (Blk.at_new _ _ rfl _ _) (World.ownsRow.alloc HPV.out _) (World.ownsRow.alloc HDV.out _) (by have := HL.out; omega) (by decide) (by simp; omega) ?_
                     intro V' w3 hown' hgrow
                     have HR3 := Lib.hid (Rd.grown (HR2.out.alloc (.cells #[.int .i64 x.vi, .int .i64 x.cl, .int .i64 x.re, .int .i64 x.d.de, .int .i64 x.d.cl, .int .i64 x.d.fu, .int .i64 x.d.st, .slice Ap x.d.put.length cp, .slice Ad x.d.drop.length cd] 93)) hgrow (fun k hk => by have := (OwnE.lt (HV2.out) k hk.symm).1; omega))
                     have HF3 := Lib.hid ((HF2.out.alloc (.cells #[.int .i64 x.vi, .int .i64 x.cl, .int .i64 x.re, .int .i64 x.d.de, .int .i64 x.d.cl, .int .i64 x.d.fu, .int .i64 x.d.st, .slice Ap x.d.put.length cp, .slice Ad x.d.drop.length cd] 93)).grown hgrow (fun k hk => by have := (OwnE.lt (HV2.out) k hk.symm).1; omega))
                     have HV3 : Hid (LEntV w.heap.size w3 V' (l ++ [x])) := Lib.hid hown'
                     clear hgrow hown')
        go_roundw
        case rel => exact ⟨k + 1, l ++ [x], u, wr2, by omega, by go_num, HL1, HV3, HR3, HF3, HO2⟩
        case measure => simp [intOf]; omega
      · go_wp2
        go_ret
        exact ⟨[], t, true, _, rfl, OwnE.nil _ _ _ _, HR.out, HF.out, Out.bind H3.out (out_gone HO.out hk _ _)⟩
    · obtain rfl : k = n := by omega
      obtain ⟨A, c, hv⟩ := HV.out.len
      subst hv
      rw [HL.out] at HV ⊢
      go_wp2
      go_ret
      exact ⟨l, t, wrk, _, rfl, HV.out, HR.out, HF.out, Out.bind H3.out HO.out⟩
def MsgV (base : Nat) (w : World) (v : Value) (m : Ms) : Prop := ∃ A c, v = m.val (.slice A m.log.length c) ∧ LEntV base w (.slice A m.log.length c) m.log
def RecV (base : Nat) (w : World) (v : Value) (m : Rc) : Prop := ∃ A c, v = m.val (.slice A m.log.length c) ∧ LEntV base w (.slice A m.log.length c) m.log
set_option maxRecDepth 100000 in
set_option maxHeartbeats 4000000 in
theorem rrecord_any (h : Rd n₀ rb w s wr) : Calls Tryz.prog 55 #[.pointer (some ⟨rb, 0, none⟩)] w (RdP n₀ rb w (pRc s) wr (RecV w.heap.size)) := by
  have hrb := h.lt
  have H0 := Lib.hid (h.alloc (.cells #[.int .i64 0, .int .i64 0, .int .i64 0, .slice none 0 0] 82))
  have F0 := Lib.hid ((FrR.refl (rb := rb) w).alloc (.cells #[.int .i64 0, .int .i64 0, .int .i64 0, .slice none 0 0] 82))
  have Z0 := Lib.hid (Blk.new w 82 #[.int .i64 0, .int .i64 0, .int .i64 0, .slice none 0 0])
  clear h
  have s0 : w.heap.size < (w.alloc (.cells #[.int .i64 0, .int .i64 0, .int .i64 0, .slice none 0 0] 82)).heap.size := by simp
  go_enter Tryz.func55, Tryz.ntmps55
  go_upto_region 1 with (fail)
  generalize w.alloc _ = w0 at *
  go_wp2_with fail
  refine (rnum_any H0.out).mono ?_
  rintro e w1 ⟨x1, t1, wr1, _, rfl, ⟨rfl, _, _⟩, h1, h2, h3⟩
  have H1 := Lib.hid h1
  have F1 := Lib.hid (F0.out.trans h2)
  have Z1 := Lib.hid (Z0.out.blk0 h2 hrb)
  have O1 := Lib.hid h3
  have s1 : w.heap.size < w1.heap.size := Nat.lt_of_lt_of_le s0 h2.size
  clear h1 h2 h3
  go_wp2_with fail
  refine (rnum_any H1.out).mono ?_
  rintro e w2 ⟨x2, t2, wr2, _, rfl, ⟨rfl, _, _⟩, h1, h2, h3⟩
  have H2 := Lib.hid h1
  have F2 := Lib.hid (F1.out.trans h2)
  have Z2 := Lib.hid (Z1.out.blk0 h2 hrb)
  have O2 := Lib.hid h3
  have s2 : w.heap.size < w2.heap.size := Nat.lt_of_lt_of_le s1 h2.size
  clear h1 h2 h3
  go_wp2_with fail
  refine (rnum_any H2.out).mono ?_
  rintro e w3 ⟨x3, t3, wr3, _, rfl, ⟨rfl, _, _⟩, h1, h2, h3⟩
  have H3 := Lib.hid h1
  have F3 := Lib.hid (F2.out.trans h2)
  have Z3 := Lib.hid (Z2.out.blk0 h2 hrb)
  have O3 := Lib.hid h3
  have s3 : w.heap.size < w3.heap.size := Nat.lt_of_lt_of_le s2 h2.size
  clear h1 h2 h3
  go_wp2_with fail
  refine (rlE_any H3.out).mono ?_
  rintro e w4 ⟨x4, t4, wr4, v4, rfl, hv4, h1, h2, h3⟩
  obtain ⟨A4, c4, rfl⟩ := hv4.len
  have H4 := Lib.hid h1
  have F4 := Lib.hid (F3.out.trans h2)
  have Z4 := Lib.hid (Z3.out.blk0 h2 hrb)
  have O4 := Lib.hid h3
  have s4 : w.heap.size < w4.heap.size := Nat.lt_of_lt_of_le s3 h2.size
  have V4 := Lib.hid hv4
  clear h1 h2 h3 hv4
  have z0 := Z4.out.cell 0
  have z1 := Z4.out.cell 1
  have z2 := Z4.out.cell 2
  have z3 := Z4.out.cell 3
  have f := Z4.out.frozen
  have hl := Z4.out.lt
  go_wp2
  refine bodyPost_ret (v := .agg #[.int .i64 x1, .int .i64 x2, .int .i64 x3, .slice A4 x4.length c4]) (by simp [results, Tryz.results55, go_sem, *]) rfl ⟨⟨x1, x2, x3, x4⟩, _, wr4, _, rfl, ?_, ((((H4.out).far (q := ⟨w.heap.size, 0, none⟩) hrb _).far (q := ⟨w.heap.size, 1, none⟩) hrb _).far (q := ⟨w.heap.size, 2, none⟩) hrb _).far (q := ⟨w.heap.size, 3, none⟩) hrb _, ((((F4.out).set_ (q := ⟨w.heap.size, 0, none⟩) (.inr (Nat.le_refl _)) _).set_ (q := ⟨w.heap.size, 1, none⟩) (.inr (Nat.le_refl _)) _).set_ (q := ⟨w.heap.size, 2, none⟩) (.inr (Nat.le_refl _)) _).set_ (q := ⟨w.heap.size, 3, none⟩) (.inr (Nat.le_refl _)) _, Out.bind O1.out (Out.bind O2.out (Out.bind O3.out (Out.bind O4.out (Out.pure _ _ _))))⟩
  exact ⟨A4, c4, rfl, (((((V4.out).set_ (q := ⟨w.heap.size, 0, none⟩) (by simp only; omega) (.int .i64 x1)).set_ (q := ⟨w.heap.size, 1, none⟩) (by simp only; omega) (.int .i64 x2)).set_ (q := ⟨w.heap.size, 2, none⟩) (by simp only; omega) (.int .i64 x3)).set_ (q := ⟨w.heap.size, 3, none⟩) (by simp only; omega) (.slice A4 x4.length c4)).low (b := w.heap.size) (by omega)⟩
end Go.Proofs.YtefgobmpleoafaaGreat
