/- Joined: PkW, PkA, PkB. -/
import Derived.Test.YtefgobmpleoafaaGreatMRu
import Derived.Test.YtefgobmpleoafaaGreatMFr
import Derived.Test.YtefgobmpleoafaaGreatMPk
import Derived.BigQuiet
import Derived.Deep.QuietTactic
import Derived.Deep.RegionWith
import Derived.Deep.RegionLaw
import Derived.Deep.Cut
import Derived.IntWalk
import Derived.Laws.StructEq
import Derived.Lib.AppendStr
/- The writer of bytes in memory; what a call of it keeps. -/
namespace Go.Proofs.YtefgobmpleoafaaGreat
open Go.RowKit
variable {w w' w'' : World}

def Stp (P : Prop) := P
theorem stp {P : Prop} (h : Stp P) : P := h
def isU8 (w : World) (i : Nat) : Prop := ∃ cs z, w.heap[i]? = some (.cells cs 5 z)
structure FrW (wb : Nat) (w w' : World) : Prop where
  os : w'.os = w.os
  tape : w'.tape = w.tape
  output : w'.output = w.output
  size : w.heap.size ≤ w'.heap.size
  block : ∀ i, i < w.heap.size → (i < wb ∨ (i ≠ wb ∧ ¬ isU8 w i)) → w'.heap[i]? = w.heap[i]?
section
variable {wb : Nat}
theorem FrW.refl (w : World) : FrW wb w w := ⟨rfl, rfl, rfl, Nat.le_refl _, fun _ _ _ => rfl⟩
theorem FrW.trans (h : FrW wb w w') (k : FrW wb w' w'') : FrW wb w w'' :=
  ⟨k.os.trans h.os, k.tape.trans h.tape, k.output.trans h.output, Nat.le_trans h.size k.size, fun i hi hc => by
    have e := h.block i hi hc
    refine (k.block i (Nat.lt_of_lt_of_le hi h.size) ?_).trans e
    rcases hc with hc | ⟨h1, h2⟩
    · exact .inl hc
    · refine .inr ⟨h1, fun ⟨cs, z, hb⟩ => h2 ⟨cs, z, ?_⟩⟩
      rw [← e]
      exact hb⟩
theorem FrW.of_below (h : Below w.heap.size w w') : FrW wb w w' := ⟨h.os, h.tape, h.output, h.size, fun i hi _ => h.block i hi⟩
theorem FrW.alloc (h : FrW wb w w') (o : Obj) : FrW wb w (w'.alloc o) := h.trans (FrW.of_below ((Below.refl _ _).alloc (Nat.le_refl _) o))
theorem FrW.drew (h : FrW wb w w') : FrW wb w w'.drew := ⟨h.os, h.tape, h.output, h.size, h.block⟩
theorem FrW.old (h : FrW wb w w') (hn : wb ≤ w.heap.size) : Below wb w w' := ⟨h.os, h.tape, h.output, h.size, fun i hi => h.block i (by omega) (.inl hi)⟩
theorem FrW.blk (h : FrW wb w w') {g : Nat} {t : TypeId} {cs : Array Value} (hg : Blk w g t cs) (ht : t ≠ 5) (hw : g ≠ wb) : Blk w' g t cs :=
  (h.block g hg.lt (.inr ⟨hw, fun ⟨_, _, hh⟩ => ne_of_types hg hh ht rfl⟩)).trans hg

/-- The writer: its block, and the bytes that it has. -/
def Wt (wb : Nat) (w : World) (s : List UInt8) : Prop := ∃ v, Blk w wb 121 #[v] ∧ Own w wb v s
variable {s : List UInt8}
theorem Wt.keep (h : Wt wb w s) (hk : ∀ i, i < w.heap.size → w'.heap[i]? = w.heap[i]?) : Wt wb w' s := by
  obtain ⟨v, hb, ho⟩ := h
  exact ⟨v, (hk wb hb.lt).trans hb, own_keep ho fun i hi => hk i (World.ownsRow.lt ho i hi.symm).2⟩
theorem Wt.on (h : Wt wb w s) (hb : Below w.heap.size w w') : Wt wb w' s := h.keep fun i hi => hb.block i hi
theorem Wt.alloc (h : Wt wb w s) (o : Obj) : Wt wb (w.alloc o) s := h.keep fun i hi => Below.heap_alloc w o i hi
theorem Wt.drew (h : Wt wb w s) : Wt wb w.drew s := h.keep fun _ _ => rfl
theorem Wt.lt (h : Wt wb w s) : wb < w.heap.size := by
  obtain ⟨v, hb, _⟩ := h
  exact hb.lt
/-- A store into a block of another kind. -/
theorem Wt.far (h : Wt wb w s) {b o : Nat} {t : TypeId} {cs : Array Value} {z : Nat × Nat} (hg : w.heap[b]? = some (.cells cs t z)) (h1 : t ≠ 121) (h2 : t ≠ 5) (u : Value) : Wt wb (w.setCell ⟨b, o, none⟩ u) s := by
  obtain ⟨v, hb, ho⟩ := h
  refine ⟨v, hb.far (ne_of_types hb hg (Ne.symm h1)) u, own_keep ho fun i hi => Below.heap_setCell _ _ _ _ ?_⟩
  rintro rfl
  exact own_ne ho hg (Ne.symm h2) hi.symm
theorem Wt.push {v v' : Value} {t : List UInt8} (hB : Blk w wb 121 #[v]) (hO : Own w wb v s) (hg : w.grownBy w' v.ownBlock) (h' : w'.ownsRow wb 5 1 v' (s.length + t.length) (Lib.byteCells s ++ Lib.byteCells t)) :
    Wt wb (w'.setCell ⟨wb, 0, none⟩ v') (s ++ t) ∧ FrW wb w (w'.setCell ⟨wb, 0, none⟩ v') := by
  have hB' : Blk w' wb 121 #[v] := hB.grown hg (fun e => own_ne hO hB (by decide) e.symm)
  refine ⟨⟨v', by simpa using hB'.set_ 0 v', ?_⟩, hg.os, hg.tape, hg.output, by simpa [World.setCell] using hg.size, fun i hi hc => ?_⟩
  · unfold Own
    rw [List.length_append, show Lib.byteCells (s ++ t) = Lib.byteCells s ++ Lib.byteCells t by simp [Lib.byteCells]]
    exact own_keep h' fun i hi => Below.heap_setCell _ _ _ _ (by
      rintro rfl
      exact own_ne h' hB' (by decide) hi.symm)
  · refine (Below.heap_setCell _ _ _ _ (by simp only; omega)).trans (hg.block i hi ?_)
    intro e
    rcases hO.2 with ⟨hv, _⟩ | ⟨g, cap, cur, hv, hb, hh, _⟩
    · rw [hv] at e; simp [Value.ownBlock] at e
    · rw [hv] at e
      obtain rfl : i = g := by simpa [Value.ownBlock] using e
      rcases hc with hc | ⟨_, hc⟩
      · omega
      · exact hc ⟨cur, _, hh⟩
end
/-- append of one byte, as a step of a region that draws. -/
theorem step_append_u8 (w : World) {ops : Array Oper} {o : Oper} {a : Act} {K : Act → World → Prop} {Q : Exit → Act → World → Prop} {E : Prop} (hgd : o.guard = none) (x y : Operand)
    (ho : o.op = .call { callee := .builtin .append, args := #[x, y], argTypes := #[22, 22] }) (base : Nat) (i : TypeInfo) (hi : Tryz.prog.info? 5 = some i) (hz : i.zero = some (.int .u8 0)) (hsize : i.size = 1) (hby : i.bytes = 1)
    (v : Value) (s : List UInt8) (hs : a.eval x = v) (hown : Own w base v s) (b : Nat) (c : UInt8) (hy : a.eval y = .slice (some ⟨b, 0, none⟩) 1 1)
    (hb : Blk w b 5 #[.int .u8 (c.toNat : Int)]) (hL : s.length ≤ 1000000000) (hbase : base ≤ w.heap.size)
    (h : ∀ v' w', w'.ownsRow base 5 1 v' (s.length + [c].length) (Lib.byteCells s ++ Lib.byteCells [c]) → w.grownBy w' v.ownBlock → K (a.put o.dst v') w') :
    if Region.wanted o (yielded ops a.tmps) = true then Oper.wp Tryz.prog o a w K Q else E := by
  have hw : Region.wanted o (yielded ops a.tmps) = true := by simp [Region.wanted, hgd]
  rw [if_pos hw]
  obtain ⟨v', w', hrun, h2, h3, _, h5⟩ := run_append_own_at (P := Tryz.prog) w base 22 o.type 5 i _ 1 1 Tryz.underlying22 hi hz hsize hby rfl (by decide) v s.length (Lib.byteCells s) hown ⟨b, 0, none⟩ 1 1 (Lib.byteCells [c]) rfl
    (fun j u hu => by
      have hl : j < 1 := (List.getElem?_eq_some_iff.1 hu).1
      obtain rfl : j = 0 := by omega
      have e : (⟨b, 0, none⟩ : Addr).add 0 = ⟨b, 0, none⟩ := by unfold Addr.add; split <;> simp_all
      rw [e, hb.cell 0]
      rw [← hu]
      rfl) (one_bytes [c]) (by unfold maxLen; omega) (by omega) hbase
  unfold Oper.wp execOp
  simp only [ho, resolve, invoke, builtin, Sem.run_bind, Sem.run_pure, Result.andThen_ok, List.map_toArray, List.map_cons, List.map_nil, hs, hy, hrun]
  exact h v' w' h2 h3
theorem n6_take (n : Int) (k : Nat) (hk : k < 6) : (n6 n).take (k + 1) = (n6 n).take k ++ [((n + 1).toNat / 2 ^ (40 - 8 * k) % 256).toUInt8] := by
  match k, hk with
  | 0, _ => rfl
  | 1, _ => rfl
  | 2, _ => rfl
  | 3, _ => rfl
  | 4, _ => rfl
  | 5, _ => simp [n6, be6]
end Go.Proofs.YtefgobmpleoafaaGreat

/- The writer's number. -/
namespace Go.Proofs.YtefgobmpleoafaaGreat
open Go.RowKit
variable {w w' : World} {wb : Nat} {s : List UInt8}

theorem wrap_byte (n : Int) (h : -1 ≤ n ∧ n ≤ 1099511627776) (k : Nat) (hk : k < 6) : IntKind.u8.wrap (IntKind.i64.wrap (n + 1) / 2 ^ (40 - 8 * (k : Int)).toNat) = ((((n + 1).toNat / 2 ^ (40 - 8 * k) % 256).toUInt8.toNat : Nat) : Int) := by
  rw [u8 _ (Nat.mod_lt _ (by decide)), IntWalk.i64_in (n + 1) (by omega)]
  obtain ⟨m, hm⟩ : ∃ m : Nat, n + 1 = m := ⟨(n + 1).toNat, by omega⟩
  rw [hm, show (40 - 8 * (k : Int)).toNat = 40 - 8 * k by omega]
  generalize 40 - 8 * k = j
  simp [IntKind.wrap, IntKind.bits, IntKind.signed]
theorem one_slice {base : Nat} {v : Value} {s : List UInt8} (h : Own w base v s) : ∃ A c, v = .slice A s.length c := by
  rcases h.2 with ⟨hv, hn⟩ | ⟨g, c, cur, hv, _, _, hc, _⟩
  · exact ⟨none, 0, by rw [hv, hn]⟩
  · exact ⟨_, c, hv⟩
set_option maxRecDepth 100000 in
set_option maxHeartbeats 2000000 in
theorem wnum_any (n : Int) (hn : -1 ≤ n ∧ n ≤ 1099511627776) (h : Wt wb w s) (hl : s.length ≤ 900000000) :
    Calls Tryz.prog 88 #[.pointer (some ⟨wb, 0, none⟩), .int .i64 n] w fun e w' => e = .returned (.tuple #[]) ∧ Wt wb w' (s ++ n6 n) ∧ FrW wb w w' := by
  obtain ⟨i0, hi, hz0, hz1, hz2⟩ := info_three info_u8
  have H := Lib.hid h
  obtain ⟨hn1, hn2⟩ := hn
  clear h
  go_enter Tryz.func88, Tryz.ntmps88
  go_wp2
  go_loopw [4] (fun i wr => ∃ k : Nat, k ≤ 6 ∧ i = .int .i64 (40 - 8 * (k : Int)) ∧ Hid (Wt wb wr (s ++ (n6 n).take k)) ∧ Hid (FrW wb w wr)) (fun i _ => (intOf i + 8).toNat)
  case atStart => exact ⟨0, by omega, rfl, Lib.hid (by simpa using H.out), Lib.hid (FrW.refl w)⟩
  case round =>
    obtain ⟨k, hk, rfl, HW, HF⟩ := hrel
    by_cases hlt : k < 6
    · obtain ⟨v, hB, hO⟩ := HW.out
      obtain ⟨T, hT⟩ : ∃ T, T = s ++ (n6 n).take k := ⟨_, rfl⟩
      have hTl : T.length ≤ 1000000000 := by rw [hT]; simp; omega
      rw [← hT] at hO
      obtain ⟨A, cp, rfl⟩ := one_slice hO
      have c0 := hB.cell 0
      have hwb := hB.lt
      obtain ⟨c, hc⟩ : ∃ c : UInt8, c = ((n + 1).toNat / 2 ^ (40 - 8 * k) % 256).toUInt8 := ⟨_, rfl⟩
      have hcw := wrap_byte n ⟨hn1, hn2⟩ k hlt
      rw [← hc] at hcw
      have HO := Lib.hid (show Own (wr.alloc (.cells #[.int .u8 (IntKind.u8.wrap (IntKind.i64.wrap (n + 1) / 2 ^ (40 - 8 * (k : Int)).toNat))] 5)).drew wb (.slice A T.length cp) T from World.ownsRow.alloc hO _)
      have HB := Lib.hid (show Blk (wr.alloc (.cells #[.int .u8 (IntKind.u8.wrap (IntKind.i64.wrap (n + 1) / 2 ^ (40 - 8 * (k : Int)).toNat))] 5)).drew wb 121 #[.slice A T.length cp] from hB.alloc _)
      have HN : Hid (Blk (wr.alloc (.cells #[.int .u8 (IntKind.u8.wrap (IntKind.i64.wrap (n + 1) / 2 ^ (40 - 8 * (k : Int)).toNat))] 5)).drew wr.heap.size 5 #[.int .u8 (c.toNat : Int)]) := Lib.hid (by
        have := Blk.new wr 5 #[.int .u8 (IntKind.u8.wrap (IntKind.i64.wrap (n + 1) / 2 ^ (40 - 8 * (k : Int)).toNat))]
        rw [hcw] at this ⊢
        exact this)
      have HFa := Lib.hid (HF.out.alloc (.cells #[.int .u8 (IntKind.u8.wrap (IntKind.i64.wrap (n + 1) / 2 ^ (40 - 8 * (k : Int)).toNat))] 5)).drew
      have HC := Lib.hid hc
      have HT := Lib.hid hT
      clear hO hB hcw hc hT
      go_wp2_with fail
      go_region_law (refine step_append_u8 _ rfl (.tmp 13) (.tmp 19) rfl wb i0 hi hz0 hz1 hz2 _ T (by first | (simp [Act.eval]; done) | fail) HO.out wr.heap.size c (by first | (simp [Act.eval]; done) | fail) HN.out (by omega) (by first | (simp; omega) | fail) ?_; intro v' w4 hown' hgrow; obtain ⟨g9, c9, rfl, _, _⟩ := hown'.form (by simp); have hB4 := HB.out.grown hgrow (fun e => own_ne HO.out HB.out (by decide) e.symm); have c4 := hB4.cell 0; have f4 := hB4.frozen 0; have l4 := hB4.lt)
      all_goals
        obtain ⟨hP, hQ⟩ := Wt.push HB.out HO.out hgrow hown'
        have HP := Lib.hid hP
        have HQ := Lib.hid (HFa.out.trans hQ)
        clear hown' hgrow hB4 c4 f4 hP hQ
        go_wp2
        go_roundw
        case rel =>
          refine ⟨k + 1, by omega, by go_num, ?_, HQ⟩
          rw [n6_take n k hlt, ← List.append_assoc, ← HT.out, ← HC.out]
          exact HP
        case measure => simp [intOf]; omega
    · obtain rfl : k = 6 := by omega
      go_wp2
      go_end0
      exact ⟨rfl, by have := HW.out; rwa [List.take_of_length_le (by rw [n6_len]; omega)] at this, HF.out⟩
end Go.Proofs.YtefgobmpleoafaaGreat

/- The writer: numbers, text. -/
namespace Go.Proofs.YtefgobmpleoafaaGreat
open Go.RowKit
variable {w w' : World} {wb : Nat} {s : List UInt8}

theorem flat6 {l : List Int} : (l.flatMap n6).length = l.length * 6 := by
  induction l with
  | nil => rfl
  | cons x l ih => simp only [List.flatMap_cons, List.length_append, n6_len, List.length_cons, ih]; omega
theorem flat_take {α : Type} {e : α → List UInt8} {l : List α} {k : Nat} {x : α} (h : l[k]? = some x) : (l.take (k + 1)).flatMap e = (l.take k).flatMap e ++ e x := by
  obtain ⟨hk, rfl⟩ := List.getElem?_eq_some_iff.1 h
  rw [List.take_succ_eq_append_getElem hk, List.flatMap_append, List.flatMap_singleton]
set_option maxRecDepth 100000 in
set_option maxHeartbeats 2000000 in
theorem wnums_any (l : List Int) (g : Nat) (n : Nat) (hln : l.length = n) (hg : g ≠ wb) (hb : Blk w g 3 (zI l).toArray) (hn : ∀ z ∈ l, -1 ≤ z ∧ z ≤ 1099511627776) (h : Wt wb w s) (hm : n ≤ 100) (hl : s.length ≤ 800000000) :
    Calls Tryz.prog 77 #[.pointer (some ⟨wb, 0, none⟩), .slice (some ⟨g, 0, none⟩) n n] w fun e w' => e = .returned (.tuple #[]) ∧ Wt wb w' (s ++ l.flatMap n6) ∧ FrW wb w w' := by
  have H := Lib.hid h
  have HB := Lib.hid hb
  have HN := Lib.hid hn
  have HL := Lib.hid hln
  have HG := Lib.hid hg
  clear h hb hn hln hg
  go_enter Tryz.func77, Tryz.ntmps77
  go_wp2
  go_loopw [8] (fun i wr => ∃ k : Nat, k ≤ n ∧ i = .int .i64 (k : Int) ∧ Hid (Wt wb wr (s ++ (l.take k).flatMap n6)) ∧ Hid (FrW wb w wr)) (fun i _ => n - (intOf i).toNat)
  case atStart => exact ⟨0, by omega, rfl, Lib.hid (by simpa using H.out), Lib.hid (FrW.refl w)⟩
  case round =>
    obtain ⟨k, hk, rfl, HW, HF⟩ := hrel
    by_cases hlt : k < n
    · have hkl : k < l.length := by rw [HL.out]; exact hlt
      have hx : l[k]? = some l[k] := List.getElem?_eq_getElem hkl
      have hr := HN.out l[k] (List.getElem_mem _)
      have c0 := (HF.out.blk HB.out (by decide) HG.out).cell k
      rw [List.getElem?_toArray, zI_get hx] at c0
      generalize l[k] = x at *
      have HX := Lib.hid hx
      have HR := Lib.hid hr
      have HS : Hid ((s ++ (l.take k).flatMap n6).length ≤ 900000000) := Lib.hid (by rw [List.length_append, flat6]; simp; omega)
      clear hx hr hkl
      go_wp2_with fail
      refine (wnum_any x HR.out HW.out HS.out).mono ?_
      rintro e w1 ⟨rfl, h1, h2⟩
      have H1 := Lib.hid h1
      have H2 := Lib.hid (HF.out.trans h2)
      clear h1 h2
      go_wp2
      go_roundw
      case rel => exact ⟨k + 1, by omega, by go_num, by rw [flat_take HX.out, ← List.append_assoc]; exact H1, H2⟩
      case measure => simp [intOf]; omega
    · obtain rfl : k = n := by omega
      go_wp2
      go_end0
      exact ⟨rfl, by have := HW.out; rwa [List.take_of_length_le (by rw [HL.out]; omega)] at this, HF.out⟩
set_option maxRecDepth 100000 in
set_option maxHeartbeats 2000000 in
theorem wtext_any (p : ByteArray) (h : Wt wb w s) (hp : p.size ≤ 100000000) (hl : s.length ≤ 800000000) :
    Calls Tryz.prog 102 #[.pointer (some ⟨wb, 0, none⟩), .string p] w fun e w' => e = .returned (.tuple #[]) ∧ Wt wb w' (s ++ (n6 (p.size : Int) ++ p.data.toList)) ∧ FrW wb w w' := by
  obtain ⟨i0, hi, hz0, hz1, hz2⟩ := info_three info_u8
  have H := Lib.hid h
  clear h
  go_enter Tryz.func102, Tryz.ntmps102
  go_wp2_with fail
  refine (wnum_any (p.size : Int) (by omega) H.out (by omega)).mono ?_
  rintro e w1 ⟨rfl, h1, h2⟩
  obtain ⟨v, hB, hO⟩ := h1
  obtain ⟨T, hT⟩ : ∃ T, T = s ++ n6 (p.size : Int) := ⟨_, rfl⟩
  have hTl : T.length ≤ 800000006 := by rw [hT]; simp [n6_len]; omega
  rw [← hT] at hO
  obtain ⟨A, cp, rfl⟩ := one_slice hO
  have HO := Lib.hid hO
  have HB := Lib.hid hB
  have HF := Lib.hid h2
  have HT := Lib.hid hT
  have c0 := hB.cell 0
  have hwb := hB.lt
  clear hO hB h2 hT
  go_wp2_with (at_builtin
               refine Lib.wpList_append_own_string _ rfl (.tmp 12) (.tmp 13) 22 9 rfl wb 5 i0 Tryz.underlying22 Tryz.underlying9 hi hz0 hz1 hz2 _ T.length (Lib.byteCells T) rfl HO.out p rfl (by unfold maxLen; omega) (by omega) (by omega) ?_
               intro v' w4 hown' hgrow _
               have hown2 : w4.ownsRow wb 5 1 v' (T.length + p.data.toList.length) (Lib.byteCells T ++ Lib.byteCells p.data.toList) := hown'
               have hB4 := HB.out.grown hgrow (fun e => own_ne HO.out HB.out (by decide) e.symm)
               have c4 := hB4.cell 0
               have f4 := hB4.frozen 0
               have l4 := hB4.lt
               obtain ⟨hP, hQ⟩ := Wt.push HB.out HO.out hgrow hown2
               have HP := Lib.hid hP
               have HQ := Lib.hid (HF.out.trans hQ)
               obtain ⟨A', cp', hv'⟩ : ∃ A' cp', v' = .slice A' (T.length + p.size) cp' := by rcases hown'.2 with ⟨hv, hn⟩ | ⟨g, c, cur, hv, _⟩; exact ⟨none, 0, by rw [hv, hn]⟩; exact ⟨_, _, hv⟩
               subst hv'
               clear hown' hown2 hgrow hB4 hP hQ)
  go_end0
  exact ⟨rfl, by rw [← List.append_assoc, ← HT.out]; exact HP.out, HQ.out⟩
end Go.Proofs.YtefgobmpleoafaaGreat

