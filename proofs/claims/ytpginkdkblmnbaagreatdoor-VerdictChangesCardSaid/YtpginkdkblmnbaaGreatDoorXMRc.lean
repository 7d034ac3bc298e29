import Derived.Test.YtpginkdkblmnbaaGreatDoorXMRb
import Derived.BigQuiet
import Derived.Deep.QuietTactic
import Derived.Laws.StructEq
namespace Go.Proofs.YtpginkdkblmnbaaGreatDoor
section
theorem Èp : ∀ {p l : List Ru} {x : Ru}, (p.map Ru.id).Nodup → (x ∈ puts l p ↔ x ∈ p ∨ (x ∈ l ∧ x.id ∉ p.map Ru.id))
 | [], l, x, _ => by simp [puts]
 | r :: p, l, x, h => by
  obtain ⟨h1, h2⟩ := List.nodup_cons.1 h
  show x ∈ puts (ins r l) p ↔ _
  rw [Èp h2, Ít];simp only [ė, List.map_cons, not_or];constructor
  ·rintro (h | ⟨rfl | ⟨h3, h4⟩, h5⟩)
   ·exact .inl (.inr h)
   ·exact .inl (.inl rfl)
   ·exact .inr ⟨h3, h4, h5⟩
  ·rintro ((rfl | h) | ⟨h3, h4, h5⟩)
   ·exact .inr ⟨.inl rfl, h1⟩
   ·exact .inl h
   ·exact .inr ⟨.inr ⟨h3, h4⟩, h5⟩
theorem ËG {l : List Ru} {ids : List Int} {x : Ru} : x ∈ drops l ids ↔ x ∈ l ∧ x.id ∉ ids := by simp [drops]
structure År (s : RS) (d : Dl) : Prop where
 ok : s.Ok
 num : (Ÿ s d).num = true
 put : ∀ r ∈ d.put, r.ok = true
 once : d.ids.Nodup
 drop : ∀ i ∈ d.drop, i ∈ s.rs.map Ru.id
 few : (after s d).length ≤ 16
theorem Ãj {s : RS} {d : Dl} (h : År s d) : Õ s d = ({ Ÿ s d with rs := after s d }, 0) := by
 obtain ⟨h1, h2, h3, h4, h5, h6⟩ := h;unfold Õ
 rw [if_neg (by simpa using h1), if_neg (by
  rintro (h | ⟨r, hr, h⟩)
  ·rw [h2] at h; cases h
  ·rw [h3 r hr] at h; cases h), if_neg (by simpa using h4), if_neg (fun ⟨i, a, b⟩ => b (h5 i a)), if_neg (by omega)]
theorem ÀI {s : RS} {d : Dl} : (Õ s d).2 = 0 ↔ År s d := by
 constructor
 ·intro h
  unfold Õ at h
  by_cases h1 : s.Ok
  ·rw [if_neg (by simpa using h1)] at h
   by_cases h2 : (Ÿ s d).num = false ∨ ∃ r ∈ d.put, r.ok = false
   ·rw [if_pos h2] at h; exact absurd h (by decide)
   ·rw [if_neg h2] at h
    by_cases h3 : d.ids.Nodup
    ·rw [if_neg (by simpa using h3)] at h
     by_cases h4 : ∃ i ∈ d.drop, i ∉ s.rs.map Ru.id
     ·rw [if_pos h4] at h; exact absurd h (by decide)
     ·rw [if_neg h4] at h
      by_cases h5 : 16 < (after s d).length
      ·rw [if_pos h5] at h; exact absurd h (by decide)
      ·refine ⟨h1, ?_, fun r hr => ?_, h3, fun i hi => ?_, by omega⟩
       ·cases hn : (Ÿ s d).num with
        | true => rfl
        | false => exact absurd (.inl hn) h2
       ·cases hn : r.ok with
        | true => rfl
        | false => exact absurd (.inr ⟨r, hr, hn⟩) h2
       ·exact Classical.byContradiction fun hn => h4 ⟨i, hi, hn⟩
    ·rw [if_pos (by simpa using h3)] at h; exact absurd h (by decide)
  ·rw [if_pos h1] at h; exact absurd h (by decide)
 ·intro h
  rw [Ãj h]
theorem ÉT {s : RS} {d : Dl} (h : s.Ok) : ť (after s d) := (h.2.2.2.drops _).puts _
theorem År.put_nodup {s : RS} {d : Dl} (h : År s d) : (d.put.map Ru.id).Nodup := (List.nodup_append.1 h.once).1
theorem ËH {s : RS} {d : Dl} (h : År s d) {x : Ru} : x ∈ after s d ↔ x ∈ d.put ∨ (x ∈ s.rs ∧ x.id ∉ d.drop ∧ x.id ∉ d.put.map Ru.id) := by
 unfold after;rw [Èp h.put_nodup, ËG, and_assoc]
theorem År.right {s : RS} {d : Dl} (h : År s d) : RS.Ok { Ÿ s d with rs := after s d } := by
 refine ⟨h.num, h.few, fun r hr => ?_, ÉT h.ok⟩
 rcases (ËH h).1 hr with h' | ⟨h', _⟩
 ·exact h.put r h'
 ·exact h.ok.2.2.1 r h'
end
section
end
section
open Go.RowKit Go.Maps
variable {w w' : World}
def r3 : Ru := ⟨3, 0, 0, 1, ⟨#[97]⟩⟩
end
section
open Go.RowKit Go.Maps
variable {w w' : World}
theorem Ès : (Tryz.prog.info? 109).map (fun i => (i.zero, i.size, i.bytes)) = some (some (.agg #[.int .i64 0, .int .i64 0, .int .i64 0, .int .i64 0, .string ⟨#[]⟩]), 5, 48) := by kernel_rfl
theorem Ú.farset {base : Nat} {e : TypeId} {V : Value} {l : List Ru} (h : Ú w base e V l) {a : Addr} (ha : V.ownBlock ≠ some a.block) (u : Value) : Ú (w.setCell a u) base e V l := ownsRow_setCell_other h ha u
theorem Ú.form {base : Nat} {e : TypeId} {V : Value} {l : List Ru} (h : Ú w base e V l) : ∃ A c, V = .slice A l.length c := by
 obtain ⟨A, c, hv, _⟩ := h.set;exact ⟨A, c, hv⟩
set_option maxRecDepth 100000 in
set_option maxHeartbeats 4000000 in
theorem Äa (s : RS) (v : Value) (w : World) (hmax : s.rs.length ≤ 1000) (hS : Á w.heap.size w v s.rs) :
 Calls Tryz.prog 25 #[.agg #[.int .i64 s.de, .int .i64 s.cl, .int .i64 s.fu, .int .i64 s.st, v]] w
  fun e w' => ∃ V, e = .returned (.agg #[.int .i64 s.de, .int .i64 s.cl, .int .i64 s.fu, .int .i64 s.st, V]) ∧ Ú w' w.heap.size 109 V s.rs ∧ Below w.heap.size w w' := by
 obtain ⟨A, cap, rfl⟩ := hS.form;obtain ⟨i0, hi, hz0, hz1, hz2⟩ := Ã Ès;have HS := ħ hS;clear hS;go_enter Tryz.func25, Tryz.ntmps25
 go_wp2_with fail
 go_upto_region 3 with (fail)
 have hb0 : Below w.heap.size w (((w.alloc (.cells #[.int .i64 s.de, .int .i64 s.cl, .int .i64 s.fu, .int .i64 s.st, .slice A s.rs.length cap] 59)).alloc (.cells #[.int .i64 0, .int .i64 0, .int .i64 0, .int .i64 0, .slice none 0 0] 68)).alloc (.cells #[.int .i64 s.de, .int .i64 s.cl, .int .i64 s.fu, .int .i64 s.st, .slice none 0 0] 68)) := (((ā _ _).alloc (ŋ _) _).alloc (by simp) _).alloc (by simp; omega) _
 have hz : Blk (((w.alloc (.cells #[.int .i64 s.de, .int .i64 s.cl, .int .i64 s.fu, .int .i64 s.st, .slice A s.rs.length cap] 59)).alloc (.cells #[.int .i64 0, .int .i64 0, .int .i64 0, .int .i64 0, .slice none 0 0] 68)).alloc (.cells #[.int .i64 s.de, .int .i64 s.cl, .int .i64 s.fu, .int .i64 s.st, .slice none 0 0] 68)) (w.heap.size + 1) 68 #[.int .i64 0, .int .i64 0, .int .i64 0, .int .i64 0, .slice none 0 0] := (Blk.at_new _ _ (by simp) _ _).alloc _
 have hx : Blk (((w.alloc (.cells #[.int .i64 s.de, .int .i64 s.cl, .int .i64 s.fu, .int .i64 s.st, .slice A s.rs.length cap] 59)).alloc (.cells #[.int .i64 0, .int .i64 0, .int .i64 0, .int .i64 0, .slice none 0 0] 68)).alloc (.cells #[.int .i64 s.de, .int .i64 s.cl, .int .i64 s.fu, .int .i64 s.st, .slice none 0 0] 68)) (w.heap.size + 2) 68 #[.int .i64 s.de, .int .i64 s.cl, .int .i64 s.fu, .int .i64 s.st, .slice none 0 0] := Blk.at_new _ _ (by simp) _ _
 generalize ((w.alloc (.cells #[.int .i64 s.de, .int .i64 s.cl, .int .i64 s.fu, .int .i64 s.st, .slice A s.rs.length cap] 59)).alloc (.cells #[.int .i64 0, .int .i64 0, .int .i64 0, .int .i64 0, .slice none 0 0] 68)).alloc (.cells #[.int .i64 s.de, .int .i64 s.cl, .int .i64 s.fu, .int .i64 s.st, .slice none 0 0] 68) = w0 at *;have HB0 := ħ hb0;have HZ0 := ħ hz;have HX0 := ħ hx;clear hb0 hz hx
 go_loopw [18] (fun i wr => ∃ (k : Nat) (V : Value), k ≤ s.rs.length ∧ i = .int .i64 k ∧ Hid (Blk wr (w.heap.size + 2) 68 #[.int .i64 s.de, .int .i64 s.cl, .int .i64 s.fu, .int .i64 s.st, V]) ∧ Hid (Blk wr (w.heap.size + 1) 68 #[.int .i64 0, .int .i64 0, .int .i64 0, .int .i64 0, .slice none 0 0]) ∧ Hid (Ú wr w.heap.size 109 V (s.rs.take k)) ∧ Hid (Below w.heap.size w wr)) (fun i _ => s.rs.length - (intOf i).toNat)
 case atStart => exact ⟨0, _, Ą _, rfl, HX0, HZ0, ħ (Ú.nil _ _ _), HB0⟩
 case round =>
  obtain ⟨k, V, hk, rfl, HX, HZ, HO, HB⟩ := hrel
  by_cases hlt : k < s.rs.length
  ·obtain ⟨b, off, rfl, hb, c0, c1, c2, c3, c4⟩ := (HS.o.below HB.o).at_ hlt
   have HG := ħ (Ā hlt);generalize s.rs[k] = r at HG c0 c1 c2 c3 c4;have HLt := ħ hlt
   have HLen : Hid ((s.rs.take k ++ [r]).length = k + 1) := ħ (by simp; omega)
   have d4 := HX.o.cell 4;have hlx := HX.o.lt
   have hne := ī HO.o HX.o (by decide)
   have HNe := ħ hne;clear hne hlt
   go_wp2_with (first
    | (at_builtin
       refine ð _ rfl (.tmp 23) (.tmp 25) 66 rfl w.heap.size 109 i0 (.agg #[.int .i64 0, .int .i64 0, .int .i64 0, .int .i64 0, .string ⟨#[]⟩]) 48 Tryz.underlying66 hi hz0 hz1 hz2 rfl V (s.rs.take k) rfl ((HO.o.alloc _).alloc _) _ 1 r rfl (Blk.at_new _ _ (by simp) _ _) (by simp; omega) (by decide) (by have := HB.o.size; simp; omega) ?_
       intro V' w1 hown' hgrow';obtain ⟨VA, VC, hV⟩ := hown'.form;rw [HLen.o] at hV;subst hV
       have hX1 := ((HX.o.alloc (.cells #[.int .i64 r.id, .int .i64 r.pr, .int .i64 r.ac, .int .i64 r.sc, .string r.pat] 71)).alloc (.cells #[.int .i64 r.id, .int .i64 r.pr, .int .i64 r.ac, .int .i64 r.sc, .string r.pat] 109)).grown hgrow' (fun e => HNe.o e.symm)
       have g4 := hX1.frozen 4;have e4 := hX1.cell 4
       have hl1 := hX1.lt)
    | go_in)
   have hne1 := ī hown' hX1 (by decide)
   have hX2 : Blk (w1.setCell ⟨w.heap.size + 2, 4, none⟩ (.slice VA (k + 1) VC)) (w.heap.size + 2) 68 #[.int .i64 s.de, .int .i64 s.cl, .int .i64 s.fu, .int .i64 s.st, .slice VA (k + 1) VC] := hX1.set_ 4 _
   have hO2 : Ú (w1.setCell ⟨w.heap.size + 2, 4, none⟩ (.slice VA (k + 1) VC)) w.heap.size 109 (.slice VA (k + 1) VC) (s.rs.take (k + 1)) := by
    rw [Ő HG.o];exact hown'.farset hne1 _
   have hB1 : Below w.heap.size w w1 := ((HB.o.alloc HB.o.size _).alloc (by have := HB.o.size; simp; omega) _).grown hgrow' (by have := HB.o.size; simp; omega) (fun j hj => (World.ownsRow.lt HO.o j hj).1)
   have hZ1 : Blk w1 (w.heap.size + 1) 68 #[.int .i64 0, .int .i64 0, .int .i64 0, .int .i64 0, .slice none 0 0] := ((HZ.o.alloc _).alloc _).grown hgrow' (fun e => by
    have := ī HO.o HZ.o (by decide)
    exact this e.symm)
   have HX2 := ħ hX2;have HO2 := ħ hO2
   have HB2 := ħ (hB1.setCell (p := ⟨w.heap.size + 2, 4, none⟩) (show w.heap.size ≤ w.heap.size + 2 by omega) (.slice VA (k + 1) VC))
   have HZ2 := ħ (hZ1.far (p := ⟨w.heap.size + 2, 4, none⟩) (show w.heap.size + 1 ≠ w.heap.size + 2 by omega) (.slice VA (k + 1) VC))
   clear hne1 hX2 hO2 hB1 hZ1 hX1 hown' hgrow' g4 e4;go_roundw
   case rel => exact ⟨k + 1, _, HLt.o, by go_num, HX2, HZ2, HO2, HB2⟩
   case measure => have := HLt.o; simp [intOf]; omega
  ·obtain rfl : k = s.rs.length := by omega
   have hO := HO.o;rw [Ă] at hO;obtain ⟨VA, VC, rfl⟩ := hO.form;obtain ⟨z0, z1, z2, z3, z4⟩ := HZ.o.c5;obtain ⟨f0, f1, f2, f3, f4⟩ := HZ.o.f5;obtain ⟨x0, x1, x2, x3, x4⟩ := HX.o.c5;have hlr := HZ.o.lt;have hlx := HX.o.lt;have HOf := ħ hO
   have hne := ī hO HZ.o (by decide)
   have HNe := ħ hne;clear hO hne;go_wp2
   refine bodyPost_ret (v := .agg #[.int .i64 s.de, .int .i64 s.cl, .int .i64 s.fu, .int .i64 s.st, .slice VA s.rs.length VC]) (by simp [results, Tryz.results25, go_sem, *]) rfl ⟨_, rfl, ?_, ?_⟩
   ·exact ((((HOf.o.farset HNe.o _).farset HNe.o _).farset HNe.o _).farset HNe.o _).farset HNe.o _
   ·refine Below.setCell ?_ (show w.heap.size ≤ w.heap.size + 1 by omega) _
    refine Below.setCell ?_ (show w.heap.size ≤ w.heap.size + 1 by omega) _
    refine Below.setCell ?_ (show w.heap.size ≤ w.heap.size + 1 by omega) _
    refine Below.setCell ?_ (show w.heap.size ≤ w.heap.size + 1 by omega) _
    refine Below.setCell ?_ (show w.heap.size ≤ w.heap.size + 1 by omega) _
    exact HB.o
end
section
open Go.RowKit Go.Maps
variable {w w' : World}
def ËJ (a b : Ru) : Bool := a.id == b.id && a.pr == b.pr && a.ac == b.ac && a.sc == b.sc && a.pat.toList == b.pat.toList
theorem Èt (a b : Ru) : ËJ a b = true ↔ a = b := by
 obtain ⟨a1, a2, a3, a4, a5⟩ := a;obtain ⟨b1, b2, b3, b4, b5⟩ := b;simp only [ËJ, Bool.and_eq_true, beq_iff_eq, Ru.mk.injEq, and_assoc];constructor
 ·rintro ⟨h1, h2, h3, h4, h5⟩
  refine ⟨h1, h2, h3, h4, ?_⟩;rw [ByteArray.toList_eq, ByteArray.toList_eq] at h5;obtain ⟨⟨x⟩⟩ := a5;obtain ⟨⟨y⟩⟩ := b5;simp at h5;rw [h5]
 ·rintro ⟨h1, h2, h3, h4, rfl⟩
  exact ⟨h1, h2, h3, h4, rfl⟩
theorem ËK (a : Ru) : ËJ a a = true := (Èt a a).2 rfl
theorem ÉV (a b : Ru) (w : World) : (binOp .neq 109 (.agg #[.int .i64 a.id, .int .i64 a.pr, .int .i64 a.ac, .int .i64 a.sc, .string a.pat]) (.agg #[.int .i64 b.id, .int .i64 b.pr, .int .i64 b.ac, .int .i64 b.sc, .string b.pat])).run Tryz.prog w = .ok (.bool (!ËJ a b)) w := by
 have u3 := Tryz.underlying3;have a3 := Tryz.isAgg3;have z3 := Tryz.sizeOf3;have u9 := Tryz.underlying9;have a9 := Tryz.isAgg9;have z9 := Tryz.sizeOf9
 have hS : Tryz.prog.underlying 109 = some (.struct (Tryz.prog.fieldsOf 109)) := by kernel_rfl
 have hp : Tryz.prog.stoodInHeld 109 = false := by kernel_rfl
 rw [run_neq_struct, show (10000 : Nat) = 9999 + 1 from rfl, run_equalIn_agg w 9999 109 _ _ hS hp]
 simp only [Program.fieldsOf, Tryz.underlying109];go_simp
 by_cases h1 : a.id = b.id <;> by_cases h2 : a.pr = b.pr <;> by_cases h3 : a.ac = b.ac <;> by_cases h4 : a.sc = b.sc <;> by_cases h5 : a.pat.toList = b.pat.toList <;> simp [ËJ, h1, h2, h3, h4, h5]
set_option maxRecDepth 100000 in
set_option maxHeartbeats 8000000 in
theorem Íf (a b : RS) (va vb : Value) (w : World) (hma : a.rs.length ≤ 1000000) (hmb : b.rs.length ≤ 1000000) (hS : Á w.heap.size w va a.rs) (hO : Á w.heap.size w vb b.rs) :
 Calls Tryz.prog 30 #[.agg #[.int .i64 a.de, .int .i64 a.cl, .int .i64 a.fu, .int .i64 a.st, va], .agg #[.int .i64 b.de, .int .i64 b.cl, .int .i64 b.fu, .int .i64 b.st, vb]] w
  fun e w' => ∃ c, e = .returned (.bool c) ∧ (c = true ↔ a = b) ∧ Below w.heap.size w w' := by
 obtain ⟨A, cap, rfl⟩ := hS.form;obtain ⟨B, cap', rfl⟩ := hO.form
 have hb0 : Below w.heap.size w ((w.alloc (.cells #[.int .i64 a.de, .int .i64 a.cl, .int .i64 a.fu, .int .i64 a.st, .slice A a.rs.length cap] 68)).alloc (.cells #[.int .i64 b.de, .int .i64 b.cl, .int .i64 b.fu, .int .i64 b.st, .slice B b.rs.length cap'] 68)) := ((ā _ _).alloc (ŋ _) _).alloc (by simp) _
 have HB0 := ħ hb0;clear hb0
 by_cases h0 : a.de = b.de
 ·have p0 : (a.de != b.de) = false := by simp [h0]
  have H0 := ħ h0;clear h0
  by_cases h1 : a.cl = b.cl
  ·have p1 : (a.cl != b.cl) = false := by simp [h1]
   have H1 := ħ h1;clear h1
   by_cases h2 : a.fu = b.fu
   ·have p2 : (a.fu != b.fu) = false := by simp [h2]
    have H2 := ħ h2;clear h2
    by_cases h3 : a.st = b.st
    ·have p3 : (a.st != b.st) = false := by simp [h3]
     have H3 := ħ h3;clear h3
     by_cases hl : a.rs.length = b.rs.length
     ·have pl : ((a.rs.length : Int) != (b.rs.length : Int)) = false := by simp [hl]
      have HL := ħ hl;clear hl;go_enter Tryz.func30, Tryz.ntmps30;go_wp2;generalize hw0 : (w.alloc (.cells #[.int .i64 a.de, .int .i64 a.cl, .int .i64 a.fu, .int .i64 a.st, .slice A a.rs.length cap] 68)).alloc (.cells #[.int .i64 b.de, .int .i64 b.cl, .int .i64 b.fu, .int .i64 b.st, .slice B b.rs.length cap'] 68) = w0
      have hb0 : Below w.heap.size w w0 := by rw [← hw0]; exact HB0.o
      have hx : Blk w0 w.heap.size 68 #[.int .i64 a.de, .int .i64 a.cl, .int .i64 a.fu, .int .i64 a.st, .slice A a.rs.length cap] := by rw [← hw0]; exact (Blk.new _ _ _).alloc _
      have hy : Blk w0 (w.heap.size + 1) 68 #[.int .i64 b.de, .int .i64 b.cl, .int .i64 b.fu, .int .i64 b.st, .slice B b.rs.length cap'] := by rw [← hw0]; exact Blk.at_new _ _ (by simp) _ _
      have HSA := ħ (hS.on hb0);have HSB := ħ (hO.on hb0);have HX := ħ hx;have HY := ħ hy;have HBw := ħ hb0;clear hw0 hb0 hx hy HB0 hS hO
      go_loopw [5] (fun i wr => ∃ k : Nat, k ≤ a.rs.length ∧ i = .int .i64 k ∧ Hid (a.rs.take k = b.rs.take k) ∧ Below w0.heap.size w0 wr) (fun i _ => a.rs.length - (intOf i).toNat)
      case atStart => exact ⟨0, Ą _, rfl, ħ rfl, ā _ _⟩
      case round =>
       obtain ⟨k, hk, rfl, HH, hbel⟩ := hrel;have hsz := hbel.size;have x4 := (HX.o.on hbel).cell 4;have y4 := (HY.o.on hbel).cell 4
       by_cases hlt : k < a.rs.length
       ·have hlt' : k < b.rs.length := by have := HL.o; omega
        have hlti : (k : Int) < (b.rs.length : Int) := by omega
        have hltj : (k : Int) < (a.rs.length : Int) := by omega
        obtain ⟨b1, off, hA1, hb, c0, c1, c2, c3, c4⟩ := (HSA.o.below hbel).at_ hlt;obtain ⟨b2, off', hA2, hb', d0, d1, d2, d3, d4⟩ := (HSB.o.below hbel).at_ hlt';subst hA1 hA2;have HG := ħ (Ā hlt);have HG' := ħ (Ā hlt');generalize a.rs[k] = r at HG c0 c1 c2 c3 c4;generalize b.rs[k] = r' at HG' d0 d1 d2 d3 d4;have HLt := ħ hlt;clear hlt hlt';have hneq := ÉV r r';cases hin : ËJ r r'
        ·have HI := ħ hin
         rw [hin] at hneq;go_wp2;go_quiet (fail);go_wp2;go_ret;refine ⟨false, rfl, ?_, HBw.o.trans ((hbel.mono HBw.o.size).trans ?_)⟩
         ·constructor
          ·intro h; cases h
          ·intro h
           subst h;rw [HG.o] at HG';have := Option.some.inj HG'.o;subst this;rw [ËK] at HI;cases HI.o
         ·exact Below.drewN' (ā _ _) _
        ·have HI := ħ ((Èt r r').1 hin)
         rw [hin] at hneq;go_wp2;go_quiet (fail);go_wp2;go_roundw
         case rel => exact ⟨k + 1, HLt.o, by go_num, ħ (by rw [Ő HG.o, Ő HG'.o, HH.o, HI.o]), Below.drewN' hbel _⟩
         case measure => have := HLt.o; simp [intOf]; omega
       ·obtain rfl : k = a.rs.length := by omega
        have HE : Hid (a = b) := ħ (by
         have h := HH.o;rw [Ă, HL.o, Ă] at h;cases a; cases b;simp only at h H0 H1 H2 H3
         rw [h, H0.o, H1.o, H2.o, H3.o])
        go_wp2;go_ret
        exact ⟨true, rfl, by simp [HE.o], HBw.o.trans (hbel.mono HBw.o.size)⟩
     ·have pl : ((a.rs.length : Int) != (b.rs.length : Int)) = true := by simp; omega
      have HH := ħ hl;clear hl;go_enter Tryz.func30, Tryz.ntmps30;go_wp2;go_ret
      exact ⟨false, rfl, by constructor; (intro h; cases h); (intro h; exact absurd (congrArg (fun s => s.rs.length) h) HH.o), HB0.o⟩
    ·have p3 : (a.st != b.st) = true := by simp [h3]
     have HH := ħ h3;clear h3;go_enter Tryz.func30, Tryz.ntmps30;go_wp2;go_ret
     exact ⟨false, rfl, by constructor; (intro h; cases h); (intro h; exact absurd (congrArg RS.st h) HH.o), HB0.o⟩
   ·have p2 : (a.fu != b.fu) = true := by simp [h2]
    have HH := ħ h2;clear h2;go_enter Tryz.func30, Tryz.ntmps30;go_wp2;go_ret
    exact ⟨false, rfl, by constructor; (intro h; cases h); (intro h; exact absurd (congrArg RS.fu h) HH.o), HB0.o⟩
  ·have p1 : (a.cl != b.cl) = true := by simp [h1]
   have HH := ħ h1;clear h1;go_enter Tryz.func30, Tryz.ntmps30;go_wp2;go_ret
   exact ⟨false, rfl, by constructor; (intro h; cases h); (intro h; exact absurd (congrArg RS.cl h) HH.o), HB0.o⟩
 ·have p0 : (a.de != b.de) = true := by simp [h0]
  have HH := ħ h0;clear h0;go_enter Tryz.func30, Tryz.ntmps30;go_wp2;go_ret
  exact ⟨false, rfl, by constructor; (intro h; cases h); (intro h; exact absurd (congrArg RS.de h) HH.o), HB0.o⟩
end
section
open Go.RowKit Go.Maps
variable {w w' : World}
section
variable {P : Program} (w : World)
end
theorem Ú.held {base : Nat} {e : TypeId} {A : Option Addr} {n c : Nat} {l : List Ru} (h : Ú w base e (.slice A n c) l) (hn : 0 < l.length) : ∃ g cs, A = some ⟨g, 0, none⟩ ∧ base ≤ g ∧ Blk w g e cs ∧ l.length * 5 ≤ cs.size := by
 rcases h.2 with ⟨_, h0⟩ | ⟨g, cap, cur, hv, hb, hg, hc, _, hs, _⟩
 ·omega
 ·injection hv with h1 h2 h3
  refine ⟨g, cur, h1, hb, hg, ?_⟩;rw [hs];exact Nat.mul_le_mul_right 5 hc
theorem Far.of_own {base : Nat} {e : TypeId} {v : Value} {l : List Ru} (h : Ú w base e v l) : Far base v := fun k hk => (h.lt k hk).1
end
end Go.Proofs.YtpginkdkblmnbaaGreatDoor
