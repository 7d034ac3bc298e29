import Derived.Shelf.SlSortCmp.QuietGrown
import Derived.Deep.RegionHeld
import Derived.Test.YtpginkdkblmnbaaGreatDoorXRuOi
namespace Go.Proofs.YtpginkdkblmnbaaGreatDoor
section
open Go.RowKit
variable {w w' : World}
set_option maxRecDepth 100000 in
set_option maxHeartbeats 4000000 in
theorem ÂA (r : Ru) (w : World) : Calls Tryz.prog 77 #[.agg #[.int .i64 r.id, .int .i64 r.pr, .int .i64 r.ac, .int .i64 r.sc, .string r.pat]] w fun e w' => e = .returned (.bool r.ok) ∧ w' = w.alloc (.cells #[.int .i64 r.id, .int .i64 r.pr, .int .i64 r.ac, .int .i64 r.sc, .string r.pat] 109) := by
 obtain ⟨id, pr, ac, sc, pat⟩ := r;simp only;obtain ⟨k, hk⟩ : ∃ k, k = Ru.ok ⟨id, pr, ac, sc, pat⟩ := ⟨_, rfl⟩;rw [← hk];unfold Ru.ok at hk;simp only at hk
 have fin : ∀ {b : Bool} {w1 : World}, b = k → w1 = w.alloc (.cells #[.int .i64 id, .int .i64 pr, .int .i64 ac, .int .i64 sc, .string pat] 109) → Ending.returned (.bool b) = Ending.returned (.bool k) ∧ w1 = w.alloc (.cells #[.int .i64 id, .int .i64 pr, .int .i64 ac, .int .i64 sc, .string pat] 109) := fun e e' => ⟨by rw [e], e'⟩
 by_cases h0 : 1 ≤ id
 ·by_cases h1 : id ≤ 1099511627776
  ·by_cases h2 : 0 ≤ pr
   ·by_cases h3 : pr ≤ 1000
    ·by_cases h4 : 0 ≤ ac
     ·by_cases h5 : ac ≤ 255
      ·by_cases h6 : 1 ≤ sc
       ·by_cases h7 : sc ≤ 65535
        ·by_cases h8 : (pat.size : Int) ≤ 256
         ·go_enter Tryz.func77, Tryz.ntmps77
          go_wp2;go_ret
          exact fin (by rw [hk]; exact (decide_eq_true (by omega)).symm) rfl
         ·go_enter Tryz.func77, Tryz.ntmps77
          go_wp2;go_ret
          exact fin (by rw [hk]; exact (decide_eq_false (by omega)).symm) rfl
        ·go_enter Tryz.func77, Tryz.ntmps77
         go_wp2;go_ret
         exact fin (by rw [hk]; exact (decide_eq_false (by omega)).symm) rfl
       ·go_enter Tryz.func77, Tryz.ntmps77
        go_wp2;go_ret
        exact fin (by rw [hk]; exact (decide_eq_false (by omega)).symm) rfl
      ·go_enter Tryz.func77, Tryz.ntmps77
       go_wp2;go_ret
       exact fin (by rw [hk]; exact (decide_eq_false (by omega)).symm) rfl
     ·go_enter Tryz.func77, Tryz.ntmps77
      go_wp2;go_ret
      exact fin (by rw [hk]; exact (decide_eq_false (by omega)).symm) rfl
    ·go_enter Tryz.func77, Tryz.ntmps77
     go_wp2;go_ret
     exact fin (by rw [hk]; exact (decide_eq_false (by omega)).symm) rfl
   ·go_enter Tryz.func77, Tryz.ntmps77
    go_wp2;go_ret
    exact fin (by rw [hk]; exact (decide_eq_false (by omega)).symm) rfl
  ·go_enter Tryz.func77, Tryz.ntmps77
   go_wp2;go_ret
   exact fin (by rw [hk]; exact (decide_eq_false (by omega)).symm) rfl
 ·go_enter Tryz.func77, Tryz.ntmps77
  go_wp2;go_ret
  exact fin (by rw [hk]; exact (decide_eq_false (by omega)).symm) rfl
theorem Ås (r : Ru) (w : World) : Calls Tryz.prog 77 #[.agg #[.int .i64 r.id, .int .i64 r.pr, .int .i64 r.ac, .int .i64 r.sc, .string r.pat]] w fun e w' => e = .returned (.bool r.ok) ∧ Below w.heap.size w w' :=
 (ÂA r w).mono fun _ _ ⟨he, hw⟩ => ⟨he, by rw [hw]; exact (ā _ _).alloc (ŋ _) _⟩
set_option maxRecDepth 100000 in
set_option maxHeartbeats 4000000 in
theorem Èu (s : RS) (v : Value) (hv : ∃ A n c, v = .slice A n c) (w : World) : Calls Tryz.prog 76 #[.agg #[.int .i64 s.de, .int .i64 s.cl, .int .i64 s.fu, .int .i64 s.st, v]] w fun e w' => e = .returned (.bool s.num) ∧ Below w.heap.size w w' := by
 obtain ⟨A, n, c, rfl⟩ := hv;obtain ⟨de, cl, fu, st, rs⟩ := s;simp only;have HB := ħ ((ā w.heap.size w).alloc (ŋ _) (.cells #[.int .i64 de, .int .i64 cl, .int .i64 fu, .int .i64 st, .slice A n c] 68));obtain ⟨k, hk⟩ : ∃ k, k = RS.num ⟨de, cl, fu, st, rs⟩ := ⟨_, rfl⟩;rw [← hk];unfold RS.num at hk;simp only at hk
 have fin : ∀ {b : Bool} {w1 : World}, b = k → w1 = w.alloc (.cells #[.int .i64 de, .int .i64 cl, .int .i64 fu, .int .i64 st, .slice A n c] 68) → Ending.returned (.bool b) = Ending.returned (.bool k) ∧ Below w.heap.size w w1 := fun e e' => ⟨by rw [e], by rw [e']; exact HB.o⟩
 by_cases h0 : 0 ≤ de
 ·by_cases h1 : de ≤ 255
  ·by_cases h2 : 0 ≤ cl
   ·by_cases h3 : cl ≤ 255
    ·by_cases h4 : 1 ≤ fu
     ·by_cases h5 : fu ≤ 1048576
      ·by_cases h6 : 0 ≤ st
       ·by_cases h7 : st ≤ 4096
        ·go_enter Tryz.func76, Tryz.ntmps76
         go_wp2;go_ret
         exact fin (by rw [hk]; exact (decide_eq_true (by omega)).symm) rfl
        ·go_enter Tryz.func76, Tryz.ntmps76
         go_wp2;go_ret
         exact fin (by rw [hk]; exact (decide_eq_false (by omega)).symm) rfl
       ·go_enter Tryz.func76, Tryz.ntmps76
        go_wp2;go_ret
        exact fin (by rw [hk]; exact (decide_eq_false (by omega)).symm) rfl
      ·go_enter Tryz.func76, Tryz.ntmps76
       go_wp2;go_ret
       exact fin (by rw [hk]; exact (decide_eq_false (by omega)).symm) rfl
     ·go_enter Tryz.func76, Tryz.ntmps76
      go_wp2;go_ret
      exact fin (by rw [hk]; exact (decide_eq_false (by omega)).symm) rfl
    ·go_enter Tryz.func76, Tryz.ntmps76
     go_wp2;go_ret
     exact fin (by rw [hk]; exact (decide_eq_false (by omega)).symm) rfl
   ·go_enter Tryz.func76, Tryz.ntmps76
    go_wp2;go_ret
    exact fin (by rw [hk]; exact (decide_eq_false (by omega)).symm) rfl
  ·go_enter Tryz.func76, Tryz.ntmps76
   go_wp2;go_ret
   exact fin (by rw [hk]; exact (decide_eq_false (by omega)).symm) rfl
 ·go_enter Tryz.func76, Tryz.ntmps76
  go_wp2;go_ret
  exact fin (by rw [hk]; exact (decide_eq_false (by omega)).symm) rfl
theorem Äp (n keep : Int) (w : World) : Calls Tryz.prog 82 #[.int .i64 n, .int .i64 keep] w fun e w' => e = .returned (.int .i64 (orK n keep)) ∧ w' = w := by
 go_enter Tryz.func82, Tryz.ntmps82;unfold orK
 by_cases h : n = -1
 ·subst h
  go_wp2;go_ret;exact ⟨rfl, rfl⟩
 ·rw [if_neg h]
  go_wp2;go_ret;exact ⟨rfl, rfl⟩
end
section
open Go.RowKit
variable {w w' : World}
section
variable {P : Program} {ops : Array Oper} {C : World → Prop} {Q K : Act → Prop} {o : Oper} {rest : List Oper} {a : Act}
theorem Äb (hK : ∀ a, wpQuiet P ops C Q (o :: rest) a → K a) (hw : Region.wanted o (yielded ops a.tmps) = false) (h : ∀ K' : Act → Prop, (∀ a, wpQuiet P ops C Q rest a → K' a) → K' (a.put o.dst undef)) : K a :=
 hK _ (by unfold wpQuiet; rw [hw]; exact h _ (fun _ h => h))
theorem Âg (hK : ∀ a, wpQuiet P ops C Q (o :: rest) a → K a) (h : ∀ K' : Act → Prop, (∀ a, wpQuiet P ops C Q rest a → K' a) → if Region.wanted o (yielded ops a.tmps) then o.quiet P a C K' else K' (a.put o.dst undef)) : K a :=
 hK _ (wpQuiet_step h)
end
theorem Ág.at_rule {b o : Nat} {r : Ru} (h : Ág w b o r) (hb : b < w.heap.size) (n : Nat) (os : Array Obj) : Ág (Sort.grow (w.drewN n) os) b o r :=
 ⟨cell_grown hb h.1 n os, cell_grown hb h.2.1 n os, cell_grown hb h.2.2.1 n os, cell_grown hb h.2.2.2.1 n os, cell_grown hb h.2.2.2.2 n os⟩
theorem ÁF (w : World) (n : Nat) (os : Array Obj) : Below w.heap.size w (Sort.grow (w.drewN n) os) :=
 ⟨rfl, rfl, rfl, by simp [Sort.grow], fun i hi => Sort.heap_grow_old _ _ (by exact hi)⟩
theorem Çg (r : Ru) (w : World) : Calls Tryz.prog 77 #[.agg #[.int .i64 r.id, .int .i64 r.pr, .int .i64 r.ac, .int .i64 r.sc, .string r.pat]] w fun e w' => e = .returned (.bool r.ok) ∧ ∃ q os', w' = Sort.grow (w.drewN q) os' :=
 (ÂA r w).mono (by rintro e w' ⟨rfl, rfl⟩; exact ⟨rfl, 0, _, by rw [Sort.alloc_eq_grow]; rfl⟩)
theorem Åt {l : List Ru} {k : Nat} {r : Ru} (h : l[k]? = some r) (hr : ť (l.take k)) (hk : ∀ p, k = p + 1 → ∀ q, l[p]? = some q → q.id < r.id) : ť (l.take (k + 1)) := by
 rw [Ő h]
 refine List.pairwise_append.2 ⟨hr, by simp, fun x hx y hy => ?_⟩
 rw [List.mem_singleton.1 hy];obtain ⟨i, hi, rfl⟩ := List.getElem_of_mem hx;obtain ⟨hkl, _⟩ := List.getElem?_eq_some_iff.1 h
 have hi' : i < k := by rw [List.length_take] at hi; omega
 have hp := hk (k - 1) (by omega) l[k - 1] (Ā (by omega))
 rw [List.getElem_take]
 by_cases e : i = k - 1
 ·subst e; exact hp
 ·have := List.pairwise_iff_getElem.1 hr i (k - 1) hi (by rw [List.length_take]; omega) (by omega)
  rw [List.getElem_take, List.getElem_take] at this;omega
set_option maxRecDepth 100000 in
set_option maxHeartbeats 4000000 in
theorem Åu (s : RS) (v : Value) (w : World) (hmax : s.rs.length ≤ 1000000) (hS : Á w.heap.size w v s.rs) :
 Calls Tryz.prog 48 #[.agg #[.int .i64 s.de, .int .i64 s.cl, .int .i64 s.fu, .int .i64 s.st, v]] w fun e w' => e = .returned (.bool (decide s.Ok)) ∧ Below w.heap.size w w' := by
 obtain ⟨A, cap, rfl⟩ := hS.form
 have mixed : Tryz.prog.follows .mixedOrders = true := by kernel_rfl
 have hb0 : Below w.heap.size w (w.alloc (.cells #[.int .i64 s.de, .int .i64 s.cl, .int .i64 s.fu, .int .i64 s.st, .slice A s.rs.length cap] 68)) := (ā _ _).alloc (ŋ _) _;have hx0 : Blk (w.alloc (.cells #[.int .i64 s.de, .int .i64 s.cl, .int .i64 s.fu, .int .i64 s.st, .slice A s.rs.length cap] 68)) w.heap.size 68 #[.int .i64 s.de, .int .i64 s.cl, .int .i64 s.fu, .int .i64 s.st, .slice A s.rs.length cap] := Blk.new _ _ _;have HS := ħ (hS.on hb0);have HB0 := ħ hb0;have HX0 := ħ hx0;clear hS hb0 hx0;obtain ⟨k0, hk0⟩ : ∃ k, k = decide s.Ok := ⟨_, rfl⟩;rw [← hk0];have HK := ħ hk0;clear hk0
 have fin : ∀ {b : Bool} {w1 : World}, b = k0 → Below w.heap.size w w1 → Ending.returned (.bool b) = Ending.returned (.bool k0) ∧ Below w.heap.size w w1 := fun e e' => ⟨by rw [e], e'⟩
 go_enter Tryz.func48, Tryz.ntmps48
 go_wp2_with fail
 generalize w.alloc (.cells #[.int .i64 s.de, .int .i64 s.cl, .int .i64 s.fu, .int .i64 s.st, .slice A s.rs.length cap] 68) = w0 at *;refine (Èu s _ ⟨_, _, _, rfl⟩ w0).mono ?_;rintro e w1 ⟨rfl, hb1⟩;have HB1 := ħ (HB0.o.trans (hb1.mono HB0.o.size));have HS1 := ħ (HS.o.on hb1);have HX1 := ħ (HX0.o.on hb1);clear hb1 HS HB0 HX0;have x4 := HX1.o.cell 4;have hlx := HX1.o.lt
 cases hn : s.num with
 | false =>
  have HN := ħ hn;clear hn;go_wp2;go_ret
  exact fin (by rw [HK.o]; exact (decide_eq_false fun h => by rw [h.1] at HN; cases HN.o).symm) HB1.o
 | true =>
  have HN := ħ hn;clear hn
  by_cases hl : s.rs.length ≤ 16
  ·have hl' : ¬ (16 : Int) < (s.rs.length : Int) := by omega
   have HL := ħ hl;clear hl;go_wp2;clear x4 hlx
   go_loopw [3] (fun i wr => ∃ k : Nat, k ≤ s.rs.length ∧ i = .int .i64 k ∧ Hid ((∀ r ∈ s.rs.take k, r.ok = true) ∧ ť (s.rs.take k)) ∧ Hid (Below w1.heap.size w1 wr)) (fun i _ => s.rs.length - (intOf i).toNat)
   case atStart => exact ⟨0, Ą _, rfl, ħ (by simp), ħ (ā _ _)⟩
   case round =>
    obtain ⟨k, hk, rfl, HH, HB⟩ := hrel;have hX := HX1.o.on HB.o;have x4 := hX.cell 4;have hlx := hX.lt
    by_cases hlt : k < s.rs.length
    ·obtain ⟨b, off, rfl, hb, hr⟩ := (HS1.o.on HB.o).at_ hlt
     have HG := ħ (Ā hlt);generalize s.rs[k] = r at HG hr;have HLt := ħ hlt
     have hq := fun n os => Ág.at_rule hr hb n os
     have q0 := fun n os => (hq n os).1
     have q1 := fun n os => (hq n os).2.1
     have q2 := fun n os => (hq n os).2.2.1
     have q3 := fun n os => (hq n os).2.2.2.1
     have q4 := fun n os => (hq n os).2.2.2.2
     have y4 := fun n os => cell_grown hlx x4 n os
     have hcon := fun W => Çg r W
     clear hq
     cases hok : r.ok with
     | false =>
      have HI := ħ hok;rw [hok] at hcon;clear hok
      go_wp2_with fail
      refine wp_region_quiet_grown (by assumption) (by kernel_rfl) ?_
      iterate 5 quiet_step (fail)
      quiet_step (first | (go_at_call 77; exact Calls.grown_of (hcon _)))
      iterate 1 quiet_step (fail)
      refine wpQuiet_step (fun K hK => ?_)
      go_simp
      iterate 18 (refine Äb hK (by kernel_rfl) (fun K hK => ?_); simp only [Act.put, ł, ø, đ])
      refine Âg hK (fun K hK => ?_)
      go_simp;refine hK _ (wpQuiet_nil ?_);clear hK;intro _ hw';obtain ⟨⟨nq, osq⟩, hw''⟩ := hw';subst hw'';clear q0 q1 q2 q3 q4 y4 x4;have HW := ħ (ÁF wr nq osq);generalize Sort.grow (wr.drewN nq) osq = w2 at HW ⊢;go_wp2;go_ret
      exact fin (by rw [HK.o]; exact (decide_eq_false fun h => by rw [h.2.2.1 r (Č HG.o)] at HI; cases HI.o).symm) (HB1.o.trans ((HB.o.trans (HW.o.mono HB.o.size)).mono HB1.o.size))
     | true =>
      have HI := ħ hok;rw [hok] at hcon;clear hok
      by_cases h0 : k = 0
      ·subst h0
       simp only [Nat.zero_mul, Nat.add_zero] at q0 q1 q2 q3 q4
       go_wp2_with fail
       refine wp_region_quiet_grown (by assumption) (by kernel_rfl) ?_
       iterate 5 quiet_step (fail)
       quiet_step (first | (go_at_call 77; exact Calls.grown_of (hcon _)))
       iterate 4 quiet_step (fail)
       refine wpQuiet_step (fun K hK => ?_)
       go_simp
       iterate 14 (refine Äb hK (by kernel_rfl) (fun K hK => ?_); simp only [Act.put, ł, ø, đ])
       refine Âg hK (fun K hK => ?_)
       go_simp
       refine Âg hK (fun K hK => ?_)
       go_simp;refine hK _ (wpQuiet_nil ?_);clear hK;intro _ hw';obtain ⟨⟨nq, osq⟩, hw''⟩ := hw';subst hw'';clear q0 q1 q2 q3 q4 y4 x4;have HW := ħ (ÁF wr nq osq);generalize Sort.grow (wr.drewN nq) osq = w2 at HW ⊢;go_wp2;go_roundw
       case rel => exact ⟨1, HLt.o, by go_num, ħ (by
        rw [show 1 = 0 + 1 from rfl, Ő HG.o]
        simpa using HI.o), ħ (HB.o.trans (HW.o.mono HB.o.size))⟩
       case measure => have := HLt.o; simp [intOf]; omega
      ·obtain ⟨p, hkp⟩ : ∃ p, k = p + 1 := ⟨k - 1, by omega⟩
       obtain ⟨b', off', hA, hb', hr'⟩ := (HS1.o.on HB.o).at_ (k := p) (by omega)
       injection hA with hA
       injection hA with hA1 hA2
       subst hA1 hA2
       have HG' := ħ (Ā (l := s.rs) (i := p) (by omega))
       generalize s.rs[p] = r' at HG' hr'
       have p0 := fun n os => (Ág.at_rule hr' hb n os).1
       have hsub : (k : Int) - 1 = (p : Int) := by omega
       have hkpos : (0 : Int) < (k : Int) := by omega
       have hpl : p < s.rs.length := by omega
       have hkn : 0 < k := by omega
       have hwr : IntKind.i64.wrap (p : Int) = (p : Int) := by have := HL.o; rw [IntKind.wrap_i64]; omega
       have hkd : decide (0 < k) = true := decide_eq_true hkn;have HKp := ħ hkp;clear hkp h0
       by_cases hle : r.id ≤ r'.id
       ·have HE := ħ hle
        go_wp2_with fail
        go_quiet_grown (first | (go_at_call 77; exact Calls.grown_of (hcon _)))
        clear q0 q1 q2 q3 q4 y4 x4 p0;have HW := ħ (ÁF wr nq osq);generalize Sort.grow (wr.drewN nq) osq = w2 at HW ⊢;go_wp2;go_ret
        exact fin (by rw [HK.o]; exact (decide_eq_false fun h => by
         obtain ⟨u1, e1⟩ := List.getElem?_eq_some_iff.1 HG.o;obtain ⟨u2, e2⟩ := List.getElem?_eq_some_iff.1 HG'.o
         have := List.pairwise_iff_getElem.1 h.2.2.2 p k u2 u1 (by have := HKp.o; omega)
         rw [e1, e2] at this;have := HE.o
         omega).symm) (HB1.o.trans ((HB.o.trans (HW.o.mono HB.o.size)).mono HB1.o.size))
       ·have HE := ħ hle
        go_wp2_with fail
        go_quiet_grown (first | (go_at_call 77; exact Calls.grown_of (hcon _)))
        clear q0 q1 q2 q3 q4 y4 x4 p0;have HW := ħ (ÁF wr nq osq);generalize Sort.grow (wr.drewN nq) osq = w2 at HW ⊢;go_wp2;go_roundw
        case rel => exact ⟨k + 1, HLt.o, by go_num, ħ (by
         refine ⟨?_, Åt HG.o HH.o.2 fun q hq y hy => ?_⟩
         ·rw [Ő HG.o]
          intro x hx
          rcases List.mem_append.1 hx with h | h
          ·exact HH.o.1 x h
          ·rw [List.mem_singleton.1 h]; exact HI.o
         ·obtain rfl : p = q := by have := HKp.o; omega
          rw [HG'.o] at hy;have := HE.o
          rw [← Option.some.inj hy]; omega), ħ (HB.o.trans (HW.o.mono HB.o.size))⟩
        case measure => have := HLt.o; simp [intOf]; omega
    ·obtain rfl : k = s.rs.length := by omega
     have hh := HH.o;rw [Ă] at hh;have HF : Hid (s.Ok) := ħ ⟨HN.o, HL.o, hh.1, hh.2⟩;clear hh;go_wp2;go_ret
     exact fin (by rw [HK.o]; exact (decide_eq_true HF.o).symm) (HB1.o.trans (HB.o.mono HB1.o.size))
  ·have hl' : (16 : Int) < (s.rs.length : Int) := by omega
   have HL := ħ hl;clear hl;go_wp2;go_ret
   exact fin (by rw [HK.o]; exact (decide_eq_false fun h => HL.o h.2.1).symm) HB1.o
end
section
open Go.RowKit
section
variable {P : Program} {md : Region.Mode} {ops : Array Oper} {Q : Exit → Act → World → Prop} {S : World → Prop} {fuel : Nat} {listed : Array Bool} {a : Act} {w : World}
theorem Ğ (i d : Nat) {f : FuncId} {args : Array Value} {v : Value} {o : Oper} (ho : ops[i]? = some o) (hd : o.dst = some d) (hr : Region.ready md ops listed = [i]) (hw : o.guard = none)
 (he : (execOp a.eval o).run P w = .ok (.enter f args) w) (hc : Calls P f args w fun e w' => e = .returned v ∧ w' = w) (hS : S w)
 (h : wpAnyH P md ops Q S fuel (listed.setIfInBounds i true) { tmps := a.tmps.setIfInBounds d v, defers := a.defers } w) : wpAnyH P md ops Q S (fuel + 1) listed a w := by
 refine wpAnyH_ready hr (by simp) (AllReadyH.cons ho (fun K hK => ?_) AllReadyH.nil)
 rw [if_pos (by unfold Region.wanted; rw [hw])]
 unfold Oper.wp;rw [he];refine hc.mono ?_;rintro e w' ⟨rfl, rfl⟩
 refine hK.o _ _ hS (fun _ => ?_)
 rw [hd];exact h
theorem ÀD (i j d dj : Nat) {f : FuncId} {args : Array Value} {v p : Value} {o oj : Oper} {w1 : World} (ho : ops[i]? = some o) (hoj : ops[j]? = some oj) (hd : o.dst = some d) (hdj : oj.dst = some dj) (hr : Region.ready md ops listed = [i, j]) (hw : o.guard = none) (hwj : oj.guard = none)
 (he : (execOp a.eval o).run P w = .ok (.enter f args) w) (hc : Calls P f args w fun e w' => e = .returned v ∧ w' = w) (hS : S w)
 (hej : (execOp a.eval oj).run P w = .ok (.value p) w1) (hS1 : S w1)
 (h : wpAnyH P md ops Q S fuel (listed.setIfInBounds i true) { tmps := a.tmps.setIfInBounds d v, defers := a.defers } w)
 (h1 : wpAnyH P md ops Q S fuel (listed.setIfInBounds j true) { tmps := a.tmps.setIfInBounds dj p, defers := a.defers } w1) : wpAnyH P md ops Q S (fuel + 1) listed a w := by
 refine wpAnyH_ready hr (by simp) (AllReadyH.cons ho (fun K hK => ?_) (AllReadyH.cons hoj (fun K hK => ?_) AllReadyH.nil))
 ·rw [if_pos (by unfold Region.wanted; rw [hw])]
  unfold Oper.wp;rw [he];refine hc.mono ?_;rintro e w' ⟨rfl, rfl⟩
  refine hK.o _ _ hS (fun _ => ?_)
  rw [hd];exact h
 ·rw [if_pos (by unfold Region.wanted; rw [hwj])]
  unfold Oper.wp;rw [hej]
  refine hK.o _ _ hS1 (fun _ => ?_)
  rw [hdj];exact h1
theorem Èw (j dj : Nat) {p : Value} {oj : Oper} {w1 : World} (hoj : ops[j]? = some oj) (hdj : oj.dst = some dj) (hr : Region.ready md ops listed = [j]) (hwj : oj.guard = none)
 (hej : (execOp a.eval oj).run P w = .ok (.value p) w1) (hS1 : S w1)
 (h1 : wpAnyH P md ops Q S fuel (listed.setIfInBounds j true) { tmps := a.tmps.setIfInBounds dj p, defers := a.defers } w1) : wpAnyH P md ops Q S (fuel + 1) listed a w := by
 refine wpAnyH_ready hr (by simp) (AllReadyH.cons hoj (fun K hK => ?_) AllReadyH.nil)
 rw [if_pos (by unfold Region.wanted; rw [hwj])]
 unfold Oper.wp;rw [hej]
 refine hK.o _ _ hS1 (fun _ => ?_)
 rw [hdj];exact h1
end
theorem Š (w : World) {f : Operand → Value} {dst : Option Nat} {ty : TypeId} {pos : String} {af : Array Edge} {g : Option (Nat × Bool)} : (execOp f { dst := dst, op := Op.alloc 68, type := ty, pos := pos, after := af, guard := g }).run Tryz.prog w = .ok (.value (.pointer (some ⟨w.heap.size, 0, none⟩))) (w.alloc (.cells #[.int .i64 0, .int .i64 0, .int .i64 0, .int .i64 0, .slice none 0 0] 68)) := by
 kernel_rfl
end
section
open Go.RowKit Go.Maps
variable {w w' : World}
set_option maxRecDepth 100000 in
set_option maxHeartbeats 4000000 in
theorem ÅE (s : Dl) (v : Value) (D : Option Addr) (dn dc : Nat) (w : World) (hmax : s.put.length ≤ 1000) (hS : Á w.heap.size w v s.put) :
 Calls Tryz.prog 29 #[.agg #[.int .i64 s.de, .int .i64 s.cl, .int .i64 s.fu, .int .i64 s.st, v, .slice D dn dc]] w
  fun e w' => ∃ V, e = .returned (.agg #[.int .i64 s.de, .int .i64 s.cl, .int .i64 s.fu, .int .i64 s.st, V, .slice D dn dc]) ∧ Ú w' w.heap.size 109 V s.put ∧ Below w.heap.size w w' := by
 obtain ⟨A, cap, rfl⟩ := hS.form;obtain ⟨i0, hi, hz0, hz1, hz2⟩ := Ã Ès;have HS := ħ hS;clear hS;go_enter Tryz.func29, Tryz.ntmps29
 go_wp2_with fail
 go_upto_region 3 with (fail)
 have hb0 : Below w.heap.size w (((w.alloc (.cells #[.int .i64 s.de, .int .i64 s.cl, .int .i64 s.fu, .int .i64 s.st, .slice A s.put.length cap, .slice D dn dc] 63)).alloc (.cells #[.int .i64 0, .int .i64 0, .int .i64 0, .int .i64 0, .slice none 0 0, .slice none 0 0] 78)).alloc (.cells #[.int .i64 s.de, .int .i64 s.cl, .int .i64 s.fu, .int .i64 s.st, .slice none 0 0, .slice D dn dc] 78)) := (((ā _ _).alloc (ŋ _) _).alloc (by simp) _).alloc (by simp; omega) _
 have hz : Blk (((w.alloc (.cells #[.int .i64 s.de, .int .i64 s.cl, .int .i64 s.fu, .int .i64 s.st, .slice A s.put.length cap, .slice D dn dc] 63)).alloc (.cells #[.int .i64 0, .int .i64 0, .int .i64 0, .int .i64 0, .slice none 0 0, .slice none 0 0] 78)).alloc (.cells #[.int .i64 s.de, .int .i64 s.cl, .int .i64 s.fu, .int .i64 s.st, .slice none 0 0, .slice D dn dc] 78)) (w.heap.size + 1) 78 #[.int .i64 0, .int .i64 0, .int .i64 0, .int .i64 0, .slice none 0 0, .slice none 0 0] := (Blk.at_new _ _ (by simp) _ _).alloc _
 have hx : Blk (((w.alloc (.cells #[.int .i64 s.de, .int .i64 s.cl, .int .i64 s.fu, .int .i64 s.st, .slice A s.put.length cap, .slice D dn dc] 63)).alloc (.cells #[.int .i64 0, .int .i64 0, .int .i64 0, .int .i64 0, .slice none 0 0, .slice none 0 0] 78)).alloc (.cells #[.int .i64 s.de, .int .i64 s.cl, .int .i64 s.fu, .int .i64 s.st, .slice none 0 0, .slice D dn dc] 78)) (w.heap.size + 2) 78 #[.int .i64 s.de, .int .i64 s.cl, .int .i64 s.fu, .int .i64 s.st, .slice none 0 0, .slice D dn dc] := Blk.at_new _ _ (by simp) _ _
 generalize ((w.alloc (.cells #[.int .i64 s.de, .int .i64 s.cl, .int .i64 s.fu, .int .i64 s.st, .slice A s.put.length cap, .slice D dn dc] 63)).alloc (.cells #[.int .i64 0, .int .i64 0, .int .i64 0, .int .i64 0, .slice none 0 0, .slice none 0 0] 78)).alloc (.cells #[.int .i64 s.de, .int .i64 s.cl, .int .i64 s.fu, .int .i64 s.st, .slice none 0 0, .slice D dn dc] 78) = w0 at *;have HB0 := ħ hb0;have HZ0 := ħ hz;have HX0 := ħ hx;clear hb0 hz hx
 go_loopw [20] (fun i wr => ∃ (k : Nat) (V : Value), k ≤ s.put.length ∧ i = .int .i64 k ∧ Hid (Blk wr (w.heap.size + 2) 78 #[.int .i64 s.de, .int .i64 s.cl, .int .i64 s.fu, .int .i64 s.st, V, .slice D dn dc]) ∧ Hid (Blk wr (w.heap.size + 1) 78 #[.int .i64 0, .int .i64 0, .int .i64 0, .int .i64 0, .slice none 0 0, .slice none 0 0]) ∧ Hid (Ú wr w.heap.size 109 V (s.put.take k)) ∧ Hid (Below w.heap.size w wr)) (fun i _ => s.put.length - (intOf i).toNat)
 case atStart => exact ⟨0, _, Ą _, rfl, HX0, HZ0, ħ (Ú.nil _ _ _), HB0⟩
 case round =>
  obtain ⟨k, V, hk, rfl, HX, HZ, HO, HB⟩ := hrel
  by_cases hlt : k < s.put.length
  ·obtain ⟨b, off, rfl, hb, c0, c1, c2, c3, c4⟩ := (HS.o.below HB.o).at_ hlt
   have HG := ħ (Ā hlt);generalize s.put[k] = r at HG c0 c1 c2 c3 c4;have HLt := ħ hlt
   have HLen : Hid ((s.put.take k ++ [r]).length = k + 1) := ħ (by simp; omega)
   have d4 := HX.o.cell 4;have hlx := HX.o.lt
   have hne := ī HO.o HX.o (by decide)
   have HNe := ħ hne;clear hne hlt
   go_wp2_with (first
    | (at_builtin
       refine ð _ rfl (.tmp 25) (.tmp 27) 66 rfl w.heap.size 109 i0 (.agg #[.int .i64 0, .int .i64 0, .int .i64 0, .int .i64 0, .string ⟨#[]⟩]) 48 Tryz.underlying66 hi hz0 hz1 hz2 rfl V (s.put.take k) rfl ((HO.o.alloc _).alloc _) _ 1 r rfl (Blk.at_new _ _ (by simp) _ _) (by simp; omega) (by decide) (by have := HB.o.size; simp; omega) ?_
       intro V' w1 hown' hgrow';obtain ⟨VA, VC, hV⟩ := hown'.form;rw [HLen.o] at hV;subst hV
       have hX1 := ((HX.o.alloc (.cells #[.int .i64 r.id, .int .i64 r.pr, .int .i64 r.ac, .int .i64 r.sc, .string r.pat] 71)).alloc (.cells #[.int .i64 r.id, .int .i64 r.pr, .int .i64 r.ac, .int .i64 r.sc, .string r.pat] 109)).grown hgrow' (fun e => HNe.o e.symm)
       have g4 := hX1.frozen 4;have e4 := hX1.cell 4
       have hl1 := hX1.lt)
    | go_in)
   have hne1 := ī hown' hX1 (by decide)
   have hX2 : Blk (w1.setCell ⟨w.heap.size + 2, 4, none⟩ (.slice VA (k + 1) VC)) (w.heap.size + 2) 78 #[.int .i64 s.de, .int .i64 s.cl, .int .i64 s.fu, .int .i64 s.st, .slice VA (k + 1) VC, .slice D dn dc] := hX1.set_ 4 _
   have hO2 : Ú (w1.setCell ⟨w.heap.size + 2, 4, none⟩ (.slice VA (k + 1) VC)) w.heap.size 109 (.slice VA (k + 1) VC) (s.put.take (k + 1)) := by
    rw [Ő HG.o];exact hown'.farset hne1 _
   have hB1 : Below w.heap.size w w1 := ((HB.o.alloc HB.o.size _).alloc (by have := HB.o.size; simp; omega) _).grown hgrow' (by have := HB.o.size; simp; omega) (fun j hj => (World.ownsRow.lt HO.o j hj).1)
   have hZ1 : Blk w1 (w.heap.size + 1) 78 #[.int .i64 0, .int .i64 0, .int .i64 0, .int .i64 0, .slice none 0 0, .slice none 0 0] := ((HZ.o.alloc _).alloc _).grown hgrow' (fun e => by
    have := ī HO.o HZ.o (by decide)
    exact this e.symm)
   have HX2 := ħ hX2;have HO2 := ħ hO2
   have HB2 := ħ (hB1.setCell (p := ⟨w.heap.size + 2, 4, none⟩) (show w.heap.size ≤ w.heap.size + 2 by omega) (.slice VA (k + 1) VC))
   have HZ2 := ħ (hZ1.far (p := ⟨w.heap.size + 2, 4, none⟩) (show w.heap.size + 1 ≠ w.heap.size + 2 by omega) (.slice VA (k + 1) VC))
   clear hne1 hX2 hO2 hB1 hZ1 hX1 hown' hgrow' g4 e4;go_roundw
   case rel => exact ⟨k + 1, _, HLt.o, by go_num, HX2, HZ2, HO2, HB2⟩
   case measure => have := HLt.o; simp [intOf]; omega
  ·obtain rfl : k = s.put.length := by omega
   have hO := HO.o;rw [Ă] at hO;obtain ⟨VA, VC, rfl⟩ := hO.form;obtain ⟨z0, z1, z2, z3, z4, z5⟩ := HZ.o.c6;have f := HZ.o.frozen;obtain ⟨x0, x1, x2, x3, x4, x5⟩ := HX.o.c6;have hlr := HZ.o.lt;have hlx := HX.o.lt;have HOf := ħ hO
   have hne := ī hO HZ.o (by decide)
   have HNe := ħ hne;clear hO hne;go_wp2
   refine bodyPost_ret (v := .agg #[.int .i64 s.de, .int .i64 s.cl, .int .i64 s.fu, .int .i64 s.st, .slice VA s.put.length VC, .slice D dn dc]) (by simp [results, Tryz.results29, go_sem, *]) rfl ⟨_, rfl, ?_, ?_⟩
   ·have k : ∀ {W : World} {V : Value} {l : List Ru}, Ú W w.heap.size 109 V l → V.ownBlock ≠ some (w.heap.size + 1) → ∀ (i : Nat) (u : Value), Ú (W.setCell ⟨w.heap.size + 1, i, none⟩ u) w.heap.size 109 V l := fun h ha i u => Ú.farset h (a := ⟨w.heap.size + 1, i, none⟩) ha u
    have n := HNe.o;exact k (k (k (k (k (k HOf.o n 0 _) n 1 _) n 2 _) n 3 _) n 4 _) n 5 _
   ·have k : ∀ {W : World}, Below w.heap.size w W → ∀ (i : Nat) (u : Value), Below w.heap.size w (W.setCell ⟨w.heap.size + 1, i, none⟩ u) := fun h i u => h.setCell (p := ⟨w.heap.size + 1, i, none⟩) (by simp) u
    exact k (k (k (k (k (k HB.o 0 _) 1 _) 2 _) 3 _) 4 _) 5 _
end
section
open Go.RowKit
variable {w w' : World}
set_option maxRecDepth 100000 in
set_option maxHeartbeats 4000000 in
theorem ËL (l : List Ru) (id : Int) (v : Value) (w : World) (hmax : l.length ≤ 1000000) (hS : Á w.heap.size w v l) :
 Calls Tryz.prog 84 #[v, .int .i64 id] w fun e w' => ∃ z : Int, e = .returned (.int .i64 z) ∧ ((z = -1 ∧ id ∉ l.map Ru.id) ∨ (0 ≤ z ∧ id ∈ l.map Ru.id)) ∧ w' = w := by
 obtain ⟨A, cap, rfl⟩ := hS.form;have HS := ħ hS;clear hS;go_enter Tryz.func84, Tryz.ntmps84
 go_upto_region 2 with (fail)
 go_loopw [5] (fun i wr => ∃ k : Nat, k ≤ l.length ∧ i = .int .i64 k ∧ Hid (id ∉ (l.take k).map Ru.id) ∧ wr = w) (fun i _ => l.length - (intOf i).toNat)
 case atStart => exact ⟨0, Ą _, rfl, ħ (by simp), rfl⟩
 case round =>
  obtain ⟨k, hk, rfl, HK, rfl⟩ := hrel
  by_cases hlt : k < l.length
  ·obtain ⟨g, off, hA, hg, c0, c1, c2, c3, c4⟩ := HS.o.at_ hlt
   subst hA;have hm : (l[k]).id ∈ l.map Ru.id := List.mem_map_of_mem (Ē hlt);have ht : l.take (k + 1) = l.take k ++ [l[k]] := List.take_append_getElem hlt ▸ rfl;generalize l[k] = r at c0 c1 c2 c3 c4 hm ht;have HM := ħ hm;have HTk := ħ ht;have HLt := ħ hlt
   have HWr : Hid (wrap64 ((k : Int) + 1) = ((k + 1 : Nat) : Int)) := ħ (by unfold wrap64; omega)
   clear hm ht
   by_cases he : r.id = id
   ·clear hk
    go_wp2;go_ret
    exact ⟨k, rfl, .inr ⟨by omega, he ▸ HM.o⟩, rfl⟩
   ·clear hk
    go_wp2;go_roundw
    case rel => exact ⟨k + 1, HLt.o, by go_num, ħ (by rw [HTk.o]; simp only [Ĕ, Ė, not_or]; exact ⟨HK.o, by simpa using fun h => he h.symm⟩), trivial⟩
    case measure => have := HLt.o; simp [intOf]; omega
  ·obtain rfl : k = l.length := by omega
   have h := HK.o;rw [Ă] at h;have HN := ħ h;clear h;go_wp2;go_ret;exact ⟨-1, rfl, .inl ⟨rfl, HN.o⟩, rfl⟩
end
section
open Go.RowKit Go.Maps
variable {w w' : World}
theorem Ú.lower {b b' : Nat} {e : TypeId} {v : Value} {l : List Ru} (h : Ú w b e v l) (hb : b' ≤ b) : Ú w b' e v l :=
 ⟨h.1, h.2.imp id fun ⟨g, cap, cur, hv, hg, rest⟩ => ⟨g, cap, cur, hv, ē hb hg, rest⟩⟩
def Íg (r : Ru) (d : Bool) (l : List Ru) : List Ru := if d then ins r l else l
set_option maxRecDepth 100000 in
set_option maxHeartbeats 8000000 in
theorem Íh (l : List Ru) (r : Ru) (v : Value) (w : World) (hmax : l.length ≤ 10000) (hR : ť l) (hS : Á w.heap.size w v l) :
 Calls Tryz.prog 85 #[v, .agg #[.int .i64 r.id, .int .i64 r.pr, .int .i64 r.ac, .int .i64 r.sc, .string r.pat]] w
  fun e w' => ∃ V, e = .returned V ∧ Ú w' w.heap.size 109 V (ins r l) ∧ Below w.heap.size w w' := by
 obtain ⟨A, cap, rfl⟩ := hS.form;obtain ⟨i0, hi, hz0, hz1, hz2⟩ := Ã Ès;obtain ⟨w0, hw0⟩ : ∃ w0, w0 = w.alloc (.cells #[.int .i64 r.id, .int .i64 r.pr, .int .i64 r.ac, .int .i64 r.sc, .string r.pat] 109) := ⟨_, rfl⟩
 have hb0 : Below w.heap.size w w0 := by rw [hw0]; exact (ā _ _).alloc (ŋ _) _
 have hx : Blk w0 w.heap.size 109 #[.int .i64 r.id, .int .i64 r.pr, .int .i64 r.ac, .int .i64 r.sc, .string r.pat] := by rw [hw0]; exact Blk.new _ _ _
 have HS := ħ hS;have HB0 := ħ hb0;have HX0 := ħ hx
 have hs0 : w0.heap.size = w.heap.size + 1 := by rw [hw0]; simp
 clear hS hb0 hx;go_enter Tryz.func85, Tryz.ntmps85
 go_upto_region 4 with (fail)
 rw [← hw0];clear hw0
 go_loopw [5, 6, 7] (fun V d i wr => ∃ (k : Nat) (dn : Bool), k ≤ l.length ∧ i = .int .i64 k ∧ d = .bool dn ∧ Hid (Ú wr w0.heap.size 109 V (Íg r dn (l.take k))) ∧ Hid (dn = false → ∀ x ∈ l.take k, x.id < r.id) ∧ Hid (dn = true → ∀ x ∈ l.drop k, r.id < x.id) ∧ Hid (Below w0.heap.size w0 wr)) (fun _ _ i _ => l.length - (intOf i).toNat)
 case atStart => exact ⟨0, false, Ą _, rfl, rfl, ħ (Ú.nil _ _ _), ħ (by simp), ħ (by simp), ħ (ā _ _)⟩
 case round =>
  obtain ⟨k, dn, hk, rfl, rfl, HV, HN, HD, HB⟩ := hrel
  by_cases hlt : k < l.length
  ·have HW := ħ (HB0.o.trans (HB.o.mono HB0.o.size))
   obtain ⟨g, off, hA, hgw, hra⟩ := HS.o.at_ hlt;subst hA;have hg := hgw;have HLt := ħ hlt;have hix : k < l.length := hlt;have hts : l.take (k + 1) = l.take k ++ [l[k]] := Ő (Ā hlt)
   have hri : ∀ y ∈ l.drop (k + 1), (l[k]).id < y.id := by
    have h := hR.drop (i := k);rw [List.drop_eq_getElem_cons hlt] at h;exact (List.pairwise_cons.1 h).1
   have hme : l[k] ∈ l.drop k := by rw [List.drop_eq_getElem_cons hlt]; exact List.mem_cons_self ..
   generalize l[k] = x at hra hts hri hme;have HTs := ħ hts;have HRi := ħ hri;have HMe := ħ hme
   have HTl : Hid ((l.take k).length ≤ k) := ħ (by rw [List.length_take]; omega)
   clear hts hri hme;have HRa := ħ hra;have hrw := hra.below hgw HW.o;obtain ⟨c0, c1, c2, c3, c4⟩ := hrw;clear hra;have HX := ħ (HX0.o.on HB.o);obtain ⟨x0, x1, x2, x3, x4⟩ := HX.o.c5;have hlx := HX.o.lt
   have hg2 : g < wr.heap.size := by have := HB.o.size; omega
   cases dn with
   | false =>
    by_cases hge : x.id ≥ r.id
    ·go_upto_region 6 with (fail)
     go_region
     clear c0 c1 c2 c3 c4 x0 x1 x2 x3 x4 hlx hg2;have HVwd : Hid (Ú wr.drew w0.heap.size 109 u5 (l.take k)) := HV;have HXwd : Hid (Blk wr.drew w.heap.size 109 #[.int .i64 r.id, .int .i64 r.pr, .int .i64 r.ac, .int .i64 r.sc, .string r.pat]) := HX;have HBwd : Hid (Below w0.heap.size w0 wr.drew) := ħ HB.o.drew;generalize wr.drew = wd at *;have hra := HRa.o.below hgw (HB0.o.trans (HBwd.o.mono HB0.o.size));obtain ⟨q0, q1, q2, q3, q4⟩ := hra;obtain ⟨x0, x1, x2, x3, x4⟩ := HXwd.o.c5;have hlx := HXwd.o.lt
     have hgl : g < wd.heap.size := by have := HBwd.o.size; omega
     clear q0 q1 q2 q3 q4
     go_upto_region 9 with (first
      | (at_builtin
         refine ð _ rfl (.tmp 26) (.tmp 28) 66 rfl w0.heap.size 109 i0 (.agg #[.int .i64 0, .int .i64 0, .int .i64 0, .int .i64 0, .string ⟨#[]⟩]) 48 Tryz.underlying66 hi hz0 hz1 hz2 rfl u5 (l.take k) rfl (HVwd.o.alloc _) _ 1 r rfl (Blk.at_new _ _ rfl _ _) (by have := HLt.o; have := HTl.o; simp only [] at *; omega) (by decide) (by have := HBwd.o.size; simp; omega) ?_
         intro Vw1 w1 hownw1 hgroww1;have HVw1 := ħ hownw1
         have HXw1 := ħ ((HXwd.o.alloc (.cells #[.int .i64 r.id, .int .i64 r.pr, .int .i64 r.ac, .int .i64 r.sc, .string r.pat] 109)).grown hgroww1 (fun e => by have := (World.ownsRow.lt HVwd.o _ e.symm).1; omega))
         have HBw1 := ħ ((HBwd.o.alloc HBwd.o.size (.cells #[.int .i64 r.id, .int .i64 r.pr, .int .i64 r.ac, .int .i64 r.sc, .string r.pat] 109)).grown hgroww1 (by have := HBwd.o.size; simp; omega) (fun j hj => (World.ownsRow.lt HVwd.o j hj).1))
         clear hownw1 hgroww1)
      | fail)
     clear x0 x1 x2 x3 x4 hlx hgl;have hra := HRa.o.below hgw (HB0.o.trans (HBw1.o.mono HB0.o.size));obtain ⟨q0, q1, q2, q3, q4⟩ := hra;obtain ⟨x0, x1, x2, x3, x4⟩ := HXw1.o.c5;have hlx := HXw1.o.lt
     have hgl : g < w1.heap.size := by have := HBw1.o.size; omega
     by_cases heq : x.id = r.id
     ·have hnb : (x.id != r.id) = false := by simp [heq]
      go_region
      have HVw2 : Hid (Ú w1.drew w0.heap.size 109 Vw1 (l.take k ++ [r])) := HVw1;have HXw2 : Hid (Blk w1.drew w.heap.size 109 #[.int .i64 r.id, .int .i64 r.pr, .int .i64 r.ac, .int .i64 r.sc, .string r.pat]) := HXw1;have HBw2 : Hid (Below w0.heap.size w0 w1.drew) := ħ HBw1.o.drew;generalize w1.drew = w2 at *;clear q0 q1 q2 q3 q4 x0 x1 x2 x3 x4 hlx hgl;have hra := HRa.o.below hgw (HB0.o.trans (HBw2.o.mono HB0.o.size));obtain ⟨q0, q1, q2, q3, q4⟩ := hra;obtain ⟨x0, x1, x2, x3, x4⟩ := HXw2.o.c5;have hlx := HXw2.o.lt
      have hgl : g < w2.heap.size := by have := HBw2.o.size; omega
      have HV3 : Hid (Ú w2 w0.heap.size 109 Vw1 (Íg r true (l.take (k + 1)))) := ħ (by
       show Ú w2 w0.heap.size 109 Vw1 (ins r (l.take (k + 1)))
       rw [HTs.o, Ìb (HN.o rfl) heq]
       exact HVw2.o)
      have HD3 : Hid (true = true → ∀ y ∈ l.drop (k + 1), r.id < y.id) := ħ (fun _ y hy => by have := HRi.o y hy; omega)
      clear q0 q1 q2 q3 q4 x0 x1 x2 x3 x4 hlx hgl;go_wp2;go_roundw
      case rel => exact ⟨k + 1, true, HLt.o, by go_num, rfl, HV3, ħ (fun h => by cases h), HD3, HBw2⟩
      case measure => have := HLt.o; simp [intOf]; omega
     ·have hnb : (x.id != r.id) = true := by simp [heq]
      go_region
      have HVw2 : Hid (Ú w1.drew w0.heap.size 109 Vw1 (l.take k ++ [r])) := HVw1;have HXw2 : Hid (Blk w1.drew w.heap.size 109 #[.int .i64 r.id, .int .i64 r.pr, .int .i64 r.ac, .int .i64 r.sc, .string r.pat]) := HXw1;have HBw2 : Hid (Below w0.heap.size w0 w1.drew) := ħ HBw1.o.drew;generalize w1.drew = w2 at *;clear q0 q1 q2 q3 q4 x0 x1 x2 x3 x4 hlx hgl;have hra := HRa.o.below hgw (HB0.o.trans (HBw2.o.mono HB0.o.size));obtain ⟨q0, q1, q2, q3, q4⟩ := hra;obtain ⟨x0, x1, x2, x3, x4⟩ := HXw2.o.c5;have hlx := HXw2.o.lt
      have hgl : g < w2.heap.size := by have := HBw2.o.size; omega
      go_wp2_with (first
       | (at_builtin
          refine ð _ rfl (.tmp 38) (.tmp 43) 66 rfl w0.heap.size 109 i0 (.agg #[.int .i64 0, .int .i64 0, .int .i64 0, .int .i64 0, .string ⟨#[]⟩]) 48 Tryz.underlying66 hi hz0 hz1 hz2 rfl Vw1 (l.take k ++ [r]) rfl (HVw2.o.alloc _) _ 1 x rfl (Blk.at_new _ _ rfl _ _) (by have := HLt.o; have := HTl.o; simp only [ă, ć, Ď] at *; omega) (by decide) (by have := HBw2.o.size; simp; omega) ?_
          intro Vw3 w3 hownw3 hgroww3;have HVw3 := ħ hownw3
          have HXw3 := ħ ((HXw2.o.alloc (.cells #[.int .i64 x.id, .int .i64 x.pr, .int .i64 x.ac, .int .i64 x.sc, .string x.pat] 109)).grown hgroww3 (fun e => by have := (World.ownsRow.lt HVw2.o _ e.symm).1; omega))
          have HBw3 := ħ ((HBw2.o.alloc HBw2.o.size (.cells #[.int .i64 x.id, .int .i64 x.pr, .int .i64 x.ac, .int .i64 x.sc, .string x.pat] 109)).grown hgroww3 (by have := HBw2.o.size; simp; omega) (fun j hj => (World.ownsRow.lt HVw2.o j hj).1))
          clear hownw3 hgroww3)
       | go_in)
      have HV3 : Hid (Ú w3 w0.heap.size 109 Vw3 (Íg r true (l.take (k + 1)))) := ħ (by
       show Ú w3 w0.heap.size 109 Vw3 (ins r (l.take (k + 1)))
       rw [HTs.o, ÅK (show r.id < x.id by omega), Äk (HN.o rfl)]
       exact HVw3.o)
      have HD3 : Hid (true = true → ∀ y ∈ l.drop (k + 1), r.id < y.id) := ħ (fun _ y hy => by have := HRi.o y hy; omega)
      clear q0 q1 q2 q3 q4 x0 x1 x2 x3 x4 hlx hgl;go_roundw
      case rel => exact ⟨k + 1, true, HLt.o, by go_num, rfl, HV3, ħ (fun h => by cases h), HD3, HBw3⟩
      case measure => have := HLt.o; simp [intOf]; omega
    ·have hgb : decide (x.id ≥ r.id) = false := by simp; omega
     go_upto_region 6 with (fail)
     go_region
     clear c0 c1 c2 c3 c4 x0 x1 x2 x3 x4 hlx hg2;have HVwd : Hid (Ú wr.drew w0.heap.size 109 u5 (l.take k)) := HV;have HXwd : Hid (Blk wr.drew w.heap.size 109 #[.int .i64 r.id, .int .i64 r.pr, .int .i64 r.ac, .int .i64 r.sc, .string r.pat]) := HX;have HBwd : Hid (Below w0.heap.size w0 wr.drew) := ħ HB.o.drew;generalize wr.drew = wd at *;have hra := HRa.o.below hgw (HB0.o.trans (HBwd.o.mono HB0.o.size));obtain ⟨q0, q1, q2, q3, q4⟩ := hra;obtain ⟨x0, x1, x2, x3, x4⟩ := HXwd.o.c5;have hlx := HXwd.o.lt
     have hgl : g < wd.heap.size := by have := HBwd.o.size; omega
     have hnb : (x.id != r.id) = true := by simp; omega
     go_upto_region 9 with (fail)
     go_region
     have HVw2 : Hid (Ú wd.drew w0.heap.size 109 u5 (l.take k)) := HVwd;have HXw2 : Hid (Blk wd.drew w.heap.size 109 #[.int .i64 r.id, .int .i64 r.pr, .int .i64 r.ac, .int .i64 r.sc, .string r.pat]) := HXwd;have HBw2 : Hid (Below w0.heap.size w0 wd.drew) := ħ HBwd.o.drew;generalize wd.drew = w2 at *;clear q0 q1 q2 q3 q4 x0 x1 x2 x3 x4 hlx hgl;have hra := HRa.o.below hgw (HB0.o.trans (HBw2.o.mono HB0.o.size));obtain ⟨q0, q1, q2, q3, q4⟩ := hra;obtain ⟨x0, x1, x2, x3, x4⟩ := HXw2.o.c5;have hlx := HXw2.o.lt
     have hgl : g < w2.heap.size := by have := HBw2.o.size; omega
     go_wp2_with (first
      | (at_builtin
         refine ð _ rfl (.tmp 38) (.tmp 43) 66 rfl w0.heap.size 109 i0 (.agg #[.int .i64 0, .int .i64 0, .int .i64 0, .int .i64 0, .string ⟨#[]⟩]) 48 Tryz.underlying66 hi hz0 hz1 hz2 rfl u5 (l.take k) rfl (HVw2.o.alloc _) _ 1 x rfl (Blk.at_new _ _ rfl _ _) (by have := HLt.o; have := HTl.o; simp only [] at *; omega) (by decide) (by have := HBw2.o.size; simp; omega) ?_
         intro Vw3 w3 hownw3 hgroww3;have HVw3 := ħ hownw3
         have HXw3 := ħ ((HXw2.o.alloc (.cells #[.int .i64 x.id, .int .i64 x.pr, .int .i64 x.ac, .int .i64 x.sc, .string x.pat] 109)).grown hgroww3 (fun e => by have := (World.ownsRow.lt HVw2.o _ e.symm).1; omega))
         have HBw3 := ħ ((HBw2.o.alloc HBw2.o.size (.cells #[.int .i64 x.id, .int .i64 x.pr, .int .i64 x.ac, .int .i64 x.sc, .string x.pat] 109)).grown hgroww3 (by have := HBw2.o.size; simp; omega) (fun j hj => (World.ownsRow.lt HVw2.o j hj).1))
         clear hownw3 hgroww3)
      | go_in)
     have HV3 : Hid (Ú w3 w0.heap.size 109 Vw3 (Íg r false (l.take (k + 1)))) := ħ (by
      show Ú w3 w0.heap.size 109 Vw3 (l.take (k + 1))
      rw [HTs.o]
      exact HVw3.o)
     have HN3 : Hid (false = false → ∀ y ∈ l.take (k + 1), y.id < r.id) := ħ (fun _ y hy => by
      rw [HTs.o] at hy
      rcases List.mem_append.1 hy with hy | hy
      ·exact HN.o rfl y hy
      ·rw [List.mem_singleton.1 hy]; omega)
     clear q0 q1 q2 q3 q4 x0 x1 x2 x3 x4 hlx hgl;go_roundw
     case rel => exact ⟨k + 1, false, HLt.o, by go_num, rfl, HV3, HN3, ħ (fun h => by cases h), HBw3⟩
     case measure => have := HLt.o; simp [intOf]; omega
   | true =>
    have hgt := HD.o rfl x HMe.o
    go_upto_region 6 with (fail)
    go_region
    clear c0 c1 c2 c3 c4 x0 x1 x2 x3 x4 hlx hg2;have HVwd : Hid (Ú wr.drew w0.heap.size 109 u5 (ins r (l.take k))) := HV;have HXwd : Hid (Blk wr.drew w.heap.size 109 #[.int .i64 r.id, .int .i64 r.pr, .int .i64 r.ac, .int .i64 r.sc, .string r.pat]) := HX;have HBwd : Hid (Below w0.heap.size w0 wr.drew) := ħ HB.o.drew;generalize wr.drew = wd at *;have hra := HRa.o.below hgw (HB0.o.trans (HBwd.o.mono HB0.o.size));obtain ⟨q0, q1, q2, q3, q4⟩ := hra;obtain ⟨x0, x1, x2, x3, x4⟩ := HXwd.o.c5;have hlx := HXwd.o.lt
    have hgl : g < wd.heap.size := by have := HBwd.o.size; omega
    have hnb : (x.id != r.id) = true := by simp; omega
    go_upto_region 9 with (fail)
    go_region
    have HVw2 : Hid (Ú wd.drew w0.heap.size 109 u5 (ins r (l.take k))) := HVwd;have HXw2 : Hid (Blk wd.drew w.heap.size 109 #[.int .i64 r.id, .int .i64 r.pr, .int .i64 r.ac, .int .i64 r.sc, .string r.pat]) := HXwd;have HBw2 : Hid (Below w0.heap.size w0 wd.drew) := ħ HBwd.o.drew;generalize wd.drew = w2 at *;clear q0 q1 q2 q3 q4 x0 x1 x2 x3 x4 hlx hgl;have hra := HRa.o.below hgw (HB0.o.trans (HBw2.o.mono HB0.o.size));obtain ⟨q0, q1, q2, q3, q4⟩ := hra;obtain ⟨x0, x1, x2, x3, x4⟩ := HXw2.o.c5;have hlx := HXw2.o.lt
    have hgl : g < w2.heap.size := by have := HBw2.o.size; omega
    go_wp2_with (first
     | (at_builtin
        refine ð _ rfl (.tmp 38) (.tmp 43) 66 rfl w0.heap.size 109 i0 (.agg #[.int .i64 0, .int .i64 0, .int .i64 0, .int .i64 0, .string ⟨#[]⟩]) 48 Tryz.underlying66 hi hz0 hz1 hz2 rfl u5 (ins r (l.take k)) rfl (HVw2.o.alloc _) _ 1 x rfl (Blk.at_new _ _ rfl _ _) (by have := HLt.o; have := Êg r (l.take k); simp only [List.length_take] at *; omega) (by decide) (by have := HBw2.o.size; simp; omega) ?_
        intro Vw3 w3 hownw3 hgroww3;have HVw3 := ħ hownw3
        have HXw3 := ħ ((HXw2.o.alloc (.cells #[.int .i64 x.id, .int .i64 x.pr, .int .i64 x.ac, .int .i64 x.sc, .string x.pat] 109)).grown hgroww3 (fun e => by have := (World.ownsRow.lt HVw2.o _ e.symm).1; omega))
        have HBw3 := ħ ((HBw2.o.alloc HBw2.o.size (.cells #[.int .i64 x.id, .int .i64 x.pr, .int .i64 x.ac, .int .i64 x.sc, .string x.pat] 109)).grown hgroww3 (by have := HBw2.o.size; simp; omega) (fun j hj => (World.ownsRow.lt HVw2.o j hj).1))
        clear hownw3 hgroww3)
     | go_in)
    have HV3 : Hid (Ú w3 w0.heap.size 109 Vw3 (Íg r true (l.take (k + 1)))) := ħ (by
     show Ú w3 w0.heap.size 109 Vw3 (ins r (l.take (k + 1)))
     rw [HTs.o, ÅK hgt]
     exact HVw3.o)
    have HD3 : Hid (true = true → ∀ y ∈ l.drop (k + 1), r.id < y.id) := ħ (fun _ y hy => by have := HRi.o y hy; omega)
    clear q0 q1 q2 q3 q4 x0 x1 x2 x3 x4 hlx hgl;go_roundw
    case rel => exact ⟨k + 1, true, HLt.o, by go_num, rfl, HV3, ħ (fun h => by cases h), HD3, HBw3⟩
    case measure => have := HLt.o; simp [intOf]; omega
  ·obtain rfl : k = l.length := by omega
   rw [Ă] at HV HN;have HX := ħ (HX0.o.on HB.o);obtain ⟨x0, x1, x2, x3, x4⟩ := HX.o.c5;have hlx := HX.o.lt
   cases dn with
   | true =>
    go_wp2;go_ret
    exact ⟨_, rfl, Ú.lower (show Ú wr w0.heap.size 109 u5 (ins r l) from HV.o) (by omega), HB0.o.trans (HB.o.mono HB0.o.size)⟩
   | false =>
    have HV0 : Hid (Ú wr w0.heap.size 109 u5 l) := HV;have HIe : Hid (ins r l = l ++ [r]) := ħ (Äk (HN.o rfl))
    go_wp2_with (first
     | (at_builtin
        refine ð _ rfl (.tmp 47) (.tmp 49) 66 rfl w0.heap.size 109 i0 (.agg #[.int .i64 0, .int .i64 0, .int .i64 0, .int .i64 0, .string ⟨#[]⟩]) 48 Tryz.underlying66 hi hz0 hz1 hz2 rfl u5 (l) rfl (HV0.o.alloc _) _ 1 r rfl (Blk.at_new _ _ rfl _ _) (by omega) (by decide) (by have := HB.o.size; simp; omega) ?_
        intro Vw3 w3 hownw3 hgroww3;have HVw3 := ħ hownw3
        have HXw3 := ħ ((HX.o.alloc (.cells #[.int .i64 r.id, .int .i64 r.pr, .int .i64 r.ac, .int .i64 r.sc, .string r.pat] 109)).grown hgroww3 (fun e => by have := (World.ownsRow.lt HV0.o _ e.symm).1; omega))
        have HBw3 := ħ ((HB.o.alloc HB.o.size (.cells #[.int .i64 r.id, .int .i64 r.pr, .int .i64 r.ac, .int .i64 r.sc, .string r.pat] 109)).grown hgroww3 (by have := HB.o.size; simp; omega) (fun j hj => (World.ownsRow.lt HV0.o j hj).1))
        clear hownw3 hgroww3)
     | go_in)
    go_ret
    exact ⟨_, rfl, Ú.lower (show Ú w3 w0.heap.size 109 Vw3 (ins r l) by rw [HIe.o]; exact HVw3.o) (by omega), HB0.o.trans (HBw3.o.mono HB0.o.size)⟩
end
section
open Go.RowKit Go.Maps
variable {w w' : World}
set_option maxRecDepth 100000 in
set_option maxHeartbeats 8000000 in
theorem ÉW (d : Dl) (pv dv : Value) (w : World) (hm1 : d.put.length ≤ 1000) (hm2 : d.drop.length ≤ 1000) (hP : Á w.heap.size w pv d.put) (hD : Row w.heap.size w dv (zI d.drop)) :
 Calls Tryz.prog 83 #[.agg #[.int .i64 d.de, .int .i64 d.cl, .int .i64 d.fu, .int .i64 d.st, pv, dv]] w
  fun e w' => e = .returned (.bool (decide (¬ d.ids.Nodup))) ∧ Below w.heap.size w w' := by
 obtain ⟨A1, cap1, rfl⟩ := hP.form
 obtain ⟨A2, cap2, rfl⟩ : ∃ A c, dv = .slice A d.drop.length c := by obtain ⟨A, c, h, _⟩ := hD; exact ⟨A, c, by simpa [zI] using h⟩
 obtain ⟨i0, hi, hz0, hz1, hz2⟩ := Ã Îi;obtain ⟨w0, hw0⟩ : ∃ w0, w0 = w.alloc (.cells #[.int .i64 d.de, .int .i64 d.cl, .int .i64 d.fu, .int .i64 d.st, .slice A1 d.put.length cap1, .slice A2 d.drop.length cap2] 78) := ⟨_, rfl⟩
 have hb0 : Below w.heap.size w w0 := by rw [hw0]; exact (ā _ _).alloc (ŋ _) _
 have hx : Blk w0 w.heap.size 78 #[.int .i64 d.de, .int .i64 d.cl, .int .i64 d.fu, .int .i64 d.st, .slice A1 d.put.length cap1, .slice A2 d.drop.length cap2] := by rw [hw0]; exact Blk.new _ _ _
 have hs0 : w0.heap.size = w.heap.size + 1 := by rw [hw0]; simp
 have HP := ħ hP;have HD := ħ hD;have HB0 := ħ hb0;have HX0 := ħ hx;clear hP hD hb0 hx;obtain ⟨L, hL⟩ : ∃ L, L = d.ids := ⟨_, rfl⟩;rw [← hL];have HL := ħ hL
 have HLl : Hid (L.length ≤ 2000) := ħ (by rw [hL]; simp [Dl.ids]; omega)
 clear hL;obtain ⟨k0, hk0⟩ : ∃ k, k = decide (¬ L.Nodup) := ⟨_, rfl⟩;rw [← hk0];have HK0 := ħ hk0;clear hk0;go_enter Tryz.func83, Tryz.ntmps83
 go_upto_region 3 with (fail)
 rw [← hw0];clear hw0
 go_loopw [3, 4] (fun o i wr => ∃ k : Nat, k ≤ d.put.length ∧ i = .int .i64 k ∧ Hid (Áq wr w0.heap.size o ((d.put.take k).map Ru.id)) ∧ Hid (Below w0.heap.size w0 wr)) (fun _ i _ => d.put.length - (intOf i).toNat)
 case atStart => exact ⟨0, Ą _, rfl, ħ (Áq.nil _ _), ħ (ā _ _)⟩
 case round =>
  obtain ⟨k, hk, rfl, HO, HB⟩ := hrel;have HX := ħ (HX0.o.on HB.o);obtain ⟨x0, x1, x2, x3, x4, x5⟩ := HX.o.c6;have hlx := HX.o.lt;have HW := ħ (HB0.o.trans (HB.o.mono HB0.o.size));obtain ⟨OA, OC, hof⟩ := HO.o.form;subst hof
  by_cases hlt : k < d.put.length
  ·obtain ⟨b, off, rfl, hb, c0, c1, c2, c3, c4⟩ := (HP.o.below HW.o).at_ hlt
   have HG := ħ (Ā hlt);generalize d.put[k] = r at HG c0 c1 c2 c3 c4;have HLt := ħ hlt
   have hb2 : b < wr.heap.size := by have := HB.o.size; omega
   have HLn : Hid (((d.put.take k).map Ru.id).length ≤ 1000) := ħ (by simp; omega)
   have hk1 : k ≤ 1000 := by omega
   go_wp2_with (first
    | (at_builtin
       refine ÀR _ rfl (.tmp 14) (.tmp 21) 61 rfl w0.heap.size 3 i0 (.int .i64 0) 8 Tryz.underlying61 hi hz0 hz1 hz2 rfl (.slice OA ((d.put.take k).map Ru.id).length OC) ((d.put.take k).map Ru.id).length (zI ((d.put.take k).map Ru.id)) rfl (World.ownsRow.alloc HO.o _) _ (.slice (some ⟨wr.heap.size, 0, none⟩) 1 1) (zI [r.id]) rfl (Row.lit wr #[.int .i64 r.id] 3 (0, 0)) (Íi _) (by have := HLn.o; simp [zI, maxLen]; omega) (by have := HLn.o; simp [zI]; omega) (by have := HB.o.size; simp; omega) ?_
       intro v2 w2 h1 h2)
    | go_in)
   go_roundw
   case rel => exact ⟨k + 1, HLt.o, by go_num, ħ (by
    unfold Áq;rw [Ő HG.o]
    simpa [zI, Nat.add_assoc] using h1), ħ ((HB.o.alloc HB.o.size _).grown h2 (by have := HB.o.size; simp; omega) (fun k hk => (World.ownsRow.lt HO.o k hk).1))⟩
   case measure => have := HLt.o; simp [intOf]; omega
  ·obtain rfl : k = d.put.length := by omega
   have hln : ((d.put.take d.put.length).map Ru.id).length = d.put.length := by simp
   have HLn : Hid (((d.put.take d.put.length).map Ru.id).length ≤ 1000) := ħ (by rw [hln]; omega)
   clear hln;have hdw := (HD.o.below HW.o)
   go_upto_region 8 with (first
    | (at_builtin
       refine ÀR _ rfl (.tmp 23) (.tmp 25) 61 rfl w0.heap.size 3 i0 (.int .i64 0) 8 Tryz.underlying61 hi hz0 hz1 hz2 rfl (.slice OA ((d.put.take d.put.length).map Ru.id).length OC) ((d.put.take d.put.length).map Ru.id).length (zI ((d.put.take d.put.length).map Ru.id)) rfl HO.o w.heap.size (.slice A2 d.drop.length cap2) (zI d.drop) rfl hdw (Íi _) (by have := HLn.o; simp [zI, maxLen]; omega) (by have := HLn.o; simp [zI]; omega) (by have := HB.o.size; omega) ?_
       intro v2 w2 h1 h2
       have HV2 : Hid (Áq w2 w0.heap.size v2 L) := ħ (by
        rw [HL.o];unfold Áq Dl.ids;rw [Ă] at h1
        simpa [zI] using h1)
       have HB2 := ħ (HB.o.grown h2 HB.o.size (fun j hj => (World.ownsRow.lt HO.o j hj).1))
       clear h1 h2)
    | fail)
   clear x0 x1 x2 x3 x4 x5 hlx hdw HX HO HB HW;obtain ⟨OB, OD, hof⟩ := HV2.o.form;subst hof
   go_loopw [5] (fun i wx => ∃ k : Nat, k ≤ L.length ∧ i = .int .i64 k ∧ Hid ((L.take k).Nodup) ∧ Hid (Áq wx w0.heap.size (.slice OB L.length OD) L) ∧ Hid (Below w0.heap.size w0 wx)) (fun i _ => L.length - (intOf i).toNat)
   case atStart => exact ⟨0, Ą _, rfl, ħ (by simp), HV2, HB2⟩
   case round =>
    clear HV2 HB2;obtain ⟨k, hk, rfl, HN, HV, HB⟩ := hrel
    by_cases hlt : k < L.length
    ·have HLt := ħ hlt
     go_upto_region 11 with (fail)
     go_loopw [6] (fun i wy => ∃ j : Nat, j ≤ k ∧ i = .int .i64 j ∧ Hid (L[k] ∉ L.take j) ∧ Hid (Áq wy w0.heap.size (.slice OB L.length OD) L) ∧ Hid (Below w0.heap.size w0 wy)) (fun i _ => k - (intOf i).toNat)
     case atStart => exact ⟨0, Ą _, rfl, ħ (by simp), HV, HB⟩
     case round =>
      clear HV HB;obtain ⟨j, hj, rfl, HNj, HV, HB⟩ := hrel
      by_cases hjk : j < k
      ·have hjl : j < L.length := by omega
       obtain ⟨b, off, hA, hb, c0⟩ := (HV.o.row).at_ hlt;obtain ⟨b', off', hA', hb', c1⟩ := (HV.o.row).at_ hjl;rw [hA] at hA'
       obtain ⟨rfl, rfl⟩ : b = b' ∧ off = off' := by injection hA' with h; injection h with h1 h2; exact ⟨h1, h2⟩
       subst hA;clear hA'
       have hte : L.take (j + 1) = L.take j ++ [L[j]] := by rw [List.take_add_one, Ā hjl]; rfl
       have HTe := ħ hte;clear hte
       by_cases he : L[k] = L[j]
       ·have heb : (L[k] == L[j]) = true := by simp [he]
        have HE : Hid (k0 = true) := ħ (by
         rw [HK0.o, decide_eq_true_eq];intro hn
         exact (List.pairwise_iff_getElem.1 hn) j k hjl hlt hjk he.symm)
        go_upto_region 13 with (fail)
        go_region
        have HBd : Hid (Below w0.heap.size w0 wr.drew) := ħ HB.o.drew;generalize wr.drew = wd at *;go_wp2;go_ret
        exact ⟨by rw [HE.o]; rfl, HB0.o.trans (HBd.o.mono HB0.o.size)⟩
       ·have heb : (L[k] == L[j]) = false := by simp [he]
        have HNx : Hid (L[k] ∉ L.take (j + 1)) := ħ (by
         rw [HTe.o];simp only [Ė, Ĉ, not_or]
         exact ⟨HNj.o, he⟩)
        have HJk := ħ hjk
        have HWr : Hid (wrap64 ((j : Int) + 1) = ((j + 1 : Nat) : Int)) := ħ (by have := HLl.o; unfold wrap64; omega)
        go_upto_region 13 with (fail)
        go_region
        have HBd : Hid (Below w0.heap.size w0 wr.drew) := ħ HB.o.drew;have HVd : Hid (Áq wr.drew w0.heap.size (.slice (some ⟨b, off, none⟩) L.length OD) L) := HV;generalize wr.drew = wd at *;go_wp2;go_roundw
        case rel => exact ⟨j + 1, HJk.o, by rw [HWr.o], HNx, HVd, HBd⟩
        case measure => have := HJk.o; rw [HWr.o]; simp [intOf]; omega
      ·obtain rfl : j = k := by omega
       have HTe : Hid ((L.take (j + 1)).Nodup) := ħ (by
        rw [show L.take (j + 1) = L.take j ++ [L[j]] by rw [List.take_add_one, Ā hlt]; rfl]
        exact ÄA.2 ⟨HN.o, HNj.o⟩)
       have HWr : Hid (wrap64 ((j : Int) + 1) = ((j + 1 : Nat) : Int)) := ħ (by have := HLl.o; unfold wrap64; omega)
       go_wp2;go_roundw
       case rel => exact ⟨j + 1, HLt.o, by rw [HWr.o], HTe, HV, HB⟩
       case measure => have := HLt.o; rw [HWr.o]; simp [intOf]; omega
    ·obtain rfl : k = L.length := by omega
     rw [Ă] at HN
     have HE : Hid (k0 = false) := ħ (by rw [HK0.o]; simpa using HN.o)
     go_wp2;go_ret
     exact ⟨by rw [HE.o]; rfl, HB0.o.trans (HB.o.mono HB0.o.size)⟩
end
end Go.Proofs.YtpginkdkblmnbaaGreatDoor
