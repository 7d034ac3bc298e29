import Derived.Test.YtpginkdkblmnbaaGreatDoorXMRd
import Derived.Deep.RegionHeld3
import Derived.Deep.Cut
import Derived.Deep.CutRange
namespace Go.Proofs.YtpginkdkblmnbaaGreatDoor
section
open Go.RowKit Go.Maps
variable {w w' : World}
theorem Blk.drew4 {b : Nat} {t : TypeId} {cs : Array Value} (h : Blk w b t cs) : Blk w.drew b t cs := h
theorem Åv {W1 : World} {g b : Nat} {t : TypeId} {cs : Array Value} {c0 c1 c2 c3 c4 : Value} (h : Blk W1 b t cs) (hne : b ≠ g) : Blk (((((W1.setCell ⟨g, 0, none⟩ c0).setCell ⟨g, 1, none⟩ c1).setCell ⟨g, 2, none⟩ c2).setCell ⟨g, 3, none⟩ c3).setCell ⟨g, 4, none⟩ c4) b t cs := by
 have k : ∀ {W : World}, Blk W b t cs → ∀ (i : Nat) (u : Value), Blk (W.setCell ⟨g, i, none⟩ u) b t cs := fun h i u => h.far (p := ⟨g, i, none⟩) hne u
 exact k (k (k (k (k h 0 c0) 1 c1) 2 c2) 3 c3) 4 c4
theorem Ãk {w2 W1 : World} {v0 v1 v2 v3 v4 c0 c1 c2 c3 c4 : Value} (hN : Blk W1 w2.heap.size 68 #[v0, v1, v2, v3, v4]) (hB : Below w2.heap.size w2 W1) (hS : W1.heap.size = w2.heap.size + 1) :
 Hid (Blk (((((W1.setCell ⟨w2.heap.size, 0, none⟩ c0).setCell ⟨w2.heap.size, 1, none⟩ c1).setCell ⟨w2.heap.size, 2, none⟩ c2).setCell ⟨w2.heap.size, 3, none⟩ c3).setCell ⟨w2.heap.size, 4, none⟩ c4) w2.heap.size 68 #[c0, c1, c2, c3, c4]) ∧ Hid (Below w2.heap.size w2 (((((W1.setCell ⟨w2.heap.size, 0, none⟩ c0).setCell ⟨w2.heap.size, 1, none⟩ c1).setCell ⟨w2.heap.size, 2, none⟩ c2).setCell ⟨w2.heap.size, 3, none⟩ c3).setCell ⟨w2.heap.size, 4, none⟩ c4)) ∧ Hid ((((((W1.setCell ⟨w2.heap.size, 0, none⟩ c0).setCell ⟨w2.heap.size, 1, none⟩ c1).setCell ⟨w2.heap.size, 2, none⟩ c2).setCell ⟨w2.heap.size, 3, none⟩ c3).setCell ⟨w2.heap.size, 4, none⟩ c4).heap.size = w2.heap.size + 1) := by
 refine ⟨ħ ?_, ħ ?_, ħ (by simpa [World.setCell] using hS)⟩
 ·have := ((((hN.set_ 0 c0).set_ 1 c1).set_ 2 c2).set_ 3 c3).set_ 4 c4
  simpa using this
 ·have k : ∀ {W : World}, Below w2.heap.size w2 W → ∀ (i : Nat) (u : Value), Below w2.heap.size w2 (W.setCell ⟨w2.heap.size, i, none⟩ u) := fun h i u => h.setCell (p := ⟨w2.heap.size, i, none⟩) (ŋ _) u
  exact k (k (k (k (k hB 0 c0) 1 c1) 2 c2) 3 c3) 4 c4
theorem ÂO {w W1 : World} {g : Nat} {c0 c1 c2 c3 c4 : Value} (h : Below w.heap.size w W1) (hg : w.heap.size ≤ g) : Below w.heap.size w (((((W1.setCell ⟨g, 0, none⟩ c0).setCell ⟨g, 1, none⟩ c1).setCell ⟨g, 2, none⟩ c2).setCell ⟨g, 3, none⟩ c3).setCell ⟨g, 4, none⟩ c4) := by
 have k : ∀ {W : World}, Below w.heap.size w W → ∀ (i : Nat) (u : Value), Below w.heap.size w (W.setCell ⟨g, i, none⟩ u) := fun h i u => h.setCell (p := ⟨g, i, none⟩) hg u
 exact k (k (k (k (k h 0 c0) 1 c1) 2 c2) 3 c3) 4 c4
section
variable {P : Program} {md : Region.Mode} {ops : Array Oper} {Q : Exit → Act → World → Prop} {S : World → Prop} {fuel : Nat} {listed : Array Bool} {a : Act} {w : World}
theorem Çh (i d : Nat) {f : FuncId} {args : Array Value} {R : Ending → World → Prop} {o : Oper} (ho : ops[i]? = some o) (hd : o.dst = some d) (hr : Region.ready md ops listed = [i]) (hw : o.guard = none)
 (he : (execOp a.eval o).run P w = .ok (.enter f args) w) (hc : Calls P f args w R)
 (h : ∀ e w', R e w' → ∃ v, e = .returned v ∧ S w' ∧ wpAnyH P md ops Q S fuel (listed.setIfInBounds i true) { tmps := a.tmps.setIfInBounds d v, defers := a.defers } w') : wpAnyH P md ops Q S (fuel + 1) listed a w := by
 refine wpAnyH_ready hr (by simp) (AllReadyH.cons ho (fun K hK => ?_) AllReadyH.nil)
 rw [if_pos (by unfold Region.wanted; rw [hw])]
 unfold Oper.wp;rw [he];refine hc.mono ?_;intro e w' hR;obtain ⟨v, rfl, hS', hh⟩ := h e w' hR
 refine hK.o _ _ hS' (fun _ => ?_)
 rw [hd];exact hh
end
theorem Ár {P : Program} {t e : TypeId} {bytes : Nat} (z : Value) (hu : P.underlying t = some (.slice e)) (hzc : z.cells.size = 5) (hb100 : bytes ≤ 100) (w : World) {ops : Array Oper} {o : Oper} {a : Act} {K : Act → World → Prop} {Q : Exit → Act → World → Prop} {E : Prop} (hgd : o.guard = none) (x y : Operand)
 (ho : o.op = .call { callee := .builtin .append, args := #[x, y], argTypes := #[t, t] }) (i : TypeInfo) (hi : P.info? e = some i) (hz : i.zero = some z) (hsize : i.size = 5) (hby : i.bytes = bytes)
 (base : Nat) (v : Value) (xs : List Ru) (hx : a.eval x = v) (hown : Ú w base e v xs) (b c : Nat) (r : Ru) (hy : a.eval y = .slice (some ⟨b, 0, none⟩) 1 c) (hr : Blk w b e #[.int .i64 r.id, .int .i64 r.pr, .int .i64 r.ac, .int .i64 r.sc, .string r.pat]) (h63 : xs.length + 1 ≤ 1000000) (hbase : base ≤ w.heap.size)
 (h : ∀ v' w', Ú w' base e v' (xs ++ [r]) → w.grownBy w' v.ownBlock → K (a.put o.dst v') w') :
 if Region.wanted o (yielded ops a.tmps) = true then Oper.wp P o a w K Q else E := by
 have hw : Region.wanted o (yielded ops a.tmps) = true := by simp [Region.wanted, hgd]
 rw [if_pos hw];have hm : (xs.length + 1) * bytes ≤ 1000000 * 100 := Nat.mul_le_mul h63 hb100
 obtain ⟨v', w', hrun, h2, h3, _, _⟩ := run_append_own_at (P := P) w base t o.type e i z 5 bytes hu hi hz hsize hby hzc (by decide) v xs.length (Ķ xs) hown ⟨b, 0, none⟩ 1 c r.cells rfl (fun j u hu => by
  have hadd : (⟨b, 0, none⟩ : Addr).add j = ⟨b, 0 + j, none⟩ := by unfold Addr.add; split <;> simp_all
  rw [hadd, ĉ, hr.cell j, ← hu]
  rw [Ru.cells, ← List.getElem?_toArray]) (ÈI r) (by unfold maxLen; omega) (by omega) hbase
 unfold Oper.wp execOp;simp only [ho, resolve, invoke, builtin, Sem.run_bind, Sem.run_pure, Result.andThen_ok, List.map_toArray, List.map_cons, List.map_nil, hx, hy, hrun];refine h v' w' ?_ h3;unfold Ú
 rw [ă, ÀK, show Ķ [r] = r.cells by simp [Ķ]]
 exact h2
theorem Ïw {w : World} {base g : Nat} {e : TypeId} {V : Value} {l : List Ru} {c0 c1 c2 c3 c4 : Value} (h : Ú w base e V l) (ha : V.ownBlock ≠ some g) : Ú (((((w.setCell ⟨g, 0, none⟩ c0).setCell ⟨g, 1, none⟩ c1).setCell ⟨g, 2, none⟩ c2).setCell ⟨g, 3, none⟩ c3).setCell ⟨g, 4, none⟩ c4) base e V l :=
 ((((h.farset (a := ⟨g, 0, none⟩) ha c0).farset (a := ⟨g, 1, none⟩) ha c1).farset (a := ⟨g, 2, none⟩) ha c2).farset (a := ⟨g, 3, none⟩) ha c3).farset (a := ⟨g, 4, none⟩) ha c4
theorem ÂP (l : List Ru) (x : Ru) (ids : List Int) : drops (l ++ [x]) ids = if x.id ∈ ids then drops l ids else drops l ids ++ [x] := by
 unfold drops;rw [List.filter_append]
 by_cases h : x.id ∈ ids
 ·rw [if_pos h]; simp [h]
 ·rw [if_neg h]; simp [h]
theorem Æq (l : List Ru) (ids : List Int) : (drops l ids).length ≤ l.length := List.length_filter_le _ _
theorem Ág.on' {n₀ b o : Nat} {r : Ru} {w w' : World} (h : Ág w b o r) (hb : b < n₀) (hB : Below n₀ w w') : Ág w' b o r := h.below hb hB
set_option maxRecDepth 100000 in
set_option maxHeartbeats 40000000 in
theorem ÉX (s : RS) (d : Dl) (v pv dv : Value) (w : World) (hm0 : s.rs.length ≤ 1000) (hm1 : d.put.length ≤ 1000) (hm2 : d.drop.length ≤ 1000) (hdr : ∀ z ∈ d.drop, (Lit.int .i64 z).wf = true)
 (hS : Á w.heap.size w v s.rs) (hP : Á w.heap.size w pv d.put) (hD : Row w.heap.size w dv (zI d.drop)) :
 Calls Tryz.prog 54 #[.agg #[.int .i64 s.de, .int .i64 s.cl, .int .i64 s.fu, .int .i64 s.st, v], .agg #[.int .i64 d.de, .int .i64 d.cl, .int .i64 d.fu, .int .i64 d.st, pv, dv]] w
  fun e w' => ∃ rv, e = .returned (.tuple #[.agg #[.int .i64 (Õ s d).1.de, .int .i64 (Õ s d).1.cl, .int .i64 (Õ s d).1.fu, .int .i64 (Õ s d).1.st, rv], .int .i64 (Õ s d).2]) ∧ Á w'.heap.size w' rv (Õ s d).1.rs ∧ (∀ k, rv.ownBlock = some k → w.heap.size ≤ k ∧ k < w'.heap.size) ∧ Below w.heap.size w w' := by
 obtain ⟨A, cap, rfl⟩ := hS.form;obtain ⟨PA, PC, rfl⟩ := hP.form
 obtain ⟨DA, DC, rfl⟩ : ∃ A c, dv = .slice A d.drop.length c := by obtain ⟨A, c, h, _⟩ := hD; exact ⟨A, c, by simpa [zI] using h⟩
 obtain ⟨w0, hw0⟩ : ∃ w0, w0 = (((w.alloc (.cells #[.int .i64 s.de, .int .i64 s.cl, .int .i64 s.fu, .int .i64 s.st, .slice A s.rs.length cap] 68)).alloc (.cells #[.int .i64 d.de, .int .i64 d.cl, .int .i64 d.fu, .int .i64 d.st, .slice PA d.put.length PC, .slice DA d.drop.length DC] 78)).alloc (.cells #[.int .i64 0, .int .i64 0, .int .i64 0, .int .i64 0, .slice none 0 0] 68)) := ⟨_, rfl⟩
 have hb0 : Below w.heap.size w w0 := by rw [hw0]; exact (((ā _ _).alloc (ŋ _) _).alloc (by simp) _).alloc (by simp; omega) _
 have hx : Blk w0 w.heap.size 68 #[.int .i64 s.de, .int .i64 s.cl, .int .i64 s.fu, .int .i64 s.st, .slice A s.rs.length cap] := by rw [hw0]; exact ((Blk.new _ _ _).alloc _).alloc _
 have hy : Blk w0 (w.heap.size + 1) 78 #[.int .i64 d.de, .int .i64 d.cl, .int .i64 d.fu, .int .i64 d.st, .slice PA d.put.length PC, .slice DA d.drop.length DC] := by rw [hw0]; exact (Blk.at_new _ _ (by simp) _ _).alloc _
 have hz : Blk w0 (w.heap.size + 2) 68 #[.int .i64 0, .int .i64 0, .int .i64 0, .int .i64 0, .slice none 0 0] := by rw [hw0]; exact Blk.at_new _ _ (by simp) _ _
 have hs0 : w0.heap.size = w.heap.size + 3 := by rw [hw0]; simp
 have HS := ħ hS;have HP := ħ hP;have HD := ħ hD;have HDr := ħ hdr;have HB0 := ħ hb0;have HX0 := ħ hx;have HY0 := ħ hy;have HZ0 := ħ hz;clear hS hP hD hdr hb0 hx hy hz;obtain ⟨T, hT⟩ : ∃ T, T = Õ s d := ⟨_, rfl⟩;rw [← hT];have HT := ħ hT;clear hT;go_enter Tryz.func54, Tryz.ntmps54
 go_wp2_with fail
 rw [← hw0];clear hw0
 refine (Åu s _ w0 (by omega) (HS.o.on HB0.o)).mono ?_
 rintro e w2 ⟨rfl, hb2⟩;have HXd := ħ (HY0.o.on hb2);have HYd := ħ (HX0.o.on hb2);have HZd := ħ (HZ0.o.on hb2);have HBd := ħ (HB0.o.trans (hb2.mono HB0.o.size));have hs2 := ē (Nat.le_of_eq hs0.symm) hb2.size;clear hb2 HX0 HY0 HZ0 HB0 hs0
 by_cases h1 : s.Ok
 ·rw [decide_eq_true h1]
  have H1 := ħ h1;clear h1;have C1 := ħ (Äp d.de s.de);have C2 := ħ (Äp d.cl s.cl);have C3 := ħ (Äp d.fu s.fu);have C4 := ħ (Äp d.st s.st);obtain ⟨n1, hn1⟩ : ∃ n, n = orK d.de s.de := ⟨_, rfl⟩;obtain ⟨n2, hn2⟩ : ∃ n, n = orK d.cl s.cl := ⟨_, rfl⟩;obtain ⟨n3, hn3⟩ : ∃ n, n = orK d.fu s.fu := ⟨_, rfl⟩;obtain ⟨n4, hn4⟩ : ∃ n, n = orK d.st s.st := ⟨_, rfl⟩;rw [← hn1] at C1;rw [← hn2] at C2;rw [← hn3] at C3;rw [← hn4] at C4
  have HNu : Hid (Ÿ s d = ⟨n1, n2, n3, n4, []⟩) := ħ (by unfold Ÿ; rw [hn1, hn2, hn3, hn4])
  clear hn1 hn2 hn3 hn4
  have hne1 : w.heap.size ≠ w2.heap.size := by omega
  have hne2 : w.heap.size + 1 ≠ w2.heap.size := by omega
  have hlx := HXd.o.lt;have hly := HYd.o.lt
  go_upto_region 3 with (fail)
  go_cut [6] from 17 (fun s6 W => s6 = .pointer (some ⟨w2.heap.size, 0, none⟩) ∧ Hid (Blk W w2.heap.size 68 #[.int .i64 n1, .int .i64 n2, .int .i64 n3, .int .i64 n4, .slice none 0 0]) ∧ Hid (Below w2.heap.size w2 W) ∧ Hid (W.heap.size = w2.heap.size + 1))
  case first =>
   rename_i J K' hJ hK'
   have heg : ∀ args w, (callFunc 82 args).run Tryz.prog w = .ok (.enter 82 args) w := enters_of Tryz.func82 (by kernel_rfl) rfl
   refine wp_region_held_drew (S := fun W => Blk W (w.heap.size + 1) 78 #[.int .i64 d.de, .int .i64 d.cl, .int .i64 d.fu, .int .i64 d.st, .slice PA d.put.length PC, .slice DA d.drop.length DC] ∧ Blk W w.heap.size 68 #[.int .i64 s.de, .int .i64 s.cl, .int .i64 s.fu, .int .i64 s.st, .slice A s.rs.length cap]) (by kernel_rfl) ⟨HXd.o, HYd.o⟩ (fun hHeld => ?_)
   refine ŧ 0 17 (.pointer (some ⟨(w.heap.size + 1), 0, none⟩)) _ rfl rfl hHeld (fun w' hSw => ?_) ?_
   ·clear hSw
    go_simp
   simp only [ł, ø, đ]
   refine ŧ 1 18 (.int .i64 d.de) _ rfl rfl hHeld (fun w' hSw => ?_) ?_
   ·have q := hSw.1.cell 0
    clear hSw;go_simp
   simp only [ł, ø, đ]
   refine ŧ 2 19 (.pointer (some ⟨w.heap.size, 0, none⟩)) _ rfl rfl hHeld (fun w' hSw => ?_) ?_
   ·clear hSw
    go_simp
   simp only [ł, ø, đ]
   refine ŧ 3 20 (.int .i64 s.de) _ rfl rfl hHeld (fun w' hSw => ?_) ?_
   ·have q := hSw.2.cell 0
    clear hSw;go_simp
   simp only [ł, ø, đ]
   refine ŧ 5 22 (.pointer (some ⟨(w.heap.size + 1), 1, none⟩)) _ rfl rfl hHeld (fun w' hSw => ?_) ?_
   ·clear hSw
    go_simp
   simp only [ł, ø, đ]
   refine ŧ 6 23 (.int .i64 d.cl) _ rfl rfl hHeld (fun w' hSw => ?_) ?_
   ·have q := hSw.1.cell 1
    clear hSw;go_simp
   simp only [ł, ø, đ]
   refine ŧ 7 24 (.pointer (some ⟨w.heap.size, 1, none⟩)) _ rfl rfl hHeld (fun w' hSw => ?_) ?_
   ·clear hSw
    go_simp
   simp only [ł, ø, đ]
   refine ŧ 8 25 (.int .i64 s.cl) _ rfl rfl hHeld (fun w' hSw => ?_) ?_
   ·have q := hSw.2.cell 1
    clear hSw;go_simp
   simp only [ł, ø, đ]
   refine ŧ 10 27 (.pointer (some ⟨(w.heap.size + 1), 2, none⟩)) _ rfl rfl hHeld (fun w' hSw => ?_) ?_
   ·clear hSw
    go_simp
   simp only [ł, ø, đ]
   refine ŧ 11 28 (.int .i64 d.fu) _ rfl rfl hHeld (fun w' hSw => ?_) ?_
   ·have q := hSw.1.cell 2
    clear hSw;go_simp
   simp only [ł, ø, đ]
   refine ŧ 12 29 (.pointer (some ⟨w.heap.size, 2, none⟩)) _ rfl rfl hHeld (fun w' hSw => ?_) ?_
   ·clear hSw
    go_simp
   simp only [ł, ø, đ]
   refine ŧ 13 30 (.int .i64 s.fu) _ rfl rfl hHeld (fun w' hSw => ?_) ?_
   ·have q := hSw.2.cell 2
    clear hSw;go_simp
   simp only [ł, ø, đ]
   refine ŧ 15 32 (.pointer (some ⟨(w.heap.size + 1), 3, none⟩)) _ rfl rfl hHeld (fun w' hSw => ?_) ?_
   ·clear hSw
    go_simp
   simp only [ł, ø, đ]
   refine ŧ 16 33 (.int .i64 d.st) _ rfl rfl hHeld (fun w' hSw => ?_) ?_
   ·have q := hSw.1.cell 3
    clear hSw;go_simp
   simp only [ł, ø, đ]
   refine ŧ 17 34 (.pointer (some ⟨w.heap.size, 3, none⟩)) _ rfl rfl hHeld (fun w' hSw => ?_) ?_
   ·clear hSw
    go_simp
   simp only [ł, ø, đ]
   refine ŧ 18 35 (.int .i64 s.st) _ rfl rfl hHeld (fun w' hSw => ?_) ?_
   ·have q := hSw.2.cell 3
    clear hSw;go_simp
   simp only [ł, ø, đ]
   refine ÀD (f := 82) (args := #[.int .i64 d.de, .int .i64 s.de]) 4 21 21 6 rfl rfl rfl rfl (by kernel_rfl) rfl rfl (by kernel_rfl) (C1.o _) hHeld (Š _) ⟨(HXd.o.drew4).alloc _, (HYd.o.drew4).alloc _⟩ ?_ ?_
   ·simp only [ł, ø, đ]
    refine ÀD (f := 82) (args := #[.int .i64 d.cl, .int .i64 s.cl]) 9 21 26 6 rfl rfl rfl rfl (by kernel_rfl) rfl rfl (by kernel_rfl) (C2.o _) hHeld (Š _) ⟨(HXd.o.drew4).alloc _, (HYd.o.drew4).alloc _⟩ ?_ ?_
    ·simp only [ł, ø, đ]
     refine ÀD (f := 82) (args := #[.int .i64 d.fu, .int .i64 s.fu]) 14 21 31 6 rfl rfl rfl rfl (by kernel_rfl) rfl rfl (by kernel_rfl) (C3.o _) hHeld (Š _) ⟨(HXd.o.drew4).alloc _, (HYd.o.drew4).alloc _⟩ ?_ ?_
     ·simp only [ł, ø, đ]
      refine ÀD (f := 82) (args := #[.int .i64 d.st, .int .i64 s.st]) 19 21 36 6 rfl rfl rfl rfl (by kernel_rfl) rfl rfl (by kernel_rfl) (C4.o _) hHeld (Š _) ⟨(HXd.o.drew4).alloc _, (HYd.o.drew4).alloc _⟩ ?_ ?_
      ·simp only [ł, ø, đ]
       refine ŧ 20 37 (.agg #[.int .i64 n1, .int .i64 n2, .int .i64 n3, .int .i64 n4, .slice none 0 0]) _ rfl rfl hHeld (fun w' hSw => ?_) ?_
       ·clear hSw
        go_simp
       simp only [ł, ø, đ]
       refine Èw 21 6 rfl rfl (by kernel_rfl) rfl (Š _) ⟨(HXd.o.drew4).alloc _, (HYd.o.drew4).alloc _⟩ ?_
       simp only [ł, ø, đ];have HXW := ħ ((HXd.o.drew4).alloc (.cells #[.int .i64 0, .int .i64 0, .int .i64 0, .int .i64 0, .slice none 0 0] 68));have HYW := ħ ((HYd.o.drew4).alloc (.cells #[.int .i64 0, .int .i64 0, .int .i64 0, .int .i64 0, .slice none 0 0] 68));have HN1 := ħ (Blk.at_new w2.drew w2.heap.size rfl 68 #[.int .i64 0, .int .i64 0, .int .i64 0, .int .i64 0, .slice none 0 0]);have HB1 : Hid (Below w2.heap.size w2 (w2.drew.alloc (.cells #[.int .i64 0, .int .i64 0, .int .i64 0, .int .i64 0, .slice none 0 0] 68))) := ħ (((ā _ _).drew).alloc (ŋ _) _)
       have HS1 : Hid ((w2.drew.alloc (.cells #[.int .i64 0, .int .i64 0, .int .i64 0, .int .i64 0, .slice none 0 0] 68)).heap.size = w2.heap.size + 1) := ħ (by simp)
       generalize w2.drew.alloc (.cells #[.int .i64 0, .int .i64 0, .int .i64 0, .int .i64 0, .slice none 0 0] 68) = W1 at HXW HYW HN1 HB1 HS1 ⊢;clear hHeld;have z := HN1.o.c5;have f := HN1.o.frozen;have hl1 := HN1.o.lt
       refine ŝ 22 (fun K hK => ?_)
       go_simp
       refine hK.o _ _ ⟨?_, ?_⟩ (fun hHeld => ?_)
       ·exact Åv HXW.o hne2
       ·exact Åv HYW.o hne1
       clear hK K z f
       refine wpAnyH_done (by kernel_rfl) ?_ _
       refine hK' _ _ (Met.intro (hJ _ _ ?_))
       (repeat apply Exists.intro)
       refine ⟨?_, rfl⟩;exact ⟨rfl, Ãk HN1.o HB1.o HS1.o⟩
      ·simp only [ł, ø, đ]
       have HXW := ħ ((HXd.o.drew4).alloc (.cells #[.int .i64 0, .int .i64 0, .int .i64 0, .int .i64 0, .slice none 0 0] 68));have HYW := ħ ((HYd.o.drew4).alloc (.cells #[.int .i64 0, .int .i64 0, .int .i64 0, .int .i64 0, .slice none 0 0] 68));have HN1 := ħ (Blk.at_new w2.drew w2.heap.size rfl 68 #[.int .i64 0, .int .i64 0, .int .i64 0, .int .i64 0, .slice none 0 0]);have HB1 : Hid (Below w2.heap.size w2 (w2.drew.alloc (.cells #[.int .i64 0, .int .i64 0, .int .i64 0, .int .i64 0, .slice none 0 0] 68))) := ħ (((ā _ _).drew).alloc (ŋ _) _)
       have HS1 : Hid ((w2.drew.alloc (.cells #[.int .i64 0, .int .i64 0, .int .i64 0, .int .i64 0, .slice none 0 0] 68)).heap.size = w2.heap.size + 1) := ħ (by simp)
       generalize w2.drew.alloc (.cells #[.int .i64 0, .int .i64 0, .int .i64 0, .int .i64 0, .slice none 0 0] 68) = W1 at HXW HYW HN1 HB1 HS1 ⊢
       refine Ğ (f := 82) (args := #[.int .i64 d.st, .int .i64 s.st]) 19 36 rfl rfl (by kernel_rfl) rfl (by kernel_rfl) (C4.o _) ⟨HXW.o, HYW.o⟩ ?_
       simp only [ł, ø, đ];have hHeld := And.intro HXW.o HYW.o
       refine ŧ 20 37 (.agg #[.int .i64 n1, .int .i64 n2, .int .i64 n3, .int .i64 n4, .slice none 0 0]) _ rfl rfl hHeld (fun w' hSw => ?_) ?_
       ·clear hSw
        go_simp
       simp only [ł, ø, đ];clear hHeld;have z := HN1.o.c5;have f := HN1.o.frozen;have hl1 := HN1.o.lt
       refine ŝ 22 (fun K hK => ?_)
       go_simp
       refine hK.o _ _ ⟨?_, ?_⟩ (fun hHeld => ?_)
       ·exact Åv HXW.o hne2
       ·exact Åv HYW.o hne1
       clear hK K z f
       refine wpAnyH_done (by kernel_rfl) ?_ _
       refine hK' _ _ (Met.intro (hJ _ _ ?_))
       (repeat apply Exists.intro)
       refine ⟨?_, rfl⟩;exact ⟨rfl, Ãk HN1.o HB1.o HS1.o⟩
     ·simp only [ł, ø, đ]
      have HXW := ħ ((HXd.o.drew4).alloc (.cells #[.int .i64 0, .int .i64 0, .int .i64 0, .int .i64 0, .slice none 0 0] 68));have HYW := ħ ((HYd.o.drew4).alloc (.cells #[.int .i64 0, .int .i64 0, .int .i64 0, .int .i64 0, .slice none 0 0] 68));have HN1 := ħ (Blk.at_new w2.drew w2.heap.size rfl 68 #[.int .i64 0, .int .i64 0, .int .i64 0, .int .i64 0, .slice none 0 0]);have HB1 : Hid (Below w2.heap.size w2 (w2.drew.alloc (.cells #[.int .i64 0, .int .i64 0, .int .i64 0, .int .i64 0, .slice none 0 0] 68))) := ħ (((ā _ _).drew).alloc (ŋ _) _)
      have HS1 : Hid ((w2.drew.alloc (.cells #[.int .i64 0, .int .i64 0, .int .i64 0, .int .i64 0, .slice none 0 0] 68)).heap.size = w2.heap.size + 1) := ħ (by simp)
      generalize w2.drew.alloc (.cells #[.int .i64 0, .int .i64 0, .int .i64 0, .int .i64 0, .slice none 0 0] 68) = W1 at HXW HYW HN1 HB1 HS1 ⊢
      refine Ğ (f := 82) (args := #[.int .i64 d.fu, .int .i64 s.fu]) 14 31 rfl rfl (by kernel_rfl) rfl (by kernel_rfl) (C3.o _) ⟨HXW.o, HYW.o⟩ ?_
      simp only [ł, ø, đ]
      refine Ğ (f := 82) (args := #[.int .i64 d.st, .int .i64 s.st]) 19 36 rfl rfl (by kernel_rfl) rfl (by kernel_rfl) (C4.o _) ⟨HXW.o, HYW.o⟩ ?_
      simp only [ł, ø, đ];have hHeld := And.intro HXW.o HYW.o
      refine ŧ 20 37 (.agg #[.int .i64 n1, .int .i64 n2, .int .i64 n3, .int .i64 n4, .slice none 0 0]) _ rfl rfl hHeld (fun w' hSw => ?_) ?_
      ·clear hSw
       go_simp
      simp only [ł, ø, đ];clear hHeld;have z := HN1.o.c5;have f := HN1.o.frozen;have hl1 := HN1.o.lt
      refine ŝ 22 (fun K hK => ?_)
      go_simp
      refine hK.o _ _ ⟨?_, ?_⟩ (fun hHeld => ?_)
      ·exact Åv HXW.o hne2
      ·exact Åv HYW.o hne1
      clear hK K z f
      refine wpAnyH_done (by kernel_rfl) ?_ _
      refine hK' _ _ (Met.intro (hJ _ _ ?_))
      (repeat apply Exists.intro)
      refine ⟨?_, rfl⟩;exact ⟨rfl, Ãk HN1.o HB1.o HS1.o⟩
    ·simp only [ł, ø, đ]
     have HXW := ħ ((HXd.o.drew4).alloc (.cells #[.int .i64 0, .int .i64 0, .int .i64 0, .int .i64 0, .slice none 0 0] 68));have HYW := ħ ((HYd.o.drew4).alloc (.cells #[.int .i64 0, .int .i64 0, .int .i64 0, .int .i64 0, .slice none 0 0] 68));have HN1 := ħ (Blk.at_new w2.drew w2.heap.size rfl 68 #[.int .i64 0, .int .i64 0, .int .i64 0, .int .i64 0, .slice none 0 0]);have HB1 : Hid (Below w2.heap.size w2 (w2.drew.alloc (.cells #[.int .i64 0, .int .i64 0, .int .i64 0, .int .i64 0, .slice none 0 0] 68))) := ħ (((ā _ _).drew).alloc (ŋ _) _)
     have HS1 : Hid ((w2.drew.alloc (.cells #[.int .i64 0, .int .i64 0, .int .i64 0, .int .i64 0, .slice none 0 0] 68)).heap.size = w2.heap.size + 1) := ħ (by simp)
     generalize w2.drew.alloc (.cells #[.int .i64 0, .int .i64 0, .int .i64 0, .int .i64 0, .slice none 0 0] 68) = W1 at HXW HYW HN1 HB1 HS1 ⊢
     refine Ğ (f := 82) (args := #[.int .i64 d.cl, .int .i64 s.cl]) 9 26 rfl rfl (by kernel_rfl) rfl (by kernel_rfl) (C2.o _) ⟨HXW.o, HYW.o⟩ ?_
     simp only [ł, ø, đ]
     refine Ğ (f := 82) (args := #[.int .i64 d.fu, .int .i64 s.fu]) 14 31 rfl rfl (by kernel_rfl) rfl (by kernel_rfl) (C3.o _) ⟨HXW.o, HYW.o⟩ ?_
     simp only [ł, ø, đ]
     refine Ğ (f := 82) (args := #[.int .i64 d.st, .int .i64 s.st]) 19 36 rfl rfl (by kernel_rfl) rfl (by kernel_rfl) (C4.o _) ⟨HXW.o, HYW.o⟩ ?_
     simp only [ł, ø, đ];have hHeld := And.intro HXW.o HYW.o
     refine ŧ 20 37 (.agg #[.int .i64 n1, .int .i64 n2, .int .i64 n3, .int .i64 n4, .slice none 0 0]) _ rfl rfl hHeld (fun w' hSw => ?_) ?_
     ·clear hSw
      go_simp
     simp only [ł, ø, đ];clear hHeld;have z := HN1.o.c5;have f := HN1.o.frozen;have hl1 := HN1.o.lt
     refine ŝ 22 (fun K hK => ?_)
     go_simp
     refine hK.o _ _ ⟨?_, ?_⟩ (fun hHeld => ?_)
     ·exact Åv HXW.o hne2
     ·exact Åv HYW.o hne1
     clear hK K z f
     refine wpAnyH_done (by kernel_rfl) ?_ _
     refine hK' _ _ (Met.intro (hJ _ _ ?_))
     (repeat apply Exists.intro)
     refine ⟨?_, rfl⟩;exact ⟨rfl, Ãk HN1.o HB1.o HS1.o⟩
   ·simp only [ł, ø, đ]
    have HXW := ħ ((HXd.o.drew4).alloc (.cells #[.int .i64 0, .int .i64 0, .int .i64 0, .int .i64 0, .slice none 0 0] 68));have HYW := ħ ((HYd.o.drew4).alloc (.cells #[.int .i64 0, .int .i64 0, .int .i64 0, .int .i64 0, .slice none 0 0] 68));have HN1 := ħ (Blk.at_new w2.drew w2.heap.size rfl 68 #[.int .i64 0, .int .i64 0, .int .i64 0, .int .i64 0, .slice none 0 0]);have HB1 : Hid (Below w2.heap.size w2 (w2.drew.alloc (.cells #[.int .i64 0, .int .i64 0, .int .i64 0, .int .i64 0, .slice none 0 0] 68))) := ħ (((ā _ _).drew).alloc (ŋ _) _)
    have HS1 : Hid ((w2.drew.alloc (.cells #[.int .i64 0, .int .i64 0, .int .i64 0, .int .i64 0, .slice none 0 0] 68)).heap.size = w2.heap.size + 1) := ħ (by simp)
    generalize w2.drew.alloc (.cells #[.int .i64 0, .int .i64 0, .int .i64 0, .int .i64 0, .slice none 0 0] 68) = W1 at HXW HYW HN1 HB1 HS1 ⊢
    refine Ğ (f := 82) (args := #[.int .i64 d.de, .int .i64 s.de]) 4 21 rfl rfl (by kernel_rfl) rfl (by kernel_rfl) (C1.o _) ⟨HXW.o, HYW.o⟩ ?_
    simp only [ł, ø, đ]
    refine Ğ (f := 82) (args := #[.int .i64 d.cl, .int .i64 s.cl]) 9 26 rfl rfl (by kernel_rfl) rfl (by kernel_rfl) (C2.o _) ⟨HXW.o, HYW.o⟩ ?_
    simp only [ł, ø, đ]
    refine Ğ (f := 82) (args := #[.int .i64 d.fu, .int .i64 s.fu]) 14 31 rfl rfl (by kernel_rfl) rfl (by kernel_rfl) (C3.o _) ⟨HXW.o, HYW.o⟩ ?_
    simp only [ł, ø, đ]
    refine Ğ (f := 82) (args := #[.int .i64 d.st, .int .i64 s.st]) 19 36 rfl rfl (by kernel_rfl) rfl (by kernel_rfl) (C4.o _) ⟨HXW.o, HYW.o⟩ ?_
    simp only [ł, ø, đ];have hHeld := And.intro HXW.o HYW.o
    refine ŧ 20 37 (.agg #[.int .i64 n1, .int .i64 n2, .int .i64 n3, .int .i64 n4, .slice none 0 0]) _ rfl rfl hHeld (fun w' hSw => ?_) ?_
    ·clear hSw
     go_simp
    simp only [ł, ø, đ];clear hHeld;have z := HN1.o.c5;have f := HN1.o.frozen;have hl1 := HN1.o.lt
    refine ŝ 22 (fun K hK => ?_)
    go_simp
    refine hK.o _ _ ⟨?_, ?_⟩ (fun hHeld => ?_)
    ·exact Åv HXW.o hne2
    ·exact Åv HYW.o hne1
    clear hK K z f
    refine wpAnyH_done (by kernel_rfl) ?_ _
    refine hK' _ _ (Met.intro (hJ _ _ ?_))
    (repeat apply Exists.intro)
    refine ⟨?_, rfl⟩;exact ⟨rfl, Ãk HN1.o HB1.o HS1.o⟩
  clear C1 C2 C3 C4 hne1 hne2 hlx hly;obtain ⟨rfl, HNw, HBw, HSw⟩ := hcut;have HXe := ħ (HXd.o.on HBw.o);have HYe := ħ (HYd.o.on HBw.o);have HZe := ħ (HZd.o.on HBw.o);have HBe := ħ (HBd.o.trans (HBw.o.mono HBd.o.size));clear HXd HYd HZd HBd;generalize wc = we at *;obtain ⟨n0', n1', n2', n3', n4'⟩ := HNw.o.c5;have hln := HNw.o.lt
  go_wp2_with fail
  clear n0' n1' n2' n3' n4' hln;refine (Èu ⟨n1, n2, n3, n4, []⟩ (.slice none 0 0) ⟨_, _, _, rfl⟩ we).mono ?_;rintro e w3 ⟨rfl, hb3⟩;have HN3 := ħ (HNw.o.on hb3);have HX3 := ħ (HXe.o.on hb3);have HY3 := ħ (HYe.o.on hb3);have HZ3 := ħ (HZe.o.on hb3);have HB3 := ħ (HBe.o.trans (hb3.mono HBe.o.size));have HBw3 := ħ (HBw.o.trans (hb3.mono HBw.o.size));clear hb3 HNw HXe HYe HZe HBe HBw
  cases hnm : (⟨n1, n2, n3, n4, []⟩ : RS).num with
  | false =>
   have HNm : Hid ((Ÿ s d).num = false) := ħ (by rw [HNu.o]; exact hnm)
   clear hnm
   have HE : Hid (T = (.zero, 30)) := ħ (by rw [HT.o]; unfold Õ; rw [if_neg (by simpa using H1.o), if_pos (.inl HNm.o)])
   obtain ⟨z0, z1, z2, z3, z4⟩ := HZ3.o.c5;have f := HZ3.o.frozen;have hlz := HZ3.o.lt;go_wp2
   refine bodyPost_ret (v := .tuple #[.agg #[.int .i64 0, .int .i64 0, .int .i64 0, .int .i64 0, .slice none 0 0], .int .i64 30]) (by simp [results, Tryz.results54, go_sem, *]) rfl ⟨.slice none 0 0, by rw [HE.o]; rfl, by rw [HE.o]; exact Á.nil _ _, fun k hk => by simp [Value.ownBlock] at hk, ?_⟩
   exact ÂO HB3.o (by omega)
  | true =>
   have HNm : Hid ((Ÿ s d).num = true) := ħ (by rw [HNu.o]; exact hnm)
   clear hnm
   go_upto_region 7 with (fail)
   go_loopw [7] (fun i wr => ∃ k : Nat, k ≤ d.put.length ∧ i = .int .i64 k ∧ Hid (∀ r ∈ d.put.take k, r.ok = true) ∧ Hid (Below w3.heap.size w3 wr)) (fun i _ => d.put.length - (intOf i).toNat)
   case atStart => exact ⟨0, Ą _, rfl, ħ (by simp), ħ (ā _ _)⟩
   case round =>
    obtain ⟨k, hk, rfl, HK, HBk⟩ := hrel;have HX4 := ħ (HX3.o.on HBk.o);have HZ4 := ħ (HZ3.o.on HBk.o);have HB4 := ħ (HB3.o.trans (HBk.o.mono HB3.o.size));obtain ⟨x0, x1, x2, x3, x4, x5⟩ := HX4.o.c6;have hlx := HX4.o.lt
    by_cases hlt : k < d.put.length
    ·obtain ⟨g, off, hA, hg, c0, c1, c2, c3, c4⟩ := (HP.o.below HB4.o).at_ hlt
     subst hA;have HMe := ħ (Ē hlt);have hte : d.put.take (k + 1) = d.put.take k ++ [d.put[k]] := Ő (Ā hlt);generalize d.put[k] = r at c0 c1 c2 c3 c4 HMe hte;have HTe := ħ hte;have HLt := ħ hlt
     have HWr : Hid (wrap64 ((k : Int) + 1) = ((k + 1 : Nat) : Int)) := ħ (by unfold wrap64; omega)
     have hg2 : g < wr.heap.size := by have := HB4.o.size; omega
     clear hte
     go_wp2_with fail
     refine (Ås r wr).mono ?_;clear x0 x1 x2 x3 x4 x5 hlx c0 c1 c2 c3 c4 hg2 hg;rintro e w5 ⟨rfl, hb5⟩;have HBk5 := ħ (HBk.o.trans (hb5.mono HBk.o.size));have HZ5 := ħ (HZ4.o.on hb5);have HB5 := ħ (HB4.o.trans (hb5.mono HB4.o.size));clear hb5
     cases hok : r.ok with
     | false =>
      have HOk := ħ hok;clear hok
      have HE : Hid (T = (.zero, 30)) := ħ (by rw [HT.o]; unfold Õ; rw [if_neg (by simpa using H1.o), if_pos (.inr ⟨r, HMe.o, HOk.o⟩)])
      obtain ⟨z0, z1, z2, z3, z4⟩ := HZ5.o.c5;have f := HZ5.o.frozen;have hlz := HZ5.o.lt;go_wp2
      refine bodyPost_ret (v := .tuple #[.agg #[.int .i64 0, .int .i64 0, .int .i64 0, .int .i64 0, .slice none 0 0], .int .i64 30]) (by simp [results, Tryz.results54, go_sem, *]) rfl ⟨.slice none 0 0, by rw [HE.o]; rfl, by rw [HE.o]; exact Á.nil _ _, fun k hk => by simp [Value.ownBlock] at hk, ?_⟩
      exact ÂO HB5.o (by omega)
     | true =>
      have HOk := ħ hok;clear hok;go_wp2;go_roundw
      case rel => exact ⟨k + 1, HLt.o, by go_num, ħ (by
       rw [HTe.o];intro y hy
       rcases List.mem_append.1 hy with hy | hy
       ·exact HK.o y hy
       ·rw [List.mem_singleton.1 hy]; exact HOk.o), HBk5⟩
      case measure => have := HLt.o; simp [intOf]; omega
    ·obtain rfl : k = d.put.length := by omega
     have HPo : Hid (∀ r ∈ d.put, r.ok = true) := ħ (by have := HK.o; rwa [Ă] at this)
     have HN4 := ħ (HN3.o.on HBk.o);have HY4 := ħ (HY3.o.on HBk.o);have HBw4 := ħ (HBw3.o.trans (HBk.o.mono HBw3.o.size));clear HK HBk HN3 HX3 HY3 HZ3 HB3 HBw3 hlt
     go_wp2_with fail
     clear x0 x1 x2 x3 x4 x5 hlx;refine (ÉW d _ _ wr hm1 hm2 (HP.o.on HB4.o) ((HD.o.below HB4.o).more HB4.o.size)).mono ?_;rintro e w6 ⟨rfl, hb6⟩;have HN6 := ħ (HN4.o.on hb6);have HX6 := ħ (HX4.o.on hb6);have HY6 := ħ (HY4.o.on hb6);have HZ6 := ħ (HZ4.o.on hb6);have HB6 := ħ (HB4.o.trans (hb6.mono HB4.o.size));have HBw6 := ħ (HBw4.o.trans (hb6.mono HBw4.o.size));clear hb6 HN4 HX4 HY4 HZ4 HB4 HBw4
     have HG30 : Hid (¬ ((Ÿ s d).num = false ∨ ∃ r ∈ d.put, r.ok = false)) := ħ (by
      rintro (h | ⟨r, h1, h2⟩)
      ·rw [HNm.o] at h; cases h
      ·rw [HPo.o r h1] at h2; cases h2)
     by_cases hnd : d.ids.Nodup
     ·rw [decide_eq_false (fun h => h hnd)]
      have HNd := ħ hnd;clear hnd
      go_upto_region 14 with (fail)
      go_loopw [8] (fun i wr => ∃ k : Nat, k ≤ d.drop.length ∧ i = .int .i64 k ∧ Hid (∀ z ∈ d.drop.take k, z ∈ s.rs.map Ru.id) ∧ Hid (Below w6.heap.size w6 wr)) (fun i _ => d.drop.length - (intOf i).toNat)
      case atStart => exact ⟨0, Ą _, rfl, ħ (by simp), ħ (ā _ _)⟩
      case round =>
       obtain ⟨k, hk, rfl, HK, HBk⟩ := hrel;have HX7 := ħ (HX6.o.on HBk.o);have HY7 := ħ (HY6.o.on HBk.o);have HZ7 := ħ (HZ6.o.on HBk.o);have HB7 := ħ (HB6.o.trans (HBk.o.mono HB6.o.size));obtain ⟨x0, x1, x2, x3, x4, x5⟩ := HX7.o.c6;have hlx := HX7.o.lt
       by_cases hlt : k < d.drop.length
       ·obtain ⟨g, off, hA, hg, c0⟩ := ((HD.o.below HB7.o)).at_ hlt
        subst hA;have HMe := ħ (Ē hlt)
        have hte : d.drop.take (k + 1) = d.drop.take k ++ [d.drop[k]] := by rw [List.take_add_one, Ā hlt]; rfl
        generalize d.drop[k] = z at c0 HMe hte;have HTe := ħ hte;have HLt := ħ hlt;clear hte
        go_upto_region 16 with (fail)
        clear x0 x1 x2 x3 x4 x5 hlx;have HXd : Hid (Blk wr.drew (w.heap.size + 1) 78 #[.int .i64 d.de, .int .i64 d.cl, .int .i64 d.fu, .int .i64 d.st, .slice PA d.put.length PC, .slice (some ⟨g, off, none⟩) d.drop.length DC]) := HX7;have HYd : Hid (Blk wr.drew w.heap.size 68 #[.int .i64 s.de, .int .i64 s.cl, .int .i64 s.fu, .int .i64 s.st, .slice A s.rs.length cap]) := HY7;have HZd : Hid (Blk wr.drew (w.heap.size + 2) 68 #[.int .i64 0, .int .i64 0, .int .i64 0, .int .i64 0, .slice none 0 0]) := HZ7;have HBd : Hid (Below w.heap.size w wr.drew) := ħ HB7.o.drew;have HBkd : Hid (Below w6.heap.size w6 wr.drew) := ħ HBk.o.drew;have hcd : Hid (wr.drew.cell? ⟨g, off + k, none⟩ = some (.int .i64 z)) := ħ c0
        have HLm : Hid (s.rs.length ≤ 1000000) := ħ (by omega)
        clear HX7 HY7 HZ7 HB7 HBk c0
        go_region_held3 (fun W => (W.cell? ⟨w.heap.size + 1, 0, none⟩ = some (.int .i64 d.de) ∧ W.cell? ⟨w.heap.size + 1, 1, none⟩ = some (.int .i64 d.cl) ∧ W.cell? ⟨w.heap.size + 1, 2, none⟩ = some (.int .i64 d.fu) ∧ W.cell? ⟨w.heap.size + 1, 3, none⟩ = some (.int .i64 d.st) ∧ W.cell? ⟨w.heap.size + 1, 4, none⟩ = some (.slice PA d.put.length PC) ∧ W.cell? ⟨w.heap.size + 1, 5, none⟩ = some (.slice (some ⟨g, off, none⟩) d.drop.length DC)) ∧ (W.cell? ⟨w.heap.size, 0, none⟩ = some (.int .i64 s.de) ∧ W.cell? ⟨w.heap.size, 1, none⟩ = some (.int .i64 s.cl) ∧ W.cell? ⟨w.heap.size, 2, none⟩ = some (.int .i64 s.fu) ∧ W.cell? ⟨w.heap.size, 3, none⟩ = some (.int .i64 s.st) ∧ W.cell? ⟨w.heap.size, 4, none⟩ = some (.slice A s.rs.length cap)) ∧ W.cell? ⟨g, off + k, none⟩ = some (.int .i64 z))
         (exact ⟨HXd.o.c6, HYd.o.c5, hcd.o⟩)
         (first
           | (go_at_call 84; refine (ËL s.rs z (.slice A s.rs.length cap) wr.drew HLm.o (HS.o.on HBd.o)).mono ?_; rintro e w9 ⟨fz, rfl, hfz, rfl⟩; have HFz := ħ hfz; clear hfz))
        generalize wr.drew = wd at *
        rcases HFz.o with ⟨rfl, hni⟩ | ⟨hge, hin⟩
        ·have HNi := ħ hni
         clear hni
         have HE : Hid (T = (.zero, 32)) := ħ (by rw [HT.o]; unfold Õ; rw [if_neg (by simpa using H1.o), if_neg HG30.o, if_neg (fun h => h HNd.o), if_pos ⟨z, HMe.o, HNi.o⟩])
         obtain ⟨z0, z1, z2, z3, z4⟩ := HZd.o.c5;have f := HZd.o.frozen;have hlz := HZd.o.lt;go_wp2
         refine bodyPost_ret (v := .tuple #[.agg #[.int .i64 0, .int .i64 0, .int .i64 0, .int .i64 0, .slice none 0 0], .int .i64 32]) (by simp [results, Tryz.results54, go_sem, *]) rfl ⟨.slice none 0 0, by rw [HE.o]; rfl, by rw [HE.o]; exact Á.nil _ _, fun k hk => by simp [Value.ownBlock] at hk, ?_⟩
         exact ÂO HBd.o (by omega)
        ·have hlt0 : ¬ fz < 0 := by omega
         have HIn := ħ hin;clear hin hge;go_wp2;go_roundw
         case rel => exact ⟨k + 1, HLt.o, by go_num, ħ (by
          rw [HTe.o];intro y hy
          rcases List.mem_append.1 hy with hy | hy
          ·exact HK.o y hy
          ·rw [List.mem_singleton.1 hy]; exact HIn.o), HBkd⟩
         case measure => have := HLt.o; simp [intOf]; omega
       ·rename World => wb
        obtain rfl : k = d.drop.length := by omega
        have HDi : Hid (∀ z ∈ d.drop, z ∈ s.rs.map Ru.id) := ħ (by have := HK.o; rwa [Ă] at this)
        have HN7 := ħ (HN6.o.on HBk.o);have HBw7 := ħ (HBw6.o.trans (HBk.o.mono HBw6.o.size));clear HK HBk HN6 HX6 HY6 HZ6 HB6 HBw6 hlt hk;have hw2r := HBw7.o.size;obtain ⟨y0, y1, y2, y3, y4⟩ := HY7.o.c5;have hly := HY7.o.lt
        go_upto_region 19 with (fail)
        clear x0 x1 x2 x3 x4 x5 hlx y0 y1 y2 y3 y4 hly
        go_loopw [9, 10, 11] (fun i _ _ wl => ∃ (m : Nat) (V : Value), m ≤ s.rs.length ∧ i = .int .i64 m ∧ Hid (Blk wl w2.heap.size 68 #[.int .i64 n1, .int .i64 n2, .int .i64 n3, .int .i64 n4, V]) ∧ Hid (Ú wl (w2.heap.size + 1) 109 V (drops (s.rs.take m) d.drop)) ∧ Hid (Below w2.heap.size wb wl)) (fun i _ _ _ => s.rs.length - (intOf i).toNat)
        case atStart => exact ⟨0, _, Ą _, rfl, HN7, ħ (Ú.nil _ _ _), ħ (ā _ _)⟩
        case round =>
         clear HN7
         rename World => wl
         obtain ⟨m, V, hm, rfl, HNl, HVl, HBl⟩ := hrel
         have HXl := ħ (HX7.o.below HBl.o (by omega))
         have HYl := ħ (HY7.o.below HBl.o (by omega))
         have HZl := ħ (HZ7.o.below HBl.o (by omega))
         have HBa := ħ (HB7.o.trans (HBl.o.mono (by omega : w.heap.size ≤ w2.heap.size)))
         have hswl := HBa.o.size;have hwl2 := ē hw2r HBl.o.size;obtain ⟨y0, y1, y2, y3, y4⟩ := HYl.o.c5;have hly := HYl.o.lt
         by_cases hlm : m < s.rs.length
         ·obtain ⟨g, off, hA, hg, hra⟩ := HS.o.at_ hlm
          subst hA;have hts : s.rs.take (m + 1) = s.rs.take m ++ [s.rs[m]] := Ő (Ā hlm);have hdl := Æq (s.rs.take m) d.drop;have hlm2 : m < s.rs.length := hlm;generalize s.rs[m] = x at hra hts;have HTs := ħ hts;have HRa := ħ hra;have HLm := ħ hlm
          have HDl : Hid ((drops (s.rs.take m) d.drop).length + 1 ≤ 1000000) := ħ (by rw [List.length_take] at hdl; omega)
          have hgw := hg;clear hts hra hdl
          go_upto_region 23 with (fail)
          clear y0 y1 y2 y3 y4 hly
          go_loopw [10, 11] (fun gv i wk => ∃ j : Nat, j ≤ d.drop.length ∧ i = .int .i64 j ∧ gv = .bool (decide (x.id ∈ d.drop.take j)) ∧ Hid (Below wl.heap.size wl wk)) (fun _ i _ => d.drop.length - (intOf i).toNat)
          case atStart => exact ⟨0, Ą _, rfl, by simp, ħ (ā _ _)⟩
          case round =>
           rename World => wk
           obtain ⟨j, hj, rfl, hgv, HBj⟩ := hrel;have HXj := ħ (HXl.o.on HBj.o);have HYj := ħ (HYl.o.on HBj.o);have HBaj := ħ (HBa.o.trans (HBj.o.mono HBa.o.size));obtain ⟨x0, x1, x2, x3, x4, x5⟩ := HXj.o.c6;have hlx := HXj.o.lt;obtain ⟨y0, y1, y2, y3, y4⟩ := HYj.o.c5;have hly := HYj.o.lt;obtain ⟨bv, hbv⟩ : ∃ bv, bv = decide (x.id ∈ d.drop.take j) := ⟨_, rfl⟩;rw [← hbv] at hgv;subst hgv;have HBv := ħ hbv;clear hbv
           by_cases hjl : j < d.drop.length
           ·obtain ⟨gd, offd, hDA, hgd, cd⟩ := (HD.o.below HBaj.o).at_ hjl
            subst hDA
            have hgd2 : gd < wk.heap.size := by have := HBaj.o.size; omega
            have hte : d.drop.take (j + 1) = d.drop.take j ++ [d.drop[j]] := by rw [List.take_add_one, Ā hjl]; rfl
            generalize d.drop[j] = z at cd hte;have HTe := ħ hte;have HJl := ħ hjl
            have hg2 : g < wk.heap.size := by have := HBaj.o.size; omega
            obtain ⟨c0, c1, c2, c3, c4⟩ := HRa.o.on' hgw HBaj.o;clear hte;have hjl2 : j < d.drop.length := hjl
            cases bv with
            | true =>
             have HNx : Hid (Value.bool true = .bool (decide (x.id ∈ d.drop.take (j + 1)))) := ħ (by
              have := of_decide_eq_true HBv.o.symm
              rw [HTe.o]; simp [this])
             go_upto_region 25 with (fail)
             go_region
             have HBd : Hid (Below wl.heap.size wl wk.drew) := ħ HBj.o.drew;generalize wk.drew = wd at *;clear c0 c1 c2 c3 c4 x0 x1 x2 x3 x4 x5 hlx y0 y1 y2 y3 y4 hly cd;go_wp2;go_roundw
             case rel => exact ⟨j + 1, HJl.o, by go_num, HNx.o, HBd⟩
             case measure => have := HJl.o; simp [intOf]; omega
            | false =>
             have hno : x.id ∉ d.drop.take j := of_decide_eq_false HBv.o.symm
             by_cases he : z = x.id
             ·have HNx : Hid (Value.bool true = .bool (decide (x.id ∈ d.drop.take (j + 1)))) := ħ (by
               rw [HTe.o]; simp [he])
              have heb : (z == x.id) = true := by simp [he]
              clear hno
              go_upto_region 25 with (fail)
              go_region
              have HBd : Hid (Below wl.heap.size wl wk.drew) := ħ HBj.o.drew;generalize wk.drew = wd at *;clear c0 c1 c2 c3 c4 x0 x1 x2 x3 x4 x5 hlx y0 y1 y2 y3 y4 hly cd;go_wp2;go_roundw
              case rel => exact ⟨j + 1, HJl.o, by go_num, HNx.o, HBd⟩
              case measure => have := HJl.o; simp [intOf]; omega
             ·have HNx : Hid (Value.bool false = .bool (decide (x.id ∈ d.drop.take (j + 1)))) := ħ (by
               rw [HTe.o]; simp [hno, Ne.symm he])
              have heb : (z == x.id) = false := by simp [he]
              clear hno
              go_upto_region 25 with (fail)
              go_region
              have HBd : Hid (Below wl.heap.size wl wk.drew) := ħ HBj.o.drew;generalize wk.drew = wd at *;clear c0 c1 c2 c3 c4 x0 x1 x2 x3 x4 x5 hlx y0 y1 y2 y3 y4 hly cd;go_wp2;go_roundw
              case rel => exact ⟨j + 1, HJl.o, by go_num, HNx.o, HBd⟩
              case measure => have := HJl.o; simp [intOf]; omega
           ·obtain rfl : j = d.drop.length := by omega
            have HNk := ħ (HNl.o.on HBj.o);have HVk := ħ (HVl.o.on HBj.o)
            have HBk := ħ (HBl.o.trans (HBj.o.mono (by omega : w2.heap.size ≤ wl.heap.size)))
            rw [Ă] at HBv
            cases bv with
            | true =>
             have HV2 : Hid (Ú wk (w2.heap.size + 1) 109 V (drops (s.rs.take (m + 1)) d.drop)) := ħ (by
              rw [HTs.o, ÂP, if_pos (of_decide_eq_true HBv.o.symm)]; exact HVk.o)
             clear HXl HYl HZl HVk HVl HNl HBl;go_wp2;clear x0 x1 x2 x3 x4 x5 hlx y0 y1 y2 y3 y4 hly;go_roundw
             case rel => exact ⟨m + 1, V, HLm.o, by go_num, HNk, HV2, HBk⟩
             case measure => have := HLm.o; simp [intOf]; omega
            | false =>
             have hni : x.id ∉ d.drop := of_decide_eq_false HBv.o.symm;have HNi := ħ hni;obtain ⟨VA, VC, hVf⟩ := HVk.o.form;subst hVf;have hsz2 : w2.heap.size < wk.heap.size := HNk.o.lt;have HRk := ħ (HRa.o.on' hgw HBaj.o);clear hni HXl HYl HZl HVl HNl HBl
             go_upto_region 27 with (fail)
             clear x0 x1 x2 x3 x4 x5 hlx y0 y1 y2 y3 y4 hly;have HNd : Hid (Blk wk.drew w2.heap.size 68 #[.int .i64 n1, .int .i64 n2, .int .i64 n3, .int .i64 n4, .slice VA (drops (s.rs.take m) d.drop).length VC]) := HNk;have HYd : Hid (Blk wk.drew w.heap.size 68 #[.int .i64 s.de, .int .i64 s.cl, .int .i64 s.fu, .int .i64 s.st, .slice (some ⟨g, off, none⟩) s.rs.length cap]) := HYj;have HRd : Hid (Ág wk.drew g (off + m * 5) x) := HRk;have HVd : Hid (Ú wk.drew (w2.heap.size + 1) 109 (.slice VA (drops (s.rs.take m) d.drop).length VC) (drops (s.rs.take m) d.drop)) := HVk;have HBd : Hid (Below w2.heap.size wb wk.drew) := ħ HBk.o.drew
             refine wp_region_held_drew (S := fun W => Blk W w.heap.size 68 #[.int .i64 s.de, .int .i64 s.cl, .int .i64 s.fu, .int .i64 s.st, .slice (some ⟨g, off, none⟩) s.rs.length cap] ∧ Ág W g (off + m * 5) x) (by kernel_rfl) ⟨HYd.o, HRd.o⟩ (fun hHeld => ?_)
             clear HNk HYj HRk HVk HBk;generalize wk.drew = wd at *
             refine ŧ 0 108 (.pointer (some ⟨w2.heap.size, 4, none⟩)) _ rfl rfl hHeld (fun w' hSw => ?_) ?_
             ·clear hSw
              go_simp
             try simp only [ł, ø, đ]
             refine ŧ 2 110 (.pointer (some ⟨w.heap.size, 4, none⟩)) _ rfl rfl hHeld (fun w' hSw => ?_) ?_
             ·clear hSw
              go_simp
             try simp only [ł, ø, đ]
             refine ŧ 3 111 (.slice (some ⟨g, off, none⟩) s.rs.length cap) _ rfl rfl hHeld (fun w' hSw => ?_) ?_
             ·have q := hSw.1.cell 4
              clear hSw;go_simp
             try simp only [ł, ø, đ]
             refine ŧ 4 112 (.int .i64 m) _ rfl rfl hHeld (fun w' hSw => ?_) ?_
             ·clear hSw
              go_simp
             try simp only [ł, ø, đ]
             refine ŧ 5 113 (.pointer (some ⟨g, off + m * 5, none⟩)) _ rfl rfl hHeld (fun w' hSw => ?_) ?_
             ·clear hSw
              go_simp
             try simp only [ł, ø, đ]
             refine ŧ 6 114 (.agg #[.int .i64 x.id, .int .i64 x.pr, .int .i64 x.ac, .int .i64 x.sc, .string x.pat]) _ rfl rfl hHeld (fun w' hSw => ?_) ?_
             ·obtain ⟨q0, q1, q2, q3, q4⟩ := hSw.2
              clear hSw;go_simp
             try simp only [ł, ø, đ]
             have hwd2 : w2.heap.size ≤ wd.heap.size := by have := HBd.o.size; omega
             have hBx : Below w2.heap.size wd (wd.alloc (.cells #[.int .i64 x.id, .int .i64 x.pr, .int .i64 x.ac, .int .i64 x.sc, .string x.pat] 109)) := (ā _ _).alloc hwd2 _;have HVx := ħ (HVd.o.alloc (.cells #[.int .i64 x.id, .int .i64 x.pr, .int .i64 x.ac, .int .i64 x.sc, .string x.pat] 109));have HEx : Hid (Blk (wd.alloc (.cells #[.int .i64 x.id, .int .i64 x.pr, .int .i64 x.ac, .int .i64 x.sc, .string x.pat] 109)) wd.heap.size 109 #[.int .i64 x.id, .int .i64 x.pr, .int .i64 x.ac, .int .i64 x.sc, .string x.pat]) := ħ (Blk.at_new _ _ rfl _ _)
             have HYx := ħ (HYd.o.below hBx (by omega))
             have HRx := ħ (HRd.o.below (show g < w2.heap.size by omega) hBx)
             have HSx : Hid ((wd.alloc (.cells #[.int .i64 x.id, .int .i64 x.pr, .int .i64 x.ac, .int .i64 x.sc, .string x.pat] 109)).heap.size = wd.heap.size + 1) := ħ (by simp)
             clear hBx;have z4 := HNd.o.cell 4;have zl := HNd.o.lt
             refine wpAnyH_ready (rs := [1, 7]) (by kernel_rfl) (by simp) ?_
             refine AllReadyH.cons rfl (fun K hK => ?_) (AllReadyH.cons rfl (fun K hK => ?_) AllReadyH.nil)
             ·go_simp
              refine hK.o _ _ hHeld (fun _ => ?_)
              clear hK K
              try simp only [ł, ø, đ]
              refine ŝ 7 (fun K hK => ?_)
              go_simp
              refine hK.o _ _ ⟨HYx.o, HRx.o⟩ (fun _ => ?_)
              clear hK K z4 zl hHeld
              try simp only [ł, ø, đ]
              refine ŝ 8 (fun K hK => ?_)
              obtain ⟨i0, hi, hz0, hz1, hz2⟩ := Ã Ès
              refine Ár (.agg #[.int .i64 0, .int .i64 0, .int .i64 0, .int .i64 0, .string ⟨#[]⟩]) Tryz.underlying66 rfl (by decide) _ rfl (.tmp 109) (.tmp 115) rfl i0 hi hz0 hz1 hz2 (w2.heap.size + 1) (.slice VA (drops (s.rs.take m) d.drop).length VC) (drops (s.rs.take m) d.drop) rfl HVx.o wd.heap.size 1 x rfl HEx.o HDl.o (by have := HSx.o; omega) ?_
              intro v' w' hown hgr
              have hB' : Below w2.heap.size wd w' := (((ā _ _).alloc hwd2 _).grown hgr (by simp; omega) (fun j hj => by have := (World.ownsRow.lt HVd.o j hj).1; omega))
              have hY' := HYd.o.below hB' (by omega)
              have hR' := HRd.o.below (show g < w2.heap.size by omega) hB'
              have hN' : Blk w' w2.heap.size 68 #[.int .i64 n1, .int .i64 n2, .int .i64 n3, .int .i64 n4, .slice VA (drops (s.rs.take m) d.drop).length VC] := (HNd.o.alloc _).grown hgr (fun e => by have := (World.ownsRow.lt HVd.o _ e.symm).1; omega)
              obtain ⟨LN, hLN⟩ : ∃ LN, LN = (drops (s.rs.take m) d.drop ++ [x]).length := ⟨_, rfl⟩;obtain ⟨VB, VD, hVf⟩ := Ú.form hown;rw [← hLN] at hVf;clear hLN;subst hVf
              refine hK.o _ _ ⟨hY', hR'⟩ (fun _ => ?_)
              clear hK K
              try simp only [ł, ø, đ]
              have hHeld := And.intro hY' hR'
              refine ŧ 9 117 (.pointer (some ⟨w2.heap.size, 4, none⟩)) _ rfl rfl hHeld (fun w' hSw => ?_) ?_
              ·clear hSw
               go_simp
              try simp only [ł, ø, đ]
              have z4' := hN'.cell 4;have f4' := hN'.frozen 4;have l4' := hN'.lt;have HN9 := ħ (hN'.set_ 4 (.slice VB LN VD))
              have HV9 : Hid (Ú (w'.setCell ⟨w2.heap.size, 4, none⟩ (.slice VB LN VD)) (w2.heap.size + 1) 109 (.slice VB LN VD) (drops (s.rs.take (m + 1)) d.drop)) := ħ (by
               rw [HTs.o, ÂP, if_neg HNi.o]
               exact hown.farset (fun e => by have := (World.ownsRow.lt hown _ e).1; simp only at this; omega) _)
              have HB9 := ħ ((HBd.o.trans (hB'.mono (ŋ _))).setCell (p := ⟨w2.heap.size, 4, none⟩) (ŋ _) (.slice VB LN VD))
              have hy9 : Blk (w'.setCell ⟨w2.heap.size, 4, none⟩ (.slice VB LN VD)) w.heap.size 68 #[.int .i64 s.de, .int .i64 s.cl, .int .i64 s.fu, .int .i64 s.st, .slice (some ⟨g, off, none⟩) s.rs.length cap] := hY'.far (p := ⟨w2.heap.size, 4, none⟩) (by simp only; omega) _
              have hr9 : Ág (w'.setCell ⟨w2.heap.size, 4, none⟩ (.slice VB LN VD)) g (off + m * 5) x := hR'.below (show g < w2.heap.size by omega) ((ā _ _).setCell (p := ⟨w2.heap.size, 4, none⟩) (ŋ _) _)
              have HY9 := ħ hy9;have HR9 := ħ hr9;clear hB' hY' hR' hN' hown hgr hHeld hy9 hr9
              refine ŝ 10 (fun K hK => ?_)
              go_simp
              refine hK.o _ _ ⟨HY9.o, HR9.o⟩ (fun _ => ?_)
              clear hK K z4' f4' l4'
              refine wpAnyH_done (by kernel_rfl) ?_ _
              try simp only [ł, ø, đ]
              generalize w'.setCell ⟨w2.heap.size, 4, none⟩ (.slice VB LN VD) = w9 at *;go_wp2;go_roundw
              case rel => exact ⟨m + 1, _, HLm.o, by go_num, HN9, HV9, HB9⟩
              case measure => have := HLm.o; simp [intOf]; omega
             ·go_simp
              refine hK.o _ _ ⟨HYx.o, HRx.o⟩ (fun _ => ?_)
              clear hK K z4 zl hHeld;have z4 : (wd.alloc (.cells #[.int .i64 x.id, .int .i64 x.pr, .int .i64 x.ac, .int .i64 x.sc, .string x.pat] 109)).cell? ⟨w2.heap.size, 4, none⟩ = some (.slice VA (drops (s.rs.take m) d.drop).length VC) := (HNd.o.alloc _).cell 4;have zl : w2.heap.size < (wd.alloc (.cells #[.int .i64 x.id, .int .i64 x.pr, .int .i64 x.ac, .int .i64 x.sc, .string x.pat] 109)).heap.size := (HNd.o.alloc _).lt
              try simp only [ł, ø, đ]
              refine ŝ 1 (fun K hK => ?_)
              go_simp
              refine hK.o _ _ ⟨HYx.o, HRx.o⟩ (fun _ => ?_)
              clear hK K z4 zl
              try simp only [ł, ø, đ]
              refine ŝ 8 (fun K hK => ?_)
              obtain ⟨i0, hi, hz0, hz1, hz2⟩ := Ã Ès
              refine Ár (.agg #[.int .i64 0, .int .i64 0, .int .i64 0, .int .i64 0, .string ⟨#[]⟩]) Tryz.underlying66 rfl (by decide) _ rfl (.tmp 109) (.tmp 115) rfl i0 hi hz0 hz1 hz2 (w2.heap.size + 1) (.slice VA (drops (s.rs.take m) d.drop).length VC) (drops (s.rs.take m) d.drop) rfl HVx.o wd.heap.size 1 x rfl HEx.o HDl.o (by have := HSx.o; omega) ?_
              intro v' w' hown hgr
              have hB' : Below w2.heap.size wd w' := (((ā _ _).alloc hwd2 _).grown hgr (by simp; omega) (fun j hj => by have := (World.ownsRow.lt HVd.o j hj).1; omega))
              have hY' := HYd.o.below hB' (by omega)
              have hR' := HRd.o.below (show g < w2.heap.size by omega) hB'
              have hN' : Blk w' w2.heap.size 68 #[.int .i64 n1, .int .i64 n2, .int .i64 n3, .int .i64 n4, .slice VA (drops (s.rs.take m) d.drop).length VC] := (HNd.o.alloc _).grown hgr (fun e => by have := (World.ownsRow.lt HVd.o _ e.symm).1; omega)
              obtain ⟨LN, hLN⟩ : ∃ LN, LN = (drops (s.rs.take m) d.drop ++ [x]).length := ⟨_, rfl⟩;obtain ⟨VB, VD, hVf⟩ := Ú.form hown;rw [← hLN] at hVf;clear hLN;subst hVf
              refine hK.o _ _ ⟨hY', hR'⟩ (fun _ => ?_)
              clear hK K
              try simp only [ł, ø, đ]
              have hHeld := And.intro hY' hR'
              refine ŧ 9 117 (.pointer (some ⟨w2.heap.size, 4, none⟩)) _ rfl rfl hHeld (fun w' hSw => ?_) ?_
              ·clear hSw
               go_simp
              try simp only [ł, ø, đ]
              have z4' := hN'.cell 4;have f4' := hN'.frozen 4;have l4' := hN'.lt;have HN9 := ħ (hN'.set_ 4 (.slice VB LN VD))
              have HV9 : Hid (Ú (w'.setCell ⟨w2.heap.size, 4, none⟩ (.slice VB LN VD)) (w2.heap.size + 1) 109 (.slice VB LN VD) (drops (s.rs.take (m + 1)) d.drop)) := ħ (by
               rw [HTs.o, ÂP, if_neg HNi.o]
               exact hown.farset (fun e => by have := (World.ownsRow.lt hown _ e).1; simp only at this; omega) _)
              have HB9 := ħ ((HBd.o.trans (hB'.mono (ŋ _))).setCell (p := ⟨w2.heap.size, 4, none⟩) (ŋ _) (.slice VB LN VD))
              have hy9 : Blk (w'.setCell ⟨w2.heap.size, 4, none⟩ (.slice VB LN VD)) w.heap.size 68 #[.int .i64 s.de, .int .i64 s.cl, .int .i64 s.fu, .int .i64 s.st, .slice (some ⟨g, off, none⟩) s.rs.length cap] := hY'.far (p := ⟨w2.heap.size, 4, none⟩) (by simp only; omega) _
              have hr9 : Ág (w'.setCell ⟨w2.heap.size, 4, none⟩ (.slice VB LN VD)) g (off + m * 5) x := hR'.below (show g < w2.heap.size by omega) ((ā _ _).setCell (p := ⟨w2.heap.size, 4, none⟩) (ŋ _) _)
              have HY9 := ħ hy9;have HR9 := ħ hr9;clear hB' hY' hR' hN' hown hgr hHeld hy9 hr9
              refine ŝ 10 (fun K hK => ?_)
              go_simp
              refine hK.o _ _ ⟨HY9.o, HR9.o⟩ (fun _ => ?_)
              clear hK K z4' f4' l4'
              refine wpAnyH_done (by kernel_rfl) ?_ _
              try simp only [ł, ø, đ]
              generalize w'.setCell ⟨w2.heap.size, 4, none⟩ (.slice VB LN VD) = w9 at *;go_wp2;go_roundw
              case rel => exact ⟨m + 1, _, HLm.o, by go_num, HN9, HV9, HB9⟩
              case measure => have := HLm.o; simp [intOf]; omega
         ·obtain rfl : m = s.rs.length := by omega
          have HV8 : Hid (Ú wl (w2.heap.size + 1) 109 V (drops s.rs d.drop)) := ħ (by have := HVl.o; rwa [Ă] at this)
          obtain ⟨x0, x1, x2, x3, x4, x5⟩ := HXl.o.c6;have hlx := HXl.o.lt;clear HVl
          go_upto_region 29 with (fail)
          clear x0 x1 x2 x3 x4 x5 hlx y0 y1 y2 y3 y4 hly
          go_loopw [12] (fun i wp => ∃ (q : Nat) (V : Value), q ≤ d.put.length ∧ i = .int .i64 q ∧ Hid (Blk wp w2.heap.size 68 #[.int .i64 n1, .int .i64 n2, .int .i64 n3, .int .i64 n4, V]) ∧ Hid (Ú wp (w2.heap.size + 1) 109 V (puts (drops s.rs d.drop) (d.put.take q))) ∧ Hid (Below w2.heap.size wb wp)) (fun i _ => d.put.length - (intOf i).toNat)
          case atStart => exact ⟨0, V, Ą _, rfl, HNl, HV8, HBl⟩
          case round =>
           clear HNl HV8 HXl HYl HZl HBa hswl hwl2 HBl
           rename World => wp
           obtain ⟨q, V, hq, rfl, HNp, HVp, HBp⟩ := hrel
           have HXp := ħ (HX7.o.below HBp.o (by omega))
           have HZp := ħ (HZ7.o.below HBp.o (by omega))
           have HBa := ħ (HB7.o.trans (HBp.o.mono (by omega : w.heap.size ≤ w2.heap.size)))
           have hswp := HBa.o.size;have hwp2 := ē hw2r HBp.o.size;obtain ⟨x0, x1, x2, x3, x4, x5⟩ := HXp.o.c6;have hlx := HXp.o.lt;obtain ⟨VA, VC, hVf⟩ := HVp.o.form;subst hVf
           by_cases hlq : q < d.put.length
           ·obtain ⟨g, off, hA, hg, hra⟩ := HP.o.at_ hlq
            subst hA;have hts : d.put.take (q + 1) = d.put.take q ++ [d.put[q]] := Ő (Ā hlq);have hlq2 : q < d.put.length := hlq;generalize d.put[q] = x at hra hts;have HTs := ħ hts;have HRa := ħ (hra.on' hg HBa.o);have HLq := ħ hlq;have hgw := hg;have HRi : Hid (ť (puts (drops s.rs d.drop) (d.put.take q))) := ħ ((H1.o.2.2.2.drops _).puts _)
            have HLe : Hid ((puts (drops s.rs d.drop) (d.put.take q)).length ≤ 10000) := ħ (by
             have h1 := Ìc (d.put.take q) (drops s.rs d.drop);have h2 := Æq s.rs d.drop;rw [List.length_take] at h1
             omega)
            obtain ⟨L, hL⟩ : ∃ L, L = puts (drops s.rs d.drop) (d.put.take q) := ⟨_, rfl⟩;rw [← hL] at HRi HLe HVp HNp;have HLl := ħ hL;clear hts hra hL
            go_upto_region 31 with (fail)
            clear x0 x1 x2 x3 x4 x5 hlx;have HNd : Hid (Blk wp.drew w2.heap.size 68 #[.int .i64 n1, .int .i64 n2, .int .i64 n3, .int .i64 n4, .slice VA L.length VC]) := HNp;have HXd : Hid (Blk wp.drew (w.heap.size + 1) 78 #[.int .i64 d.de, .int .i64 d.cl, .int .i64 d.fu, .int .i64 d.st, .slice (some ⟨g, off, none⟩) d.put.length PC, .slice DA d.drop.length DC]) := HXp;have HRd : Hid (Ág wp.drew g (off + q * 5) x) := HRa;have HVd : Hid (Ú wp.drew (w2.heap.size + 1) 109 (.slice VA L.length VC) L) := HVp;have HBd : Hid (Below w2.heap.size wb wp.drew) := ħ HBp.o.drew;have hpd : w2.heap.size ≤ wp.drew.heap.size := hwp2
            refine wp_region_held_drew (S := fun W => Blk W (w.heap.size + 1) 78 #[.int .i64 d.de, .int .i64 d.cl, .int .i64 d.fu, .int .i64 d.st, .slice (some ⟨g, off, none⟩) d.put.length PC, .slice DA d.drop.length DC] ∧ Ág W g (off + q * 5) x) (by kernel_rfl) ⟨HXd.o, HRd.o⟩ (fun hHeld => ?_)
            clear HNp HXp HRa HVp HBp hwp2 HBa hswp HZp;generalize wp.drew = wd at *
            refine ŧ 0 125 (.pointer (some ⟨w2.heap.size, 4, none⟩)) _ rfl rfl hHeld (fun w' hSw => ?_) ?_
            ·clear hSw
             go_simp
            try simp only [ł, ø, đ]
            refine ŧ 2 127 (.pointer (some ⟨w.heap.size + 1, 4, none⟩)) _ rfl rfl hHeld (fun w' hSw => ?_) ?_
            ·clear hSw
             go_simp
            try simp only [ł, ø, đ]
            refine ŧ 3 128 (.slice (some ⟨g, off, none⟩) d.put.length PC) _ rfl rfl hHeld (fun w' hSw => ?_) ?_
            ·have q4 := hSw.1.cell 4
             clear hSw;go_simp
            try simp only [ł, ø, đ]
            refine ŧ 4 129 (.int .i64 q) _ rfl rfl hHeld (fun w' hSw => ?_) ?_
            ·clear hSw
             go_simp
            try simp only [ł, ø, đ]
            refine ŧ 5 130 (.pointer (some ⟨g, off + q * 5, none⟩)) _ rfl rfl hHeld (fun w' hSw => ?_) ?_
            ·clear hSw
             go_simp
            try simp only [ł, ø, đ]
            refine ŧ 6 131 (.agg #[.int .i64 x.id, .int .i64 x.pr, .int .i64 x.ac, .int .i64 x.sc, .string x.pat]) _ rfl rfl hHeld (fun w' hSw => ?_) ?_
            ·obtain ⟨q0, q1, q2, q3, q4⟩ := hSw.2
             clear hSw;go_simp
            try simp only [ł, ø, đ]
            have z4 := HNd.o.cell 4;have zl := HNd.o.lt
            refine ŝ 1 (fun K hK => ?_)
            go_simp
            refine hK.o _ _ hHeld (fun _ => ?_)
            clear hK K z4 zl
            try simp only [ł, ø, đ]
            have hgd : g < wd.heap.size := by have := HBd.o.size; omega
            have hwd1 : w2.heap.size < wd.heap.size := HNd.o.lt
            refine Çh 7 132 (f := 85) (args := #[.slice VA L.length VC, .agg #[.int .i64 x.id, .int .i64 x.pr, .int .i64 x.ac, .int .i64 x.sc, .string x.pat]]) rfl rfl (by kernel_rfl) rfl (by kernel_rfl) (Íh L x (.slice VA L.length VC) wd HLe.o HRi.o HVd.o.set) ?_
            rintro e w' ⟨V', rfl, hV', hb'⟩;have hX' := HXd.o.on hb';have hR' := HRd.o.below hgd hb';obtain ⟨LN, hLN⟩ : ∃ LN, LN = (ins x L).length := ⟨_, rfl⟩;obtain ⟨VB, VD, hVf⟩ := Ú.form hV';rw [← hLN] at hVf;clear hLN;subst hVf;refine ⟨_, rfl, ⟨hX', hR'⟩, ?_⟩
            try simp only [ł, ø, đ]
            clear hHeld;have hHeld := And.intro hX' hR'
            refine ŧ 8 133 (.pointer (some ⟨w2.heap.size, 4, none⟩)) _ rfl rfl hHeld (fun w' hSw => ?_) ?_
            ·clear hSw
             go_simp
            try simp only [ł, ø, đ]
            have hN' := HNd.o.on hb';have z4' := hN'.cell 4;have f4' := hN'.frozen 4;have l4' := hN'.lt;have HN9 := ħ (hN'.set_ 4 (.slice VB LN VD))
            have HV9 : Hid (Ú (w'.setCell ⟨w2.heap.size, 4, none⟩ (.slice VB LN VD)) (w2.heap.size + 1) 109 (.slice VB LN VD) (puts (drops s.rs d.drop) (d.put.take (q + 1)))) := ħ (by
             rw [HTs.o, ÅJ, ← HLl.o]
             exact (hV'.lower (by omega)).farset (fun e => by have := (World.ownsRow.lt hV' _ e).1; simp only at this; omega) _)
            have HB9 := ħ ((HBd.o.trans (hb'.mono (Nat.le_of_lt hwd1))).setCell (p := ⟨w2.heap.size, 4, none⟩) (ŋ _) (.slice VB LN VD))
            have hx9 : Blk (w'.setCell ⟨w2.heap.size, 4, none⟩ (.slice VB LN VD)) (w.heap.size + 1) 78 #[.int .i64 d.de, .int .i64 d.cl, .int .i64 d.fu, .int .i64 d.st, .slice (some ⟨g, off, none⟩) d.put.length PC, .slice DA d.drop.length DC] := hX'.far (p := ⟨w2.heap.size, 4, none⟩) (by simp only; omega) _
            have hr9 : Ág (w'.setCell ⟨w2.heap.size, 4, none⟩ (.slice VB LN VD)) g (off + q * 5) x := hR'.below (show g < w2.heap.size by omega) ((ā _ _).setCell (p := ⟨w2.heap.size, 4, none⟩) (ŋ _) _)
            have HX9 := ħ hx9;have HR9 := ħ hr9;clear hX' hR' hN' hV' hb' hHeld hx9 hr9
            refine ŝ 9 (fun K hK => ?_)
            go_simp
            refine hK.o _ _ ⟨HX9.o, HR9.o⟩ (fun _ => ?_)
            clear hK K z4' f4' l4'
            refine wpAnyH_done (by kernel_rfl) ?_ _
            try simp only [ł, ø, đ]
            generalize w'.setCell ⟨w2.heap.size, 4, none⟩ (.slice VB LN VD) = w9 at *;go_wp2;go_roundw
            case rel => exact ⟨q + 1, _, HLq.o, by go_num, HN9, HV9, HB9⟩
            case measure => have := HLq.o; simp [intOf]; omega
           ·obtain rfl : q = d.put.length := by omega
            have HVq : Hid (Ú wp (w2.heap.size + 1) 109 (.slice VA (after s d).length VC) (after s d)) := ħ (by
             have := HVp.o;rw [Ă] at this
             exact this)
            rw [Ă] at HNp;have HNq : Hid (Blk wp w2.heap.size 68 #[.int .i64 n1, .int .i64 n2, .int .i64 n3, .int .i64 n4, .slice VA (after s d).length VC]) := HNp;obtain ⟨z0, z1, z2, z3, z4⟩ := HZp.o.c5;have f := HZp.o.frozen;have hlz := HZp.o.lt;obtain ⟨o0, o1, o2, o3, o4⟩ := HNq.o.c5;have hlo := HNq.o.lt
            by_cases h16 : 16 < (after s d).length
            ·have HE : Hid (T = (.zero, 33)) := ħ (by rw [HT.o]; exact ÃZ H1.o HG30.o HNd.o HDi.o h16)
             have h16' : ((after s d).length : Int) > 16 := by omega
             go_wp2
             refine bodyPost_ret (v := .tuple #[.agg #[.int .i64 0, .int .i64 0, .int .i64 0, .int .i64 0, .slice none 0 0], .int .i64 33]) (by simp [results, Tryz.results54, go_sem, *]) rfl ⟨.slice none 0 0, by rw [HE.o]; rfl, by rw [HE.o]; exact Á.nil _ _, fun k hk => by simp [Value.ownBlock] at hk, ?_⟩
             exact ÂO HBa.o (by omega)
            ·have HE : Hid (T = ({ Ÿ s d with rs := after s d }, 0)) := ħ (by rw [HT.o]; exact Æn H1.o HG30.o HNd.o HDi.o h16)
             have h16' : ¬ ((after s d).length : Int) > 16 := by omega
             have hne : (Value.slice VA (after s d).length VC).ownBlock ≠ some (w.heap.size + 2) := fun e => by have := (World.ownsRow.lt HVq.o _ e).1; omega
             have HNe := ħ hne;clear hne;go_wp2
             refine bodyPost_ret (v := .tuple #[.agg #[.int .i64 n1, .int .i64 n2, .int .i64 n3, .int .i64 n4, .slice VA (after s d).length VC], .int .i64 0]) (by simp [results, Tryz.results54, go_sem, *]) rfl ⟨.slice VA (after s d).length VC, by rw [HE.o, HNu.o], ?_, fun k hk => by
              have := World.ownsRow.lt HVq.o k hk;have h1 := hswp
              exact ⟨by omega, by simpa [World.setCell] using this.2⟩, ?_⟩
             ·rw [HE.o]
              exact (Ïw HVq.o HNe.o).set
             ·exact ÂO HBa.o (by omega)
     ·rw [decide_eq_true hnd]
      have HNd := ħ hnd;clear hnd
      have HE : Hid (T = (.zero, 31)) := ħ (by rw [HT.o]; unfold Õ; rw [if_neg (by simpa using H1.o), if_neg HG30.o, if_pos HNd.o])
      obtain ⟨z0, z1, z2, z3, z4⟩ := HZ6.o.c5;have f := HZ6.o.frozen;have hlz := HZ6.o.lt;go_wp2
      refine bodyPost_ret (v := .tuple #[.agg #[.int .i64 0, .int .i64 0, .int .i64 0, .int .i64 0, .slice none 0 0], .int .i64 31]) (by simp [results, Tryz.results54, go_sem, *]) rfl ⟨.slice none 0 0, by rw [HE.o]; rfl, by rw [HE.o]; exact Á.nil _ _, fun k hk => by simp [Value.ownBlock] at hk, ?_⟩
      exact ÂO HB6.o (by omega)
 ·rw [decide_eq_false h1]
  have HE : Hid (T = (.zero, 10)) := ħ (by rw [HT.o]; unfold Õ; rw [if_pos h1])
  obtain ⟨z0, z1, z2, z3, z4⟩ := HZd.o.c5;have f := HZd.o.frozen;have hlz := HZd.o.lt;go_wp2
  refine bodyPost_ret (v := .tuple #[.agg #[.int .i64 0, .int .i64 0, .int .i64 0, .int .i64 0, .slice none 0 0], .int .i64 10]) (by simp [results, Tryz.results54, go_sem, *]) rfl ⟨.slice none 0 0, by rw [HE.o]; rfl, by rw [HE.o]; exact Á.nil _ _, fun k hk => by simp [Value.ownBlock] at hk, ?_⟩
  exact ÂO HBd.o (by omega)
end
end Go.Proofs.YtpginkdkblmnbaaGreatDoor
