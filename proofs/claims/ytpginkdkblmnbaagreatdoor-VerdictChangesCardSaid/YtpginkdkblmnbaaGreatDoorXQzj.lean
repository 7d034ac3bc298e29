import Derived.Test.YtpginkdkblmnbaaGreatDoorXMQi
import Derived.Test.YtpginkdkblmnbaaGreatDoorXQzh
namespace Go.Proofs.YtpginkdkblmnbaaGreatDoor
section
open Go.RowKit
variable {w w' : World}
section
variable {P : Program} {md : Region.Mode} {ops : Array Oper} {Q : Exit → Act → World → Prop} {S : World → Prop} {fuel : Nat} {listed : Array Bool} {a : Act} {w : World}
theorem ç {E : Prop} {K : Act → World → Prop} {f : FuncId} {args : Array Value} {R : Ending → World → Prop} {o : Oper} (hw : Region.wanted o (yielded ops a.tmps) = true)
 (he : (execOp a.eval o).run P w = .ok (.enter f args) w) (hc : Calls P f args w R) (h : ∀ e w', R e w' → ∃ v, e = .returned v ∧ K (a.put o.dst v) w') : if Region.wanted o (yielded ops a.tmps) = true then Oper.wp P o a w K Q else E := by
 rw [if_pos hw];unfold Oper.wp;rw [he];refine hc.mono ?_;intro e w' hR;obtain ⟨v, rfl, hh⟩ := h e w' hR;exact hh
end
theorem Ín {w5 W : World} {b : Nat} {t : TypeId} {z0 z1 z2 z3 z4 c0 c1 c2 c3 : Value} {XV : Value} {l : List Ru} (hN : Blk W b t #[z0, z1, z2, z3, z4]) (hb : w5.heap.size ≤ b) (hB : Below w5.heap.size w5 W) (hV : Á W.heap.size W XV l) (hf : ∀ k, XV.ownBlock = some k → k ≠ b) :
 Hid (Blk (((((W.setCell ⟨b, 0, none⟩ c0).setCell ⟨b, 1, none⟩ c1).setCell ⟨b, 2, none⟩ c2).setCell ⟨b, 3, none⟩ c3).setCell ⟨b, 4, none⟩ XV) b t #[c0, c1, c2, c3, XV]) ∧ Hid (Below w5.heap.size w5 (((((W.setCell ⟨b, 0, none⟩ c0).setCell ⟨b, 1, none⟩ c1).setCell ⟨b, 2, none⟩ c2).setCell ⟨b, 3, none⟩ c3).setCell ⟨b, 4, none⟩ XV)) ∧ Hid (Á (((((W.setCell ⟨b, 0, none⟩ c0).setCell ⟨b, 1, none⟩ c1).setCell ⟨b, 2, none⟩ c2).setCell ⟨b, 3, none⟩ c3).setCell ⟨b, 4, none⟩ XV).heap.size (((((W.setCell ⟨b, 0, none⟩ c0).setCell ⟨b, 1, none⟩ c1).setCell ⟨b, 2, none⟩ c2).setCell ⟨b, 3, none⟩ c3).setCell ⟨b, 4, none⟩ XV) XV l) := by
 have k : ∀ {W : World}, Below w5.heap.size w5 W → ∀ (i : Nat) (u : Value), Below w5.heap.size w5 (W.setCell ⟨b, i, none⟩ u) := fun h i u => h.setCell (p := ⟨b, i, none⟩) hb u
 have q : ∀ {W : World}, Á W.heap.size W XV l → ∀ (i : Nat) (u : Value), Á (W.setCell ⟨b, i, none⟩ u).heap.size (W.setCell ⟨b, i, none⟩ u) XV l := fun {W} h i u => by
  obtain ⟨A, cap, rfl, hc, h⟩ := h
  refine ⟨A, cap, rfl, hc, fun hs => ?_⟩
  obtain ⟨b', off, rfl, hb', ht⟩ := h hs;have hne := hf b' rfl
  have e : ∀ o, (W.setCell ⟨b, i, none⟩ u).cell? ⟨b', o, none⟩ = W.cell? ⟨b', o, none⟩ := fun o => by
   have := Below.heap_setCell W ⟨b, i, none⟩ u b' hne;unfold World.cell?;rw [this]
  exact ⟨b', off, rfl, by simpa [World.setCell] using hb', fun j r hr => by
   obtain ⟨h0, h1, h2, h3, h4⟩ := ht j r hr
   exact ⟨(e _).trans h0, (e _).trans h1, (e _).trans h2, (e _).trans h3, (e _).trans h4⟩⟩
 refine ⟨ħ ?_, ħ (k (k (k (k (k hB 0 c0) 1 c1) 2 c2) 3 c3) 4 XV), ħ (q (q (q (q (q hV 0 c0) 1 c1) 2 c2) 3 c3) 4 XV)⟩;have := ((((hN.set_ 0 c0).set_ 1 c1).set_ 2 c2).set_ 3 c3).set_ 4 XV;simpa using this
theorem õ {w5 W : World} {b g : Nat} {t t' : TypeId} {z0 z1 z2 c0 c1 c2 XV : Value} {cs : Array Value} {l : List Ru} (hN : Blk W b t #[z0, z1, z2]) (hb : w5.heap.size ≤ b) (hB : Below w5.heap.size w5 W) (hV : Á W.heap.size W XV l) (hf : ∀ k, XV.ownBlock = some k → k ≠ b) (hx : Blk W g t' cs) (hne : g ≠ b) :
 Hid (Blk (((W.setCell ⟨b, 0, none⟩ c0).setCell ⟨b, 1, none⟩ c1).setCell ⟨b, 2, none⟩ c2) b t #[c0, c1, c2]) ∧ Hid (Blk (((W.setCell ⟨b, 0, none⟩ c0).setCell ⟨b, 1, none⟩ c1).setCell ⟨b, 2, none⟩ c2) g t' cs) ∧ Hid (Á (((W.setCell ⟨b, 0, none⟩ c0).setCell ⟨b, 1, none⟩ c1).setCell ⟨b, 2, none⟩ c2).heap.size (((W.setCell ⟨b, 0, none⟩ c0).setCell ⟨b, 1, none⟩ c1).setCell ⟨b, 2, none⟩ c2) XV l) ∧ Hid (Below w5.heap.size w5 (((W.setCell ⟨b, 0, none⟩ c0).setCell ⟨b, 1, none⟩ c1).setCell ⟨b, 2, none⟩ c2)) := by
 have k : ∀ {W : World}, Below w5.heap.size w5 W → ∀ (i : Nat) (u : Value), Below w5.heap.size w5 (W.setCell ⟨b, i, none⟩ u) := fun h i u => h.setCell (p := ⟨b, i, none⟩) hb u
 have q : ∀ {W : World}, Á W.heap.size W XV l → ∀ (i : Nat) (u : Value), Á (W.setCell ⟨b, i, none⟩ u).heap.size (W.setCell ⟨b, i, none⟩ u) XV l := fun {W} h i u => by
  obtain ⟨A, cap, rfl, hc, h⟩ := h
  refine ⟨A, cap, rfl, hc, fun hs => ?_⟩
  obtain ⟨b', off, rfl, hb', ht⟩ := h hs;have hne := hf b' rfl
  have e : ∀ o, (W.setCell ⟨b, i, none⟩ u).cell? ⟨b', o, none⟩ = W.cell? ⟨b', o, none⟩ := fun o => by
   have := Below.heap_setCell W ⟨b, i, none⟩ u b' hne;unfold World.cell?;rw [this]
  exact ⟨b', off, rfl, by simpa [World.setCell] using hb', fun j r hr => by
   obtain ⟨h0, h1, h2, h3, h4⟩ := ht j r hr
   exact ⟨(e _).trans h0, (e _).trans h1, (e _).trans h2, (e _).trans h3, (e _).trans h4⟩⟩
 refine ⟨ħ ?_, ħ (ÏC hx hne), ħ (q (q (q hV 0 c0) 1 c1) 2 c2), ħ (k (k (k hB 0 c0) 1 c1) 2 c2)⟩;have := ((hN.set_ 0 c0).set_ 1 c1).set_ 2 c2;simpa using this
def Per (w : World) (P : World → Prop) : Prop := ∀ w', Below w.heap.size w w' → P w'
theorem Per.on {P : World → Prop} (h : Per w P) (hb : Below w.heap.size w w') : Per w' P := fun w'' k => h w'' (hb.trans (k.mono hb.size))
theorem Per.now {P : World → Prop} (h : Per w P) : P w := h w (ā _ _)
theorem Per.and {P R : World → Prop} (h : Per w P) (k : Per w R) : Per w fun w' => P w' ∧ R w' := fun w' hb => ⟨h w' hb, k w' hb⟩
theorem Per.blk {g : Nat} {t : TypeId} {cs : Array Value} (h : Blk w g t cs) : Per w fun w' => Blk w' g t cs := fun _ hb => h.on hb
theorem Per.rul {v : Value} {l : List Ru} (h : Á w.heap.size w v l) : Per w fun w' => Á w'.heap.size w' v l := fun _ hb => Àv h hb hb.size
theorem Per.bel {w5 : World} (h : Below w5.heap.size w5 w) : Per w fun w' => Below w5.heap.size w5 w' := fun _ hb => h.trans (hb.mono h.size)
theorem Per.own {v : Value} (h : ∀ q, v.ownBlock = some q → q < w.heap.size) : Per w fun w' => ∀ q, v.ownBlock = some q → q < w'.heap.size := fun _ hb q hq => Ć (h q hq) hb.size
theorem nwB (w : World) (o : Obj) : Below w.heap.size w (w.alloc o) := (ā _ _).alloc (ŋ _) _
theorem Ź {n q x : Nat} {v : Value} (h : Far n v) (hq : v.ownBlock = some q) (hx : x < n) : q ≠ x := by have := h q hq; omega
theorem ŷ (C : RS × Int × Int × Int) (XA : Option Addr) (XC : Nat) {w5 W : World} {b v : Nat} (hN : Blk W b 68 #[.int .i64 0, .int .i64 0, .int .i64 0, .int .i64 0, .slice none 0 0]) (hb : w5.heap.size ≤ b) (hB : Below w5.heap.size w5 W) (hV : Á W.heap.size W (.slice XA C.1.rs.length XC) C.1.rs) (hf : ∀ q, (Value.slice XA C.1.rs.length XC).ownBlock = some q → q ≠ b) (hv : Blk W v 52 #[.int .i64 0, .int .i64 0, .int .i64 0]) (hn : b ≠ v) :
 Hid (Blk (((((W.setCell ⟨b, 0, none⟩ (.int .i64 C.1.de)).setCell ⟨b, 1, none⟩ (.int .i64 C.1.cl)).setCell ⟨b, 2, none⟩ (.int .i64 C.1.fu)).setCell ⟨b, 3, none⟩ (.int .i64 C.1.st)).setCell ⟨b, 4, none⟩ (.slice XA C.1.rs.length XC)) b 68 #[.int .i64 C.1.de, .int .i64 C.1.cl, .int .i64 C.1.fu, .int .i64 C.1.st, .slice XA C.1.rs.length XC]) ∧ Hid (Below w5.heap.size w5 (((((W.setCell ⟨b, 0, none⟩ (.int .i64 C.1.de)).setCell ⟨b, 1, none⟩ (.int .i64 C.1.cl)).setCell ⟨b, 2, none⟩ (.int .i64 C.1.fu)).setCell ⟨b, 3, none⟩ (.int .i64 C.1.st)).setCell ⟨b, 4, none⟩ (.slice XA C.1.rs.length XC))) ∧ Hid (Á (((((W.setCell ⟨b, 0, none⟩ (.int .i64 C.1.de)).setCell ⟨b, 1, none⟩ (.int .i64 C.1.cl)).setCell ⟨b, 2, none⟩ (.int .i64 C.1.fu)).setCell ⟨b, 3, none⟩ (.int .i64 C.1.st)).setCell ⟨b, 4, none⟩ (.slice XA C.1.rs.length XC)).heap.size (((((W.setCell ⟨b, 0, none⟩ (.int .i64 C.1.de)).setCell ⟨b, 1, none⟩ (.int .i64 C.1.cl)).setCell ⟨b, 2, none⟩ (.int .i64 C.1.fu)).setCell ⟨b, 3, none⟩ (.int .i64 C.1.st)).setCell ⟨b, 4, none⟩ (.slice XA C.1.rs.length XC)) (.slice XA C.1.rs.length XC) C.1.rs) ∧ Hid (Blk (((((W.setCell ⟨b, 0, none⟩ (.int .i64 C.1.de)).setCell ⟨b, 1, none⟩ (.int .i64 C.1.cl)).setCell ⟨b, 2, none⟩ (.int .i64 C.1.fu)).setCell ⟨b, 3, none⟩ (.int .i64 C.1.st)).setCell ⟨b, 4, none⟩ (.slice XA C.1.rs.length XC)) v 52 #[.int .i64 0, .int .i64 0, .int .i64 0]) :=
 have h := Ín (c0 := .int .i64 C.1.de) (c1 := .int .i64 C.1.cl) (c2 := .int .i64 C.1.fu) (c3 := .int .i64 C.1.st) hN hb hB hV hf
 And.intro h.1 (And.intro h.2.1 (And.intro h.2.2 (ħ (Åv (c0 := .int .i64 C.1.de) (c1 := .int .i64 C.1.cl) (c2 := .int .i64 C.1.fu) (c3 := .int .i64 C.1.st) (c4 := .slice XA C.1.rs.length XC) hv (Ne.symm hn)))))
theorem ËO (a b c : Int) (w : World) : (Instr.field 48 (.agg #[.int .i64 a, .int .i64 b, .int .i64 c]) 0).run Tryz.prog w = .ok (.int .i64 a) w := by kernel_rfl
theorem Êa (s : RS) (d : Dl) : (ö pvM s d).1.rs.length ≤ 1000 := by
 have hz : RS.zero.rs.length ≤ 1000 := by simp [RS.zero]
 unfold ö;split
 ·rename_i h0
  have := (ÀI.1 h0).few;split
  ·rw [Ãj (ÀI.1 h0)]
   simp only;omega
  ·exact hz
 ·exact hz
theorem Èz {s : RS} {d : Dl} (h : (ö pvM s d).2.1 = 0) : (í pvM (ö pvM s d).1).1 = 0 := by
 unfold ö at h ⊢
 by_cases h1 : (Õ s d).2 = 0
 ·rw [if_pos h1] at h ⊢
  by_cases h2 : (í pvM (Õ s d).1).1 = 0
  ·rw [if_pos h2]; exact h2
  ·rw [if_neg h2] at h; exact absurd h h2
 ·rw [if_neg h1] at h; exact absurd h h1
set_option maxRecDepth 100000 in
set_option maxHeartbeats 8000000 in
theorem ÂQ (s : RS) (d : Dl) (v pv dv : Value) (w : World) (hdr : ∀ z ∈ d.drop, (Lit.int .i64 z).wf = true) (hm1 : s.rs.length ≤ 9223372036854775807) (hm2 : d.put.length ≤ 9223372036854775807) (hT : Ō w.heap.size w)
 (hS : Á w.heap.size w v s.rs) (hP : Á w.heap.size w pv d.put) (hD : Row w.heap.size w dv (zI d.drop)) :
 Calls Tryz.prog 6 #[.agg #[.int .i64 s.de, .int .i64 s.cl, .int .i64 s.fu, .int .i64 s.st, v], .agg #[.int .i64 d.de, .int .i64 d.cl, .int .i64 d.fu, .int .i64 d.st, pv, dv]] w fun e w' => e = .returned (.bool true) ∧ Below w.heap.size w w' := by
 obtain ⟨A, cap, rfl⟩ := hS.form;obtain ⟨P1, pc1, rfl⟩ := hP.form
 obtain ⟨Q1, qc1, rfl⟩ : ∃ A c, dv = .slice A d.drop.length c := by obtain ⟨A, c, h, _⟩ := hD; exact ⟨A, c, by simpa [zI] using h⟩
 obtain ⟨w0, hw0⟩ : ∃ w0, w0 = ((w.alloc (.cells #[.int .i64 s.de, .int .i64 s.cl, .int .i64 s.fu, .int .i64 s.st, .slice A s.rs.length cap] 59)).alloc (.cells #[.int .i64 d.de, .int .i64 d.cl, .int .i64 d.fu, .int .i64 d.st, .slice P1 d.put.length pc1, .slice Q1 d.drop.length qc1] 63)) := ⟨_, rfl⟩
 have hb0 : Below w.heap.size w w0 := by rw [hw0]; exact ((ā _ _).alloc (ŋ _) _).alloc (by simp) _
 have hx : Blk w0 w.heap.size 59 #[.int .i64 s.de, .int .i64 s.cl, .int .i64 s.fu, .int .i64 s.st, .slice A s.rs.length cap] := by rw [hw0]; exact (Blk.new _ _ _).alloc _
 have hy : Blk w0 (w.heap.size + 1) 63 #[.int .i64 d.de, .int .i64 d.cl, .int .i64 d.fu, .int .i64 d.st, .slice P1 d.put.length pc1, .slice Q1 d.drop.length qc1] := by rw [hw0]; exact Blk.at_new _ _ (by simp) _ _
 have hs0 : w0.heap.size = w.heap.size + 2 := by rw [hw0]; simp
 have HS := ħ hS;have HP := ħ hP;have HD := ħ hD;have HDr := ħ hdr;have HT := ħ hT;have HM := ħ (And.intro hm1 hm2);clear hS hP hD hdr hT hm1 hm2;go_enter Tryz.func6, Tryz.ntmps6
 go_wp2_with fail
 rw [← hw0];clear hw0;refine (Èy w0 (ŏ HT.o hb0 hb0.size)).mono ?_;rintro e w1 ⟨rfl, hb1⟩;have HB1 := ħ (hb0.trans (hb1.mono hb0.size));have SX1 := ħ (hx.on hb1);have DX1 := ħ (hy.on hb1);have hs1 := ē (Nat.le_of_eq hs0.symm) hb1.size;clear hb0 hx hy hb1 hs0;obtain ⟨a0, a1, a2, a3, a4⟩ := SX1.o.c5;obtain ⟨b0, b1, b2, b3, b4, b5⟩ := DX1.o.c6
 go_wp2_with fail
 have hsm := ÉZ s d (.slice A s.rs.length cap) (.slice P1 d.put.length pc1) (.slice Q1 d.drop.length qc1) w1 HM.o.1 HM.o.2 ⟨_, _, rfl⟩ (Àv HS.o HB1.o HB1.o.size) (Àv HP.o HB1.o HB1.o.size);refine hsm.mono ?_;clear hsm a0 a1 a2 a3 a4 b0 b1 b2 b3 b4 b5;rintro e w2 ⟨b, rfl, hb, hb2⟩;have HB2 := ħ (HB1.o.trans (hb2.mono HB1.o.size));have SX2 := ħ (SX1.o.on hb2);have DX2 := ħ (DX1.o.on hb2);have hs2 := ē hs1 hb2.size;clear hb2
 cases b with
 | false =>
  clear hb
  go_wp2_with fail
  go_ret;exact ⟨rfl, HB2.o⟩
 | true =>
  have HSm := ħ (hb rfl);clear hb;obtain ⟨a0, a1, a2, a3, a4⟩ := SX2.o.c5;obtain ⟨b0, b1, b2, b3, b4, b5⟩ := DX2.o.c6
  have hch := Èx s d (.slice A s.rs.length cap) (.slice P1 d.put.length pc1) (.slice Q1 d.drop.length qc1) w2 (by have := HSm.o; omega) (by have := HSm.o; omega) (by have := HSm.o; omega) HDr.o (ŏ HT.o HB2.o HB2.o.size) (Àv HS.o HB2.o HB2.o.size) (Àv HP.o HB2.o HB2.o.size) ((HD.o.below HB2.o).more HB2.o.size)
  obtain ⟨C, hC⟩ : ∃ C, C = ö pvM s d := ⟨_, rfl⟩;rw [← hC] at hch;have HC := ħ hC
  have HCl : Hid (C.1.rs.length ≤ 1000) := ħ (by rw [hC]; exact Êa s d)
  have HCz : Hid (C.2.1 = 0 → (í pvM C.1).1 = 0) := ħ (by rw [hC]; exact Èz)
  clear hC;have HCh := ħ hch;clear hch
  go_wp2_with fail
  refine HCh.o.mono ?_;clear HCh a0 a1 a2 a3 a4 b0 b1 b2 b3 b4 b5;rintro e w3 ⟨rv, rfl, hrv, _, hb3⟩;obtain ⟨TA, TC, rfl⟩ := hrv.form;have HB3 := ħ (HB2.o.trans (hb3.mono HB2.o.size));have SX3 := ħ (SX2.o.on hb3);have DX3 := ħ (DX2.o.on hb3);have HR3 := ħ hrv;clear hb3 hrv HB1 SX1 DX1 hs1 hs2 HB2 SX2 DX2
  go_upto_region 6 with (fail)
  have hb5 : Below w3.heap.size w3 ((w3.alloc (.cells #[.int .i64 C.1.de, .int .i64 C.1.cl, .int .i64 C.1.fu, .int .i64 C.1.st, .slice TA C.1.rs.length TC] 59)).alloc (.cells #[.int .i64 C.2.1, .int .i64 C.2.2.1, .int .i64 C.2.2.2] 48)) := ((ā _ _).alloc (ŋ _) _).alloc (by simp) _
  have HT5 : Hid (Blk ((w3.alloc (.cells #[.int .i64 C.1.de, .int .i64 C.1.cl, .int .i64 C.1.fu, .int .i64 C.1.st, .slice TA C.1.rs.length TC] 59)).alloc (.cells #[.int .i64 C.2.1, .int .i64 C.2.2.1, .int .i64 C.2.2.2] 48)) w3.heap.size 59 #[.int .i64 C.1.de, .int .i64 C.1.cl, .int .i64 C.1.fu, .int .i64 C.1.st, .slice TA C.1.rs.length TC]) := ħ ((Blk.new _ _ _).alloc _)
  have HW5 : Hid (Blk ((w3.alloc (.cells #[.int .i64 C.1.de, .int .i64 C.1.cl, .int .i64 C.1.fu, .int .i64 C.1.st, .slice TA C.1.rs.length TC] 59)).alloc (.cells #[.int .i64 C.2.1, .int .i64 C.2.2.1, .int .i64 C.2.2.2] 48)) (w3.heap.size + 1) 48 #[.int .i64 C.2.1, .int .i64 C.2.2.1, .int .i64 C.2.2.2]) := ħ (Blk.at_new _ _ (by simp) _ _)
  generalize ((w3.alloc (.cells #[.int .i64 C.1.de, .int .i64 C.1.cl, .int .i64 C.1.fu, .int .i64 C.1.st, .slice TA C.1.rs.length TC] 59)).alloc (.cells #[.int .i64 C.2.1, .int .i64 C.2.2.1, .int .i64 C.2.2.2] 48)) = w5 at *;obtain ⟨tb, htb⟩ : ∃ tb, tb = w3.heap.size := ⟨_, rfl⟩;rw [← htb] at HT5 HW5 ⊢;obtain ⟨ub, hub⟩ : ∃ ub, ub = tb + 1 := ⟨_, rfl⟩;rw [← hub] at HW5 ⊢;have HB5 := ħ (HB3.o.trans (hb5.mono HB3.o.size));have HX5 := ħ (SX3.o.on hb5);have HY5 := ħ (DX3.o.on hb5);have HR5 := ħ (Àv HR3.o hb5 hb5.size);have HS5 := ħ (Àv HS.o HB5.o HB5.o.size);have HP5 := ħ (Àv HP.o HB5.o HB5.o.size);have HD5 := ħ ((HD.o.below HB5.o).more HB5.o.size);clear hb5 htb hub HB3 SX3 DX3 HR3
  go_cut [7, 8] from 21 (fun s7 s8 W => ∃ (xb vb : Nat) (XA : Option Addr) (XC : Nat), s7 = .pointer (some ⟨xb, 0, none⟩) ∧ s8 = .pointer (some ⟨vb, 0, none⟩) ∧ Hid (Blk W xb 68 #[.int .i64 C.1.de, .int .i64 C.1.cl, .int .i64 C.1.fu, .int .i64 C.1.st, .slice XA C.1.rs.length XC]) ∧ Hid (Blk W vb 52 #[.int .i64 C.2.1, .int .i64 C.2.2.1, .int .i64 C.2.2.2]) ∧ Hid (Á W.heap.size W (.slice XA C.1.rs.length XC) C.1.rs) ∧ Hid (Below w5.heap.size w5 W))
  case first =>
   rename_i J K' hJ hK'
   refine wp_region_held_drew (S := fun W => Below w5.heap.size w5 W) (by kernel_rfl) (Îp w5) (fun hHeld => ?_)
   have HBd := ħ hHeld;clear hHeld;generalize hwd : w5.drew = wd at *;clear hwd
   refine ŧ 0 22 (.agg #[.int .i64 s.de, .int .i64 s.cl, .int .i64 s.fu, .int .i64 s.st, .slice A s.rs.length cap]) _ rfl rfl HBd.o (fun w' hSw => ?_) ?_
   ·have zz := (HX5.o.on hSw).c5
    clear hSw;go_simp
   simp only [ł, ø, đ]
   refine ŧ 2 24 (.agg #[.int .i64 d.de, .int .i64 d.cl, .int .i64 d.fu, .int .i64 d.st, .slice P1 d.put.length pc1, .slice Q1 d.drop.length qc1]) _ rfl rfl HBd.o (fun w' hSw => ?_) ?_
   ·have zz := (HY5.o.on hSw).c6
    clear hSw;go_simp
   simp only [ł, ø, đ]
   have HPd : Hid (Per wd fun w' => Below w5.heap.size w5 w') := ħ (Per.bel HBd.o)
   have CS : Hid (∀ W, Below w5.heap.size w5 W → Calls Tryz.prog 25 #[.agg #[.int .i64 s.de, .int .i64 s.cl, .int .i64 s.fu, .int .i64 s.st, .slice A s.rs.length cap]] W fun e w' => ∃ VA VC, e = .returned (.agg #[.int .i64 s.de, .int .i64 s.cl, .int .i64 s.fu, .int .i64 s.st, .slice VA s.rs.length VC]) ∧ Á w'.heap.size w' (.slice VA s.rs.length VC) s.rs ∧ Below W.heap.size W w') := ħ fun W hW =>
    (Äa s (.slice A s.rs.length cap) W (by have := HSm.o; omega) ((HS5.o.below hW).more hW.size)).mono fun e w' ⟨V, he, hV, hb⟩ => by
     obtain ⟨VA, VC, rfl⟩ := Ú.form hV;exact ⟨VA, VC, he, Ú.set hV, hb⟩
   have CD : Hid (∀ W, Below w5.heap.size w5 W → Calls Tryz.prog 29 #[.agg #[.int .i64 d.de, .int .i64 d.cl, .int .i64 d.fu, .int .i64 d.st, .slice P1 d.put.length pc1, .slice Q1 d.drop.length qc1]] W fun e w' => ∃ UA UC, e = .returned (.agg #[.int .i64 d.de, .int .i64 d.cl, .int .i64 d.fu, .int .i64 d.st, .slice UA d.put.length UC, .slice Q1 d.drop.length qc1]) ∧ Á w'.heap.size w' (.slice UA d.put.length UC) d.put ∧ Below W.heap.size W w') := ħ fun W hW =>
    (ÅE d (.slice P1 d.put.length pc1) Q1 d.drop.length qc1 W (by have := HSm.o; omega) ((HP5.o.below hW).more hW.size)).mono fun e w' ⟨V, he, hV, hb⟩ => by
     obtain ⟨UA, UC, rfl⟩ := Ú.form hV;exact ⟨UA, UC, he, Ú.set hV, hb⟩
   have CC : Hid (∀ W VA VC UA UC, Below w5.heap.size w5 W → Á W.heap.size W (.slice VA s.rs.length VC) s.rs → Á W.heap.size W (.slice UA d.put.length UC) d.put → Calls Tryz.prog 28 #[.agg #[.int .i64 s.de, .int .i64 s.cl, .int .i64 s.fu, .int .i64 s.st, .slice VA s.rs.length VC], .agg #[.int .i64 d.de, .int .i64 d.cl, .int .i64 d.fu, .int .i64 d.st, .slice UA d.put.length UC, .slice Q1 d.drop.length qc1]] W fun e w' => ∃ XA XC, e = .returned (.tuple #[.agg #[.int .i64 C.1.de, .int .i64 C.1.cl, .int .i64 C.1.fu, .int .i64 C.1.st, .slice XA C.1.rs.length XC], .agg #[.int .i64 C.2.1, .int .i64 C.2.2.1, .int .i64 C.2.2.2]]) ∧ Á w'.heap.size w' (.slice XA C.1.rs.length XC) C.1.rs ∧ Far W.heap.size (.slice XA C.1.rs.length XC) ∧ (∀ q, (Value.slice XA C.1.rs.length XC).ownBlock = some q → q < w'.heap.size) ∧ Below W.heap.size W w') := ħ fun W VA VC UA UC hW hVV hUU => by
    have hxa := Çi s d (.slice VA s.rs.length VC) (.slice UA d.put.length UC) (.slice Q1 d.drop.length qc1) W (by have := HSm.o; omega) (by have := HSm.o; omega) (by have := HSm.o; omega) HDr.o hVV hUU ((HD5.o.below hW).more hW.size)
    rw [← HC.o] at hxa
    refine hxa.mono fun e w' ⟨V, he, hV, hfr, hlt, hb⟩ => ?_
    obtain ⟨XA, XC, rfl⟩ := hV.form;exact ⟨XA, XC, he, hV, hfr, hlt, hb⟩
   refine wpAnyH_ready (rs := [1, 8, 9]) (by kernel_rfl) (by simp) ?_
   refine AllReadyH.cons rfl (fun K hK => ?_) (AllReadyH.cons rfl (fun K hK => ?_) (AllReadyH.cons rfl (fun K hK => ?_) AllReadyH.nil))
   ·refine ç rfl (by kernel_rfl) (CS.o wd HPd.o.now) ?_
    rintro e wc1 ⟨VA, VC, rfl, hV, hb⟩;have HP1 := ħ ((HPd.o.on hb).and (Per.rul hV))
    refine ⟨_, rfl, hK.o _ _ HP1.o.now.1 (fun _ => ?_)⟩
    clear hK K hb hV HPd
    try simp only [Act.put, ł]
    refine wpAnyH_ready (rs := [3, 8, 9]) (by kernel_rfl) (by simp) ?_
    refine AllReadyH.cons rfl (fun K hK => ?_) (AllReadyH.cons rfl (fun K hK => ?_) (AllReadyH.cons rfl (fun K hK => ?_) AllReadyH.nil))
    ·refine ç rfl (by kernel_rfl) (CD.o wc1 HP1.o.now.1) ?_
     rintro e wc2 ⟨UA, UC, rfl, hV, hb⟩;have HP2 := ħ ((HP1.o.on hb).and (Per.rul hV))
     refine ⟨_, rfl, hK.o _ _ HP2.o.now.1.1 (fun _ => ?_)⟩
     clear hK K hb hV HP1
     try simp only [Act.put]
     refine wpAnyH_ready (rs := [4, 8, 9]) (by kernel_rfl) (by simp) ?_
     refine AllReadyH.cons rfl (fun K hK => ?_) (AllReadyH.cons rfl (fun K hK => ?_) (AllReadyH.cons rfl (fun K hK => ?_) AllReadyH.nil))
     ·refine ç rfl (by kernel_rfl) (CC.o wc2 _ _ _ _ HP2.o.now.1.1 HP2.o.now.1.2 HP2.o.now.2) ?_
      rintro e wc3 ⟨XA, XC, rfl, hV, hfr, hlt, hb⟩;have HP3 := ħ (((HP2.o.on hb).and (Per.rul hV)).and (Per.own hlt))
      refine ⟨_, rfl, hK.o _ _ HP3.o.now.1.1.1.1 (fun _ => ?_)⟩
      clear hK K hb hV hfr hlt HP2
      try simp only [Act.put]
      refine ŧ 5 21 (.tuple #[.agg #[.int .i64 C.1.de, .int .i64 C.1.cl, .int .i64 C.1.fu, .int .i64 C.1.st, .slice XA C.1.rs.length XC], .agg #[.int .i64 C.2.1, .int .i64 C.2.2.1, .int .i64 C.2.2.2]]) _ rfl rfl HP3.o.now.1.1.1.1 (fun w' hSw => ?_) ?_
      ·clear hSw
       go_simp
      try simp only [Act.put, ł, ø, đ]
      refine ŧ 6 27 (.agg #[.int .i64 C.1.de, .int .i64 C.1.cl, .int .i64 C.1.fu, .int .i64 C.1.st, .slice XA C.1.rs.length XC]) _ rfl rfl HP3.o.now.1.1.1.1 (fun w' hSw => ?_) ?_
      ·clear hSw
       go_simp
      simp only []
      refine ŧ 7 28 (.agg #[.int .i64 C.2.1, .int .i64 C.2.2.1, .int .i64 C.2.2.2]) _ rfl rfl HP3.o.now.1.1.1.1 (fun w' hSw => ?_) ?_
      ·clear hSw
       go_simp
      simp only []
      refine wpAnyH_ready (rs := [8, 9]) (by kernel_rfl) (by simp) ?_
      refine AllReadyH.cons rfl (fun K hK => ?_) (AllReadyH.cons rfl (fun K hK => ?_) AllReadyH.nil)
      ·go_simp
       have HP4 := ħ ((HP3.o.on (nwB wc3 _)).and (Per.blk (Blk.new wc3 68 #[.int .i64 0, .int .i64 0, .int .i64 0, .int .i64 0, .slice none 0 0])));have Hxb4 : Hid (w5.heap.size ≤ wc3.heap.size) := ħ HP3.o.now.1.1.1.1.size
       have HF4 : Hid (∀ q, (Value.slice XA C.1.rs.length XC).ownBlock = some q → q ≠ wc3.heap.size) := ħ (fun q hq => Nat.ne_of_lt (HP3.o.now.2 q hq))
       refine hK.o _ _ HP4.o.now.1.1.1.1.1 (fun _ => ?_)
       clear hK K HP3
       try simp only [Act.put, ł, ø, đ]
       generalize hwx : wc3.alloc (.cells #[.int .i64 0, .int .i64 0, .int .i64 0, .int .i64 0, .slice none 0 0] 68) = wa4 at *;generalize wc3.heap.size = xb4 at *;clear hwx
       refine ŝ 9 (fun K hK => ?_)
       go_simp;have HP5 := ħ ((HP4.o.on (nwB wa4 _)).and (Per.blk (Blk.new wa4 52 #[.int .i64 0, .int .i64 0, .int .i64 0])));have Hvb5 : Hid (w5.heap.size ≤ wa4.heap.size) := ħ HP4.o.now.1.1.1.1.1.size
       have HN5 : Hid (xb4 ≠ wa4.heap.size) := ħ (by have := HP4.o.now.2.lt; omega)
       have HG5 : Hid (∀ q, (Value.slice XA C.1.rs.length XC).ownBlock = some q → q ≠ wa4.heap.size) := ħ (fun q hq => Nat.ne_of_lt (HP4.o.now.1.2 q hq))
       refine hK.o _ _ HP5.o.now.1.1.1.1.1.1 (fun _ => ?_)
       clear hK K HP4
       try simp only [Act.put, ł, ø, đ]
       generalize hwx : wa4.alloc (.cells #[.int .i64 0, .int .i64 0, .int .i64 0] 52) = wa5 at *;generalize wa4.heap.size = vb5 at *;clear hwx;have z := HP5.o.now.1.2.c5;have f := HP5.o.now.1.2.frozen;have hl := HP5.o.now.1.2.lt;obtain ⟨hs1, hs2, hs3, HQs⟩ := ŷ C XA XC HP5.o.now.1.2 Hxb4.o HP5.o.now.1.1.1.1.1.1 HP5.o.now.1.1.1.2 HF4.o HP5.o.now.2 HN5.o
       refine ŝ 10 (fun K hK => ?_)
       go_simp
       refine hK.o _ _ hs2.o (fun _ => ?_)
       clear hK K z f hl
       try simp only [Act.put, ł, ø, đ]
       generalize ((((wa5.setCell ⟨xb4, 0, none⟩ (.int .i64 C.1.de)).setCell ⟨xb4, 1, none⟩ (.int .i64 C.1.cl)).setCell ⟨xb4, 2, none⟩ (.int .i64 C.1.fu)).setCell ⟨xb4, 3, none⟩ (.int .i64 C.1.st)).setCell ⟨xb4, 4, none⟩ (.slice XA C.1.rs.length XC) = ws at *;have y0 := HQs.o.cell 0;have y1 := HQs.o.cell 1;have y2 := HQs.o.cell 2;have fy := HQs.o.frozen;have hly := HQs.o.lt;obtain ⟨ht1, ht2, ht3, ht4⟩ := õ (c0 := .int .i64 C.2.1) (c1 := .int .i64 C.2.2.1) (c2 := .int .i64 C.2.2.2) HQs.o Hvb5.o hs2.o hs3.o HG5.o hs1.o HN5.o
       refine ŝ 11 (fun K hK => ?_)
       go_simp
       refine hK.o _ _ ht4.o (fun _ => ?_)
       clear hK K y0 y1 y2 fy hly
       try simp only [Act.put, ł, ø, đ]
       refine wpAnyH_done (by kernel_rfl) ?_ _
       refine hK' _ _ (Met.intro (hJ _ _ ?_))
       (repeat apply Exists.intro)
       exact ⟨⟨xb4, vb5, XA, XC, rfl, rfl, ht2, ht1, ht3, ht4⟩, rfl⟩
      ·go_simp
       have HP6 := ħ ((HP3.o.on (nwB wc3 _)).and (Per.blk (Blk.new wc3 52 #[.int .i64 0, .int .i64 0, .int .i64 0])));have Hvb6 : Hid (w5.heap.size ≤ wc3.heap.size) := ħ HP3.o.now.1.1.1.1.size
       have HG6 : Hid (∀ q, (Value.slice XA C.1.rs.length XC).ownBlock = some q → q ≠ wc3.heap.size) := ħ (fun q hq => Nat.ne_of_lt (HP3.o.now.2 q hq))
       refine hK.o _ _ HP6.o.now.1.1.1.1.1 (fun _ => ?_)
       clear hK K HP3
       try simp only [Act.put, ł, ø, đ]
       generalize hwx : wc3.alloc (.cells #[.int .i64 0, .int .i64 0, .int .i64 0] 52) = wa6 at *;generalize wc3.heap.size = vb6 at *;clear hwx
       refine ŝ 8 (fun K hK => ?_)
       go_simp;have HP7 := ħ ((HP6.o.on (nwB wa6 _)).and (Per.blk (Blk.new wa6 68 #[.int .i64 0, .int .i64 0, .int .i64 0, .int .i64 0, .slice none 0 0])));have Hxb7 : Hid (w5.heap.size ≤ wa6.heap.size) := ħ HP6.o.now.1.1.1.1.1.size
       have HN7 : Hid (wa6.heap.size ≠ vb6) := ħ (by have := HP6.o.now.2.lt; omega)
       have HF7 : Hid (∀ q, (Value.slice XA C.1.rs.length XC).ownBlock = some q → q ≠ wa6.heap.size) := ħ (fun q hq => Nat.ne_of_lt (HP6.o.now.1.2 q hq))
       refine hK.o _ _ HP7.o.now.1.1.1.1.1.1 (fun _ => ?_)
       clear hK K HP6
       try simp only [Act.put, ł, ø, đ]
       generalize hwx : wa6.alloc (.cells #[.int .i64 0, .int .i64 0, .int .i64 0, .int .i64 0, .slice none 0 0] 68) = wa7 at *;generalize wa6.heap.size = xb7 at *;clear hwx;have z := HP7.o.now.2.c5;have f := HP7.o.now.2.frozen;have hl := HP7.o.now.2.lt;obtain ⟨hs1, hs2, hs3, HQs⟩ := ŷ C XA XC HP7.o.now.2 Hxb7.o HP7.o.now.1.1.1.1.1.1 HP7.o.now.1.1.1.2 HF7.o HP7.o.now.1.2 HN7.o
       refine ŝ 10 (fun K hK => ?_)
       go_simp
       refine hK.o _ _ hs2.o (fun _ => ?_)
       clear hK K z f hl
       try simp only [Act.put, ł, ø, đ]
       generalize ((((wa7.setCell ⟨xb7, 0, none⟩ (.int .i64 C.1.de)).setCell ⟨xb7, 1, none⟩ (.int .i64 C.1.cl)).setCell ⟨xb7, 2, none⟩ (.int .i64 C.1.fu)).setCell ⟨xb7, 3, none⟩ (.int .i64 C.1.st)).setCell ⟨xb7, 4, none⟩ (.slice XA C.1.rs.length XC) = ws at *;have y0 := HQs.o.cell 0;have y1 := HQs.o.cell 1;have y2 := HQs.o.cell 2;have fy := HQs.o.frozen;have hly := HQs.o.lt;obtain ⟨ht1, ht2, ht3, ht4⟩ := õ (c0 := .int .i64 C.2.1) (c1 := .int .i64 C.2.2.1) (c2 := .int .i64 C.2.2.2) HQs.o Hvb6.o hs2.o hs3.o HG6.o hs1.o HN7.o
       refine ŝ 11 (fun K hK => ?_)
       go_simp
       refine hK.o _ _ ht4.o (fun _ => ?_)
       clear hK K y0 y1 y2 fy hly
       try simp only [Act.put, ł, ø, đ]
       refine wpAnyH_done (by kernel_rfl) ?_ _
       refine hK' _ _ (Met.intro (hJ _ _ ?_))
       (repeat apply Exists.intro)
       exact ⟨⟨xb7, vb6, XA, XC, rfl, rfl, ht2, ht1, ht3, ht4⟩, rfl⟩
     ·go_simp
      have HP8 := ħ ((HP2.o.on (nwB wc2 _)).and (Per.blk (Blk.new wc2 68 #[.int .i64 0, .int .i64 0, .int .i64 0, .int .i64 0, .slice none 0 0])));have Hxb8 : Hid (w5.heap.size ≤ wc2.heap.size) := ħ HP2.o.now.1.1.size
      refine hK.o _ _ HP8.o.now.1.1.1 (fun _ => ?_)
      clear hK K HP2
      try simp only [Act.put, ł, ø, đ]
      generalize hwx : wc2.alloc (.cells #[.int .i64 0, .int .i64 0, .int .i64 0, .int .i64 0, .slice none 0 0] 68) = wa8 at *;generalize wc2.heap.size = xb8 at *;clear hwx
      refine wpAnyH_ready (rs := [4, 9]) (by kernel_rfl) (by simp) ?_
      refine AllReadyH.cons rfl (fun K hK => ?_) (AllReadyH.cons rfl (fun K hK => ?_) AllReadyH.nil)
      ·refine ç rfl (by kernel_rfl) (CC.o wa8 _ _ _ _ HP8.o.now.1.1.1 HP8.o.now.1.1.2 HP8.o.now.1.2) ?_
       rintro e wc9 ⟨XA, XC, rfl, hV, hfr, hlt, hb⟩;have HP9 := ħ (((HP8.o.on hb).and (Per.rul hV)).and (Per.own hlt))
       have HF9 : Hid (∀ q, (Value.slice XA C.1.rs.length XC).ownBlock = some q → q ≠ xb8) := ħ (fun q hq => Ź hfr hq HP8.o.now.2.lt)
       refine ⟨_, rfl, hK.o _ _ HP9.o.now.1.1.1.1.1 (fun _ => ?_)⟩
       clear hK K hb hV hfr hlt HP8
       try simp only [Act.put, ł]
       refine ŧ 5 21 (.tuple #[.agg #[.int .i64 C.1.de, .int .i64 C.1.cl, .int .i64 C.1.fu, .int .i64 C.1.st, .slice XA C.1.rs.length XC], .agg #[.int .i64 C.2.1, .int .i64 C.2.2.1, .int .i64 C.2.2.2]]) _ rfl rfl HP9.o.now.1.1.1.1.1 (fun w' hSw => ?_) ?_
       ·clear hSw
        go_simp
       try simp only [Act.put, ł, ø, đ]
       refine ŧ 6 27 (.agg #[.int .i64 C.1.de, .int .i64 C.1.cl, .int .i64 C.1.fu, .int .i64 C.1.st, .slice XA C.1.rs.length XC]) _ rfl rfl HP9.o.now.1.1.1.1.1 (fun w' hSw => ?_) ?_
       ·clear hSw
        go_simp
       simp only []
       refine ŧ 7 28 (.agg #[.int .i64 C.2.1, .int .i64 C.2.2.1, .int .i64 C.2.2.2]) _ rfl rfl HP9.o.now.1.1.1.1.1 (fun w' hSw => ?_) ?_
       ·clear hSw
        go_simp
       simp only []
       refine ŝ 9 (fun K hK => ?_)
       go_simp;have HP10 := ħ ((HP9.o.on (nwB wc9 _)).and (Per.blk (Blk.new wc9 52 #[.int .i64 0, .int .i64 0, .int .i64 0])));have Hvb10 : Hid (w5.heap.size ≤ wc9.heap.size) := ħ HP9.o.now.1.1.1.1.1.size
       have HN10 : Hid (xb8 ≠ wc9.heap.size) := ħ (by have := HP9.o.now.1.1.2.lt; omega)
       have HG10 : Hid (∀ q, (Value.slice XA C.1.rs.length XC).ownBlock = some q → q ≠ wc9.heap.size) := ħ (fun q hq => Nat.ne_of_lt (HP9.o.now.2 q hq))
       refine hK.o _ _ HP10.o.now.1.1.1.1.1.1 (fun _ => ?_)
       clear hK K HP9
       try simp only [Act.put, ł, ø, đ]
       generalize hwx : wc9.alloc (.cells #[.int .i64 0, .int .i64 0, .int .i64 0] 52) = wa10 at *;generalize wc9.heap.size = vb10 at *;clear hwx;have z := HP10.o.now.1.1.1.2.c5;have f := HP10.o.now.1.1.1.2.frozen;have hl := HP10.o.now.1.1.1.2.lt;obtain ⟨hs1, hs2, hs3, HQs⟩ := ŷ C XA XC HP10.o.now.1.1.1.2 Hxb8.o HP10.o.now.1.1.1.1.1.1 HP10.o.now.1.1.2 HF9.o HP10.o.now.2 HN10.o
       refine ŝ 10 (fun K hK => ?_)
       go_simp
       refine hK.o _ _ hs2.o (fun _ => ?_)
       clear hK K z f hl
       try simp only [Act.put, ł, ø, đ]
       generalize ((((wa10.setCell ⟨xb8, 0, none⟩ (.int .i64 C.1.de)).setCell ⟨xb8, 1, none⟩ (.int .i64 C.1.cl)).setCell ⟨xb8, 2, none⟩ (.int .i64 C.1.fu)).setCell ⟨xb8, 3, none⟩ (.int .i64 C.1.st)).setCell ⟨xb8, 4, none⟩ (.slice XA C.1.rs.length XC) = ws at *;have y0 := HQs.o.cell 0;have y1 := HQs.o.cell 1;have y2 := HQs.o.cell 2;have fy := HQs.o.frozen;have hly := HQs.o.lt;obtain ⟨ht1, ht2, ht3, ht4⟩ := õ (c0 := .int .i64 C.2.1) (c1 := .int .i64 C.2.2.1) (c2 := .int .i64 C.2.2.2) HQs.o Hvb10.o hs2.o hs3.o HG10.o hs1.o HN10.o
       refine ŝ 11 (fun K hK => ?_)
       go_simp
       refine hK.o _ _ ht4.o (fun _ => ?_)
       clear hK K y0 y1 y2 fy hly
       try simp only [Act.put, ł, ø, đ]
       refine wpAnyH_done (by kernel_rfl) ?_ _
       refine hK' _ _ (Met.intro (hJ _ _ ?_))
       (repeat apply Exists.intro)
       exact ⟨⟨xb8, vb10, XA, XC, rfl, rfl, ht2, ht1, ht3, ht4⟩, rfl⟩
      ·go_simp
       have HP11 := ħ ((HP8.o.on (nwB wa8 _)).and (Per.blk (Blk.new wa8 52 #[.int .i64 0, .int .i64 0, .int .i64 0])));have Hvb11 : Hid (w5.heap.size ≤ wa8.heap.size) := ħ HP8.o.now.1.1.1.size
       have HN11 : Hid (xb8 ≠ wa8.heap.size) := ħ (by have := HP8.o.now.2.lt; omega)
       refine hK.o _ _ HP11.o.now.1.1.1.1 (fun _ => ?_)
       clear hK K HP8
       try simp only [Act.put, ł, ø, đ]
       generalize hwx : wa8.alloc (.cells #[.int .i64 0, .int .i64 0, .int .i64 0] 52) = wa11 at *;generalize wa8.heap.size = vb11 at *;clear hwx
       refine ŝ 4 (fun K hK => ?_)
       refine ç rfl (by kernel_rfl) (CC.o wa11 _ _ _ _ HP11.o.now.1.1.1.1 HP11.o.now.1.1.1.2 HP11.o.now.1.1.2) ?_
       rintro e wc12 ⟨XA, XC, rfl, hV, hfr, hlt, hb⟩;have HP12 := ħ (((HP11.o.on hb).and (Per.rul hV)).and (Per.own hlt))
       have HF12 : Hid (∀ q, (Value.slice XA C.1.rs.length XC).ownBlock = some q → q ≠ xb8) := ħ (fun q hq => Ź hfr hq HP11.o.now.1.2.lt)
       have HG12 : Hid (∀ q, (Value.slice XA C.1.rs.length XC).ownBlock = some q → q ≠ vb11) := ħ (fun q hq => Ź hfr hq HP11.o.now.2.lt)
       refine ⟨_, rfl, hK.o _ _ HP12.o.now.1.1.1.1.1.1 (fun _ => ?_)⟩
       clear hK K hb hV hfr hlt HP11
       try simp only [Act.put, ł]
       refine ŧ 5 21 (.tuple #[.agg #[.int .i64 C.1.de, .int .i64 C.1.cl, .int .i64 C.1.fu, .int .i64 C.1.st, .slice XA C.1.rs.length XC], .agg #[.int .i64 C.2.1, .int .i64 C.2.2.1, .int .i64 C.2.2.2]]) _ rfl rfl HP12.o.now.1.1.1.1.1.1 (fun w' hSw => ?_) ?_
       ·clear hSw
        go_simp
       try simp only [Act.put, ł, ø, đ]
       refine ŧ 6 27 (.agg #[.int .i64 C.1.de, .int .i64 C.1.cl, .int .i64 C.1.fu, .int .i64 C.1.st, .slice XA C.1.rs.length XC]) _ rfl rfl HP12.o.now.1.1.1.1.1.1 (fun w' hSw => ?_) ?_
       ·clear hSw
        go_simp
       simp only []
       refine ŧ 7 28 (.agg #[.int .i64 C.2.1, .int .i64 C.2.2.1, .int .i64 C.2.2.2]) _ rfl rfl HP12.o.now.1.1.1.1.1.1 (fun w' hSw => ?_) ?_
       ·clear hSw
        go_simp
       simp only [];have z := HP12.o.now.1.1.1.2.c5;have f := HP12.o.now.1.1.1.2.frozen;have hl := HP12.o.now.1.1.1.2.lt;obtain ⟨hs1, hs2, hs3, HQs⟩ := ŷ C XA XC HP12.o.now.1.1.1.2 Hxb8.o HP12.o.now.1.1.1.1.1.1 HP12.o.now.1.2 HF12.o HP12.o.now.1.1.2 HN11.o
       refine ŝ 10 (fun K hK => ?_)
       go_simp
       refine hK.o _ _ hs2.o (fun _ => ?_)
       clear hK K z f hl
       try simp only [Act.put, ł, ø, đ]
       generalize ((((wc12.setCell ⟨xb8, 0, none⟩ (.int .i64 C.1.de)).setCell ⟨xb8, 1, none⟩ (.int .i64 C.1.cl)).setCell ⟨xb8, 2, none⟩ (.int .i64 C.1.fu)).setCell ⟨xb8, 3, none⟩ (.int .i64 C.1.st)).setCell ⟨xb8, 4, none⟩ (.slice XA C.1.rs.length XC) = ws at *;have y0 := HQs.o.cell 0;have y1 := HQs.o.cell 1;have y2 := HQs.o.cell 2;have fy := HQs.o.frozen;have hly := HQs.o.lt;obtain ⟨ht1, ht2, ht3, ht4⟩ := õ (c0 := .int .i64 C.2.1) (c1 := .int .i64 C.2.2.1) (c2 := .int .i64 C.2.2.2) HQs.o Hvb11.o hs2.o hs3.o HG12.o hs1.o HN11.o
       refine ŝ 11 (fun K hK => ?_)
       go_simp
       refine hK.o _ _ ht4.o (fun _ => ?_)
       clear hK K y0 y1 y2 fy hly
       try simp only [Act.put, ł, ø, đ]
       refine wpAnyH_done (by kernel_rfl) ?_ _
       refine hK' _ _ (Met.intro (hJ _ _ ?_))
       (repeat apply Exists.intro)
       exact ⟨⟨xb8, vb11, XA, XC, rfl, rfl, ht2, ht1, ht3, ht4⟩, rfl⟩
     ·go_simp
      have HP13 := ħ ((HP2.o.on (nwB wc2 _)).and (Per.blk (Blk.new wc2 52 #[.int .i64 0, .int .i64 0, .int .i64 0])));have Hvb13 : Hid (w5.heap.size ≤ wc2.heap.size) := ħ HP2.o.now.1.1.size
      refine hK.o _ _ HP13.o.now.1.1.1 (fun _ => ?_)
      clear hK K HP2
      try simp only [Act.put, ł, ø, đ]
      generalize hwx : wc2.alloc (.cells #[.int .i64 0, .int .i64 0, .int .i64 0] 52) = wa13 at *;generalize wc2.heap.size = vb13 at *;clear hwx
      refine wpAnyH_ready (rs := [4, 8]) (by kernel_rfl) (by simp) ?_
      refine AllReadyH.cons rfl (fun K hK => ?_) (AllReadyH.cons rfl (fun K hK => ?_) AllReadyH.nil)
      ·refine ç rfl (by kernel_rfl) (CC.o wa13 _ _ _ _ HP13.o.now.1.1.1 HP13.o.now.1.1.2 HP13.o.now.1.2) ?_
       rintro e wc14 ⟨XA, XC, rfl, hV, hfr, hlt, hb⟩;have HP14 := ħ (((HP13.o.on hb).and (Per.rul hV)).and (Per.own hlt))
       have HG14 : Hid (∀ q, (Value.slice XA C.1.rs.length XC).ownBlock = some q → q ≠ vb13) := ħ (fun q hq => Ź hfr hq HP13.o.now.2.lt)
       refine ⟨_, rfl, hK.o _ _ HP14.o.now.1.1.1.1.1 (fun _ => ?_)⟩
       clear hK K hb hV hfr hlt HP13
       try simp only [Act.put, ł]
       refine ŧ 5 21 (.tuple #[.agg #[.int .i64 C.1.de, .int .i64 C.1.cl, .int .i64 C.1.fu, .int .i64 C.1.st, .slice XA C.1.rs.length XC], .agg #[.int .i64 C.2.1, .int .i64 C.2.2.1, .int .i64 C.2.2.2]]) _ rfl rfl HP14.o.now.1.1.1.1.1 (fun w' hSw => ?_) ?_
       ·clear hSw
        go_simp
       try simp only [Act.put, ł, ø, đ]
       refine ŧ 6 27 (.agg #[.int .i64 C.1.de, .int .i64 C.1.cl, .int .i64 C.1.fu, .int .i64 C.1.st, .slice XA C.1.rs.length XC]) _ rfl rfl HP14.o.now.1.1.1.1.1 (fun w' hSw => ?_) ?_
       ·clear hSw
        go_simp
       simp only []
       refine ŧ 7 28 (.agg #[.int .i64 C.2.1, .int .i64 C.2.2.1, .int .i64 C.2.2.2]) _ rfl rfl HP14.o.now.1.1.1.1.1 (fun w' hSw => ?_) ?_
       ·clear hSw
        go_simp
       simp only []
       refine ŝ 8 (fun K hK => ?_)
       go_simp;have HP15 := ħ ((HP14.o.on (nwB wc14 _)).and (Per.blk (Blk.new wc14 68 #[.int .i64 0, .int .i64 0, .int .i64 0, .int .i64 0, .slice none 0 0])));have Hxb15 : Hid (w5.heap.size ≤ wc14.heap.size) := ħ HP14.o.now.1.1.1.1.1.size
       have HN15 : Hid (wc14.heap.size ≠ vb13) := ħ (by have := HP14.o.now.1.1.2.lt; omega)
       have HF15 : Hid (∀ q, (Value.slice XA C.1.rs.length XC).ownBlock = some q → q ≠ wc14.heap.size) := ħ (fun q hq => Nat.ne_of_lt (HP14.o.now.2 q hq))
       refine hK.o _ _ HP15.o.now.1.1.1.1.1.1 (fun _ => ?_)
       clear hK K HP14
       try simp only [Act.put, ł, ø, đ]
       generalize hwx : wc14.alloc (.cells #[.int .i64 0, .int .i64 0, .int .i64 0, .int .i64 0, .slice none 0 0] 68) = wa15 at *;generalize wc14.heap.size = xb15 at *;clear hwx;have z := HP15.o.now.2.c5;have f := HP15.o.now.2.frozen;have hl := HP15.o.now.2.lt;obtain ⟨hs1, hs2, hs3, HQs⟩ := ŷ C XA XC HP15.o.now.2 Hxb15.o HP15.o.now.1.1.1.1.1.1 HP15.o.now.1.1.2 HF15.o HP15.o.now.1.1.1.2 HN15.o
       refine ŝ 10 (fun K hK => ?_)
       go_simp
       refine hK.o _ _ hs2.o (fun _ => ?_)
       clear hK K z f hl
       try simp only [Act.put, ł, ø, đ]
       generalize ((((wa15.setCell ⟨xb15, 0, none⟩ (.int .i64 C.1.de)).setCell ⟨xb15, 1, none⟩ (.int .i64 C.1.cl)).setCell ⟨xb15, 2, none⟩ (.int .i64 C.1.fu)).setCell ⟨xb15, 3, none⟩ (.int .i64 C.1.st)).setCell ⟨xb15, 4, none⟩ (.slice XA C.1.rs.length XC) = ws at *;have y0 := HQs.o.cell 0;have y1 := HQs.o.cell 1;have y2 := HQs.o.cell 2;have fy := HQs.o.frozen;have hly := HQs.o.lt;obtain ⟨ht1, ht2, ht3, ht4⟩ := õ (c0 := .int .i64 C.2.1) (c1 := .int .i64 C.2.2.1) (c2 := .int .i64 C.2.2.2) HQs.o Hvb13.o hs2.o hs3.o HG14.o hs1.o HN15.o
       refine ŝ 11 (fun K hK => ?_)
       go_simp
       refine hK.o _ _ ht4.o (fun _ => ?_)
       clear hK K y0 y1 y2 fy hly
       try simp only [Act.put, ł, ø, đ]
       refine wpAnyH_done (by kernel_rfl) ?_ _
       refine hK' _ _ (Met.intro (hJ _ _ ?_))
       (repeat apply Exists.intro)
       exact ⟨⟨xb15, vb13, XA, XC, rfl, rfl, ht2, ht1, ht3, ht4⟩, rfl⟩
      ·go_simp
       have HP16 := ħ ((HP13.o.on (nwB wa13 _)).and (Per.blk (Blk.new wa13 68 #[.int .i64 0, .int .i64 0, .int .i64 0, .int .i64 0, .slice none 0 0])));have Hxb16 : Hid (w5.heap.size ≤ wa13.heap.size) := ħ HP13.o.now.1.1.1.size
       have HN16 : Hid (wa13.heap.size ≠ vb13) := ħ (by have := HP13.o.now.2.lt; omega)
       refine hK.o _ _ HP16.o.now.1.1.1.1 (fun _ => ?_)
       clear hK K HP13
       try simp only [Act.put, ł, ø, đ]
       generalize hwx : wa13.alloc (.cells #[.int .i64 0, .int .i64 0, .int .i64 0, .int .i64 0, .slice none 0 0] 68) = wa16 at *;generalize wa13.heap.size = xb16 at *;clear hwx
       refine ŝ 4 (fun K hK => ?_)
       refine ç rfl (by kernel_rfl) (CC.o wa16 _ _ _ _ HP16.o.now.1.1.1.1 HP16.o.now.1.1.1.2 HP16.o.now.1.1.2) ?_
       rintro e wc17 ⟨XA, XC, rfl, hV, hfr, hlt, hb⟩;have HP17 := ħ (((HP16.o.on hb).and (Per.rul hV)).and (Per.own hlt))
       have HF17 : Hid (∀ q, (Value.slice XA C.1.rs.length XC).ownBlock = some q → q ≠ xb16) := ħ (fun q hq => Ź hfr hq HP16.o.now.2.lt)
       have HG17 : Hid (∀ q, (Value.slice XA C.1.rs.length XC).ownBlock = some q → q ≠ vb13) := ħ (fun q hq => Ź hfr hq HP16.o.now.1.2.lt)
       refine ⟨_, rfl, hK.o _ _ HP17.o.now.1.1.1.1.1.1 (fun _ => ?_)⟩
       clear hK K hb hV hfr hlt HP16
       try simp only [Act.put, ł]
       refine ŧ 5 21 (.tuple #[.agg #[.int .i64 C.1.de, .int .i64 C.1.cl, .int .i64 C.1.fu, .int .i64 C.1.st, .slice XA C.1.rs.length XC], .agg #[.int .i64 C.2.1, .int .i64 C.2.2.1, .int .i64 C.2.2.2]]) _ rfl rfl HP17.o.now.1.1.1.1.1.1 (fun w' hSw => ?_) ?_
       ·clear hSw
        go_simp
       try simp only [Act.put, ł, ø, đ]
       refine ŧ 6 27 (.agg #[.int .i64 C.1.de, .int .i64 C.1.cl, .int .i64 C.1.fu, .int .i64 C.1.st, .slice XA C.1.rs.length XC]) _ rfl rfl HP17.o.now.1.1.1.1.1.1 (fun w' hSw => ?_) ?_
       ·clear hSw
        go_simp
       simp only []
       refine ŧ 7 28 (.agg #[.int .i64 C.2.1, .int .i64 C.2.2.1, .int .i64 C.2.2.2]) _ rfl rfl HP17.o.now.1.1.1.1.1.1 (fun w' hSw => ?_) ?_
       ·clear hSw
        go_simp
       simp only [];have z := HP17.o.now.1.1.2.c5;have f := HP17.o.now.1.1.2.frozen;have hl := HP17.o.now.1.1.2.lt;obtain ⟨hs1, hs2, hs3, HQs⟩ := ŷ C XA XC HP17.o.now.1.1.2 Hxb16.o HP17.o.now.1.1.1.1.1.1 HP17.o.now.1.2 HF17.o HP17.o.now.1.1.1.2 HN16.o
       refine ŝ 10 (fun K hK => ?_)
       go_simp
       refine hK.o _ _ hs2.o (fun _ => ?_)
       clear hK K z f hl
       try simp only [Act.put, ł, ø, đ]
       generalize ((((wc17.setCell ⟨xb16, 0, none⟩ (.int .i64 C.1.de)).setCell ⟨xb16, 1, none⟩ (.int .i64 C.1.cl)).setCell ⟨xb16, 2, none⟩ (.int .i64 C.1.fu)).setCell ⟨xb16, 3, none⟩ (.int .i64 C.1.st)).setCell ⟨xb16, 4, none⟩ (.slice XA C.1.rs.length XC) = ws at *;have y0 := HQs.o.cell 0;have y1 := HQs.o.cell 1;have y2 := HQs.o.cell 2;have fy := HQs.o.frozen;have hly := HQs.o.lt;obtain ⟨ht1, ht2, ht3, ht4⟩ := õ (c0 := .int .i64 C.2.1) (c1 := .int .i64 C.2.2.1) (c2 := .int .i64 C.2.2.2) HQs.o Hvb13.o hs2.o hs3.o HG17.o hs1.o HN16.o
       refine ŝ 11 (fun K hK => ?_)
       go_simp
       refine hK.o _ _ ht4.o (fun _ => ?_)
       clear hK K y0 y1 y2 fy hly
       try simp only [Act.put, ł, ø, đ]
       refine wpAnyH_done (by kernel_rfl) ?_ _
       refine hK' _ _ (Met.intro (hJ _ _ ?_))
       (repeat apply Exists.intro)
       exact ⟨⟨xb16, vb13, XA, XC, rfl, rfl, ht2, ht1, ht3, ht4⟩, rfl⟩
    ·go_simp
     have HP18 := ħ ((HP1.o.on (nwB wc1 _)).and (Per.blk (Blk.new wc1 68 #[.int .i64 0, .int .i64 0, .int .i64 0, .int .i64 0, .slice none 0 0])));have Hxb18 : Hid (w5.heap.size ≤ wc1.heap.size) := ħ HP1.o.now.1.size
     refine hK.o _ _ HP18.o.now.1.1 (fun _ => ?_)
     clear hK K HP1
     try simp only [Act.put, ł, ø, đ]
     generalize hwx : wc1.alloc (.cells #[.int .i64 0, .int .i64 0, .int .i64 0, .int .i64 0, .slice none 0 0] 68) = wa18 at *;generalize wc1.heap.size = xb18 at *;clear hwx
     refine wpAnyH_ready (rs := [3, 9]) (by kernel_rfl) (by simp) ?_
     refine AllReadyH.cons rfl (fun K hK => ?_) (AllReadyH.cons rfl (fun K hK => ?_) AllReadyH.nil)
     ·refine ç rfl (by kernel_rfl) (CD.o wa18 HP18.o.now.1.1) ?_
      rintro e wc19 ⟨UA, UC, rfl, hV, hb⟩;have HP19 := ħ ((HP18.o.on hb).and (Per.rul hV))
      refine ⟨_, rfl, hK.o _ _ HP19.o.now.1.1.1 (fun _ => ?_)⟩
      clear hK K hb hV HP18
      try simp only [Act.put, ł]
      refine wpAnyH_ready (rs := [4, 9]) (by kernel_rfl) (by simp) ?_
      refine AllReadyH.cons rfl (fun K hK => ?_) (AllReadyH.cons rfl (fun K hK => ?_) AllReadyH.nil)
      ·refine ç rfl (by kernel_rfl) (CC.o wc19 _ _ _ _ HP19.o.now.1.1.1 HP19.o.now.1.1.2 HP19.o.now.2) ?_
       rintro e wc20 ⟨XA, XC, rfl, hV, hfr, hlt, hb⟩;have HP20 := ħ (((HP19.o.on hb).and (Per.rul hV)).and (Per.own hlt))
       have HF20 : Hid (∀ q, (Value.slice XA C.1.rs.length XC).ownBlock = some q → q ≠ xb18) := ħ (fun q hq => Ź hfr hq HP19.o.now.1.2.lt)
       refine ⟨_, rfl, hK.o _ _ HP20.o.now.1.1.1.1.1 (fun _ => ?_)⟩
       clear hK K hb hV hfr hlt HP19
       try simp only [Act.put]
       refine ŧ 5 21 (.tuple #[.agg #[.int .i64 C.1.de, .int .i64 C.1.cl, .int .i64 C.1.fu, .int .i64 C.1.st, .slice XA C.1.rs.length XC], .agg #[.int .i64 C.2.1, .int .i64 C.2.2.1, .int .i64 C.2.2.2]]) _ rfl rfl HP20.o.now.1.1.1.1.1 (fun w' hSw => ?_) ?_
       ·clear hSw
        go_simp
       try simp only [Act.put, ł, ø, đ]
       refine ŧ 6 27 (.agg #[.int .i64 C.1.de, .int .i64 C.1.cl, .int .i64 C.1.fu, .int .i64 C.1.st, .slice XA C.1.rs.length XC]) _ rfl rfl HP20.o.now.1.1.1.1.1 (fun w' hSw => ?_) ?_
       ·clear hSw
        go_simp
       simp only []
       refine ŧ 7 28 (.agg #[.int .i64 C.2.1, .int .i64 C.2.2.1, .int .i64 C.2.2.2]) _ rfl rfl HP20.o.now.1.1.1.1.1 (fun w' hSw => ?_) ?_
       ·clear hSw
        go_simp
       simp only []
       refine ŝ 9 (fun K hK => ?_)
       go_simp;have HP21 := ħ ((HP20.o.on (nwB wc20 _)).and (Per.blk (Blk.new wc20 52 #[.int .i64 0, .int .i64 0, .int .i64 0])));have Hvb21 : Hid (w5.heap.size ≤ wc20.heap.size) := ħ HP20.o.now.1.1.1.1.1.size
       have HN21 : Hid (xb18 ≠ wc20.heap.size) := ħ (by have := HP20.o.now.1.1.1.2.lt; omega)
       have HG21 : Hid (∀ q, (Value.slice XA C.1.rs.length XC).ownBlock = some q → q ≠ wc20.heap.size) := ħ (fun q hq => Nat.ne_of_lt (HP20.o.now.2 q hq))
       refine hK.o _ _ HP21.o.now.1.1.1.1.1.1 (fun _ => ?_)
       clear hK K HP20
       try simp only [Act.put, ł, ø, đ]
       generalize hwx : wc20.alloc (.cells #[.int .i64 0, .int .i64 0, .int .i64 0] 52) = wa21 at *;generalize wc20.heap.size = vb21 at *;clear hwx;have z := HP21.o.now.1.1.1.1.2.c5;have f := HP21.o.now.1.1.1.1.2.frozen;have hl := HP21.o.now.1.1.1.1.2.lt;obtain ⟨hs1, hs2, hs3, HQs⟩ := ŷ C XA XC HP21.o.now.1.1.1.1.2 Hxb18.o HP21.o.now.1.1.1.1.1.1 HP21.o.now.1.1.2 HF20.o HP21.o.now.2 HN21.o
       refine ŝ 10 (fun K hK => ?_)
       go_simp
       refine hK.o _ _ hs2.o (fun _ => ?_)
       clear hK K z f hl
       try simp only [Act.put, ł, ø, đ]
       generalize ((((wa21.setCell ⟨xb18, 0, none⟩ (.int .i64 C.1.de)).setCell ⟨xb18, 1, none⟩ (.int .i64 C.1.cl)).setCell ⟨xb18, 2, none⟩ (.int .i64 C.1.fu)).setCell ⟨xb18, 3, none⟩ (.int .i64 C.1.st)).setCell ⟨xb18, 4, none⟩ (.slice XA C.1.rs.length XC) = ws at *;have y0 := HQs.o.cell 0;have y1 := HQs.o.cell 1;have y2 := HQs.o.cell 2;have fy := HQs.o.frozen;have hly := HQs.o.lt;obtain ⟨ht1, ht2, ht3, ht4⟩ := õ (c0 := .int .i64 C.2.1) (c1 := .int .i64 C.2.2.1) (c2 := .int .i64 C.2.2.2) HQs.o Hvb21.o hs2.o hs3.o HG21.o hs1.o HN21.o
       refine ŝ 11 (fun K hK => ?_)
       go_simp
       refine hK.o _ _ ht4.o (fun _ => ?_)
       clear hK K y0 y1 y2 fy hly
       try simp only [Act.put, ł, ø, đ]
       refine wpAnyH_done (by kernel_rfl) ?_ _
       refine hK' _ _ (Met.intro (hJ _ _ ?_))
       (repeat apply Exists.intro)
       exact ⟨⟨xb18, vb21, XA, XC, rfl, rfl, ht2, ht1, ht3, ht4⟩, rfl⟩
      ·go_simp
       have HP22 := ħ ((HP19.o.on (nwB wc19 _)).and (Per.blk (Blk.new wc19 52 #[.int .i64 0, .int .i64 0, .int .i64 0])));have Hvb22 : Hid (w5.heap.size ≤ wc19.heap.size) := ħ HP19.o.now.1.1.1.size
       have HN22 : Hid (xb18 ≠ wc19.heap.size) := ħ (by have := HP19.o.now.1.2.lt; omega)
       refine hK.o _ _ HP22.o.now.1.1.1.1 (fun _ => ?_)
       clear hK K HP19
       try simp only [Act.put, ł, ø, đ]
       generalize hwx : wc19.alloc (.cells #[.int .i64 0, .int .i64 0, .int .i64 0] 52) = wa22 at *;generalize wc19.heap.size = vb22 at *;clear hwx
       refine ŝ 4 (fun K hK => ?_)
       refine ç rfl (by kernel_rfl) (CC.o wa22 _ _ _ _ HP22.o.now.1.1.1.1 HP22.o.now.1.1.1.2 HP22.o.now.1.2) ?_
       rintro e wc23 ⟨XA, XC, rfl, hV, hfr, hlt, hb⟩;have HP23 := ħ (((HP22.o.on hb).and (Per.rul hV)).and (Per.own hlt))
       have HF23 : Hid (∀ q, (Value.slice XA C.1.rs.length XC).ownBlock = some q → q ≠ xb18) := ħ (fun q hq => Ź hfr hq HP22.o.now.1.1.2.lt)
       have HG23 : Hid (∀ q, (Value.slice XA C.1.rs.length XC).ownBlock = some q → q ≠ vb22) := ħ (fun q hq => Ź hfr hq HP22.o.now.2.lt)
       refine ⟨_, rfl, hK.o _ _ HP23.o.now.1.1.1.1.1.1 (fun _ => ?_)⟩
       clear hK K hb hV hfr hlt HP22
       try simp only [Act.put, ł]
       refine ŧ 5 21 (.tuple #[.agg #[.int .i64 C.1.de, .int .i64 C.1.cl, .int .i64 C.1.fu, .int .i64 C.1.st, .slice XA C.1.rs.length XC], .agg #[.int .i64 C.2.1, .int .i64 C.2.2.1, .int .i64 C.2.2.2]]) _ rfl rfl HP23.o.now.1.1.1.1.1.1 (fun w' hSw => ?_) ?_
       ·clear hSw
        go_simp
       try simp only [Act.put, ł, ø, đ]
       refine ŧ 6 27 (.agg #[.int .i64 C.1.de, .int .i64 C.1.cl, .int .i64 C.1.fu, .int .i64 C.1.st, .slice XA C.1.rs.length XC]) _ rfl rfl HP23.o.now.1.1.1.1.1.1 (fun w' hSw => ?_) ?_
       ·clear hSw
        go_simp
       simp only []
       refine ŧ 7 28 (.agg #[.int .i64 C.2.1, .int .i64 C.2.2.1, .int .i64 C.2.2.2]) _ rfl rfl HP23.o.now.1.1.1.1.1.1 (fun w' hSw => ?_) ?_
       ·clear hSw
        go_simp
       simp only [];have z := HP23.o.now.1.1.1.1.2.c5;have f := HP23.o.now.1.1.1.1.2.frozen;have hl := HP23.o.now.1.1.1.1.2.lt;obtain ⟨hs1, hs2, hs3, HQs⟩ := ŷ C XA XC HP23.o.now.1.1.1.1.2 Hxb18.o HP23.o.now.1.1.1.1.1.1 HP23.o.now.1.2 HF23.o HP23.o.now.1.1.2 HN22.o
       refine ŝ 10 (fun K hK => ?_)
       go_simp
       refine hK.o _ _ hs2.o (fun _ => ?_)
       clear hK K z f hl
       try simp only [Act.put, ł, ø, đ]
       generalize ((((wc23.setCell ⟨xb18, 0, none⟩ (.int .i64 C.1.de)).setCell ⟨xb18, 1, none⟩ (.int .i64 C.1.cl)).setCell ⟨xb18, 2, none⟩ (.int .i64 C.1.fu)).setCell ⟨xb18, 3, none⟩ (.int .i64 C.1.st)).setCell ⟨xb18, 4, none⟩ (.slice XA C.1.rs.length XC) = ws at *;have y0 := HQs.o.cell 0;have y1 := HQs.o.cell 1;have y2 := HQs.o.cell 2;have fy := HQs.o.frozen;have hly := HQs.o.lt;obtain ⟨ht1, ht2, ht3, ht4⟩ := õ (c0 := .int .i64 C.2.1) (c1 := .int .i64 C.2.2.1) (c2 := .int .i64 C.2.2.2) HQs.o Hvb22.o hs2.o hs3.o HG23.o hs1.o HN22.o
       refine ŝ 11 (fun K hK => ?_)
       go_simp
       refine hK.o _ _ ht4.o (fun _ => ?_)
       clear hK K y0 y1 y2 fy hly
       try simp only [Act.put, ł, ø, đ]
       refine wpAnyH_done (by kernel_rfl) ?_ _
       refine hK' _ _ (Met.intro (hJ _ _ ?_))
       (repeat apply Exists.intro)
       exact ⟨⟨xb18, vb22, XA, XC, rfl, rfl, ht2, ht1, ht3, ht4⟩, rfl⟩
     ·go_simp
      have HP24 := ħ ((HP18.o.on (nwB wa18 _)).and (Per.blk (Blk.new wa18 52 #[.int .i64 0, .int .i64 0, .int .i64 0])));have Hvb24 : Hid (w5.heap.size ≤ wa18.heap.size) := ħ HP18.o.now.1.1.size
      have HN24 : Hid (xb18 ≠ wa18.heap.size) := ħ (by have := HP18.o.now.2.lt; omega)
      refine hK.o _ _ HP24.o.now.1.1.1 (fun _ => ?_)
      clear hK K HP18
      try simp only [Act.put, ł, ø, đ]
      generalize hwx : wa18.alloc (.cells #[.int .i64 0, .int .i64 0, .int .i64 0] 52) = wa24 at *;generalize wa18.heap.size = vb24 at *;clear hwx
      refine ŝ 3 (fun K hK => ?_)
      refine ç rfl (by kernel_rfl) (CD.o wa24 HP24.o.now.1.1.1) ?_
      rintro e wc25 ⟨UA, UC, rfl, hV, hb⟩;have HP25 := ħ ((HP24.o.on hb).and (Per.rul hV))
      refine ⟨_, rfl, hK.o _ _ HP25.o.now.1.1.1.1 (fun _ => ?_)⟩
      clear hK K hb hV HP24
      try simp only [Act.put, ł]
      refine ŝ 4 (fun K hK => ?_)
      refine ç rfl (by kernel_rfl) (CC.o wc25 _ _ _ _ HP25.o.now.1.1.1.1 HP25.o.now.1.1.1.2 HP25.o.now.2) ?_
      rintro e wc26 ⟨XA, XC, rfl, hV, hfr, hlt, hb⟩;have HP26 := ħ (((HP25.o.on hb).and (Per.rul hV)).and (Per.own hlt))
      have HF26 : Hid (∀ q, (Value.slice XA C.1.rs.length XC).ownBlock = some q → q ≠ xb18) := ħ (fun q hq => Ź hfr hq HP25.o.now.1.1.2.lt)
      have HG26 : Hid (∀ q, (Value.slice XA C.1.rs.length XC).ownBlock = some q → q ≠ vb24) := ħ (fun q hq => Ź hfr hq HP25.o.now.1.2.lt)
      refine ⟨_, rfl, hK.o _ _ HP26.o.now.1.1.1.1.1.1 (fun _ => ?_)⟩
      clear hK K hb hV hfr hlt HP25
      try simp only [Act.put]
      refine ŧ 5 21 (.tuple #[.agg #[.int .i64 C.1.de, .int .i64 C.1.cl, .int .i64 C.1.fu, .int .i64 C.1.st, .slice XA C.1.rs.length XC], .agg #[.int .i64 C.2.1, .int .i64 C.2.2.1, .int .i64 C.2.2.2]]) _ rfl rfl HP26.o.now.1.1.1.1.1.1 (fun w' hSw => ?_) ?_
      ·clear hSw
       go_simp
      try simp only [Act.put, ł, ø, đ]
      refine ŧ 6 27 (.agg #[.int .i64 C.1.de, .int .i64 C.1.cl, .int .i64 C.1.fu, .int .i64 C.1.st, .slice XA C.1.rs.length XC]) _ rfl rfl HP26.o.now.1.1.1.1.1.1 (fun w' hSw => ?_) ?_
      ·clear hSw
       go_simp
      simp only []
      refine ŧ 7 28 (.agg #[.int .i64 C.2.1, .int .i64 C.2.2.1, .int .i64 C.2.2.2]) _ rfl rfl HP26.o.now.1.1.1.1.1.1 (fun w' hSw => ?_) ?_
      ·clear hSw
       go_simp
      simp only [];have z := HP26.o.now.1.1.1.1.2.c5;have f := HP26.o.now.1.1.1.1.2.frozen;have hl := HP26.o.now.1.1.1.1.2.lt;obtain ⟨hs1, hs2, hs3, HQs⟩ := ŷ C XA XC HP26.o.now.1.1.1.1.2 Hxb18.o HP26.o.now.1.1.1.1.1.1 HP26.o.now.1.2 HF26.o HP26.o.now.1.1.1.2 HN24.o
      refine ŝ 10 (fun K hK => ?_)
      go_simp
      refine hK.o _ _ hs2.o (fun _ => ?_)
      clear hK K z f hl
      try simp only [Act.put, ł, ø, đ]
      generalize ((((wc26.setCell ⟨xb18, 0, none⟩ (.int .i64 C.1.de)).setCell ⟨xb18, 1, none⟩ (.int .i64 C.1.cl)).setCell ⟨xb18, 2, none⟩ (.int .i64 C.1.fu)).setCell ⟨xb18, 3, none⟩ (.int .i64 C.1.st)).setCell ⟨xb18, 4, none⟩ (.slice XA C.1.rs.length XC) = ws at *;have y0 := HQs.o.cell 0;have y1 := HQs.o.cell 1;have y2 := HQs.o.cell 2;have fy := HQs.o.frozen;have hly := HQs.o.lt;obtain ⟨ht1, ht2, ht3, ht4⟩ := õ (c0 := .int .i64 C.2.1) (c1 := .int .i64 C.2.2.1) (c2 := .int .i64 C.2.2.2) HQs.o Hvb24.o hs2.o hs3.o HG26.o hs1.o HN24.o
      refine ŝ 11 (fun K hK => ?_)
      go_simp
      refine hK.o _ _ ht4.o (fun _ => ?_)
      clear hK K y0 y1 y2 fy hly
      try simp only [Act.put, ł, ø, đ]
      refine wpAnyH_done (by kernel_rfl) ?_ _
      refine hK' _ _ (Met.intro (hJ _ _ ?_))
      (repeat apply Exists.intro)
      exact ⟨⟨xb18, vb24, XA, XC, rfl, rfl, ht2, ht1, ht3, ht4⟩, rfl⟩
    ·go_simp
     have HP27 := ħ ((HP1.o.on (nwB wc1 _)).and (Per.blk (Blk.new wc1 52 #[.int .i64 0, .int .i64 0, .int .i64 0])));have Hvb27 : Hid (w5.heap.size ≤ wc1.heap.size) := ħ HP1.o.now.1.size
     refine hK.o _ _ HP27.o.now.1.1 (fun _ => ?_)
     clear hK K HP1
     try simp only [Act.put, ł, ø, đ]
     generalize hwx : wc1.alloc (.cells #[.int .i64 0, .int .i64 0, .int .i64 0] 52) = wa27 at *;generalize wc1.heap.size = vb27 at *;clear hwx
     refine wpAnyH_ready (rs := [3, 8]) (by kernel_rfl) (by simp) ?_
     refine AllReadyH.cons rfl (fun K hK => ?_) (AllReadyH.cons rfl (fun K hK => ?_) AllReadyH.nil)
     ·refine ç rfl (by kernel_rfl) (CD.o wa27 HP27.o.now.1.1) ?_
      rintro e wc28 ⟨UA, UC, rfl, hV, hb⟩;have HP28 := ħ ((HP27.o.on hb).and (Per.rul hV))
      refine ⟨_, rfl, hK.o _ _ HP28.o.now.1.1.1 (fun _ => ?_)⟩
      clear hK K hb hV HP27
      try simp only [Act.put, ł]
      refine wpAnyH_ready (rs := [4, 8]) (by kernel_rfl) (by simp) ?_
      refine AllReadyH.cons rfl (fun K hK => ?_) (AllReadyH.cons rfl (fun K hK => ?_) AllReadyH.nil)
      ·refine ç rfl (by kernel_rfl) (CC.o wc28 _ _ _ _ HP28.o.now.1.1.1 HP28.o.now.1.1.2 HP28.o.now.2) ?_
       rintro e wc29 ⟨XA, XC, rfl, hV, hfr, hlt, hb⟩;have HP29 := ħ (((HP28.o.on hb).and (Per.rul hV)).and (Per.own hlt))
       have HG29 : Hid (∀ q, (Value.slice XA C.1.rs.length XC).ownBlock = some q → q ≠ vb27) := ħ (fun q hq => Ź hfr hq HP28.o.now.1.2.lt)
       refine ⟨_, rfl, hK.o _ _ HP29.o.now.1.1.1.1.1 (fun _ => ?_)⟩
       clear hK K hb hV hfr hlt HP28
       try simp only [Act.put]
       refine ŧ 5 21 (.tuple #[.agg #[.int .i64 C.1.de, .int .i64 C.1.cl, .int .i64 C.1.fu, .int .i64 C.1.st, .slice XA C.1.rs.length XC], .agg #[.int .i64 C.2.1, .int .i64 C.2.2.1, .int .i64 C.2.2.2]]) _ rfl rfl HP29.o.now.1.1.1.1.1 (fun w' hSw => ?_) ?_
       ·clear hSw
        go_simp
       try simp only [Act.put, ł, ø, đ]
       refine ŧ 6 27 (.agg #[.int .i64 C.1.de, .int .i64 C.1.cl, .int .i64 C.1.fu, .int .i64 C.1.st, .slice XA C.1.rs.length XC]) _ rfl rfl HP29.o.now.1.1.1.1.1 (fun w' hSw => ?_) ?_
       ·clear hSw
        go_simp
       simp only []
       refine ŧ 7 28 (.agg #[.int .i64 C.2.1, .int .i64 C.2.2.1, .int .i64 C.2.2.2]) _ rfl rfl HP29.o.now.1.1.1.1.1 (fun w' hSw => ?_) ?_
       ·clear hSw
        go_simp
       simp only []
       refine ŝ 8 (fun K hK => ?_)
       go_simp;have HP30 := ħ ((HP29.o.on (nwB wc29 _)).and (Per.blk (Blk.new wc29 68 #[.int .i64 0, .int .i64 0, .int .i64 0, .int .i64 0, .slice none 0 0])));have Hxb30 : Hid (w5.heap.size ≤ wc29.heap.size) := ħ HP29.o.now.1.1.1.1.1.size
       have HN30 : Hid (wc29.heap.size ≠ vb27) := ħ (by have := HP29.o.now.1.1.1.2.lt; omega)
       have HF30 : Hid (∀ q, (Value.slice XA C.1.rs.length XC).ownBlock = some q → q ≠ wc29.heap.size) := ħ (fun q hq => Nat.ne_of_lt (HP29.o.now.2 q hq))
       refine hK.o _ _ HP30.o.now.1.1.1.1.1.1 (fun _ => ?_)
       clear hK K HP29
       try simp only [Act.put, ł, ø, đ]
       generalize hwx : wc29.alloc (.cells #[.int .i64 0, .int .i64 0, .int .i64 0, .int .i64 0, .slice none 0 0] 68) = wa30 at *;generalize wc29.heap.size = xb30 at *;clear hwx;have z := HP30.o.now.2.c5;have f := HP30.o.now.2.frozen;have hl := HP30.o.now.2.lt;obtain ⟨hs1, hs2, hs3, HQs⟩ := ŷ C XA XC HP30.o.now.2 Hxb30.o HP30.o.now.1.1.1.1.1.1 HP30.o.now.1.1.2 HF30.o HP30.o.now.1.1.1.1.2 HN30.o
       refine ŝ 10 (fun K hK => ?_)
       go_simp
       refine hK.o _ _ hs2.o (fun _ => ?_)
       clear hK K z f hl
       try simp only [Act.put, ł, ø, đ]
       generalize ((((wa30.setCell ⟨xb30, 0, none⟩ (.int .i64 C.1.de)).setCell ⟨xb30, 1, none⟩ (.int .i64 C.1.cl)).setCell ⟨xb30, 2, none⟩ (.int .i64 C.1.fu)).setCell ⟨xb30, 3, none⟩ (.int .i64 C.1.st)).setCell ⟨xb30, 4, none⟩ (.slice XA C.1.rs.length XC) = ws at *;have y0 := HQs.o.cell 0;have y1 := HQs.o.cell 1;have y2 := HQs.o.cell 2;have fy := HQs.o.frozen;have hly := HQs.o.lt;obtain ⟨ht1, ht2, ht3, ht4⟩ := õ (c0 := .int .i64 C.2.1) (c1 := .int .i64 C.2.2.1) (c2 := .int .i64 C.2.2.2) HQs.o Hvb27.o hs2.o hs3.o HG29.o hs1.o HN30.o
       refine ŝ 11 (fun K hK => ?_)
       go_simp
       refine hK.o _ _ ht4.o (fun _ => ?_)
       clear hK K y0 y1 y2 fy hly
       try simp only [Act.put, ł, ø, đ]
       refine wpAnyH_done (by kernel_rfl) ?_ _
       refine hK' _ _ (Met.intro (hJ _ _ ?_))
       (repeat apply Exists.intro)
       exact ⟨⟨xb30, vb27, XA, XC, rfl, rfl, ht2, ht1, ht3, ht4⟩, rfl⟩
      ·go_simp
       have HP31 := ħ ((HP28.o.on (nwB wc28 _)).and (Per.blk (Blk.new wc28 68 #[.int .i64 0, .int .i64 0, .int .i64 0, .int .i64 0, .slice none 0 0])));have Hxb31 : Hid (w5.heap.size ≤ wc28.heap.size) := ħ HP28.o.now.1.1.1.size
       have HN31 : Hid (wc28.heap.size ≠ vb27) := ħ (by have := HP28.o.now.1.2.lt; omega)
       refine hK.o _ _ HP31.o.now.1.1.1.1 (fun _ => ?_)
       clear hK K HP28
       try simp only [Act.put, ł, ø, đ]
       generalize hwx : wc28.alloc (.cells #[.int .i64 0, .int .i64 0, .int .i64 0, .int .i64 0, .slice none 0 0] 68) = wa31 at *;generalize wc28.heap.size = xb31 at *;clear hwx
       refine ŝ 4 (fun K hK => ?_)
       refine ç rfl (by kernel_rfl) (CC.o wa31 _ _ _ _ HP31.o.now.1.1.1.1 HP31.o.now.1.1.1.2 HP31.o.now.1.2) ?_
       rintro e wc32 ⟨XA, XC, rfl, hV, hfr, hlt, hb⟩;have HP32 := ħ (((HP31.o.on hb).and (Per.rul hV)).and (Per.own hlt))
       have HF32 : Hid (∀ q, (Value.slice XA C.1.rs.length XC).ownBlock = some q → q ≠ xb31) := ħ (fun q hq => Ź hfr hq HP31.o.now.2.lt)
       have HG32 : Hid (∀ q, (Value.slice XA C.1.rs.length XC).ownBlock = some q → q ≠ vb27) := ħ (fun q hq => Ź hfr hq HP31.o.now.1.1.2.lt)
       refine ⟨_, rfl, hK.o _ _ HP32.o.now.1.1.1.1.1.1 (fun _ => ?_)⟩
       clear hK K hb hV hfr hlt HP31
       try simp only [Act.put, ł]
       refine ŧ 5 21 (.tuple #[.agg #[.int .i64 C.1.de, .int .i64 C.1.cl, .int .i64 C.1.fu, .int .i64 C.1.st, .slice XA C.1.rs.length XC], .agg #[.int .i64 C.2.1, .int .i64 C.2.2.1, .int .i64 C.2.2.2]]) _ rfl rfl HP32.o.now.1.1.1.1.1.1 (fun w' hSw => ?_) ?_
       ·clear hSw
        go_simp
       try simp only [Act.put, ł, ø, đ]
       refine ŧ 6 27 (.agg #[.int .i64 C.1.de, .int .i64 C.1.cl, .int .i64 C.1.fu, .int .i64 C.1.st, .slice XA C.1.rs.length XC]) _ rfl rfl HP32.o.now.1.1.1.1.1.1 (fun w' hSw => ?_) ?_
       ·clear hSw
        go_simp
       simp only []
       refine ŧ 7 28 (.agg #[.int .i64 C.2.1, .int .i64 C.2.2.1, .int .i64 C.2.2.2]) _ rfl rfl HP32.o.now.1.1.1.1.1.1 (fun w' hSw => ?_) ?_
       ·clear hSw
        go_simp
       simp only [];have z := HP32.o.now.1.1.2.c5;have f := HP32.o.now.1.1.2.frozen;have hl := HP32.o.now.1.1.2.lt;obtain ⟨hs1, hs2, hs3, HQs⟩ := ŷ C XA XC HP32.o.now.1.1.2 Hxb31.o HP32.o.now.1.1.1.1.1.1 HP32.o.now.1.2 HF32.o HP32.o.now.1.1.1.1.2 HN31.o
       refine ŝ 10 (fun K hK => ?_)
       go_simp
       refine hK.o _ _ hs2.o (fun _ => ?_)
       clear hK K z f hl
       try simp only [Act.put, ł, ø, đ]
       generalize ((((wc32.setCell ⟨xb31, 0, none⟩ (.int .i64 C.1.de)).setCell ⟨xb31, 1, none⟩ (.int .i64 C.1.cl)).setCell ⟨xb31, 2, none⟩ (.int .i64 C.1.fu)).setCell ⟨xb31, 3, none⟩ (.int .i64 C.1.st)).setCell ⟨xb31, 4, none⟩ (.slice XA C.1.rs.length XC) = ws at *;have y0 := HQs.o.cell 0;have y1 := HQs.o.cell 1;have y2 := HQs.o.cell 2;have fy := HQs.o.frozen;have hly := HQs.o.lt;obtain ⟨ht1, ht2, ht3, ht4⟩ := õ (c0 := .int .i64 C.2.1) (c1 := .int .i64 C.2.2.1) (c2 := .int .i64 C.2.2.2) HQs.o Hvb27.o hs2.o hs3.o HG32.o hs1.o HN31.o
       refine ŝ 11 (fun K hK => ?_)
       go_simp
       refine hK.o _ _ ht4.o (fun _ => ?_)
       clear hK K y0 y1 y2 fy hly
       try simp only [Act.put, ł, ø, đ]
       refine wpAnyH_done (by kernel_rfl) ?_ _
       refine hK' _ _ (Met.intro (hJ _ _ ?_))
       (repeat apply Exists.intro)
       exact ⟨⟨xb31, vb27, XA, XC, rfl, rfl, ht2, ht1, ht3, ht4⟩, rfl⟩
     ·go_simp
      have HP33 := ħ ((HP27.o.on (nwB wa27 _)).and (Per.blk (Blk.new wa27 68 #[.int .i64 0, .int .i64 0, .int .i64 0, .int .i64 0, .slice none 0 0])));have Hxb33 : Hid (w5.heap.size ≤ wa27.heap.size) := ħ HP27.o.now.1.1.size
      have HN33 : Hid (wa27.heap.size ≠ vb27) := ħ (by have := HP27.o.now.2.lt; omega)
      refine hK.o _ _ HP33.o.now.1.1.1 (fun _ => ?_)
      clear hK K HP27
      try simp only [Act.put, ł, ø, đ]
      generalize hwx : wa27.alloc (.cells #[.int .i64 0, .int .i64 0, .int .i64 0, .int .i64 0, .slice none 0 0] 68) = wa33 at *;generalize wa27.heap.size = xb33 at *;clear hwx
      refine ŝ 3 (fun K hK => ?_)
      refine ç rfl (by kernel_rfl) (CD.o wa33 HP33.o.now.1.1.1) ?_
      rintro e wc34 ⟨UA, UC, rfl, hV, hb⟩;have HP34 := ħ ((HP33.o.on hb).and (Per.rul hV))
      refine ⟨_, rfl, hK.o _ _ HP34.o.now.1.1.1.1 (fun _ => ?_)⟩
      clear hK K hb hV HP33
      try simp only [Act.put, ł]
      refine ŝ 4 (fun K hK => ?_)
      refine ç rfl (by kernel_rfl) (CC.o wc34 _ _ _ _ HP34.o.now.1.1.1.1 HP34.o.now.1.1.1.2 HP34.o.now.2) ?_
      rintro e wc35 ⟨XA, XC, rfl, hV, hfr, hlt, hb⟩;have HP35 := ħ (((HP34.o.on hb).and (Per.rul hV)).and (Per.own hlt))
      have HF35 : Hid (∀ q, (Value.slice XA C.1.rs.length XC).ownBlock = some q → q ≠ xb33) := ħ (fun q hq => Ź hfr hq HP34.o.now.1.2.lt)
      have HG35 : Hid (∀ q, (Value.slice XA C.1.rs.length XC).ownBlock = some q → q ≠ vb27) := ħ (fun q hq => Ź hfr hq HP34.o.now.1.1.2.lt)
      refine ⟨_, rfl, hK.o _ _ HP35.o.now.1.1.1.1.1.1 (fun _ => ?_)⟩
      clear hK K hb hV hfr hlt HP34
      try simp only [Act.put]
      refine ŧ 5 21 (.tuple #[.agg #[.int .i64 C.1.de, .int .i64 C.1.cl, .int .i64 C.1.fu, .int .i64 C.1.st, .slice XA C.1.rs.length XC], .agg #[.int .i64 C.2.1, .int .i64 C.2.2.1, .int .i64 C.2.2.2]]) _ rfl rfl HP35.o.now.1.1.1.1.1.1 (fun w' hSw => ?_) ?_
      ·clear hSw
       go_simp
      try simp only [Act.put, ł, ø, đ]
      refine ŧ 6 27 (.agg #[.int .i64 C.1.de, .int .i64 C.1.cl, .int .i64 C.1.fu, .int .i64 C.1.st, .slice XA C.1.rs.length XC]) _ rfl rfl HP35.o.now.1.1.1.1.1.1 (fun w' hSw => ?_) ?_
      ·clear hSw
       go_simp
      simp only []
      refine ŧ 7 28 (.agg #[.int .i64 C.2.1, .int .i64 C.2.2.1, .int .i64 C.2.2.2]) _ rfl rfl HP35.o.now.1.1.1.1.1.1 (fun w' hSw => ?_) ?_
      ·clear hSw
       go_simp
      simp only [];have z := HP35.o.now.1.1.1.2.c5;have f := HP35.o.now.1.1.1.2.frozen;have hl := HP35.o.now.1.1.1.2.lt;obtain ⟨hs1, hs2, hs3, HQs⟩ := ŷ C XA XC HP35.o.now.1.1.1.2 Hxb33.o HP35.o.now.1.1.1.1.1.1 HP35.o.now.1.2 HF35.o HP35.o.now.1.1.1.1.2 HN33.o
      refine ŝ 10 (fun K hK => ?_)
      go_simp
      refine hK.o _ _ hs2.o (fun _ => ?_)
      clear hK K z f hl
      try simp only [Act.put, ł, ø, đ]
      generalize ((((wc35.setCell ⟨xb33, 0, none⟩ (.int .i64 C.1.de)).setCell ⟨xb33, 1, none⟩ (.int .i64 C.1.cl)).setCell ⟨xb33, 2, none⟩ (.int .i64 C.1.fu)).setCell ⟨xb33, 3, none⟩ (.int .i64 C.1.st)).setCell ⟨xb33, 4, none⟩ (.slice XA C.1.rs.length XC) = ws at *;have y0 := HQs.o.cell 0;have y1 := HQs.o.cell 1;have y2 := HQs.o.cell 2;have fy := HQs.o.frozen;have hly := HQs.o.lt;obtain ⟨ht1, ht2, ht3, ht4⟩ := õ (c0 := .int .i64 C.2.1) (c1 := .int .i64 C.2.2.1) (c2 := .int .i64 C.2.2.2) HQs.o Hvb27.o hs2.o hs3.o HG35.o hs1.o HN33.o
      refine ŝ 11 (fun K hK => ?_)
      go_simp
      refine hK.o _ _ ht4.o (fun _ => ?_)
      clear hK K y0 y1 y2 fy hly
      try simp only [Act.put, ł, ø, đ]
      refine wpAnyH_done (by kernel_rfl) ?_ _
      refine hK' _ _ (Met.intro (hJ _ _ ?_))
      (repeat apply Exists.intro)
      exact ⟨⟨xb33, vb27, XA, XC, rfl, rfl, ht2, ht1, ht3, ht4⟩, rfl⟩
   ·go_simp
    have HP36 := ħ ((HPd.o.on (nwB wd _)).and (Per.blk (Blk.new wd 68 #[.int .i64 0, .int .i64 0, .int .i64 0, .int .i64 0, .slice none 0 0])));have Hxb36 : Hid (w5.heap.size ≤ wd.heap.size) := ħ HPd.o.now.size
    refine hK.o _ _ HP36.o.now.1 (fun _ => ?_)
    clear hK K HPd
    try simp only [Act.put, ł, ø, đ]
    generalize hwx : wd.alloc (.cells #[.int .i64 0, .int .i64 0, .int .i64 0, .int .i64 0, .slice none 0 0] 68) = wa36 at *;generalize wd.heap.size = xb36 at *;clear hwx
    refine wpAnyH_ready (rs := [1, 9]) (by kernel_rfl) (by simp) ?_
    refine AllReadyH.cons rfl (fun K hK => ?_) (AllReadyH.cons rfl (fun K hK => ?_) AllReadyH.nil)
    ·refine ç rfl (by kernel_rfl) (CS.o wa36 HP36.o.now.1) ?_
     rintro e wc37 ⟨VA, VC, rfl, hV, hb⟩;have HP37 := ħ ((HP36.o.on hb).and (Per.rul hV))
     refine ⟨_, rfl, hK.o _ _ HP37.o.now.1.1 (fun _ => ?_)⟩
     clear hK K hb hV HP36
     try simp only [Act.put, ł]
     refine wpAnyH_ready (rs := [3, 9]) (by kernel_rfl) (by simp) ?_
     refine AllReadyH.cons rfl (fun K hK => ?_) (AllReadyH.cons rfl (fun K hK => ?_) AllReadyH.nil)
     ·refine ç rfl (by kernel_rfl) (CD.o wc37 HP37.o.now.1.1) ?_
      rintro e wc38 ⟨UA, UC, rfl, hV, hb⟩;have HP38 := ħ ((HP37.o.on hb).and (Per.rul hV))
      refine ⟨_, rfl, hK.o _ _ HP38.o.now.1.1.1 (fun _ => ?_)⟩
      clear hK K hb hV HP37
      try simp only [Act.put]
      refine wpAnyH_ready (rs := [4, 9]) (by kernel_rfl) (by simp) ?_
      refine AllReadyH.cons rfl (fun K hK => ?_) (AllReadyH.cons rfl (fun K hK => ?_) AllReadyH.nil)
      ·refine ç rfl (by kernel_rfl) (CC.o wc38 _ _ _ _ HP38.o.now.1.1.1 HP38.o.now.1.2 HP38.o.now.2) ?_
       rintro e wc39 ⟨XA, XC, rfl, hV, hfr, hlt, hb⟩;have HP39 := ħ (((HP38.o.on hb).and (Per.rul hV)).and (Per.own hlt))
       have HF39 : Hid (∀ q, (Value.slice XA C.1.rs.length XC).ownBlock = some q → q ≠ xb36) := ħ (fun q hq => Ź hfr hq HP38.o.now.1.1.2.lt)
       refine ⟨_, rfl, hK.o _ _ HP39.o.now.1.1.1.1.1 (fun _ => ?_)⟩
       clear hK K hb hV hfr hlt HP38
       try simp only [Act.put]
       refine ŧ 5 21 (.tuple #[.agg #[.int .i64 C.1.de, .int .i64 C.1.cl, .int .i64 C.1.fu, .int .i64 C.1.st, .slice XA C.1.rs.length XC], .agg #[.int .i64 C.2.1, .int .i64 C.2.2.1, .int .i64 C.2.2.2]]) _ rfl rfl HP39.o.now.1.1.1.1.1 (fun w' hSw => ?_) ?_
       ·clear hSw
        go_simp
       try simp only [Act.put, ł, ø, đ]
       refine ŧ 6 27 (.agg #[.int .i64 C.1.de, .int .i64 C.1.cl, .int .i64 C.1.fu, .int .i64 C.1.st, .slice XA C.1.rs.length XC]) _ rfl rfl HP39.o.now.1.1.1.1.1 (fun w' hSw => ?_) ?_
       ·clear hSw
        go_simp
       simp only []
       refine ŧ 7 28 (.agg #[.int .i64 C.2.1, .int .i64 C.2.2.1, .int .i64 C.2.2.2]) _ rfl rfl HP39.o.now.1.1.1.1.1 (fun w' hSw => ?_) ?_
       ·clear hSw
        go_simp
       simp only []
       refine ŝ 9 (fun K hK => ?_)
       go_simp;have HP40 := ħ ((HP39.o.on (nwB wc39 _)).and (Per.blk (Blk.new wc39 52 #[.int .i64 0, .int .i64 0, .int .i64 0])));have Hvb40 : Hid (w5.heap.size ≤ wc39.heap.size) := ħ HP39.o.now.1.1.1.1.1.size
       have HN40 : Hid (xb36 ≠ wc39.heap.size) := ħ (by have := HP39.o.now.1.1.1.1.2.lt; omega)
       have HG40 : Hid (∀ q, (Value.slice XA C.1.rs.length XC).ownBlock = some q → q ≠ wc39.heap.size) := ħ (fun q hq => Nat.ne_of_lt (HP39.o.now.2 q hq))
       refine hK.o _ _ HP40.o.now.1.1.1.1.1.1 (fun _ => ?_)
       clear hK K HP39
       try simp only [Act.put, ł, ø, đ]
       generalize hwx : wc39.alloc (.cells #[.int .i64 0, .int .i64 0, .int .i64 0] 52) = wa40 at *;generalize wc39.heap.size = vb40 at *;clear hwx;have z := HP40.o.now.1.1.1.1.1.2.c5;have f := HP40.o.now.1.1.1.1.1.2.frozen;have hl := HP40.o.now.1.1.1.1.1.2.lt;obtain ⟨hs1, hs2, hs3, HQs⟩ := ŷ C XA XC HP40.o.now.1.1.1.1.1.2 Hxb36.o HP40.o.now.1.1.1.1.1.1 HP40.o.now.1.1.2 HF39.o HP40.o.now.2 HN40.o
       refine ŝ 10 (fun K hK => ?_)
       go_simp
       refine hK.o _ _ hs2.o (fun _ => ?_)
       clear hK K z f hl
       try simp only [Act.put, ł, ø, đ]
       generalize ((((wa40.setCell ⟨xb36, 0, none⟩ (.int .i64 C.1.de)).setCell ⟨xb36, 1, none⟩ (.int .i64 C.1.cl)).setCell ⟨xb36, 2, none⟩ (.int .i64 C.1.fu)).setCell ⟨xb36, 3, none⟩ (.int .i64 C.1.st)).setCell ⟨xb36, 4, none⟩ (.slice XA C.1.rs.length XC) = ws at *;have y0 := HQs.o.cell 0;have y1 := HQs.o.cell 1;have y2 := HQs.o.cell 2;have fy := HQs.o.frozen;have hly := HQs.o.lt;obtain ⟨ht1, ht2, ht3, ht4⟩ := õ (c0 := .int .i64 C.2.1) (c1 := .int .i64 C.2.2.1) (c2 := .int .i64 C.2.2.2) HQs.o Hvb40.o hs2.o hs3.o HG40.o hs1.o HN40.o
       refine ŝ 11 (fun K hK => ?_)
       go_simp
       refine hK.o _ _ ht4.o (fun _ => ?_)
       clear hK K y0 y1 y2 fy hly
       try simp only [Act.put, ł, ø, đ]
       refine wpAnyH_done (by kernel_rfl) ?_ _
       refine hK' _ _ (Met.intro (hJ _ _ ?_))
       (repeat apply Exists.intro)
       exact ⟨⟨xb36, vb40, XA, XC, rfl, rfl, ht2, ht1, ht3, ht4⟩, rfl⟩
      ·go_simp
       have HP41 := ħ ((HP38.o.on (nwB wc38 _)).and (Per.blk (Blk.new wc38 52 #[.int .i64 0, .int .i64 0, .int .i64 0])));have Hvb41 : Hid (w5.heap.size ≤ wc38.heap.size) := ħ HP38.o.now.1.1.1.size
       have HN41 : Hid (xb36 ≠ wc38.heap.size) := ħ (by have := HP38.o.now.1.1.2.lt; omega)
       refine hK.o _ _ HP41.o.now.1.1.1.1 (fun _ => ?_)
       clear hK K HP38
       try simp only [Act.put, ł, ø, đ]
       generalize hwx : wc38.alloc (.cells #[.int .i64 0, .int .i64 0, .int .i64 0] 52) = wa41 at *;generalize wc38.heap.size = vb41 at *;clear hwx
       refine ŝ 4 (fun K hK => ?_)
       refine ç rfl (by kernel_rfl) (CC.o wa41 _ _ _ _ HP41.o.now.1.1.1.1 HP41.o.now.1.1.2 HP41.o.now.1.2) ?_
       rintro e wc42 ⟨XA, XC, rfl, hV, hfr, hlt, hb⟩;have HP42 := ħ (((HP41.o.on hb).and (Per.rul hV)).and (Per.own hlt))
       have HF42 : Hid (∀ q, (Value.slice XA C.1.rs.length XC).ownBlock = some q → q ≠ xb36) := ħ (fun q hq => Ź hfr hq HP41.o.now.1.1.1.2.lt)
       have HG42 : Hid (∀ q, (Value.slice XA C.1.rs.length XC).ownBlock = some q → q ≠ vb41) := ħ (fun q hq => Ź hfr hq HP41.o.now.2.lt)
       refine ⟨_, rfl, hK.o _ _ HP42.o.now.1.1.1.1.1.1 (fun _ => ?_)⟩
       clear hK K hb hV hfr hlt HP41
       try simp only [Act.put, ł]
       refine ŧ 5 21 (.tuple #[.agg #[.int .i64 C.1.de, .int .i64 C.1.cl, .int .i64 C.1.fu, .int .i64 C.1.st, .slice XA C.1.rs.length XC], .agg #[.int .i64 C.2.1, .int .i64 C.2.2.1, .int .i64 C.2.2.2]]) _ rfl rfl HP42.o.now.1.1.1.1.1.1 (fun w' hSw => ?_) ?_
       ·clear hSw
        go_simp
       try simp only [Act.put, ł, ø, đ]
       refine ŧ 6 27 (.agg #[.int .i64 C.1.de, .int .i64 C.1.cl, .int .i64 C.1.fu, .int .i64 C.1.st, .slice XA C.1.rs.length XC]) _ rfl rfl HP42.o.now.1.1.1.1.1.1 (fun w' hSw => ?_) ?_
       ·clear hSw
        go_simp
       simp only []
       refine ŧ 7 28 (.agg #[.int .i64 C.2.1, .int .i64 C.2.2.1, .int .i64 C.2.2.2]) _ rfl rfl HP42.o.now.1.1.1.1.1.1 (fun w' hSw => ?_) ?_
       ·clear hSw
        go_simp
       simp only [];have z := HP42.o.now.1.1.1.1.1.2.c5;have f := HP42.o.now.1.1.1.1.1.2.frozen;have hl := HP42.o.now.1.1.1.1.1.2.lt;obtain ⟨hs1, hs2, hs3, HQs⟩ := ŷ C XA XC HP42.o.now.1.1.1.1.1.2 Hxb36.o HP42.o.now.1.1.1.1.1.1 HP42.o.now.1.2 HF42.o HP42.o.now.1.1.2 HN41.o
       refine ŝ 10 (fun K hK => ?_)
       go_simp
       refine hK.o _ _ hs2.o (fun _ => ?_)
       clear hK K z f hl
       try simp only [Act.put, ł, ø, đ]
       generalize ((((wc42.setCell ⟨xb36, 0, none⟩ (.int .i64 C.1.de)).setCell ⟨xb36, 1, none⟩ (.int .i64 C.1.cl)).setCell ⟨xb36, 2, none⟩ (.int .i64 C.1.fu)).setCell ⟨xb36, 3, none⟩ (.int .i64 C.1.st)).setCell ⟨xb36, 4, none⟩ (.slice XA C.1.rs.length XC) = ws at *;have y0 := HQs.o.cell 0;have y1 := HQs.o.cell 1;have y2 := HQs.o.cell 2;have fy := HQs.o.frozen;have hly := HQs.o.lt;obtain ⟨ht1, ht2, ht3, ht4⟩ := õ (c0 := .int .i64 C.2.1) (c1 := .int .i64 C.2.2.1) (c2 := .int .i64 C.2.2.2) HQs.o Hvb41.o hs2.o hs3.o HG42.o hs1.o HN41.o
       refine ŝ 11 (fun K hK => ?_)
       go_simp
       refine hK.o _ _ ht4.o (fun _ => ?_)
       clear hK K y0 y1 y2 fy hly
       try simp only [Act.put, ł, ø, đ]
       refine wpAnyH_done (by kernel_rfl) ?_ _
       refine hK' _ _ (Met.intro (hJ _ _ ?_))
       (repeat apply Exists.intro)
       exact ⟨⟨xb36, vb41, XA, XC, rfl, rfl, ht2, ht1, ht3, ht4⟩, rfl⟩
     ·go_simp
      have HP43 := ħ ((HP37.o.on (nwB wc37 _)).and (Per.blk (Blk.new wc37 52 #[.int .i64 0, .int .i64 0, .int .i64 0])));have Hvb43 : Hid (w5.heap.size ≤ wc37.heap.size) := ħ HP37.o.now.1.1.size
      have HN43 : Hid (xb36 ≠ wc37.heap.size) := ħ (by have := HP37.o.now.1.2.lt; omega)
      refine hK.o _ _ HP43.o.now.1.1.1 (fun _ => ?_)
      clear hK K HP37
      try simp only [Act.put, ł, ø, đ]
      generalize hwx : wc37.alloc (.cells #[.int .i64 0, .int .i64 0, .int .i64 0] 52) = wa43 at *;generalize wc37.heap.size = vb43 at *;clear hwx
      refine ŝ 3 (fun K hK => ?_)
      refine ç rfl (by kernel_rfl) (CD.o wa43 HP43.o.now.1.1.1) ?_
      rintro e wc44 ⟨UA, UC, rfl, hV, hb⟩;have HP44 := ħ ((HP43.o.on hb).and (Per.rul hV))
      refine ⟨_, rfl, hK.o _ _ HP44.o.now.1.1.1.1 (fun _ => ?_)⟩
      clear hK K hb hV HP43
      try simp only [Act.put, ł]
      refine ŝ 4 (fun K hK => ?_)
      refine ç rfl (by kernel_rfl) (CC.o wc44 _ _ _ _ HP44.o.now.1.1.1.1 HP44.o.now.1.1.2 HP44.o.now.2) ?_
      rintro e wc45 ⟨XA, XC, rfl, hV, hfr, hlt, hb⟩;have HP45 := ħ (((HP44.o.on hb).and (Per.rul hV)).and (Per.own hlt))
      have HF45 : Hid (∀ q, (Value.slice XA C.1.rs.length XC).ownBlock = some q → q ≠ xb36) := ħ (fun q hq => Ź hfr hq HP44.o.now.1.1.1.2.lt)
      have HG45 : Hid (∀ q, (Value.slice XA C.1.rs.length XC).ownBlock = some q → q ≠ vb43) := ħ (fun q hq => Ź hfr hq HP44.o.now.1.2.lt)
      refine ⟨_, rfl, hK.o _ _ HP45.o.now.1.1.1.1.1.1 (fun _ => ?_)⟩
      clear hK K hb hV hfr hlt HP44
      try simp only [Act.put]
      refine ŧ 5 21 (.tuple #[.agg #[.int .i64 C.1.de, .int .i64 C.1.cl, .int .i64 C.1.fu, .int .i64 C.1.st, .slice XA C.1.rs.length XC], .agg #[.int .i64 C.2.1, .int .i64 C.2.2.1, .int .i64 C.2.2.2]]) _ rfl rfl HP45.o.now.1.1.1.1.1.1 (fun w' hSw => ?_) ?_
      ·clear hSw
       go_simp
      try simp only [Act.put, ł, ø, đ]
      refine ŧ 6 27 (.agg #[.int .i64 C.1.de, .int .i64 C.1.cl, .int .i64 C.1.fu, .int .i64 C.1.st, .slice XA C.1.rs.length XC]) _ rfl rfl HP45.o.now.1.1.1.1.1.1 (fun w' hSw => ?_) ?_
      ·clear hSw
       go_simp
      simp only []
      refine ŧ 7 28 (.agg #[.int .i64 C.2.1, .int .i64 C.2.2.1, .int .i64 C.2.2.2]) _ rfl rfl HP45.o.now.1.1.1.1.1.1 (fun w' hSw => ?_) ?_
      ·clear hSw
       go_simp
      simp only [];have z := HP45.o.now.1.1.1.1.1.2.c5;have f := HP45.o.now.1.1.1.1.1.2.frozen;have hl := HP45.o.now.1.1.1.1.1.2.lt;obtain ⟨hs1, hs2, hs3, HQs⟩ := ŷ C XA XC HP45.o.now.1.1.1.1.1.2 Hxb36.o HP45.o.now.1.1.1.1.1.1 HP45.o.now.1.2 HF45.o HP45.o.now.1.1.1.2 HN43.o
      refine ŝ 10 (fun K hK => ?_)
      go_simp
      refine hK.o _ _ hs2.o (fun _ => ?_)
      clear hK K z f hl
      try simp only [Act.put, ł, ø, đ]
      generalize ((((wc45.setCell ⟨xb36, 0, none⟩ (.int .i64 C.1.de)).setCell ⟨xb36, 1, none⟩ (.int .i64 C.1.cl)).setCell ⟨xb36, 2, none⟩ (.int .i64 C.1.fu)).setCell ⟨xb36, 3, none⟩ (.int .i64 C.1.st)).setCell ⟨xb36, 4, none⟩ (.slice XA C.1.rs.length XC) = ws at *;have y0 := HQs.o.cell 0;have y1 := HQs.o.cell 1;have y2 := HQs.o.cell 2;have fy := HQs.o.frozen;have hly := HQs.o.lt;obtain ⟨ht1, ht2, ht3, ht4⟩ := õ (c0 := .int .i64 C.2.1) (c1 := .int .i64 C.2.2.1) (c2 := .int .i64 C.2.2.2) HQs.o Hvb43.o hs2.o hs3.o HG45.o hs1.o HN43.o
      refine ŝ 11 (fun K hK => ?_)
      go_simp
      refine hK.o _ _ ht4.o (fun _ => ?_)
      clear hK K y0 y1 y2 fy hly
      try simp only [Act.put, ł, ø, đ]
      refine wpAnyH_done (by kernel_rfl) ?_ _
      refine hK' _ _ (Met.intro (hJ _ _ ?_))
      (repeat apply Exists.intro)
      exact ⟨⟨xb36, vb43, XA, XC, rfl, rfl, ht2, ht1, ht3, ht4⟩, rfl⟩
    ·go_simp
     have HP46 := ħ ((HP36.o.on (nwB wa36 _)).and (Per.blk (Blk.new wa36 52 #[.int .i64 0, .int .i64 0, .int .i64 0])));have Hvb46 : Hid (w5.heap.size ≤ wa36.heap.size) := ħ HP36.o.now.1.size
     have HN46 : Hid (xb36 ≠ wa36.heap.size) := ħ (by have := HP36.o.now.2.lt; omega)
     refine hK.o _ _ HP46.o.now.1.1 (fun _ => ?_)
     clear hK K HP36
     try simp only [Act.put, ł, ø, đ]
     generalize hwx : wa36.alloc (.cells #[.int .i64 0, .int .i64 0, .int .i64 0] 52) = wa46 at *;generalize wa36.heap.size = vb46 at *;clear hwx
     refine ŝ 1 (fun K hK => ?_)
     refine ç rfl (by kernel_rfl) (CS.o wa46 HP46.o.now.1.1) ?_
     rintro e wc47 ⟨VA, VC, rfl, hV, hb⟩;have HP47 := ħ ((HP46.o.on hb).and (Per.rul hV))
     refine ⟨_, rfl, hK.o _ _ HP47.o.now.1.1.1 (fun _ => ?_)⟩
     clear hK K hb hV HP46
     try simp only [Act.put, ł]
     refine ŝ 3 (fun K hK => ?_)
     refine ç rfl (by kernel_rfl) (CD.o wc47 HP47.o.now.1.1.1) ?_
     rintro e wc48 ⟨UA, UC, rfl, hV, hb⟩;have HP48 := ħ ((HP47.o.on hb).and (Per.rul hV))
     refine ⟨_, rfl, hK.o _ _ HP48.o.now.1.1.1.1 (fun _ => ?_)⟩
     clear hK K hb hV HP47
     try simp only [Act.put]
     refine ŝ 4 (fun K hK => ?_)
     refine ç rfl (by kernel_rfl) (CC.o wc48 _ _ _ _ HP48.o.now.1.1.1.1 HP48.o.now.1.2 HP48.o.now.2) ?_
     rintro e wc49 ⟨XA, XC, rfl, hV, hfr, hlt, hb⟩;have HP49 := ħ (((HP48.o.on hb).and (Per.rul hV)).and (Per.own hlt))
     have HF49 : Hid (∀ q, (Value.slice XA C.1.rs.length XC).ownBlock = some q → q ≠ xb36) := ħ (fun q hq => Ź hfr hq HP48.o.now.1.1.1.2.lt)
     have HG49 : Hid (∀ q, (Value.slice XA C.1.rs.length XC).ownBlock = some q → q ≠ vb46) := ħ (fun q hq => Ź hfr hq HP48.o.now.1.1.2.lt)
     refine ⟨_, rfl, hK.o _ _ HP49.o.now.1.1.1.1.1.1 (fun _ => ?_)⟩
     clear hK K hb hV hfr hlt HP48
     try simp only [Act.put]
     refine ŧ 5 21 (.tuple #[.agg #[.int .i64 C.1.de, .int .i64 C.1.cl, .int .i64 C.1.fu, .int .i64 C.1.st, .slice XA C.1.rs.length XC], .agg #[.int .i64 C.2.1, .int .i64 C.2.2.1, .int .i64 C.2.2.2]]) _ rfl rfl HP49.o.now.1.1.1.1.1.1 (fun w' hSw => ?_) ?_
     ·clear hSw
      go_simp
     try simp only [Act.put, ł, ø, đ]
     refine ŧ 6 27 (.agg #[.int .i64 C.1.de, .int .i64 C.1.cl, .int .i64 C.1.fu, .int .i64 C.1.st, .slice XA C.1.rs.length XC]) _ rfl rfl HP49.o.now.1.1.1.1.1.1 (fun w' hSw => ?_) ?_
     ·clear hSw
      go_simp
     simp only []
     refine ŧ 7 28 (.agg #[.int .i64 C.2.1, .int .i64 C.2.2.1, .int .i64 C.2.2.2]) _ rfl rfl HP49.o.now.1.1.1.1.1.1 (fun w' hSw => ?_) ?_
     ·clear hSw
      go_simp
     simp only [];have z := HP49.o.now.1.1.1.1.1.2.c5;have f := HP49.o.now.1.1.1.1.1.2.frozen;have hl := HP49.o.now.1.1.1.1.1.2.lt;obtain ⟨hs1, hs2, hs3, HQs⟩ := ŷ C XA XC HP49.o.now.1.1.1.1.1.2 Hxb36.o HP49.o.now.1.1.1.1.1.1 HP49.o.now.1.2 HF49.o HP49.o.now.1.1.1.1.2 HN46.o
     refine ŝ 10 (fun K hK => ?_)
     go_simp
     refine hK.o _ _ hs2.o (fun _ => ?_)
     clear hK K z f hl
     try simp only [Act.put, ł, ø, đ]
     generalize ((((wc49.setCell ⟨xb36, 0, none⟩ (.int .i64 C.1.de)).setCell ⟨xb36, 1, none⟩ (.int .i64 C.1.cl)).setCell ⟨xb36, 2, none⟩ (.int .i64 C.1.fu)).setCell ⟨xb36, 3, none⟩ (.int .i64 C.1.st)).setCell ⟨xb36, 4, none⟩ (.slice XA C.1.rs.length XC) = ws at *;have y0 := HQs.o.cell 0;have y1 := HQs.o.cell 1;have y2 := HQs.o.cell 2;have fy := HQs.o.frozen;have hly := HQs.o.lt;obtain ⟨ht1, ht2, ht3, ht4⟩ := õ (c0 := .int .i64 C.2.1) (c1 := .int .i64 C.2.2.1) (c2 := .int .i64 C.2.2.2) HQs.o Hvb46.o hs2.o hs3.o HG49.o hs1.o HN46.o
     refine ŝ 11 (fun K hK => ?_)
     go_simp
     refine hK.o _ _ ht4.o (fun _ => ?_)
     clear hK K y0 y1 y2 fy hly
     try simp only [Act.put, ł, ø, đ]
     refine wpAnyH_done (by kernel_rfl) ?_ _
     refine hK' _ _ (Met.intro (hJ _ _ ?_))
     (repeat apply Exists.intro)
     exact ⟨⟨xb36, vb46, XA, XC, rfl, rfl, ht2, ht1, ht3, ht4⟩, rfl⟩
   ·go_simp
    have HP50 := ħ ((HPd.o.on (nwB wd _)).and (Per.blk (Blk.new wd 52 #[.int .i64 0, .int .i64 0, .int .i64 0])));have Hvb50 : Hid (w5.heap.size ≤ wd.heap.size) := ħ HPd.o.now.size
    refine hK.o _ _ HP50.o.now.1 (fun _ => ?_)
    clear hK K HPd
    try simp only [Act.put, ł, ø, đ]
    generalize hwx : wd.alloc (.cells #[.int .i64 0, .int .i64 0, .int .i64 0] 52) = wa50 at *;generalize wd.heap.size = vb50 at *;clear hwx
    refine wpAnyH_ready (rs := [1, 8]) (by kernel_rfl) (by simp) ?_
    refine AllReadyH.cons rfl (fun K hK => ?_) (AllReadyH.cons rfl (fun K hK => ?_) AllReadyH.nil)
    ·refine ç rfl (by kernel_rfl) (CS.o wa50 HP50.o.now.1) ?_
     rintro e wc51 ⟨VA, VC, rfl, hV, hb⟩;have HP51 := ħ ((HP50.o.on hb).and (Per.rul hV))
     refine ⟨_, rfl, hK.o _ _ HP51.o.now.1.1 (fun _ => ?_)⟩
     clear hK K hb hV HP50
     try simp only [Act.put, ł]
     refine wpAnyH_ready (rs := [3, 8]) (by kernel_rfl) (by simp) ?_
     refine AllReadyH.cons rfl (fun K hK => ?_) (AllReadyH.cons rfl (fun K hK => ?_) AllReadyH.nil)
     ·refine ç rfl (by kernel_rfl) (CD.o wc51 HP51.o.now.1.1) ?_
      rintro e wc52 ⟨UA, UC, rfl, hV, hb⟩;have HP52 := ħ ((HP51.o.on hb).and (Per.rul hV))
      refine ⟨_, rfl, hK.o _ _ HP52.o.now.1.1.1 (fun _ => ?_)⟩
      clear hK K hb hV HP51
      try simp only [Act.put]
      refine wpAnyH_ready (rs := [4, 8]) (by kernel_rfl) (by simp) ?_
      refine AllReadyH.cons rfl (fun K hK => ?_) (AllReadyH.cons rfl (fun K hK => ?_) AllReadyH.nil)
      ·refine ç rfl (by kernel_rfl) (CC.o wc52 _ _ _ _ HP52.o.now.1.1.1 HP52.o.now.1.2 HP52.o.now.2) ?_
       rintro e wc53 ⟨XA, XC, rfl, hV, hfr, hlt, hb⟩;have HP53 := ħ (((HP52.o.on hb).and (Per.rul hV)).and (Per.own hlt))
       have HG53 : Hid (∀ q, (Value.slice XA C.1.rs.length XC).ownBlock = some q → q ≠ vb50) := ħ (fun q hq => Ź hfr hq HP52.o.now.1.1.2.lt)
       refine ⟨_, rfl, hK.o _ _ HP53.o.now.1.1.1.1.1 (fun _ => ?_)⟩
       clear hK K hb hV hfr hlt HP52
       try simp only [Act.put]
       refine ŧ 5 21 (.tuple #[.agg #[.int .i64 C.1.de, .int .i64 C.1.cl, .int .i64 C.1.fu, .int .i64 C.1.st, .slice XA C.1.rs.length XC], .agg #[.int .i64 C.2.1, .int .i64 C.2.2.1, .int .i64 C.2.2.2]]) _ rfl rfl HP53.o.now.1.1.1.1.1 (fun w' hSw => ?_) ?_
       ·clear hSw
        go_simp
       try simp only [Act.put, ł, ø, đ]
       refine ŧ 6 27 (.agg #[.int .i64 C.1.de, .int .i64 C.1.cl, .int .i64 C.1.fu, .int .i64 C.1.st, .slice XA C.1.rs.length XC]) _ rfl rfl HP53.o.now.1.1.1.1.1 (fun w' hSw => ?_) ?_
       ·clear hSw
        go_simp
       simp only []
       refine ŧ 7 28 (.agg #[.int .i64 C.2.1, .int .i64 C.2.2.1, .int .i64 C.2.2.2]) _ rfl rfl HP53.o.now.1.1.1.1.1 (fun w' hSw => ?_) ?_
       ·clear hSw
        go_simp
       simp only []
       refine ŝ 8 (fun K hK => ?_)
       go_simp;have HP54 := ħ ((HP53.o.on (nwB wc53 _)).and (Per.blk (Blk.new wc53 68 #[.int .i64 0, .int .i64 0, .int .i64 0, .int .i64 0, .slice none 0 0])));have Hxb54 : Hid (w5.heap.size ≤ wc53.heap.size) := ħ HP53.o.now.1.1.1.1.1.size
       have HN54 : Hid (wc53.heap.size ≠ vb50) := ħ (by have := HP53.o.now.1.1.1.1.2.lt; omega)
       have HF54 : Hid (∀ q, (Value.slice XA C.1.rs.length XC).ownBlock = some q → q ≠ wc53.heap.size) := ħ (fun q hq => Nat.ne_of_lt (HP53.o.now.2 q hq))
       refine hK.o _ _ HP54.o.now.1.1.1.1.1.1 (fun _ => ?_)
       clear hK K HP53
       try simp only [Act.put, ł, ø, đ]
       generalize hwx : wc53.alloc (.cells #[.int .i64 0, .int .i64 0, .int .i64 0, .int .i64 0, .slice none 0 0] 68) = wa54 at *;generalize wc53.heap.size = xb54 at *;clear hwx;have z := HP54.o.now.2.c5;have f := HP54.o.now.2.frozen;have hl := HP54.o.now.2.lt;obtain ⟨hs1, hs2, hs3, HQs⟩ := ŷ C XA XC HP54.o.now.2 Hxb54.o HP54.o.now.1.1.1.1.1.1 HP54.o.now.1.1.2 HF54.o HP54.o.now.1.1.1.1.1.2 HN54.o
       refine ŝ 10 (fun K hK => ?_)
       go_simp
       refine hK.o _ _ hs2.o (fun _ => ?_)
       clear hK K z f hl
       try simp only [Act.put, ł, ø, đ]
       generalize ((((wa54.setCell ⟨xb54, 0, none⟩ (.int .i64 C.1.de)).setCell ⟨xb54, 1, none⟩ (.int .i64 C.1.cl)).setCell ⟨xb54, 2, none⟩ (.int .i64 C.1.fu)).setCell ⟨xb54, 3, none⟩ (.int .i64 C.1.st)).setCell ⟨xb54, 4, none⟩ (.slice XA C.1.rs.length XC) = ws at *;have y0 := HQs.o.cell 0;have y1 := HQs.o.cell 1;have y2 := HQs.o.cell 2;have fy := HQs.o.frozen;have hly := HQs.o.lt;obtain ⟨ht1, ht2, ht3, ht4⟩ := õ (c0 := .int .i64 C.2.1) (c1 := .int .i64 C.2.2.1) (c2 := .int .i64 C.2.2.2) HQs.o Hvb50.o hs2.o hs3.o HG53.o hs1.o HN54.o
       refine ŝ 11 (fun K hK => ?_)
       go_simp
       refine hK.o _ _ ht4.o (fun _ => ?_)
       clear hK K y0 y1 y2 fy hly
       try simp only [Act.put, ł, ø, đ]
       refine wpAnyH_done (by kernel_rfl) ?_ _
       refine hK' _ _ (Met.intro (hJ _ _ ?_))
       (repeat apply Exists.intro)
       exact ⟨⟨xb54, vb50, XA, XC, rfl, rfl, ht2, ht1, ht3, ht4⟩, rfl⟩
      ·go_simp
       have HP55 := ħ ((HP52.o.on (nwB wc52 _)).and (Per.blk (Blk.new wc52 68 #[.int .i64 0, .int .i64 0, .int .i64 0, .int .i64 0, .slice none 0 0])));have Hxb55 : Hid (w5.heap.size ≤ wc52.heap.size) := ħ HP52.o.now.1.1.1.size
       have HN55 : Hid (wc52.heap.size ≠ vb50) := ħ (by have := HP52.o.now.1.1.2.lt; omega)
       refine hK.o _ _ HP55.o.now.1.1.1.1 (fun _ => ?_)
       clear hK K HP52
       try simp only [Act.put, ł, ø, đ]
       generalize hwx : wc52.alloc (.cells #[.int .i64 0, .int .i64 0, .int .i64 0, .int .i64 0, .slice none 0 0] 68) = wa55 at *;generalize wc52.heap.size = xb55 at *;clear hwx
       refine ŝ 4 (fun K hK => ?_)
       refine ç rfl (by kernel_rfl) (CC.o wa55 _ _ _ _ HP55.o.now.1.1.1.1 HP55.o.now.1.1.2 HP55.o.now.1.2) ?_
       rintro e wc56 ⟨XA, XC, rfl, hV, hfr, hlt, hb⟩;have HP56 := ħ (((HP55.o.on hb).and (Per.rul hV)).and (Per.own hlt))
       have HF56 : Hid (∀ q, (Value.slice XA C.1.rs.length XC).ownBlock = some q → q ≠ xb55) := ħ (fun q hq => Ź hfr hq HP55.o.now.2.lt)
       have HG56 : Hid (∀ q, (Value.slice XA C.1.rs.length XC).ownBlock = some q → q ≠ vb50) := ħ (fun q hq => Ź hfr hq HP55.o.now.1.1.1.2.lt)
       refine ⟨_, rfl, hK.o _ _ HP56.o.now.1.1.1.1.1.1 (fun _ => ?_)⟩
       clear hK K hb hV hfr hlt HP55
       try simp only [Act.put, ł]
       refine ŧ 5 21 (.tuple #[.agg #[.int .i64 C.1.de, .int .i64 C.1.cl, .int .i64 C.1.fu, .int .i64 C.1.st, .slice XA C.1.rs.length XC], .agg #[.int .i64 C.2.1, .int .i64 C.2.2.1, .int .i64 C.2.2.2]]) _ rfl rfl HP56.o.now.1.1.1.1.1.1 (fun w' hSw => ?_) ?_
       ·clear hSw
        go_simp
       try simp only [Act.put, ł, ø, đ]
       refine ŧ 6 27 (.agg #[.int .i64 C.1.de, .int .i64 C.1.cl, .int .i64 C.1.fu, .int .i64 C.1.st, .slice XA C.1.rs.length XC]) _ rfl rfl HP56.o.now.1.1.1.1.1.1 (fun w' hSw => ?_) ?_
       ·clear hSw
        go_simp
       simp only []
       refine ŧ 7 28 (.agg #[.int .i64 C.2.1, .int .i64 C.2.2.1, .int .i64 C.2.2.2]) _ rfl rfl HP56.o.now.1.1.1.1.1.1 (fun w' hSw => ?_) ?_
       ·clear hSw
        go_simp
       simp only [];have z := HP56.o.now.1.1.2.c5;have f := HP56.o.now.1.1.2.frozen;have hl := HP56.o.now.1.1.2.lt;obtain ⟨hs1, hs2, hs3, HQs⟩ := ŷ C XA XC HP56.o.now.1.1.2 Hxb55.o HP56.o.now.1.1.1.1.1.1 HP56.o.now.1.2 HF56.o HP56.o.now.1.1.1.1.1.2 HN55.o
       refine ŝ 10 (fun K hK => ?_)
       go_simp
       refine hK.o _ _ hs2.o (fun _ => ?_)
       clear hK K z f hl
       try simp only [Act.put, ł, ø, đ]
       generalize ((((wc56.setCell ⟨xb55, 0, none⟩ (.int .i64 C.1.de)).setCell ⟨xb55, 1, none⟩ (.int .i64 C.1.cl)).setCell ⟨xb55, 2, none⟩ (.int .i64 C.1.fu)).setCell ⟨xb55, 3, none⟩ (.int .i64 C.1.st)).setCell ⟨xb55, 4, none⟩ (.slice XA C.1.rs.length XC) = ws at *;have y0 := HQs.o.cell 0;have y1 := HQs.o.cell 1;have y2 := HQs.o.cell 2;have fy := HQs.o.frozen;have hly := HQs.o.lt;obtain ⟨ht1, ht2, ht3, ht4⟩ := õ (c0 := .int .i64 C.2.1) (c1 := .int .i64 C.2.2.1) (c2 := .int .i64 C.2.2.2) HQs.o Hvb50.o hs2.o hs3.o HG56.o hs1.o HN55.o
       refine ŝ 11 (fun K hK => ?_)
       go_simp
       refine hK.o _ _ ht4.o (fun _ => ?_)
       clear hK K y0 y1 y2 fy hly
       try simp only [Act.put, ł, ø, đ]
       refine wpAnyH_done (by kernel_rfl) ?_ _
       refine hK' _ _ (Met.intro (hJ _ _ ?_))
       (repeat apply Exists.intro)
       exact ⟨⟨xb55, vb50, XA, XC, rfl, rfl, ht2, ht1, ht3, ht4⟩, rfl⟩
     ·go_simp
      have HP57 := ħ ((HP51.o.on (nwB wc51 _)).and (Per.blk (Blk.new wc51 68 #[.int .i64 0, .int .i64 0, .int .i64 0, .int .i64 0, .slice none 0 0])));have Hxb57 : Hid (w5.heap.size ≤ wc51.heap.size) := ħ HP51.o.now.1.1.size
      have HN57 : Hid (wc51.heap.size ≠ vb50) := ħ (by have := HP51.o.now.1.2.lt; omega)
      refine hK.o _ _ HP57.o.now.1.1.1 (fun _ => ?_)
      clear hK K HP51
      try simp only [Act.put, ł, ø, đ]
      generalize hwx : wc51.alloc (.cells #[.int .i64 0, .int .i64 0, .int .i64 0, .int .i64 0, .slice none 0 0] 68) = wa57 at *;generalize wc51.heap.size = xb57 at *;clear hwx
      refine ŝ 3 (fun K hK => ?_)
      refine ç rfl (by kernel_rfl) (CD.o wa57 HP57.o.now.1.1.1) ?_
      rintro e wc58 ⟨UA, UC, rfl, hV, hb⟩;have HP58 := ħ ((HP57.o.on hb).and (Per.rul hV))
      refine ⟨_, rfl, hK.o _ _ HP58.o.now.1.1.1.1 (fun _ => ?_)⟩
      clear hK K hb hV HP57
      try simp only [Act.put, ł]
      refine ŝ 4 (fun K hK => ?_)
      refine ç rfl (by kernel_rfl) (CC.o wc58 _ _ _ _ HP58.o.now.1.1.1.1 HP58.o.now.1.1.2 HP58.o.now.2) ?_
      rintro e wc59 ⟨XA, XC, rfl, hV, hfr, hlt, hb⟩;have HP59 := ħ (((HP58.o.on hb).and (Per.rul hV)).and (Per.own hlt))
      have HF59 : Hid (∀ q, (Value.slice XA C.1.rs.length XC).ownBlock = some q → q ≠ xb57) := ħ (fun q hq => Ź hfr hq HP58.o.now.1.2.lt)
      have HG59 : Hid (∀ q, (Value.slice XA C.1.rs.length XC).ownBlock = some q → q ≠ vb50) := ħ (fun q hq => Ź hfr hq HP58.o.now.1.1.1.2.lt)
      refine ⟨_, rfl, hK.o _ _ HP59.o.now.1.1.1.1.1.1 (fun _ => ?_)⟩
      clear hK K hb hV hfr hlt HP58
      try simp only [Act.put]
      refine ŧ 5 21 (.tuple #[.agg #[.int .i64 C.1.de, .int .i64 C.1.cl, .int .i64 C.1.fu, .int .i64 C.1.st, .slice XA C.1.rs.length XC], .agg #[.int .i64 C.2.1, .int .i64 C.2.2.1, .int .i64 C.2.2.2]]) _ rfl rfl HP59.o.now.1.1.1.1.1.1 (fun w' hSw => ?_) ?_
      ·clear hSw
       go_simp
      try simp only [Act.put, ł, ø, đ]
      refine ŧ 6 27 (.agg #[.int .i64 C.1.de, .int .i64 C.1.cl, .int .i64 C.1.fu, .int .i64 C.1.st, .slice XA C.1.rs.length XC]) _ rfl rfl HP59.o.now.1.1.1.1.1.1 (fun w' hSw => ?_) ?_
      ·clear hSw
       go_simp
      simp only []
      refine ŧ 7 28 (.agg #[.int .i64 C.2.1, .int .i64 C.2.2.1, .int .i64 C.2.2.2]) _ rfl rfl HP59.o.now.1.1.1.1.1.1 (fun w' hSw => ?_) ?_
      ·clear hSw
       go_simp
      simp only [];have z := HP59.o.now.1.1.1.2.c5;have f := HP59.o.now.1.1.1.2.frozen;have hl := HP59.o.now.1.1.1.2.lt;obtain ⟨hs1, hs2, hs3, HQs⟩ := ŷ C XA XC HP59.o.now.1.1.1.2 Hxb57.o HP59.o.now.1.1.1.1.1.1 HP59.o.now.1.2 HF59.o HP59.o.now.1.1.1.1.1.2 HN57.o
      refine ŝ 10 (fun K hK => ?_)
      go_simp
      refine hK.o _ _ hs2.o (fun _ => ?_)
      clear hK K z f hl
      try simp only [Act.put, ł, ø, đ]
      generalize ((((wc59.setCell ⟨xb57, 0, none⟩ (.int .i64 C.1.de)).setCell ⟨xb57, 1, none⟩ (.int .i64 C.1.cl)).setCell ⟨xb57, 2, none⟩ (.int .i64 C.1.fu)).setCell ⟨xb57, 3, none⟩ (.int .i64 C.1.st)).setCell ⟨xb57, 4, none⟩ (.slice XA C.1.rs.length XC) = ws at *;have y0 := HQs.o.cell 0;have y1 := HQs.o.cell 1;have y2 := HQs.o.cell 2;have fy := HQs.o.frozen;have hly := HQs.o.lt;obtain ⟨ht1, ht2, ht3, ht4⟩ := õ (c0 := .int .i64 C.2.1) (c1 := .int .i64 C.2.2.1) (c2 := .int .i64 C.2.2.2) HQs.o Hvb50.o hs2.o hs3.o HG59.o hs1.o HN57.o
      refine ŝ 11 (fun K hK => ?_)
      go_simp
      refine hK.o _ _ ht4.o (fun _ => ?_)
      clear hK K y0 y1 y2 fy hly
      try simp only [Act.put, ł, ø, đ]
      refine wpAnyH_done (by kernel_rfl) ?_ _
      refine hK' _ _ (Met.intro (hJ _ _ ?_))
      (repeat apply Exists.intro)
      exact ⟨⟨xb57, vb50, XA, XC, rfl, rfl, ht2, ht1, ht3, ht4⟩, rfl⟩
    ·go_simp
     have HP60 := ħ ((HP50.o.on (nwB wa50 _)).and (Per.blk (Blk.new wa50 68 #[.int .i64 0, .int .i64 0, .int .i64 0, .int .i64 0, .slice none 0 0])));have Hxb60 : Hid (w5.heap.size ≤ wa50.heap.size) := ħ HP50.o.now.1.size
     have HN60 : Hid (wa50.heap.size ≠ vb50) := ħ (by have := HP50.o.now.2.lt; omega)
     refine hK.o _ _ HP60.o.now.1.1 (fun _ => ?_)
     clear hK K HP50
     try simp only [Act.put, ł, ø, đ]
     generalize hwx : wa50.alloc (.cells #[.int .i64 0, .int .i64 0, .int .i64 0, .int .i64 0, .slice none 0 0] 68) = wa60 at *;generalize wa50.heap.size = xb60 at *;clear hwx
     refine ŝ 1 (fun K hK => ?_)
     refine ç rfl (by kernel_rfl) (CS.o wa60 HP60.o.now.1.1) ?_
     rintro e wc61 ⟨VA, VC, rfl, hV, hb⟩;have HP61 := ħ ((HP60.o.on hb).and (Per.rul hV))
     refine ⟨_, rfl, hK.o _ _ HP61.o.now.1.1.1 (fun _ => ?_)⟩
     clear hK K hb hV HP60
     try simp only [Act.put, ł]
     refine ŝ 3 (fun K hK => ?_)
     refine ç rfl (by kernel_rfl) (CD.o wc61 HP61.o.now.1.1.1) ?_
     rintro e wc62 ⟨UA, UC, rfl, hV, hb⟩;have HP62 := ħ ((HP61.o.on hb).and (Per.rul hV))
     refine ⟨_, rfl, hK.o _ _ HP62.o.now.1.1.1.1 (fun _ => ?_)⟩
     clear hK K hb hV HP61
     try simp only [Act.put]
     refine ŝ 4 (fun K hK => ?_)
     refine ç rfl (by kernel_rfl) (CC.o wc62 _ _ _ _ HP62.o.now.1.1.1.1 HP62.o.now.1.2 HP62.o.now.2) ?_
     rintro e wc63 ⟨XA, XC, rfl, hV, hfr, hlt, hb⟩;have HP63 := ħ (((HP62.o.on hb).and (Per.rul hV)).and (Per.own hlt))
     have HF63 : Hid (∀ q, (Value.slice XA C.1.rs.length XC).ownBlock = some q → q ≠ xb60) := ħ (fun q hq => Ź hfr hq HP62.o.now.1.1.2.lt)
     have HG63 : Hid (∀ q, (Value.slice XA C.1.rs.length XC).ownBlock = some q → q ≠ vb50) := ħ (fun q hq => Ź hfr hq HP62.o.now.1.1.1.2.lt)
     refine ⟨_, rfl, hK.o _ _ HP63.o.now.1.1.1.1.1.1 (fun _ => ?_)⟩
     clear hK K hb hV hfr hlt HP62
     try simp only [Act.put]
     refine ŧ 5 21 (.tuple #[.agg #[.int .i64 C.1.de, .int .i64 C.1.cl, .int .i64 C.1.fu, .int .i64 C.1.st, .slice XA C.1.rs.length XC], .agg #[.int .i64 C.2.1, .int .i64 C.2.2.1, .int .i64 C.2.2.2]]) _ rfl rfl HP63.o.now.1.1.1.1.1.1 (fun w' hSw => ?_) ?_
     ·clear hSw
      go_simp
     try simp only [Act.put, ł, ø, đ]
     refine ŧ 6 27 (.agg #[.int .i64 C.1.de, .int .i64 C.1.cl, .int .i64 C.1.fu, .int .i64 C.1.st, .slice XA C.1.rs.length XC]) _ rfl rfl HP63.o.now.1.1.1.1.1.1 (fun w' hSw => ?_) ?_
     ·clear hSw
      go_simp
     simp only []
     refine ŧ 7 28 (.agg #[.int .i64 C.2.1, .int .i64 C.2.2.1, .int .i64 C.2.2.2]) _ rfl rfl HP63.o.now.1.1.1.1.1.1 (fun w' hSw => ?_) ?_
     ·clear hSw
      go_simp
     simp only [];have z := HP63.o.now.1.1.1.1.2.c5;have f := HP63.o.now.1.1.1.1.2.frozen;have hl := HP63.o.now.1.1.1.1.2.lt;obtain ⟨hs1, hs2, hs3, HQs⟩ := ŷ C XA XC HP63.o.now.1.1.1.1.2 Hxb60.o HP63.o.now.1.1.1.1.1.1 HP63.o.now.1.2 HF63.o HP63.o.now.1.1.1.1.1.2 HN60.o
     refine ŝ 10 (fun K hK => ?_)
     go_simp
     refine hK.o _ _ hs2.o (fun _ => ?_)
     clear hK K z f hl
     try simp only [Act.put, ł, ø, đ]
     generalize ((((wc63.setCell ⟨xb60, 0, none⟩ (.int .i64 C.1.de)).setCell ⟨xb60, 1, none⟩ (.int .i64 C.1.cl)).setCell ⟨xb60, 2, none⟩ (.int .i64 C.1.fu)).setCell ⟨xb60, 3, none⟩ (.int .i64 C.1.st)).setCell ⟨xb60, 4, none⟩ (.slice XA C.1.rs.length XC) = ws at *;have y0 := HQs.o.cell 0;have y1 := HQs.o.cell 1;have y2 := HQs.o.cell 2;have fy := HQs.o.frozen;have hly := HQs.o.lt;obtain ⟨ht1, ht2, ht3, ht4⟩ := õ (c0 := .int .i64 C.2.1) (c1 := .int .i64 C.2.2.1) (c2 := .int .i64 C.2.2.2) HQs.o Hvb50.o hs2.o hs3.o HG63.o hs1.o HN60.o
     refine ŝ 11 (fun K hK => ?_)
     go_simp
     refine hK.o _ _ ht4.o (fun _ => ?_)
     clear hK K y0 y1 y2 fy hly
     try simp only [Act.put, ł, ø, đ]
     refine wpAnyH_done (by kernel_rfl) ?_ _
     refine hK' _ _ (Met.intro (hJ _ _ ?_))
     (repeat apply Exists.intro)
     exact ⟨⟨xb60, vb50, XA, XC, rfl, rfl, ht2, ht1, ht3, ht4⟩, rfl⟩
  obtain ⟨xb, vb, XA, XC, rfl, rfl, HXs, HXv, HXr, HBw⟩ := hcut;generalize wc = we at *;have HB6 := ħ (HB5.o.trans (HBw.o.mono HB5.o.size));have HT6 := ħ (HT5.o.on HBw.o);have HW6 := ħ (HW5.o.on HBw.o);have HR6 := ħ (Àv HR5.o HBw.o HBw.o.size);clear HX5 HY5 HB5 HT5 HW5 HR5 HS5 HP5 HD5 HBw
  go_upto_region 7 with (fail)
  refine wp_region_held_drew (S := fun W => Below we.heap.size we W) (by kernel_rfl) (Îp we) (fun hHeld => ?_)
  refine ŧ 0 29 (.agg #[.int .i64 C.2.1, .int .i64 C.2.2.1, .int .i64 C.2.2.2]) _ rfl rfl hHeld (fun w' hSw => ?_) ?_
  ·have zz := HW6.o.on hSw
   have z0 := zz.cell 0;have z1 := zz.cell 1;have z2 := zz.cell 2;clear zz;clear hSw;go_simp
  simp only [ł, ø, đ]
  refine ŧ 1 30 (.agg #[.int .i64 C.2.1, .int .i64 C.2.2.1, .int .i64 C.2.2.2]) _ rfl rfl hHeld (fun w' hSw => ?_) ?_
  ·have zz := HXv.o.on hSw
   have z0 := zz.cell 0;have z1 := zz.cell 1;have z2 := zz.cell 2;clear zz;clear hSw;go_simp
  simp only [ł, ø, đ]
  refine ŝ 2 (fun K hK => ?_)
  go_simp;refine (ËN C.2.1 C.2.2.1 C.2.2.2 _).mono ?_;rintro e wk ⟨rfl, hbk⟩;have hSk := hHeld.trans (hbk.mono hHeld.size)
  refine hK.o _ _ hSk (fun hHeld => ?_)
  clear hK K hbk hSk
  refine ŧ 3 32 (.bool false) _ rfl rfl hHeld (fun w' hSw => ?_) ?_
  ·clear hSw
   go_simp
  simp only [ł, ø, đ]
  refine ŧ 4 33 (.bool false) _ rfl rfl hHeld (fun w' hSw => ?_) ?_
  ·clear hSw
   go_simp
  simp only [ł, ø, đ]
  refine ŧ 5 34 (.agg #[.int .i64 C.1.de, .int .i64 C.1.cl, .int .i64 C.1.fu, .int .i64 C.1.st, .slice TA C.1.rs.length TC]) _ rfl rfl hHeld (fun w' hSw => ?_) ?_
  ·have zz := (HT6.o.on hSw).c5
   clear hSw;go_simp
  simp only [ł, ø, đ]
  refine ŧ 7 36 (.agg #[.int .i64 C.1.de, .int .i64 C.1.cl, .int .i64 C.1.fu, .int .i64 C.1.st, .slice XA C.1.rs.length XC]) _ rfl rfl hHeld (fun w' hSw => ?_) ?_
  ·have zz := (HXs.o.on hSw).c5
   clear hSw;go_simp
  simp only [ł, ø, đ]
  refine ŝ 6 (fun K hK => ?_)
  go_simp;refine (Äa C.1 (.slice TA C.1.rs.length TC) _ HCl.o (Àv HR6.o hHeld hHeld.size)).mono ?_;rintro e wk2 ⟨MV, rfl, ox, hbk⟩;obtain ⟨MA, MC, rfl⟩ := Ú.form ox;have HOX := ħ (Ú.set ox);clear ox;have hSk := hHeld.trans (hbk.mono hHeld.size)
  refine hK.o _ _ hSk (fun hHeld => ?_)
  clear hK K hbk hSk
  refine ŝ 8 (fun K hK => ?_)
  go_simp
  refine (Íf C.1 C.1 (.slice MA C.1.rs.length MC) (.slice XA C.1.rs.length XC) _ (by have := HCl.o; omega) (by have := HCl.o; omega) HOX.o (Àv HXr.o hHeld hHeld.size)).mono ?_
  rintro e wk3 ⟨c, rfl, hc, hbk⟩;obtain rfl : c = true := hc.2 rfl;clear hc;have hSk := hHeld.trans (hbk.mono hHeld.size)
  refine hK.o _ _ hSk (fun hHeld => ?_)
  clear hK K hbk hSk
  refine ŧ 9 38 (.bool false) _ rfl rfl hHeld (fun w' hSw => ?_) ?_
  ·clear hSw
   go_simp
  simp only [ł, ø, đ]
  refine ŧ 10 39 (.bool false) _ rfl rfl hHeld (fun w' hSw => ?_) ?_
  ·clear hSw
   go_simp
  simp only [ł, ø, đ]
  refine wpAnyH_done (by kernel_rfl) ?_ _
  have HB7 := ħ (HB6.o.trans (hHeld.mono HB6.o.size));have HT7 := ħ (HT6.o.on hHeld);have HW7 := ħ (HW6.o.on hHeld);have HR7 := ħ (Àv HR6.o hHeld hHeld.size);clear hHeld HB6 HT6 HW6 HR6 HXs HXv HXr HOX;have v0 := HW7.o.cell 0;have hlv := HW7.o.lt
  by_cases h0 : C.2.1 = 0
  ·have h0b : (C.2.1 != 0) = false := by simp [h0]
   have hr0 := HCz.o h0;clear h0
   have hvr := ÁE C.1 (.slice TA C.1.rs.length TC) wk3 (by have := HCl.o; omega) (ŏ HT.o HB7.o HB7.o.size) HR7.o
   obtain ⟨R, hR⟩ : ∃ R, R = í pvM C.1 := ⟨_, rfl⟩;rw [← hR] at hvr hr0;clear hR
   have hfl := fun w => ËO R.1 R.2.1 R.2.2 w
   rw [hr0] at hvr hfl;obtain ⟨a0, a1, a2, a3, a4⟩ := HT7.o.c5;have hlt := HT7.o.lt;have HVr := ħ hvr;clear hvr hr0
   go_wp2_with fail
   refine HVr.o.mono ?_;rintro e w8 ⟨rfl, hb8⟩;have HB8 := ħ (HB7.o.trans (hb8.mono HB7.o.size));clear hb8 a0 a1 a2 a3 a4 hlt HVr v0 hlv
   go_wp2_with fail
   go_ret;exact ⟨rfl, HB8.o⟩
  ·have h0b : (C.2.1 != 0) = true := by simp [h0]
   go_wp2_with fail
   go_ret;exact ⟨rfl, HB7.o⟩
end
end Go.Proofs.YtpginkdkblmnbaaGreatDoor
