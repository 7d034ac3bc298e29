import Derived.Test.YtpginkdkblmnbaaGreatDoorWGe
namespace Go.Proofs.YtpginkdkblmnbaaGreatDoor
section
open Go.RowKit
open Go.Proofs.YtpginkdkblmnbaaGreatDoor.Cl (Rg à Ý Ä Á Ãf)
variable {w w' w0 : World} {n₀ wb lp lp' base : Nat} {fo : Bool} {M : List In} {G : Int} {v : Value} {js : List Nat}
def jv (l : List Nat) : List Value := l.map fun p => Value.int .i64 ((p : Nat) : Int)
theorem ËW (l : List Nat) (p : Nat) : jv (l ++ [p]) = jv l ++ [.int .i64 ((p : Nat) : Int)] := by simp [jv]
abbrev ž (w : World) (base : Nat) (v : Value) (l : List Nat) : Prop := w.ownsRow base 3 1 v l.length (jv l)
theorem Wr.grownJ (h : Wr n₀ wb fo w M lp) (ho : ž w base v js) (hg : w.grownBy w' v.ownBlock) : Wr n₀ wb fo w' M lp := by
 obtain ⟨cv, L, h, hM⟩ := h
 refine ⟨cv, L, h.keep fun i hi ⟨cs, t, z, hh, hc⟩ => hg.block i hi ?_, hM⟩
 intro e
 have hne : t ≠ 3 := by
  rcases hc with ⟨rfl, _⟩ | ⟨rfl, _⟩ | rfl <;> decide
 exact Ń ho hh (fun e => hne e.symm) e.symm
theorem FrW.grownJ (h : FrW n₀ wb w0 w) (ho : ž w base v js) (hb : w0.heap.size ≤ base) (hg : w.grownBy w' v.ownBlock) : FrW n₀ wb w0 w' :=
 ⟨hg.os.trans h.os, hg.tape.trans h.tape, hg.output.trans h.output, ē h.size hg.size, fun i hi hc => (hg.block i (Ć hi h.size) (fun e => by have := (World.ownsRow.lt ho i e.symm).1; omega)).trans (h.block i hi hc)⟩
theorem ž.frw (ho : ž w base v js) (hW : Wr n₀ wb fo w M lp) (hF : FrW n₀ wb w w') : ž w' base v js := by
 obtain ⟨cv, hB⟩ := hW.blk
 refine ÀGg ho fun i hi _ ⟨cs, z, hh⟩ => hF.block i hi (.inr ⟨Â hh hB (by decide), fun ⟨_, _, h2⟩ => Â hh h2 (by decide) rfl⟩)
theorem ž.at_ {j p : Nat} (ho : ž w base v js) (hj : js[j]? = some p) : ∃ g c, v = .slice (some ⟨g, 0, none⟩) js.length c ∧ js.length ≤ c ∧ w.cell? ⟨g, j, none⟩ = some (.int .i64 ((p : Nat) : Int)) := by
 have hl : 0 < js.length := by have := (List.getElem?_eq_some_iff.1 hj).1; omega
 obtain ⟨g, c, hv, _, hg⟩ := ho.form hl
 have hc : js.length ≤ c := by
  rcases ho.2 with ⟨hv', hn⟩ | ⟨g', c', cur, hv', _, _, hc, _⟩
  ·omega
  ·rw [hv] at hv'
   injection hv' with _ _ e
   omega
 subst hv;refine ⟨g, c, rfl, hc, ?_⟩
 have := ho.cells (g := g) rfl j (.int .i64 ((p : Nat) : Int)) (by simp [jv, hj])
 rw [← this];unfold Addr.add
 split <;> simp_all
theorem ž.form_ (ho : ž w base v js) : ∃ A c, v = .slice A js.length c ∧ js.length ≤ c := by
 rcases ho.2 with ⟨hv, hn⟩ | ⟨g, c, cur, hv, _, _, hc, _⟩
 ·exact ⟨none, 0, by rw [hv, hn], by omega⟩
 ·exact ⟨_, c, hv, hc⟩
theorem Îd (Q x : List In) : ((app (Q ++ [In.i 3 0 0 0 0]) x) ++ [In.i 2 0 0 0 0]).set Q.length (ÃM false Q.length ((app (Q ++ [In.i 3 0 0 0 0]) x) ++ [In.i 2 0 0 0 0]).length (In.i 3 0 0 0 0)) = ľ 0 Q x := by
 have hl : ((app (Q ++ [In.i 3 0 0 0 0]) x) ++ [In.i 2 0 0 0 0]).length = Q.length + x.length + 2 := by rw [ă, Ø, ă]; simp; omega
 have e1 : app (Q ++ [In.i 3 0 0 0 0]) x = Q ++ In.i 3 0 0 0 0 :: x.map (sh ((Q.length + 1 : Nat) : Int) (Ã Q : Nat)) := by
  unfold app
  rw [ë _ _ (by decide), ă, List.append_assoc]
  rfl
 have e2 : app Q [á false ((x.length : Int) + 2)] = Q ++ [In.i 3 ((Q.length : Int) + 1) ((Q.length : Int) + x.length + 2) 0 0] := by
  unfold app
  congr 1
  simp [á, sh, In.i];omega
 have e3 : Ã (Q ++ [In.i 3 ((Q.length : Int) + 1) ((Q.length : Int) + x.length + 2) 0 0]) = Ã Q := ë _ _ (by show (3 : Int) ≠ 10; decide)
 rw [hl, ľ, e2, e1]
 have e4 : app (Q ++ [In.i 3 ((Q.length : Int) + 1) ((Q.length : Int) + x.length + 2) 0 0]) x = Q ++ In.i 3 ((Q.length : Int) + 1) ((Q.length : Int) + x.length + 2) 0 0 :: x.map (sh ((Q.length + 1 : Nat) : Int) (Ã Q : Nat)) := by
  unfold app;rw [e3, ă, List.append_assoc];rfl
 rw [e4, List.append_assoc, List.set_append_right _ _ (ŋ _), Nat.sub_self, List.append_assoc];simp [ÃM, In.i]
theorem Îe (M xl : List In) (l : List (List In)) : Ŵ ((app (ĝ 0 M l) xl).length : Nat) (app (ĝ 0 M l) xl) (Áp M.length l) = app M (ÀA (l ++ [xl])) := by
 have hT : (((app (ĝ 0 M l) xl).length : Nat) : Int) = (M.length : Int) + len (ÀA (l ++ [xl])) := by
  have h1 := ÁQ 0 l M
  have h2 := ÃK (l ++ [xl]) (by simp)
  rw [Ø, h2];simp only [Ĕ, List.sum_append, ă, List.map_cons, List.map_nil, List.sum_cons, List.sum_nil, ć, Ď];unfold len at *;omega
 rw [← Çm, ← hT];clear hT;generalize (((app (ĝ 0 M l) xl).length : Nat) : Int) = T;have e := Ém T M l (xl.map (sh ((ĝ 0 M l).length : Nat) (Ã (ĝ 0 M l) : Nat)));have e1 : app (ĝ 0 M l) xl = ĝ 0 M l ++ xl.map (sh ((ĝ 0 M l).length : Nat) (Ã (ĝ 0 M l) : Nat)) := rfl;rw [← e1] at e;rw [e, ÄQ 0 T l M, Ãv 0 T l M M rfl];rfl
def Èg (n₀ wb : Nat) (fo : Bool) (G : Int) (n : Nat) : Prop := ∀ (L : List Nd), (∀ x ∈ L, Nx G n x) → L ≠ [] → L.length ≤ 1000000 → ∀ (w : World) (M : List In) (A : Option Addr) (p b off : Nat), Àq n₀ w → Áz n₀ w L A b off → Wm n₀ wb fo w M → M.length + (ÀA (L.map (â fo))).length ≤ 90000 →
 Calls Tryz.prog 70 #[.pointer (some ⟨wb, 0, none⟩), .slice A L.length p] w (WmP n₀ wb fo w (app M (ÀA (L.map (â fo)))))
theorem Éo (f : Nd → List In) (L : List Nd) (M : List In) {k : Nat} (h : k < L.length) : (ĝ 0 M ((L.take k).map f)).length + (f L[k]).length + (if k + 1 < L.length then 2 else 0) ≤ M.length + (ÀA (L.map f)).length := by
 have e : L = L.take k ++ (L[k] :: L.drop (k + 1)) := by
  rw [← List.drop_eq_getElem_cons h, List.take_append_drop]
 have h1 := ÁQ 0 ((L.take k).map f) M
 have h2 := ÃK (L.map f) (by intro e; have := congrArg List.length e; simp at this; rw [this] at h; simp at h)
 have e2 := congrArg (fun L => ((L.map f).map len).sum) e
 simp only [Ĕ, List.map_cons, List.sum_append, List.sum_cons] at e2
 have h0 : ∀ (l : List (List In)), 0 ≤ (l.map len).sum := by
  intro l
  induction l with
  | nil => simp
  | cons y l ih => simp only [List.map_cons, List.sum_cons]; have := ŏ y; omega
 have h3 := h0 ((L.drop (k + 1)).map f)
 have h4 : ((L.take k).map f).length = k := by simp; omega
 rw [h4] at h1;rw [List.length_map] at h2;unfold len at *
 split <;> omega
theorem Ãg (f : Nd → List In) {L : List Nd} {k : Nat} (h : k < L.length) : (L.take (k + 1)).map f = (L.take k).map f ++ [f L[k]] := by rw [Š h, Ĕ]; rfl
set_option maxRecDepth 100000 in
set_option maxHeartbeats 4000000 in
theorem ÃS (n : Nat) (ih : Éi n₀ wb fo G n) : Èg n₀ wb fo G n := by
 intro L hL hne hm w M A p b off hE hK hW hlen;have HK := ħ hK;have HIH := ħ ih;have HL := ħ hL;have HE := ħ hE;have HW := ħ hW;have HLen := ħ hlen;have hl0 : 0 < L.length := List.length_pos_iff.2 hne;obtain ⟨hlow1, hlow2⟩ := Wr.low hW;obtain ⟨i0, hi, hz0, hz1, hz2⟩ := Á Ãf;clear hK ih hL hE hW hlen hne;go_enter Tryz.func70, Tryz.ntmps70;go_wp2
 go_loopw [5, 16] (fun u i wr => ∃ (k : Nat) (A5 : Option Addr) (c5 : Nat), k < L.length ∧ u = .slice A5 (Áp M.length ((L.take k).map (â fo))).length c5 ∧ (Áp M.length ((L.take k).map (â fo))).length ≤ c5 ∧ i = .int .i64 k ∧ Hid (Wm n₀ wb fo wr (ĝ 0 M ((L.take k).map (â fo))) ∧ FrW n₀ wb w wr ∧ ž wr w.heap.size u (Áp M.length ((L.take k).map (â fo))))) (fun _ i _ => L.length - (intOf i).toNat)
 case atStart => exact ⟨0, none, 0, by omega, rfl, ŋ _, rfl, ħ ⟨HW.o, FrW.refl _, World.ownsRow_nil _ _ _ _⟩⟩
 case round =>
  obtain ⟨k, A5, c5, hk, rfl, hc5, rfl, HR⟩ := hrel;have hsz := HR.o.2.1.size
  have HBl := ħ (HR.o.2.1.old (by omega))
  have hlti : (k : Int) < L.length := by omega
  obtain ⟨hA, hb, a1, a2, r1, r2, hN, hC⟩ := HK.o k _ (Ā hk);subst hA;have HX := ħ (HL.o _ (Ē hk));have HT := ħ (Ãg (â fo) hk);have HTl := ħ (Éo (â fo) L M hk)
  have HEq : Hid (k + 1 = L.length → (L.map (â fo)) = (L.take k).map (â fo) ++ [â fo L[k]]) := ħ (fun e => by rw [← Ãg (â fo) hk, e, Ă])
  generalize L[k] = x at hN hC HX HT HTl HEq;have h7 := (hC.on (HBl.o.block b hb)).seven_
  have HN := ħ ((hN.lowB HBl.o).lowB (Ĳ wr #[.int .i64 x.kind, .int .i64 x.lo, .int .i64 x.hi, .int .i64 x.mode, .int .i64 x.ref, .slice a1 x.set.length r1, .slice a2 x.kids.length r2] |>.mono (by omega)))
  have HB := ħ (Blk.new wr 27 #[.int .i64 x.kind, .int .i64 x.lo, .int .i64 x.hi, .int .i64 x.mode, .int .i64 x.ref, .slice a1 x.set.length r1, .slice a2 x.kids.length r2]);have HW6 := ħ (HR.o.1.alloc (.cells #[.int .i64 x.kind, .int .i64 x.lo, .int .i64 x.hi, .int .i64 x.mode, .int .i64 x.ref, .slice a1 x.set.length r1, .slice a2 x.kids.length r2] 27));have HF6 := ħ (HR.o.2.1.alloc (.cells #[.int .i64 x.kind, .int .i64 x.lo, .int .i64 x.hi, .int .i64 x.mode, .int .i64 x.ref, .slice a1 x.set.length r1, .slice a2 x.kids.length r2] 27));have HJ6 := ħ (World.ownsRow.alloc HR.o.2.2 (.cells #[.int .i64 x.kind, .int .i64 x.lo, .int .i64 x.hi, .int .i64 x.mode, .int .i64 x.ref, .slice a1 x.set.length r1, .slice a2 x.kids.length r2] 27));clear hN hC
  go_upto_region 5 with (fail)
  have h77 := HB.o.c7
  have hbx : wr.heap.size < (wr.alloc (.cells #[.int .i64 x.kind, .int .i64 x.lo, .int .i64 x.hi, .int .i64 x.mode, .int .i64 x.ref, .slice a1 x.set.length r1, .slice a2 x.kids.length r2] 27)).heap.size := by simp
  generalize wr.alloc _ = W at *
  have HE6 := ħ (HE.o.low (HF6.o.old (by omega)))
  have HCl : Hid (((L.take k).map (â fo)).length = k) := ħ (by simp; omega)
  generalize (L.take k).map (â fo) = C at *
  have hQl : (ĝ 0 M C).length + (â fo x).length + (if k + 1 < L.length then 2 else 0) ≤ 90000 := by have := HTl.o; have := HLen.o; omega
  obtain ⟨Q, hQ⟩ : ∃ Q, Q = ĝ 0 M C := ⟨_, rfl⟩;rw [← hQ] at HW6 hQl;have HQ := ħ hQ;clear hQ HTl;obtain ⟨X, hX⟩ : ∃ X, X = â fo x := ⟨_, rfl⟩
  have HNd : Hid (∀ W M A1 A2 p1 p2, Àq n₀ W → Ś n₀ W x A1 A2 p1 p2 → Wm n₀ wb fo W M → M.length + X.length ≤ 90000 → Calls Tryz.prog 47 #[.pointer (some ⟨wb, 0, none⟩), .agg #[.int .i64 x.kind, .int .i64 x.lo, .int .i64 x.hi, .int .i64 x.mode, .int .i64 x.ref, .slice A1 x.set.length p1, .slice A2 x.kids.length p2]] W (WmP n₀ wb fo W (app M X))) := ħ (by rw [hX]; exact HIH.o x HX.o)
  rw [← hX] at hQl HT HEq;clear hX
  by_cases hlast : k + 1 < L.length
  ·have hne' : ((k : Int) == (L.length : Int) - 1) = false := by simp; omega
   rw [if_pos hlast] at hQl
   have HP := ħ (ÀI 3 0 0 0 0 HW6.o (by omega))
   go_wp2_with fail
   refine HP.o.mono ?_;rintro e w2 ⟨rfl, hW2, hF2⟩;have hs2 := hF2.size
   have HB2 := ħ (hF2.blk HB.o (by decide) (by omega))
   have HJ2 := ħ (ž.frw HJ6.o HW6.o hF2);have HF2 := ħ (HF6.o.trans hF2)
   have HN2 := ħ (HN.o.lowB (hF2.old (by omega)))
   have HE2 := ħ (HE.o.low (HF2.o.old (by omega)))
   have HW2 : Hid (Wm n₀ wb fo w2 (Q ++ [In.i 3 0 0 0 0])) := ħ (by unfold Wm; rw [ë _ _ (by decide)]; exact hW2)
   clear hW2 hF2 HP h77;have h77 := HB2.o.c7
   go_wp2_with fail
   refine (HNd.o w2 _ a1 a2 r1 r2 HE2.o HN2.o HW2.o (by rw [ă]; simp; omega)).mono ?_
   rintro e w3 ⟨rfl, hW3, hF3⟩;have hs3 := hF3.size;have HJ3 := ħ (ž.frw HJ2.o HW2.o hF3);have HF3 := ħ (HF2.o.trans hF3);obtain ⟨Q2, hQ2⟩ : ∃ Q2, Q2 = app (Q ++ [In.i 3 0 0 0 0]) X := ⟨_, rfl⟩;rw [← hQ2] at hW3
   have hQ2l : Q2.length = Q.length + 1 + X.length := by rw [hQ2, Ø, ă]; rfl
   have HQ2 := ħ hQ2;have HW3 := ħ hW3;clear hW3 hF3 hQ2 h77;have HQ2l := ħ hQ2l
   have hQ2b : Q2.length + 1 ≤ 90000 := by omega
   clear hQ2l
   have HP := ħ (ÀI 2 0 0 0 0 HW3.o (by omega))
   go_wp2_with fail
   refine HP.o.mono ?_;rintro e w4 ⟨rfl, hW4, hF4⟩;have HJ4 := ħ (ž.frw HJ3.o HW3.o hF4);have HF4 := ħ (HF3.o.trans hF4);have HW4 := ħ hW4;have hs4 := HF4.o.size;clear hW4 hF4;have HJa := ħ (World.ownsRow.alloc HJ4.o (.cells #[.int .i64 ((Q2.length : Nat) : Int)] 3));have HWa := ħ (HW4.o.alloc (.cells #[.int .i64 ((Q2.length : Nat) : Int)] 3));have HFa := ħ (HF4.o.alloc (.cells #[.int .i64 ((Q2.length : Nat) : Int)] 3))
   have hjl : (Áp M.length C).length ≤ 1000000 := by rw [ÅV, HCl.o]; omega
   go_wp2_with (at_builtin; refine wpList_append_own _ rfl _ _ 61 rfl w.heap.size 3 i0 (.int .i64 0) 1 8 Tryz.underlying61 hi hz0 hz1 hz2 rfl (by decide) _ _ _ rfl HJa.o ⟨w4.heap.size, 0, none⟩ 1 1 [.int .i64 ((Q2.length : Nat) : Int)] rfl rfl ?c1 ?c2 ?c3 ?c4 ?c5 ?_)
   case c1 =>
    intro j u hj
    match j, hj with
    | 0, hj => simp at hj; subst hj; simp [Addr.add]
   case c2 => intro u hu; simp at hu; subst hu; rfl
   case c3 => unfold maxLen; omega
   case c4 => omega
   case c5 => simp; omega
   intro v' w5 hown' hgrow;have HW5 := ħ (HWa.o.grownJ HJa.o hgrow);have HF5 := ħ (HFa.o.grownJ HJa.o (ŋ _) hgrow)
   have HJ5 : Hid (ž w5 w.heap.size v' (Áp M.length C ++ [Q2.length])) := ħ (by
    unfold ž;rw [ËW, ă]
    exact hown')
   obtain ⟨g9, c9, rfl, _, _⟩ := hown'.form (by omega)
   clear hown' hgrow
   have HFk := ħ (ÅN (lz := false) (s := Q.length) (x := In.i 3 0 0 0 0) HW5.o (by
    rw [HQ2.o];unfold app
    simp))
   intro _
   go_wp2_with fail
   refine HFk.o.mono ?_;rintro e w6 ⟨rfl, hW6, hF6⟩;have HJ6' := ħ (ž.frw HJ5.o HW5.o hF6);have HF6' := ħ (HF5.o.trans hF6);have HW6' := ħ hW6;clear hW6 hF6;go_wp2;go_roundw
   case rel =>
    have e0 : Áp M.length ((L.take (k + 1)).map (â fo)) = Áp M.length C ++ [Q2.length] := by rw [HT.o, Ät _ _ _ 0, ← HQ.o, HQ2l.o]
    refine ⟨k + 1, some ⟨g9, 0, none⟩, c9, hlast, by rw [e0, ă]; rfl, ?_, by go_num, ħ ?_⟩
    ·rw [e0]
     obtain ⟨A', c', e', h'⟩ := ž.form_ HJ5.o
     injection e' with _ _ e''
     omega
    rw [e0, HT.o, ÂT, ← HQ.o]
    have e1 : (Q2 ++ [In.i 2 0 0 0 0]).set Q.length (ÃM false Q.length (Q2 ++ [In.i 2 0 0 0 0]).length (In.i 3 0 0 0 0)) = ľ 0 Q X := by rw [HQ2.o]; exact Îd Q X
    have e2 : Ã Q2 = Ã (ľ 0 Q X) := by rw [HQ2.o, ġ, ë _ _ (by decide), ÁH]
    refine ⟨?_, HF6'.o, ?_⟩
    ·have := HW6'.o
     rw [e1, e2] at this;exact this
    ·exact HJ6'.o
   case measure => simp [intOf]; omega
  ·have hkl : k + 1 = L.length := by omega
   have hne' : ((k : Int) == (L.length : Int) - 1) = true := by simp; omega
   have HD := ħ (HEq.o hkl);clear hkl
   go_wp2_with fail
   refine (HNd.o W Q a1 a2 r1 r2 HE6.o HN.o HW6.o (by omega)).mono ?_
   rintro e w3 ⟨rfl, hW3, hF3⟩;have HJ3 := ħ (ž.frw HJ6.o HW6.o hF3);have HF3 := ħ (HF6.o.trans hF3);have hs3 := HF3.o.size
   have hZb : (app Q X).length ≤ 90000 := by rw [Ø]; omega
   have HZ := ħ (show Ŵ ((app Q X).length : Nat) (app Q X) (Áp M.length C) = app M (ÀA (C ++ [X])) by rw [HQ.o]; exact Îe M X C)
   have HZl : Hid (∀ p ∈ Áp M.length C, p < (app Q X).length) := ħ (fun p hp => by
    have := ËV 0 C M p hp;rw [Ø, HQ.o]
    omega)
   rw [← HD.o] at HZ
   have hjs : (Áp M.length C).length ≤ 1000000 := by rw [ÅV, HCl.o]; omega
   generalize app Q X = Z0 at *;generalize Áp M.length C = js at *;have HW3 := ħ hW3;clear hW3 hF3 h77;go_wp2
   go_loopw [45] (fun i wr => ∃ (j : Nat), j ≤ js.length ∧ i = .int .i64 j ∧ Hid (Wm n₀ wb fo wr (Ŵ (Z0.length : Nat) Z0 (js.take j)) ∧ FrW n₀ wb w wr ∧ ž wr w.heap.size (.slice A5 js.length c5) js)) (fun i _ => js.length - (intOf i).toNat)
   case atStart => exact ⟨0, Ą _, rfl, ħ ⟨HW3.o, HF3.o, HJ3.o⟩⟩
   case round =>
    obtain ⟨j, hj, rfl, HR2⟩ := hrel
    by_cases hjl : j < js.length
    ·have hji : (j : Int) < js.length := by omega
     obtain ⟨g7, c7, hv7, hc7, k7⟩ := ž.at_ HR2.o.2.2 (Ā hjl);have HPs := ħ (HZl.o _ (Ē hjl))
     have HTk : Hid (js.take (j + 1) = js.take j ++ [js[j]]) := ħ (by rw [ĕ hjl])
     generalize js[j] = pp at k7 HPs HTk;obtain ⟨rfl, _, rfl⟩ := Value.slice.inj hv7;have hW9 := HR2.o.1;obtain ⟨cv, L9, hWc, hL9⟩ := hW9
     have hl9 : L9.length = Z0.length := by have := congrArg List.length hL9; rw [List.length_map, ÂB] at this; exact this
     have hpl : pp < L9.length := by have := HPs.o; omega
     have hx' := Ā hpl;generalize L9[pp] = y9 at hx';obtain ⟨y, v9⟩ := y9;obtain ⟨g, cp, rfl, hcp, hgs, hcell, hfz⟩ := hWc.at_ hx';have k1 := hcell 1 _ rfl;have f1 := hfz (pp * 6 + 1);obtain ⟨c0, _, _⟩ := hWc.c3
     have hpi : (pp : Int) < (L9.length : Int) := by omega
     have HTu := ħ (hWc.turn (y := { y with a := (Z0.length : Nat) }) hx' (j := 1) (u := .int .i64 (Z0.length : Nat)) (by omega) rfl rfl)
     have HHr : Hid (Calls Tryz.prog 67 #[.pointer (some ⟨wb, 0, none⟩)] wr.drew fun e w' => e = .returned (.int .i64 (Z0.length : Nat)) ∧ wr.drew = w') := ħ (by
      have := ÀH HR2.o.1.drew;rw [ÂB] at this
      exact this)
     have HJ1 := ħ hjl
     have HX9 : Hid ((Ŵ (Z0.length : Nat) Z0 (js.take j))[pp]? = some y) := ħ (by rw [← hL9, List.getElem?_map, hx']; rfl)
     have HL9 := ħ hL9;clear hWc hx' hcell hfz hL9 hl9
     go_wp2_with fail
     go_region_with (go_at_call 67; refine HHr.o.mono ?_; rintro e w1 ⟨rfl, rfl⟩)
     all_goals
      generalize wr.setCell _ _ = w9 at HTu ⊢
      have HN9 : Hid (Wm n₀ wb fo w9.drew (Ŵ (Z0.length : Nat) Z0 (js.take (j + 1))) ∧ FrW n₀ wb w w9.drew ∧ ž w9.drew w.heap.size (.slice (some ⟨g7, 0, none⟩) js.length c5) js) := ħ (by
       have hm9 : Ã (Ŵ (Z0.length : Nat) Z0 (js.take (j + 1))) = Ã (Ŵ (Z0.length : Nat) Z0 (js.take j)) := by rw [HTk.o, Âj, Él]
       refine ⟨by unfold Wm; rw [hm9]; exact ⟨_, _, HTu.o.1.drew, by rw [Âz, HL9.o, HTk.o, Âj, Çl _ HX9.o]⟩, (HR2.o.2.1.trans HTu.o.2).drew, ž.frw HR2.o.2.2 HR2.o.1 HTu.o.2.drew⟩)
      clear HTu;go_wp2;go_roundw
      case rel => exact ⟨j + 1, HJ1.o, by go_num, HN9⟩
      case measure => have := HJ1.o; simp [intOf]; omega
    ·obtain rfl : j = js.length := by omega
     go_wp2;have HR3 := HR2.o;rw [Ă, HZ.o] at HR3
     exact ⟨rfl, .tuple #[], by simp [results, Tryz.results70, go_sem], rfl, HR3.1, HR3.2.1⟩
end
section
open Go.RowKit
open Go.Proofs.YtpginkdkblmnbaaGreatDoor.Cl (Rg à Ý Ä Á Ãf)
variable {w w' w0 : World} {n₀ wb lp lp' base : Nat} {fo : Bool} {M : List In} {G : Int}
theorem Wr.loops (h : Wr n₀ wb fo w M lp) {x : Int} {k : Nat} (hx : x = (k : Nat)) (hk : k ≤ 100000) : Wr n₀ wb fo (w.setCell ⟨wb, 1, none⟩ (.int .i64 x)) M k ∧ FrW n₀ wb w (w.setCell ⟨wb, 1, none⟩ (.int .i64 x)) := by
 subst hx;have hlow := h.low;obtain ⟨cv, L, h, hM⟩ := h
 refine ⟨⟨cv, L, ⟨?_, ?_, fun x hx => ?_, h.low, h.bnd.1, hk⟩, hM⟩, (FrW.refl w).set_ hlow.1 (.inl rfl) _⟩
 ·have := h.blk.set_ 1 (.int .i64 ((k : Nat) : Int))
  simpa using this
 ·refine Þ h.own fun i hi => Below.heap_setCell _ _ _ _ ?_
  rintro rfl
  exact Ń h.own h.blk (by decide) hi.symm
 ·exact ÀGg (h.sets x hx) fun i _ _ ⟨cs, z, hh⟩ => Below.heap_setCell _ _ _ _ (show i ≠ wb from Â hh h.blk (by decide))
theorem ÌB (lz : Bool) (M X : List In) : (app (M ++ [In.i 3 0 0 0 0] ++ [In.i 10 (Ã M : Nat) 0 0 0]) X ++ [In.i 11 (Ã M : Nat) 0 0 0] ++ [In.i 2 (M.length : Nat) 0 0 0]).set M.length (ÃM lz M.length (app (M ++ [In.i 3 0 0 0 0] ++ [In.i 10 (Ã M : Nat) 0 0 0]) X ++ [In.i 11 (Ã M : Nat) 0 0 0] ++ [In.i 2 (M.length : Nat) 0 0 0]).length (In.i 3 0 0 0 0)) = app M (Ź lz X) := by
 have hm : Ã (M ++ [In.i 3 0 0 0 0] ++ [In.i 10 (Ã M : Nat) 0 0 0]) = Ã M + 1 := by
  rw [ô, ë _ _ (by decide)]; rfl
 have e1 : app (M ++ [In.i 3 0 0 0 0] ++ [In.i 10 (Ã M : Nat) 0 0 0]) X ++ [In.i 11 (Ã M : Nat) 0 0 0] ++ [In.i 2 (M.length : Nat) 0 0 0] = M ++ In.i 3 0 0 0 0 :: (In.i 10 (Ã M : Nat) 0 0 0 :: (X.map (sh ((M.length + 2 : Nat) : Int) ((Ã M + 1 : Nat) : Int)) ++ [In.i 11 (Ã M : Nat) 0 0 0, In.i 2 (M.length : Nat) 0 0 0])) := by
  unfold app;rw [hm];simp
 have hl : (app (M ++ [In.i 3 0 0 0 0] ++ [In.i 10 (Ã M : Nat) 0 0 0]) X ++ [In.i 11 (Ã M : Nat) 0 0 0] ++ [In.i 2 (M.length : Nat) 0 0 0]).length = M.length + X.length + 4 := by
  rw [ă, ă, Ø]; simp; omega
 rw [hl, e1, List.set_append_right _ _ (ŋ _), Nat.sub_self];have e2 : app M (Ź lz X) = M ++ (Ź lz X).map (sh (M.length : Nat) (Ã M : Nat)) := rfl;rw [e2]
 congr 1
 have ms := Âw lz ((X.length : Int) + 4)
 have e3 : Ź lz X = á lz ((X.length : Int) + 4) :: (In.i 10 0 0 0 0 :: (X.map (sh 2 1) ++ [In.i 11 0 0 0 0, In.i 2 0 0 0 0])) := by
  unfold Ź;unfold app;rw [ms];have h10 : Ã [In.i 10 0 0 0 0] = 1 := rfl;have h11 : Ã [In.i 11 (-(Ã X : Int) - 1) 0 0 0] = 0 := rfl;rw [h10, h11];simp only [Ĕ, List.map_map, List.map_cons, List.map_nil, List.cons_append, List.nil_append, ć, Ď]
  congr 1
  congr 1
  ·congr 1
   ·apply List.map_congr_left
    intro i _;simp only [Function.comp, Çc]
    congr 1
   ·simp [sh, In.i]
    refine ⟨?_, ?_⟩ <;> omega
 rw [e3];simp only [ø, List.map_cons, Ĕ, List.map_map, List.map_nil]
 congr 1
 ·cases lz
  ·simp [ÃM, á, sh, In.i]
   refine ⟨?_, ?_⟩ <;> omega
  ·simp [ÃM, á, sh, In.i]
   refine ⟨?_, ?_⟩ <;> omega
 ·congr 1
  ·simp [sh, In.i]
  ·congr 1
   ·apply List.map_congr_left
    intro i _;simp only [Function.comp, Çc]
    congr 1 <;> omega
   ·simp [sh, In.i]
def AtG (n₀ wb : Nat) (fo : Bool) (G : Int) (n f : Nat) (ok : Nd → Prop) (X : Nd → List In) : Prop := ∀ (nd : Nd), ok nd → (∀ x ∈ nd.kids, Nx G n x) → ∀ (w : World) (M : List In) (A1 A2 : Option Addr) (p1 p2 : Nat), Àq n₀ w → Ś n₀ w nd A1 A2 p1 p2 → Wm n₀ wb fo w M → M.length + (X nd).length ≤ 90000 →
 Calls Tryz.prog f #[.pointer (some ⟨wb, 0, none⟩), .agg #[.int .i64 nd.kind, .int .i64 nd.lo, .int .i64 nd.hi, .int .i64 nd.mode, .int .i64 nd.ref, .slice A1 nd.set.length p1, .slice A2 nd.kids.length p2]] w (WmP n₀ wb fo w (app M (X nd)))
def ý (fo : Bool) (nd : Nd) : List In := ĸ (nd.kids.map (â fo))
set_option maxRecDepth 100000 in
set_option maxHeartbeats 2000000 in
theorem ÌC (n : Nat) (ih : Èe n₀ wb fo G n) : AtG n₀ wb fo G n 115 (fun _ => True) (fun nd => Ź (nd.mode == 1) (ý fo nd)) := by
 intro nd _ hkids w M A1 A2 p1 p2 hE hN hW hlen
 dsimp only at hlen ⊢
 obtain ⟨b, off, hkv, hm⟩ := Ś.kids hN;obtain ⟨hlow1, hlow2⟩ := Wr.low hW
 have hX : (Ź (nd.mode == 1) (ý fo nd)).length = (ý fo nd).length + 4 := by have := Äo (nd.mode == 1) (ý fo nd); unfold len at this; omega
 have HRow := ħ (fun W M' (h1 : Àq n₀ W) (h2 : Áz n₀ W nd.kids A2 b off) (h3 : Wm n₀ wb fo W M') h4 => ih nd.kids hkids hm W M' A2 p2 b off h1 h2 h3 h4)
 have HB0 := ħ (Blk.new w 27 #[.int .i64 nd.kind, .int .i64 nd.lo, .int .i64 nd.hi, .int .i64 nd.mode, .int .i64 nd.ref, .slice A1 nd.set.length p1, .slice A2 nd.kids.length p2]);have hb0 := Ĳ w #[.int .i64 nd.kind, .int .i64 nd.lo, .int .i64 nd.hi, .int .i64 nd.mode, .int .i64 nd.ref, .slice A1 nd.set.length p1, .slice A2 nd.kids.length p2];have HE := ħ hE;have HK := ħ hkv;have HW0 := ħ (hW.on hb0);have HF0 := ħ (FrW.of_below (n₀ := n₀) (wb := wb) hb0);have hmk := ÍM M;unfold ý at *;clear ih hkids hE hN hW hkv hm;go_enter Tryz.func115, Tryz.ntmps115
 go_upto_region 1 with (fail)
 generalize w.alloc _ = W at *;have hs0 := hb0.size;obtain ⟨X, hXe⟩ : ∃ X, X = ĸ (nd.kids.map (â fo)) := ⟨_, rfl⟩;rw [← hXe] at hX hlen HRow;have HXe := ħ hXe;clear hXe
 have HP := ħ (ÀI 3 0 0 0 0 HW0.o (by omega))
 go_wp2_with fail
 refine HP.o.mono ?_;rintro e w1 ⟨rfl, hW1, hF1⟩;have hs1 := hF1.size;obtain ⟨cv1, hblk1⟩ := hW1.blk;have c1 := hblk1.cell 1;have f1 := hblk1.frozen 1;simp at c1
 have HB1 := ħ (hF1.blk HB0.o (by decide) (by omega))
 have HF1 := ħ (HF0.o.trans hF1)
 have HWl := ħ (hW1.loops (x := (Ã M : Nat) + 1) (k := Ã M + 1) (by omega) (by omega))
 clear hW1 hF1 HP hblk1
 go_upto_region 4 with (fail)
 have HF2 := ħ (HF1.o.trans HWl.o.2)
 have HB2 := ħ (HWl.o.2.blk HB1.o (by decide) (by omega))
 have HW2 := ħ HWl.o.1;have hs2 := HF2.o.size;clear HWl c1 f1;generalize w1.setCell _ _ = w2 at *
 have HP := ħ (ÀI 10 (Ã M : Nat) 0 0 0 HW2.o (by rw [ă]; simp; omega))
 go_wp2_with fail
 refine HP.o.mono ?_;rintro e w3 ⟨rfl, hW3, hF3⟩;have hs3 := hF3.size
 have HB3 := ħ (hF3.blk HB2.o (by decide) (by omega))
 have HF3 := ħ (HF2.o.trans hF3)
 have hm3 : Ã (M ++ [In.i 3 0 0 0 0] ++ [In.i 10 (Ã M : Nat) 0 0 0]) = Ã M + 1 := by rw [ô, ë _ _ (by decide)]; rfl
 have HW3 : Hid (Wm n₀ wb fo w3 (M ++ [In.i 3 0 0 0 0] ++ [In.i 10 (Ã M : Nat) 0 0 0])) := ħ (by unfold Wm; rw [hm3]; exact hW3)
 clear hW3 hF3 HP;have h7 := HB3.o.c7
 go_wp2_with fail
 refine (HRow.o w3 _ (HE.o.low (HF3.o.old (by omega))) (HK.o.low (HF3.o.old (by omega))) HW3.o (by rw [ă, ă]; simp; omega)).mono ?_
 rintro e w4 ⟨rfl, hW4, hF4⟩;have hs4 := hF4.size
 have HB4 := ħ (hF4.blk HB3.o (by decide) (by omega))
 have HF4 := ħ (HF3.o.trans hF4);obtain ⟨Q, hQ⟩ : ∃ Q, Q = app (M ++ [In.i 3 0 0 0 0] ++ [In.i 10 (Ã M : Nat) 0 0 0]) X := ⟨_, rfl⟩
 have hQl : Q.length = M.length + 2 + X.length := by rw [hQ, Ø, ă, ă]; simp
 have hQb : Q.length + 2 ≤ 90000 := by omega
 have hQm : Ã Q = Ã M + 1 + Ã X := by rw [hQ, ġ, hm3]
 have hLc := ÌB (nd.mode == 1) M X;rw [← hQ] at hW4 hLc;have HLc := ħ hLc;have HW4 := ħ hW4;have HQ := ħ hQ;have HQm := ħ hQm;clear hW4 hF4 h7 hQ hLc hQl hQm hm3
 have HP := ħ (ÀI 11 (Ã M : Nat) 0 0 0 HW4.o (by omega))
 go_wp2_with fail
 refine HP.o.mono ?_;rintro e w5 ⟨rfl, hW5, hF5⟩;have hs5 := hF5.size
 have HB5 := ħ (hF5.blk HB4.o (by decide) (by omega))
 have HF5 := ħ (HF4.o.trans hF5);have HW5 := ħ hW5;clear hW5 hF5 HP
 have HP := ħ (ÀI 2 (M.length : Nat) 0 0 0 HW5.o (by rw [ă]; simp; omega))
 go_wp2_with fail
 refine HP.o.mono ?_;rintro e w6 ⟨rfl, hW6, hF6⟩;have hs6 := hF6.size
 have HB6 := ħ (hF6.blk HB5.o (by decide) (by omega))
 have HF6 := ħ (HF5.o.trans hF6)
 have HFk := ħ (ÅN (lz := nd.mode == 1) (s := M.length) (x := In.i 3 0 0 0 0) hW6 (by rw [HQ.o]; unfold app; simp))
 rw [HLc.o] at HFk;clear hW6 hF6 HP;have h7 := HB6.o.c7
 go_wp2_with fail
 refine HFk.o.mono ?_;rintro e w7 ⟨rfl, hW7, hF7⟩;have HF7 := ħ (HF6.o.trans hF7)
 have HW7 : Hid (Wm n₀ wb fo w7 (app M (Ź (nd.mode == 1) X))) := ħ (by
  have e : Ã (app M (Ź (nd.mode == 1) X)) = Ã Q := by
   rw [HQm.o, ġ];unfold Ź;rw [ġ, ġ, ġ, ġ, Âw];have h10 : Ã [In.i 10 0 0 0 0] = 1 := rfl;have h11 : Ã [In.i 11 (-(Ã X : Int) - 1) 0 0 0] = 0 := rfl;have h2 : Ã [In.i 2 (-(X.length : Int) - 3) 0 0 0] = 0 := rfl;omega
  unfold Wm;rw [e]
  exact hW7)
 clear hW7 hF7;go_wp2
 exact ⟨rfl, .tuple #[], by simp [results, Tryz.results115, go_sem], rfl, (by have := HW7.o; rw [HXe.o] at this; exact this), HF7.o⟩
end
section
open Go.RowKit
open Go.Proofs.YtpginkdkblmnbaaGreatDoor.Cl (Rg à Ý Ä Á Ãf)
variable {w w' w0 : World} {n₀ wb lp lp' base : Nat} {fo : Bool} {M : List In} {G : Int}
def Ãw (m x : Nat) : Nat → List Nat
 | 0 => []
 | n + 1 => Ãw m x n ++ [m + n * (x + 1)]
theorem ÁR (m x : Nat) : ∀ n, (Ãw m x n).length = n
 | 0 => rfl
 | n + 1 => by rw [Ãw, ă, ÁR m x n]; rfl
theorem Ép (m x : Nat) : ∀ (n j : Nat), j < n → (Ãw m x n)[j]? = some (m + j * (x + 1))
 | 0, _, h => by omega
 | n + 1, j, h => by
  rw [Ãw]
  by_cases e : j = n
  ·subst e
   rw [List.getElem?_append_right (by rw [ÁR]; omega), ÁR, Nat.sub_self]
   rfl
  ·rw [List.getElem?_append_left (by rw [ÁR]; omega)]
   exact Ép m x n j (by omega)
theorem ÌD (lz : Bool) (s n : Nat) : ÃM lz s n (In.i 3 0 0 0 0) = ÅX lz s n := by cases lz <;> rfl
theorem Îf (lz : Bool) (T n m : Nat) (Q x : List In) (h : n < m) (hT : T = Q.length + m * (x.length + 1)) :
 (ÂZ lz T n m Q x)[Q.length + n * (x.length + 1)]? = some (In.i 3 0 0 0 0) ∧ (ÂZ lz T n m Q x).set (Q.length + n * (x.length + 1)) (ÃM lz (Q.length + n * (x.length + 1)) (ÂZ lz T n m Q x).length (In.i 3 0 0 0 0)) = ÂZ lz T (n + 1) m Q x ∧ Ã (ÂZ lz T (n + 1) m Q x) = Ã (ÂZ lz T n m Q x) := by
 obtain ⟨R, e1, e2⟩ := Ìz lz T n m Q x h
 have hl : (ÂZ lz T n m Q x).length = T := by
  unfold ÂZ;rw [ÅW, ÃR, hT]
  have : m * (x.length + 1) = n * (x.length + 1) + (m - n) * (x.length + 1) := by rw [← Nat.add_mul]; congr 1; omega
  omega
 rw [ÌD, hl, e1, e2];have hs := ÃR lz T Q x n;rw [← hs]
 refine ⟨by simp, by simp, ?_⟩
 rw [ô, ô, Âe, Âe, if_neg (by rw [Èf]; decide), if_neg (by decide)]
set_option maxRecDepth 100000 in
set_option maxHeartbeats 4000000 in
theorem Èh (n : Nat) (ih : Èe n₀ wb fo G n) : AtG n₀ wb fo G n 116 (fun nd => 0 ≤ nd.lo ∧ nd.lo ≤ nd.hi ∧ nd.hi ≤ 64) (fun nd => Ám (nd.mode == 1) (nd.hi - nd.lo).toNat (ý fo nd)) := by
 intro nd hok hkids w M A1 A2 p1 p2 hE hN hW hlen
 dsimp only at hlen hok
 obtain ⟨ho1, ho2, ho3⟩ := hok;obtain ⟨b, off, hkv, hm⟩ := Ś.kids hN;obtain ⟨hlow1, hlow2⟩ := Wr.low hW;obtain ⟨cnt, hcnt⟩ : ∃ cnt, cnt = (nd.hi - nd.lo).toNat := ⟨_, rfl⟩
 have hci : nd.hi - nd.lo = (cnt : Int) := by omega
 have hc64 : cnt ≤ 64 := by omega
 have HRow := ħ (fun W M' (h1 : Àq n₀ W) (h2 : Áz n₀ W nd.kids A2 b off) (h3 : Wm n₀ wb fo W M') h4 => ih nd.kids hkids hm W M' A2 p2 b off h1 h2 h3 h4)
 have HB0 := ħ (Blk.new w 27 #[.int .i64 nd.kind, .int .i64 nd.lo, .int .i64 nd.hi, .int .i64 nd.mode, .int .i64 nd.ref, .slice A1 nd.set.length p1, .slice A2 nd.kids.length p2]);have hb0 := Ĳ w #[.int .i64 nd.kind, .int .i64 nd.lo, .int .i64 nd.hi, .int .i64 nd.mode, .int .i64 nd.ref, .slice A1 nd.set.length p1, .slice A2 nd.kids.length p2];have HE := ħ hE;have HK := ħ hkv;have HW0 := ħ (hW.on hb0);have HF0 := ħ (FrW.of_below (n₀ := n₀) (wb := wb) hb0);obtain ⟨i0, hi, hz0, hz1, hz2⟩ := Á Ãf;rw [← hcnt] at hlen;have HCnt := ħ hcnt;have HCi := ħ hci;unfold ý at hlen;clear ih hkids hE hN hW hkv hm hcnt;go_enter Tryz.func116, Tryz.ntmps116
 go_upto_region 1 with (fail)
 have hs0 := hb0.size;generalize w.alloc _ = W at *;obtain ⟨X, hXe⟩ : ∃ X, X = ĸ (nd.kids.map (â fo)) := ⟨_, rfl⟩;rw [← hXe] at hlen HRow;have HXe := ħ hXe;clear hXe;have hol := ÅI (nd.mode == 1) cnt X
 have hlen' : M.length + cnt * (X.length + 1) ≤ 90000 := by
  have e : (Ám (nd.mode == 1) cnt X).length = cnt * (X.length + 1) := by
   unfold len at hol
   have : (((cnt * (X.length + 1) : Nat)) : Int) = (cnt : Int) * ((X.length : Int) + 1) := by simp
   omega
  omega
 clear hol hlen;have h7 := HB0.o.c7;go_wp2;clear h7;obtain ⟨bx, hbx⟩ : ∃ bx, bx = w.heap.size := ⟨_, rfl⟩;rw [← hbx] at HB0 ⊢
 have hbx1 : wb < bx := by omega
 have hbx2 : w.heap.size ≤ bx := by omega
 have HBx := ħ hbx;clear hbx
 go_loopw [4, 12] (fun u i wr => ∃ (k : Nat) (A4 : Option Addr) (c4 : Nat), k ≤ cnt ∧ u = .slice A4 (Ãw M.length X.length k).length c4 ∧ (Ãw M.length X.length k).length ≤ c4 ∧ i = .int .i64 k ∧ Hid (Wm n₀ wb fo wr (Át k M X) ∧ FrW n₀ wb w wr ∧ ž wr w.heap.size u (Ãw M.length X.length k) ∧ Blk wr bx 27 #[.int .i64 nd.kind, .int .i64 nd.lo, .int .i64 nd.hi, .int .i64 nd.mode, .int .i64 nd.ref, .slice A1 nd.set.length p1, .slice A2 nd.kids.length p2])) (fun _ i _ => cnt - (intOf i).toNat)
 case atStart => exact ⟨0, none, 0, Ą _, rfl, ŋ _, rfl, ħ ⟨HW0.o, HF0.o, World.ownsRow_nil _ _ _ _, HB0.o⟩⟩
 case round =>
  obtain ⟨k, A4, c4, hk, rfl, hc4, rfl, HR⟩ := hrel;have hsz := HR.o.2.1.size
  by_cases hlt : k < cnt
  ·have hlti : (k : Int) < (cnt : Int) := by omega
   have HLt := ħ hlt;have hSl : (Át k M X).length = M.length + k * (X.length + 1) := ÅW M X k
   have hSb : (Át k M X).length + X.length + 1 ≤ 90000 := by
    have : (k + 1) * (X.length + 1) ≤ cnt * (X.length + 1) := Nat.mul_le_mul_right _ hlt;rw [Nat.add_mul] at this;omega
   have HSl := ħ hSl;have HSn : Hid (app (Át k M X ++ [In.i 3 0 0 0 0]) X = Át (k + 1) M X) := ħ rfl
   have hJl : (Ãw M.length X.length k).length ≤ 100 := by rw [ÁR]; omega
   clear hSl;generalize Át k M X = Q at *
   have HP := ħ (ÀI 3 0 0 0 0 HR.o.1 (by omega))
   go_wp2_with fail
   refine HP.o.mono ?_;rintro e w2 ⟨rfl, hW2, hF2⟩;have hs2 := hF2.size
   have HB2 := ħ (hF2.blk HR.o.2.2.2 (by decide) (by omega))
   have HJ2 := ħ (ž.frw HR.o.2.2.1 HR.o.1 hF2);have HF2 := ħ (HR.o.2.1.trans hF2)
   have HW2 : Hid (Wm n₀ wb fo w2 (Q ++ [In.i 3 0 0 0 0])) := ħ (by unfold Wm; rw [ë _ _ (by decide)]; exact hW2)
   clear hW2 hF2 HP;have HJa := ħ (World.ownsRow.alloc HJ2.o (.cells #[.int .i64 ((Q.length : Nat) : Int)] 3));have HWa := ħ (HW2.o.alloc (.cells #[.int .i64 ((Q.length : Nat) : Int)] 3));have HFa := ħ (HF2.o.alloc (.cells #[.int .i64 ((Q.length : Nat) : Int)] 3));have HBa := ħ (HB2.o.alloc (.cells #[.int .i64 ((Q.length : Nat) : Int)] 3))
   go_wp2_with (at_builtin; refine wpList_append_own _ rfl _ _ 61 rfl w.heap.size 3 i0 (.int .i64 0) 1 8 Tryz.underlying61 hi hz0 hz1 hz2 rfl (by decide) _ _ _ rfl HJa.o ⟨w2.heap.size, 0, none⟩ 1 1 [.int .i64 ((Q.length : Nat) : Int)] rfl rfl ?c1 ?c2 ?c3 ?c4 ?c5 ?_)
   case c1 =>
    intro j u hj
    match j, hj with
    | 0, hj => simp at hj; subst hj; simp [Addr.add]
   case c2 => intro u hu; simp at hu; subst hu; rfl
   case c3 => unfold maxLen; omega
   case c4 => omega
   case c5 => simp; omega
   intro v' w5 hown' hgrow;have hs5 := hgrow.size;have HW5 := ħ (HWa.o.grownJ HJa.o hgrow);have HF5 := ħ (HFa.o.grownJ HJa.o (ŋ _) hgrow)
   have HB5 := ħ (HBa.o.grown hgrow (fun e => Ń HJa.o HBa.o (by decide) e.symm))
   have HJ5 : Hid (ž w5 w.heap.size v' (Ãw M.length X.length k ++ [Q.length])) := ħ (by
    unfold ž;rw [ËW, ă]
    exact hown')
   obtain ⟨g9, c9, rfl, _, _⟩ := hown'.form (by omega)
   clear hown' hgrow;intro _;have h7 := HB5.o.c7
   go_wp2_with fail
   refine (HRow.o w5 _ (HE.o.low (HF5.o.old (by omega))) (HK.o.low (HF5.o.old (by omega))) HW5.o (by rw [ă]; simp; omega)).mono ?_
   rintro e w6 ⟨rfl, hW6, hF6⟩;have HJ6 := ħ (ž.frw HJ5.o HW5.o hF6)
   have HB6 := ħ (hF6.blk HB5.o (by decide) (by omega))
   have HF6 := ħ (HF5.o.trans hF6);have HW6 := ħ hW6;clear hW6 hF6 h7;go_wp2;go_roundw
   case rel =>
    have e0 : Ãw M.length X.length (k + 1) = Ãw M.length X.length k ++ [Q.length] := by rw [HSl.o]; rfl
    refine ⟨k + 1, some ⟨g9, 0, none⟩, c9, HLt.o, by rw [e0, ă]; rfl, ?_, by go_num, ħ ⟨?_, HF6.o, by rw [e0]; exact HJ6.o, HB6.o⟩⟩
    ·rw [e0]
     obtain ⟨A', c', e', h'⟩ := ž.form_ HJ5.o
     injection e' with _ _ e''
     omega
    ·rw [← HSn.o]; exact HW6.o
   case measure => have := HLt.o; simp [intOf]; omega
  ·obtain rfl : k = cnt := by omega
   have hjs : (Ãw M.length X.length k).length = k := ÁR _ _ _;have HJg := ħ (Ép M.length X.length k);have HJl := ħ hjs
   have hjs' : (Ãw M.length X.length k).length ≤ 64 := by omega
   clear hjs;generalize Ãw M.length X.length k = js at *;obtain ⟨T, hT⟩ : ∃ T, T = M.length + k * (X.length + 1) := ⟨_, rfl⟩;have HT := ħ hT;have HZ0 : Hid (Át k M X = ÂZ (nd.mode == 1) T 0 k M X) := ħ rfl;clear hT;go_wp2
   go_loopw [27] (fun i wr => ∃ (j : Nat), j ≤ js.length ∧ i = .int .i64 j ∧ Hid (Wm n₀ wb fo wr (ÂZ (nd.mode == 1) T j k M X) ∧ FrW n₀ wb w wr ∧ ž wr w.heap.size (.slice A4 js.length c4) js ∧ Blk wr bx 27 #[.int .i64 nd.kind, .int .i64 nd.lo, .int .i64 nd.hi, .int .i64 nd.mode, .int .i64 nd.ref, .slice A1 nd.set.length p1, .slice A2 nd.kids.length p2])) (fun i _ => js.length - (intOf i).toNat)
   case atStart => exact ⟨0, Ą _, rfl, ħ ⟨by rw [← HZ0.o]; exact HR.o.1, HR.o.2.1, HR.o.2.2.1, HR.o.2.2.2⟩⟩
   case round =>
    obtain ⟨j, hj, rfl, HR2⟩ := hrel
    by_cases hjl : j < js.length
    ·have hji : (j : Int) < js.length := by omega
     have HJ1 := ħ hjl
     have hjk : j < k := by have := HJl.o; omega
     obtain ⟨g7, c7, hv7, hc7, k7⟩ := ž.at_ HR2.o.2.2.1 (HJg.o j hjk);obtain ⟨rfl, _, rfl⟩ := Value.slice.inj hv7;obtain ⟨o1, o2, o3⟩ := Îf (nd.mode == 1) T j k M X hjk HT.o;have HFk := ħ (ÅN (lz := nd.mode == 1) HR2.o.1 o1);rw [o2] at HFk;have HO3 := ħ o3;clear o1 o2 o3;have h7 := HR2.o.2.2.2.c7
     go_wp2_with fail
     refine HFk.o.mono ?_;rintro e w7 ⟨rfl, hW7, hF7⟩
     have HN9 : Hid (Wm n₀ wb fo w7 (ÂZ (nd.mode == 1) T (j + 1) k M X) ∧ FrW n₀ wb w w7 ∧ ž w7 w.heap.size (.slice (some ⟨g7, 0, none⟩) js.length c4) js ∧ Blk w7 bx 27 #[.int .i64 nd.kind, .int .i64 nd.lo, .int .i64 nd.hi, .int .i64 nd.mode, .int .i64 nd.ref, .slice A1 nd.set.length p1, .slice A2 nd.kids.length p2]) := ħ
      ⟨by unfold Wm; rw [HO3.o]; exact hW7, HR2.o.2.1.trans hF7, ž.frw HR2.o.2.2.1 HR2.o.1 hF7, hF7.blk HR2.o.2.2.2 (by decide) (by omega)⟩
     clear hW7 hF7 h7;go_wp2;go_roundw
     case rel => exact ⟨j + 1, HJ1.o, by go_num, HN9⟩
     case measure => have := HJ1.o; simp [intOf]; omega
    ·obtain rfl : j = js.length := by omega
     go_wp2;have HR3 := HR2.o
     have e : ÂZ (nd.mode == 1) T js.length k M X = app M (Ám (nd.mode == 1) k X) := by
      rw [HJl.o, HT.o, ← Ço];unfold ÂZ;rw [Nat.sub_self];rfl
     rw [e] at HR3
     exact ⟨rfl, .tuple #[], by simp [results, Tryz.results116, go_sem], rfl, (by have := HR3.1; rw [HXe.o, HCnt.o] at this; exact this), HR3.2.1⟩
end
section
open Go.RowKit
open Go.Proofs.YtpginkdkblmnbaaGreatDoor.Cl (Rg à Ý Ä Á Ãf)
variable {w w' w0 : World} {n₀ wb lp lp' base : Nat} {fo : Bool} {M : List In} {G : Int}
theorem Çp (X : List In) : ∀ (n : Nat), š (n + 1) X = app (š n X) X
 | 0 => by simp [š, ÀV, ËN]
 | n + 1 => by
  have ih := Çp X n;have e : š (n + 1) X = app X (š n X) := rfl;rw [š, ih, ← İ, ← e, ih]
theorem ÅZ : ∀ (n : Nat), š n [] = []
 | 0 => rfl
 | n + 1 => by rw [š, ÅZ n]; rfl
def Åo (nd : Nd) : Prop := 0 ≤ nd.lo ∧ nd.lo ≤ 64 ∧ nd.hi ≤ 64 ∧ (nd.hi = -1 ∨ nd.lo ≤ nd.hi)
def Ŕ (fo : Bool) (nd : Nd) : List In := if nd.hi = -1 then Ź (nd.mode == 1) (ý fo nd) else Ám (nd.mode == 1) (nd.hi - nd.lo).toNat (ý fo nd)
def Ů (fo : Bool) (nd : Nd) : List In := app (š nd.lo.toNat (ý fo nd)) (Ŕ fo nd)
set_option maxRecDepth 100000 in
set_option maxHeartbeats 1000000 in
theorem ÊE (n : Nat) (ih : Èe n₀ wb fo G n) : AtG n₀ wb fo G n 96 Åo (Ů fo) := by
 have hLoop := ÌC n ih;have hOpt := Èh n ih;intro nd hok hkids w M A1 A2 p1 p2 hE hN hW hlen;obtain ⟨ho1, ho2, ho3, ho4⟩ := hok;obtain ⟨b, off, hkv, hm⟩ := Ś.kids hN;obtain ⟨hlow1, hlow2⟩ := Wr.low hW;obtain ⟨cnt, hcnt⟩ : ∃ cnt, cnt = nd.lo.toNat := ⟨_, rfl⟩
 have hci : nd.lo = (cnt : Int) := by omega
 have hc64 : cnt ≤ 64 := by omega
 have HRow := ħ (fun W M' (h1 : Àq n₀ W) (h2 : Áz n₀ W nd.kids A2 b off) (h3 : Wm n₀ wb fo W M') h4 => ih nd.kids hkids hm W M' A2 p2 b off h1 h2 h3 h4)
 have HB0 := ħ (Blk.new w 27 #[.int .i64 nd.kind, .int .i64 nd.lo, .int .i64 nd.hi, .int .i64 nd.mode, .int .i64 nd.ref, .slice A1 nd.set.length p1, .slice A2 nd.kids.length p2]);have hb0 := Ĳ w #[.int .i64 nd.kind, .int .i64 nd.lo, .int .i64 nd.hi, .int .i64 nd.mode, .int .i64 nd.ref, .slice A1 nd.set.length p1, .slice A2 nd.kids.length p2];have HE := ħ hE;have HK := ħ hkv;have HN := ħ hN;have HW0 := ħ (hW.on hb0);have HF0 := ħ (FrW.of_below (n₀ := n₀) (wb := wb) hb0)
 have HLoop := ħ (fun (_ : nd.hi = -1) W M' (h1 : Àq n₀ W) (h2 : Ś n₀ W nd A1 A2 p1 p2) (h3 : Wm n₀ wb fo W M') h4 => hLoop nd trivial hkids W M' A1 A2 p1 p2 h1 h2 h3 h4)
 have HOpt := ħ (fun (hh : ¬ nd.hi = -1) W M' (h1 : Àq n₀ W) (h2 : Ś n₀ W nd A1 A2 p1 p2) (h3 : Wm n₀ wb fo W M') h4 => hOpt nd ⟨ho1, by omega, ho3⟩ hkids W M' A1 A2 p1 p2 h1 h2 h3 h4)
 have HCnt := ħ hcnt;have HCi := ħ hci;clear hci;unfold Ů at hlen;rw [← hcnt, Ø] at hlen;have hrl := ÅH cnt (ý fo nd)
 have hrl' : (š cnt (ý fo nd)).length = cnt * (ý fo nd).length := by
  unfold len at hrl
  have : (((cnt * (ý fo nd).length : Nat)) : Int) = (cnt : Int) * ((ý fo nd).length : Int) := by simp
  omega
 have HRl := ħ hrl';have HLen := ħ hlen;clear ih hLoop hOpt hkids hE hN hW hkv hm hcnt hrl hrl' hlen;go_enter Tryz.func96, Tryz.ntmps96
 go_upto_region 1 with (fail)
 have hs0 := hb0.size;generalize w.alloc _ = W at *;obtain ⟨X, hXe⟩ : ∃ X, X = ý fo nd := ⟨_, rfl⟩;have HXe := ħ hXe
 have HRow' : Hid (∀ W M', Àq n₀ W → Áz n₀ W nd.kids A2 b off → Wm n₀ wb fo W M' → M'.length + X.length ≤ 90000 → Calls Tryz.prog 69 #[.pointer (some ⟨wb, 0, none⟩), .slice A2 nd.kids.length p2] W (WmP n₀ wb fo W (app M' X))) := ħ (by rw [hXe]; exact HRow.o)
 have HRl' : Hid ((š cnt X).length = cnt * X.length) := ħ (by rw [hXe]; exact HRl.o)
 have hlen : M.length + ((š cnt X).length + (Ŕ fo nd).length) ≤ 90000 := by rw [hXe]; exact HLen.o
 clear hXe HRow HRl HLen;rw [HRl'.o] at hlen;have h7 := HB0.o.c7;go_wp2;clear h7;obtain ⟨bx, hbx⟩ : ∃ bx, bx = w.heap.size := ⟨_, rfl⟩;rw [← hbx] at HB0 ⊢
 have hbx1 : wb < bx := by omega
 have hbx2 : w.heap.size ≤ bx := by omega
 have HBx := ħ hbx;clear hbx
 have HEnd : Hid (∀ W', Wr n₀ wb fo W' (app (app M (š cnt X)) (Ŕ fo nd)) (Ã (app (app M (š cnt X)) (Ŕ fo nd))) → Wm n₀ wb fo W' (app M (Ů fo nd))) := ħ (fun W' h => by
  unfold Ů;rw [← HCnt.o, ← HXe.o, ← İ]
  exact h)
 by_cases hX0 : X.length = 0
 ·have hXn : X = [] := List.length_eq_zero_iff.1 hX0
  have HXn := ħ hXn;clear hXn hX0
  go_loopw [7] (fun i wr => ∃ (k : Nat), k ≤ cnt ∧ i = .int .i64 k ∧ Hid (k = 0) ∧ Hid (Wm n₀ wb fo wr M ∧ FrW n₀ wb w wr ∧ Blk wr bx 27 #[.int .i64 nd.kind, .int .i64 nd.lo, .int .i64 nd.hi, .int .i64 nd.mode, .int .i64 nd.ref, .slice A1 nd.set.length p1, .slice A2 nd.kids.length p2])) (fun i _ => cnt - (intOf i).toNat)
  case atStart => exact ⟨0, Ą _, rfl, ħ rfl, ħ ⟨HW0.o, HF0.o, HB0.o⟩⟩
  case round =>
   obtain ⟨k, hk, rfl, HK0, HR⟩ := hrel;have hsz := HR.o.2.1.size
   by_cases hlt : k < cnt
   ·have hlti : (k : Int) < nd.lo := by have := HCi.o; omega
    have h7 := HR.o.2.2.c7
    go_wp2_with fail
    refine (ÀH HR.o.1).mono ?_;rintro e w2 ⟨rfl, rfl⟩
    go_wp2_with fail
    refine (HRow'.o wr M (HE.o.low (HR.o.2.1.old (by omega))) (HK.o.low (HR.o.2.1.old (by omega))) HR.o.1 (by rw [HXn.o]; simp; omega)).mono ?_
    rintro e w3 ⟨rfl, hW3, hF3⟩;rw [HXn.o, ÀV] at hW3;have hs3 := hF3.size
    have HB3 := ħ (hF3.blk HR.o.2.2 (by decide) (by omega))
    have HF3 := ħ (HR.o.2.1.trans hF3);have HW3 := ħ hW3;clear hW3 hF3 h7;have h7 := HB3.o.c7
    go_wp2_with fail
    refine (ÀH HW3.o).mono ?_;rintro e w4 ⟨rfl, rfl⟩
    have HWz : Hid (Wm n₀ wb fo w3 (app M (š cnt X))) := ħ (by rw [HXn.o, ÅZ, ÀV]; exact HW3.o)
    have HFz := HF3
    have hLz : (app M (š cnt X)).length + (Ŕ fo nd).length ≤ 90000 := by rw [Ø, HRl'.o]; omega
    by_cases hhi : nd.hi = -1
    ·have hhb : (nd.hi == -1) = true := by simp [hhi]
     have HC := ħ (HLoop.o hhi w3 _ (HE.o.low (HFz.o.old (by omega))) (HN.o.lowB (HFz.o.old (by omega))) HWz.o (by have := hLz; unfold Ŕ at this; rw [if_pos hhi] at this; exact this))
     have HRc : Hid (Ź (nd.mode == 1) (ý fo nd) = Ŕ fo nd) := ħ (by unfold Ŕ; rw [if_pos hhi])
     clear hhi hLz
     go_wp2_with fail
     refine HC.o.mono ?_;rintro e w9 ⟨rfl, hW9, hF9⟩;rw [HRc.o] at hW9;have HW9 := ħ (HEnd.o w9 hW9);have HF9 := ħ (HFz.o.trans hF9);clear hW9 hF9;go_wp2
     exact ⟨rfl, .tuple #[], by simp [results, Tryz.results96, go_sem], rfl, HW9.o, HF9.o⟩
    ·have hhb : (nd.hi == -1) = false := by simp [hhi]
     have HC := ħ (HOpt.o hhi w3 _ (HE.o.low (HFz.o.old (by omega))) (HN.o.lowB (HFz.o.old (by omega))) HWz.o (by have := hLz; unfold Ŕ at this; rw [if_neg hhi] at this; exact this))
     have HRc : Hid (Ám (nd.mode == 1) (nd.hi - nd.lo).toNat (ý fo nd) = Ŕ fo nd) := ħ (by unfold Ŕ; rw [if_neg hhi])
     clear hLz
     go_wp2_with fail
     refine HC.o.mono ?_;rintro e w9 ⟨rfl, hW9, hF9⟩;rw [HRc.o] at hW9;have HW9 := ħ (HEnd.o w9 hW9);have HF9 := ħ (HFz.o.trans hF9);clear hW9 hF9;go_wp2
     exact ⟨rfl, .tuple #[], by simp [results, Tryz.results96, go_sem], rfl, HW9.o, HF9.o⟩
   ·have HWz : Hid (Wm n₀ wb fo wr (app M (š cnt X))) := ħ (by rw [HXn.o, ÅZ, ÀV]; exact HR.o.1)
    have HFz := ħ HR.o.2.1
    have hLz : (app M (š cnt X)).length + (Ŕ fo nd).length ≤ 90000 := by rw [Ø, HRl'.o]; omega
    have hkc : ¬ (k : Int) < nd.lo := by have := HCi.o; omega
    have h7 := HR.o.2.2.c7
    by_cases hhi : nd.hi = -1
    ·have hhb : (nd.hi == -1) = true := by simp [hhi]
     have HC := ħ (HLoop.o hhi wr _ (HE.o.low (HFz.o.old (by omega))) (HN.o.lowB (HFz.o.old (by omega))) HWz.o (by have := hLz; unfold Ŕ at this; rw [if_pos hhi] at this; exact this))
     have HRc : Hid (Ź (nd.mode == 1) (ý fo nd) = Ŕ fo nd) := ħ (by unfold Ŕ; rw [if_pos hhi])
     clear hhi hLz
     go_wp2_with fail
     refine HC.o.mono ?_;rintro e w9 ⟨rfl, hW9, hF9⟩;rw [HRc.o] at hW9;have HW9 := ħ (HEnd.o w9 hW9);have HF9 := ħ (HFz.o.trans hF9);clear hW9 hF9;go_wp2
     exact ⟨rfl, .tuple #[], by simp [results, Tryz.results96, go_sem], rfl, HW9.o, HF9.o⟩
    ·have hhb : (nd.hi == -1) = false := by simp [hhi]
     have HC := ħ (HOpt.o hhi wr _ (HE.o.low (HFz.o.old (by omega))) (HN.o.lowB (HFz.o.old (by omega))) HWz.o (by have := hLz; unfold Ŕ at this; rw [if_neg hhi] at this; exact this))
     have HRc : Hid (Ám (nd.mode == 1) (nd.hi - nd.lo).toNat (ý fo nd) = Ŕ fo nd) := ħ (by unfold Ŕ; rw [if_neg hhi])
     clear hLz
     go_wp2_with fail
     refine HC.o.mono ?_;rintro e w9 ⟨rfl, hW9, hF9⟩;rw [HRc.o] at hW9;have HW9 := ħ (HEnd.o w9 hW9);have HF9 := ħ (HFz.o.trans hF9);clear hW9 hF9;go_wp2
     exact ⟨rfl, .tuple #[], by simp [results, Tryz.results96, go_sem], rfl, HW9.o, HF9.o⟩
 ·go_loopw [7] (fun i wr => ∃ (k : Nat), k ≤ cnt ∧ i = .int .i64 k ∧ Hid (Wm n₀ wb fo wr (app M (š k X)) ∧ FrW n₀ wb w wr ∧ Blk wr bx 27 #[.int .i64 nd.kind, .int .i64 nd.lo, .int .i64 nd.hi, .int .i64 nd.mode, .int .i64 nd.ref, .slice A1 nd.set.length p1, .slice A2 nd.kids.length p2])) (fun i _ => cnt - (intOf i).toNat)
  case atStart => exact ⟨0, Ą _, rfl, ħ ⟨by rw [š, ÀV]; exact HW0.o, HF0.o, HB0.o⟩⟩
  case round =>
   obtain ⟨k, hk, rfl, HR⟩ := hrel;have hsz := HR.o.2.1.size
   by_cases hlt : k < cnt
   ·have hlti : (k : Int) < nd.lo := by have := HCi.o; omega
    have HLt := ħ hlt
    have HSn : Hid (app (app M (š k X)) X = app M (š (k + 1) X)) := ħ (by rw [Çp, İ])
    have hQb : (app M (š k X)).length + X.length ≤ 90000 := by
     have h1 := ÅH k X
     have h2 : (š k X).length = k * X.length := by
      unfold len at h1
      have : (((k * X.length : Nat)) : Int) = (k : Int) * (X.length : Int) := by simp
      omega
     have : (k + 1) * X.length ≤ cnt * X.length := Nat.mul_le_mul_right _ hlt;rw [Nat.add_mul] at this;rw [Ø];omega
    have hne := Ø (app M (š k X)) X;generalize app M (š k X) = Q at *;have h7 := HR.o.2.2.c7
    go_wp2_with fail
    refine (ÀH HR.o.1).mono ?_;rintro e w2 ⟨rfl, rfl⟩
    go_wp2_with fail
    refine (HRow'.o wr Q (HE.o.low (HR.o.2.1.old (by omega))) (HK.o.low (HR.o.2.1.old (by omega))) HR.o.1 hQb).mono ?_
    rintro e w3 ⟨rfl, hW3, hF3⟩;have hs3 := hF3.size
    have HB3 := ħ (hF3.blk HR.o.2.2 (by decide) (by omega))
    have HF3 := ħ (HR.o.2.1.trans hF3);have HW3 := ħ hW3;obtain ⟨ln, hln⟩ : ∃ ln, ln = (app Q X).length := ⟨_, rfl⟩
    have HHr : Hid (Calls Tryz.prog 67 #[.pointer (some ⟨wb, 0, none⟩)] w3 fun e w' => e = .returned (.int .i64 ((ln : Nat) : Int)) ∧ w3 = w') := ħ (by rw [hln]; exact ÀH hW3)
    have hlq : ((ln : Int) == (Q.length : Int)) = false := by simp; omega
    clear hW3 hF3 h7 hln hne
    go_wp2_with fail
    refine HHr.o.mono ?_;rintro e w4 ⟨rfl, rfl⟩;go_wp2;go_roundw
    case rel => exact ⟨k + 1, HLt.o, by go_num, ħ ⟨by rw [← HSn.o]; exact HW3.o, HF3.o, HB3.o⟩⟩
    case measure => have := HLt.o; simp [intOf]; omega
   ·have hkc : ¬ (k : Int) < nd.lo := by have := HCi.o; omega
    obtain rfl : k = cnt := by omega
    have HWz : Hid (Wm n₀ wb fo wr (app M (š k X))) := ħ HR.o.1;have HFz := ħ HR.o.2.1
    have hLz : (app M (š k X)).length + (Ŕ fo nd).length ≤ 90000 := by rw [Ø, HRl'.o]; omega
    have h7 := HR.o.2.2.c7
    by_cases hhi : nd.hi = -1
    ·have hhb : (nd.hi == -1) = true := by simp [hhi]
     have HC := ħ (HLoop.o hhi wr _ (HE.o.low (HFz.o.old (by omega))) (HN.o.lowB (HFz.o.old (by omega))) HWz.o (by have := hLz; unfold Ŕ at this; rw [if_pos hhi] at this; exact this))
     have HRc : Hid (Ź (nd.mode == 1) (ý fo nd) = Ŕ fo nd) := ħ (by unfold Ŕ; rw [if_pos hhi])
     clear hhi hLz
     go_wp2_with fail
     refine HC.o.mono ?_;rintro e w9 ⟨rfl, hW9, hF9⟩;rw [HRc.o] at hW9;have HW9 := ħ (HEnd.o w9 hW9);have HF9 := ħ (HFz.o.trans hF9);clear hW9 hF9;go_wp2
     exact ⟨rfl, .tuple #[], by simp [results, Tryz.results96, go_sem], rfl, HW9.o, HF9.o⟩
    ·have hhb : (nd.hi == -1) = false := by simp [hhi]
     have HC := ħ (HOpt.o hhi wr _ (HE.o.low (HFz.o.old (by omega))) (HN.o.lowB (HFz.o.old (by omega))) HWz.o (by have := hLz; unfold Ŕ at this; rw [if_neg hhi] at this; exact this))
     have HRc : Hid (Ám (nd.mode == 1) (nd.hi - nd.lo).toNat (ý fo nd) = Ŕ fo nd) := ħ (by unfold Ŕ; rw [if_neg hhi])
     clear hLz
     go_wp2_with fail
     refine HC.o.mono ?_;rintro e w9 ⟨rfl, hW9, hF9⟩;rw [HRc.o] at hW9;have HW9 := ħ (HEnd.o w9 hW9);have HF9 := ħ (HFz.o.trans hF9);clear hW9 hF9;go_wp2
     exact ⟨rfl, .tuple #[], by simp [results, Tryz.results96, go_sem], rfl, HW9.o, HF9.o⟩
end
section
open Go.RowKit
open Go.Proofs.YtpginkdkblmnbaaGreatDoor.Cl (Rg à Ý Ä Á Ãf)
variable {w w' w0 : World} {n₀ wb lp lp' base : Nat} {fo : Bool} {M : List In} {G : Int}
def Îg (nd : Nd) : Prop := Åo nd ∧ 0 ≤ nd.mode ∧ nd.mode ≤ 2
def Éq (fo : Bool) (nd : Nd) : List In := if nd.mode = 2 then õ (.i 8 0 0 0 0) (Ů fo nd) else Ů fo nd
theorem Çq (i : In) (h : i.op ≠ 10) : Ã [i] = 0 := by rw [Âe, if_neg h]; rfl
theorem ÊF (op a c d : Int) (h : op = 7 ∨ op = 8) (M Y : List In) : M ++ [In.i op a ((M.length : Nat) + (Y.length : Nat) + 2) c d] ++ Y.map (sh ((M ++ [In.i op a 0 c d]).length : Nat) (Ã (M ++ [In.i op a 0 c d]) : Nat)) ++ [ÁM] = app M (õ (In.i op a 0 c d) Y) := by
 have hm : Ã (M ++ [In.i op a 0 c d]) = Ã M := ë _ _ (by show op ≠ 10; omega)
 have hm1 : Ã [In.i op a ((Y.length : Int) + 2) c d] = 0 := Çq _ (show op ≠ 10 by omega)
 have e1 : õ (In.i op a 0 c d) Y = In.i op a ((Y.length : Int) + 2) c d :: (Y.map (sh 1 0) ++ [ÁM]) := by
  show app [In.i op a ((Y.length : Int) + 2) c d] (app Y [ÁM]) = _
  rw [Áy _ _ (.inr (.inr (.inr (.inr (.inr rfl)))))];unfold app;rw [hm1, Ĕ, List.map_cons, List.map_nil, Ãu _ _ ÁM (.inr (.inr (.inr (.inr (.inr rfl)))))];rfl
 rw [hm, e1]
 have e2 : app M (In.i op a ((Y.length : Int) + 2) c d :: (Y.map (sh 1 0) ++ [ÁM])) = M ++ (sh (M.length : Nat) (Ã M : Nat) (In.i op a ((Y.length : Int) + 2) c d) :: ((Y.map (sh 1 0)).map (sh (M.length : Nat) (Ã M : Nat)) ++ [sh (M.length : Nat) (Ã M : Nat) ÁM])) := by
  unfold app;simp
 rw [e2, Ãu _ _ ÁM (.inr (.inr (.inr (.inr (.inr rfl))))), List.map_map]
 have e3 : sh (M.length : Nat) (Ã M : Nat) (In.i op a ((Y.length : Int) + 2) c d) = In.i op a ((M.length : Nat) + (Y.length : Nat) + 2) c d := by
  rcases h with rfl | rfl <;> simp [sh, In.i] <;> omega
 have e4 : Y.map (sh (M.length : Nat) (Ã M : Nat) ∘ sh 1 0) = Y.map (sh ((M ++ [In.i op a 0 c d]).length : Nat) (Ã M : Nat)) := by
  apply List.map_congr_left;intro i _;simp only [Function.comp, Çc, ă, ć, Ď]
  congr 1 <;> omega
 rw [e3, e4];simp
theorem Ér (op a c d : Int) (h : op = 7 ∨ op = 8) (M Y : List In) : Ã (app M (õ (In.i op a 0 c d) Y)) = Ã M + Ã Y := by
 rw [ġ];unfold õ;rw [ġ, ġ]
 show Ã M + (Ã [In.i op a ((Y.length : Int) + 2) c d] + (Ã Y + Ã [ÁM])) = _
 have h1 := Çq (In.i op a ((Y.length : Int) + 2) c d) (show op ≠ 10 by omega)
 have h2 : Ã [ÁM] = 0 := rfl;omega
theorem Àj {f : Nat} (hf : f = 75 ∨ f = 95 ∨ f = 97) {p1 p2 : Value} (op a c d : Int) (ho : op = 7 ∨ op = 8) (Y : List In) (h : Wm n₀ wb fo w M) (hl : M.length + Y.length + 2 ≤ 100000)
 (hc : ∀ W, Wm n₀ wb fo W (M ++ [.i op a 0 c d]) → FrW n₀ wb w W → Calls Tryz.prog f #[p1, p2] W (WmP n₀ wb fo W (app (M ++ [.i op a 0 c d]) Y))) :
 Calls Tryz.prog 74 #[.pointer (some ⟨wb, 0, none⟩), .agg #[.int .i64 op, .int .i64 a, .int .i64 0, .int .i64 c, .int .i64 d, .slice none 0 0], .func (.func f) #[] #[p1, p2]] w (WmP n₀ wb fo w (app M (õ (.i op a 0 c d) Y))) := by
 have hm : Ã (M ++ [In.i op a 0 c d]) = Ã M := ë _ _ (by show op ≠ 10; omega)
 have := Őg hf (p1 := p1) (p2 := p2) op a 0 c d (lp' := Ã M + Ã Y) (Y.map (sh ((M ++ [In.i op a 0 c d]).length : Nat) (Ã (M ++ [In.i op a 0 c d]) : Nat))) h (by rw [List.length_map]; exact hl) (fun W hW hF => by
  have e : Ã M + Ã Y = Ã (app (M ++ [In.i op a 0 c d]) Y) := by rw [ġ, hm]
  rw [e]
  exact hc W (by unfold Wm; rw [hm]; exact hW) hF)
 rw [List.length_map, ÊF op a c d ho, ← Ér op a c d ho] at this;exact this
set_option maxRecDepth 100000 in
set_option maxHeartbeats 1000000 in
theorem ÐC (n : Nat) (ih : AtG n₀ wb fo G n 96 Åo (Ů fo)) {nd : Nd} (hok : Åo nd) (hkids : ∀ x ∈ nd.kids, Nx G n x) {bw bn : Nat} {A1 A2 : Option Addr} {p1 p2 : Nat} (hE : Àq n₀ w) (hN : Ś n₀ w nd A1 A2 p1 p2) (hW : Wm n₀ wb fo w M) (hl : M.length + (Ů fo nd).length ≤ 90000)
 (hbw : Blk w bw 124 #[.pointer (some ⟨wb, 0, none⟩)]) (hbn : Blk w bn 27 #[.int .i64 nd.kind, .int .i64 nd.lo, .int .i64 nd.hi, .int .i64 nd.mode, .int .i64 nd.ref, .slice A1 nd.set.length p1, .slice A2 nd.kids.length p2]) :
 Calls Tryz.prog 95 #[.pointer (some ⟨bw, 0, none⟩), .pointer (some ⟨bn, 0, none⟩)] w (WmP n₀ wb fo w (app M (Ů fo nd))) := by
 have HC := ħ (ih nd hok hkids w M A1 A2 p1 p2 hE hN hW hl);have c0 := hbw.cell 0;simp at c0;have h7 := hbn.c7;clear hE hN hW hbw hbn hok hkids ih;go_enter Tryz.func95, Tryz.ntmps95
 go_wp2_with fail
 refine HC.o.mono ?_;rintro e w1 ⟨rfl, hW1, hF1⟩;have HW1 := ħ hW1;have HF1 := ħ hF1;clear hW1 hF1;go_wp2
 exact ⟨rfl, .tuple #[], by simp [results, Tryz.results95, go_sem], rfl, HW1.o, HF1.o⟩
set_option maxRecDepth 100000 in
set_option maxHeartbeats 1000000 in
theorem És (n : Nat) (ih : Èe n₀ wb fo G n) : AtG n₀ wb fo G n 71 Îg (Éq fo) := by
 have hTimes := ÊE n ih;intro nd hok hkids w M A1 A2 p1 p2 hE hN hW hlen;obtain ⟨ht, hm0, hm2⟩ := hok;obtain ⟨hlow1, hlow2⟩ := Wr.low hW;have hb0 := (ā w.heap.size w).alloc (ŋ _) (.cells #[.pointer (some ⟨wb, 0, none⟩)] 124)
 have hs0 : (w.alloc (.cells #[.pointer (some ⟨wb, 0, none⟩)] 124)).heap.size = w.heap.size + 1 := by simp
 have hb1 := hb0.alloc (by omega) (.cells #[.int .i64 nd.kind, .int .i64 nd.lo, .int .i64 nd.hi, .int .i64 nd.mode, .int .i64 nd.ref, .slice A1 nd.set.length p1, .slice A2 nd.kids.length p2] 27)
 have HBw := ħ ((Blk.new w 124 #[.pointer (some ⟨wb, 0, none⟩)]).alloc (.cells #[.int .i64 nd.kind, .int .i64 nd.lo, .int .i64 nd.hi, .int .i64 nd.mode, .int .i64 nd.ref, .slice A1 nd.set.length p1, .slice A2 nd.kids.length p2] 27));have HBn := ħ (Blk.new (w.alloc (.cells #[.pointer (some ⟨wb, 0, none⟩)] 124)) 27 #[.int .i64 nd.kind, .int .i64 nd.lo, .int .i64 nd.hi, .int .i64 nd.mode, .int .i64 nd.ref, .slice A1 nd.set.length p1, .slice A2 nd.kids.length p2]);rw [hs0] at HBn;have HE := ħ hE;have HN := ħ hN;have HW0 := ħ (hW.on hb1);have HF0 := ħ (FrW.of_below (n₀ := n₀) (wb := wb) hb1)
 by_cases hm : nd.mode = 2
 ·have hX : Éq fo nd = õ (.i 8 0 0 0 0) (Ů fo nd) := by unfold Éq; rw [if_pos hm]
  have hl : (õ (.i 8 0 0 0 0) (Ů fo nd)).length = (Ů fo nd).length + 2 := by have := Àg (.i 8 0 0 0 0) (Ů fo nd); unfold len at this; omega
  rw [hX] at hlen ⊢;rw [hl] at hlen
  have hmb : (nd.mode == 2) = true := by simp [hm]
  have HClo := ħ (fun W bw bn (h1 : Àq n₀ W) (h2 : Ś n₀ W nd A1 A2 p1 p2) M' (h3 : Wm n₀ wb fo W M') h4 h5 h6 => ÐC n hTimes ht hkids h1 h2 h3 h4 h5 h6 (bw := bw) (bn := bn))
  clear hTimes ht hkids hE hN hW hX hl ih hm;go_enter Tryz.func71, Tryz.ntmps71
  go_upto_region 1 with (fail)
  generalize (w.alloc _).alloc _ = W at *;have hs1 := hb1.size;have h7 := HBn.o.c7;have c0 := HBw.o.cell 0;simp at c0
  have HWi := ħ (Àj (w := W) (M := M) (p1 := .pointer (some ⟨w.heap.size, 0, none⟩)) (p2 := .pointer (some ⟨w.heap.size + 1, 0, none⟩)) (.inr (.inl rfl)) 8 0 0 0 (.inr rfl) (Ů fo nd) HW0.o (by omega) (fun W' hW' hF' =>
   HClo.o W' _ _ (HE.o.low ((HF0.o.trans hF').old (by omega))) (HN.o.lowB ((HF0.o.trans hF').old (by omega))) _ hW' (by rw [ă]; simp; omega) (hF'.blk HBw.o (by decide) (by omega)) (hF'.blk HBn.o (by decide) (by omega))))
  go_wp2_with fail
  refine HWi.o.mono ?_;rintro e w1 ⟨rfl, hW1, hF1⟩;have HW1 := ħ hW1;have HF1 := ħ (HF0.o.trans hF1);clear hW1 hF1;go_wp2
  exact ⟨rfl, .tuple #[], by simp [results, Tryz.results71, go_sem], rfl, HW1.o, HF1.o⟩
 ·have hX : Éq fo nd = Ů fo nd := by unfold Éq; rw [if_neg hm]
  rw [hX] at hlen ⊢
  have hmb : (nd.mode == 2) = false := by simp [hm]
  have HC := ħ (fun W (h1 : Àq n₀ W) (h2 : Ś n₀ W nd A1 A2 p1 p2) (h3 : Wm n₀ wb fo W M) => hTimes nd ht hkids W M A1 A2 p1 p2 h1 h2 h3 hlen)
  clear hTimes ht hkids hE hN hW hX ih hm;go_enter Tryz.func71, Tryz.ntmps71
  go_upto_region 1 with (fail)
  generalize (w.alloc _).alloc _ = W at *;have hs1 := hb1.size;have h7 := HBn.o.c7;have c0 := HBw.o.cell 0;simp at c0
  go_wp2_with fail
  refine (HC.o W (HE.o.low (HF0.o.old (by omega))) (HN.o.lowB (HF0.o.old (by omega))) HW0.o).mono ?_
  rintro e w1 ⟨rfl, hW1, hF1⟩;have HW1 := ħ hW1;have HF1 := ħ (HF0.o.trans hF1);clear hW1 hF1;go_wp2
  exact ⟨rfl, .tuple #[], by simp [results, Tryz.results71, go_sem], rfl, HW1.o, HF1.o⟩
end
section
open Go.RowKit
open Go.Proofs.YtpginkdkblmnbaaGreatDoor.Cl (Rg à Ý Ä Á Ãf)
variable {w w' w0 : World} {n₀ wb lp lp' base : Nat} {fo : Bool} {M : List In} {G : Int}
def ÊG (nd : Nd) : Prop := (∀ x ∈ nd.kids, Wf x) ∧ 0 ≤ nd.mode ∧ nd.mode ≤ 3
def ÁS (fo : Bool) (nd : Nd) : List In := õ (ËO nd.mode (û nd.kids) (ê nd.kids) 0) (ý fo nd)
theorem Ê.up {nd : Nd} {sv kv : Value} (h : Ê (fun b => b < n₀) w nd sv kv) (hn : n₀ ≤ w.heap.size) : Ê (fun b => b < w.heap.size) w nd sv kv := h.keep fun _ hk => ⟨Ć hk hn, rfl⟩
theorem Áz.up {L : List Nd} {A : Option Addr} {b off : Nat} (h : Áz n₀ w L A b off) (hn : n₀ ≤ w.heap.size) : Ài w L A b off := fun i x hx => by
 obtain ⟨h1, h2, A1, A2, p1, p2, h3, h4⟩ := h i x hx;exact ⟨h1, Ć h2 hn, A1, A2, p1, p2, h3.up hn, h4⟩
set_option maxRecDepth 100000 in
set_option maxHeartbeats 1000000 in
theorem ËX (n : Nat) (ih : Èe n₀ wb fo G n) {nd : Nd} (hkids : ∀ x ∈ nd.kids, Nx G n x) {bw bn : Nat} {A1 A2 : Option Addr} {p1 p2 : Nat} (hE : Àq n₀ w) (hN : Ś n₀ w nd A1 A2 p1 p2) (hW : Wm n₀ wb fo w M) (hl : M.length + (ý fo nd).length ≤ 90000)
 (hbw : Blk w bw 124 #[.pointer (some ⟨wb, 0, none⟩)]) (hbn : Blk w bn 27 #[.int .i64 nd.kind, .int .i64 nd.lo, .int .i64 nd.hi, .int .i64 nd.mode, .int .i64 nd.ref, .slice A1 nd.set.length p1, .slice A2 nd.kids.length p2]) {f : Nat} (hf : f = 97 ∨ f = 75) :
 Calls Tryz.prog f #[.pointer (some ⟨bw, 0, none⟩), .pointer (some ⟨bn, 0, none⟩)] w (WmP n₀ wb fo w (app M (ý fo nd))) := by
 obtain ⟨b, off, hkv, hm⟩ := Ś.kids hN;have HC := ħ (ih nd.kids hkids hm w M A2 p2 b off hE hkv hW hl);have c0 := hbw.cell 0;simp at c0;have h7 := hbn.c7;clear hE hN hW hbw hbn hkids ih hkv hm
 rcases hf with rfl | rfl
 ·go_enter Tryz.func97, Tryz.ntmps97
  go_wp2_with fail
  refine HC.o.mono ?_;rintro e w1 ⟨rfl, hW1, hF1⟩;have HW1 := ħ hW1;have HF1 := ħ hF1;clear hW1 hF1;go_wp2
  exact ⟨rfl, .tuple #[], by simp [results, Tryz.results97, go_sem], rfl, HW1.o, HF1.o⟩
 ·go_enter Tryz.func75, Tryz.ntmps75
  go_wp2_with fail
  refine HC.o.mono ?_;rintro e w1 ⟨rfl, hW1, hF1⟩;have HW1 := ħ hW1;have HF1 := ħ hF1;clear hW1 hF1;go_wp2
  exact ⟨rfl, .tuple #[], by simp [results, Tryz.results75, go_sem], rfl, HW1.o, HF1.o⟩
set_option maxRecDepth 100000 in
set_option maxHeartbeats 1000000 in
theorem Çr (L : List Nd) (hw : ∀ x ∈ L, Wf x) (hm : L.length ≤ 1000000) (w : World) (A : Option Addr) (p b off : Nat) (h : Ài w L A b off) :
 Calls Tryz.prog 10 #[.agg #[.int .i64 2, .int .i64 0, .int .i64 0, .int .i64 0, .int .i64 0, .slice none 0 0, .slice A L.length p]] w fun e w' => e = .returned (.tuple #[.int .i64 (û L), .int .i64 (ê L)]) ∧ Below w.heap.size w w' := by
 have HB0 := ħ (Blk.new w 27 #[.int .i64 2, .int .i64 0, .int .i64 0, .int .i64 0, .int .i64 0, .slice none 0 0, .slice A L.length p]);have hb0 := Ĳ w #[.int .i64 2, .int .i64 0, .int .i64 0, .int .i64 0, .int .i64 0, .slice none 0 0, .slice A L.length p]
 have HR := ħ (fun W (k : Ài W L A b off) => ÃP L hw hm W A p b off k)
 have HV := ħ (h.on hb0);clear h hw;go_enter Tryz.func10, Tryz.ntmps10
 go_upto_region 1 with (fail)
 have h7 := HB0.o.c7;generalize w.alloc _ = W at *
 go_wp2_with fail
 refine (HR.o W HV.o).mono ?_;rintro e w1 ⟨rfl, hb1⟩;have hbw := hb0.trans (hb1.mono hb0.size);go_wp2;go_ret2;exact ⟨rfl, hbw⟩
set_option maxRecDepth 100000 in
set_option maxHeartbeats 1000000 in
theorem ÌE (n : Nat) (ih : Èe n₀ wb fo G n) : AtG n₀ wb fo G n 73 ÊG (ÁS fo) := by
 intro nd hok hkids w M A1 A2 p1 p2 hE hN hW hlen;obtain ⟨hkw, hm0, hm3⟩ := hok;obtain ⟨hlow1, hlow2⟩ := Wr.low hW;obtain ⟨b, off, hkv, hm⟩ := Ś.kids hN
 have hl : (ÁS fo nd).length = (ý fo nd).length + 2 := by have := Àg (ËO nd.mode (û nd.kids) (ê nd.kids) 0) (ý fo nd); unfold len at this; unfold ÁS; omega
 rw [hl] at hlen
 have hmode : nd.mode = 0 ∨ nd.mode = 1 ∨ nd.mode = 2 ∨ nd.mode = 3 := by omega
 have HClo := ħ (fun W bw bn (h1 : Àq n₀ W) (h2 : Ś n₀ W nd A1 A2 p1 p2) M' (h3 : Wm n₀ wb fo W M') h4 h5 h6 => ËX n ih hkids h1 h2 h3 h4 h5 h6 (bw := bw) (bn := bn) (.inl rfl))
 have HE := ħ hE;have HN := ħ hN;have HK := ħ hkv;obtain ⟨m, hmd⟩ : ∃ m, m = nd.mode := ⟨_, rfl⟩;rw [← hmd] at hmode;rw [← hmd] at HClo;rw [← hmd]
 replace hmd := ħ hmd
 have hb0 := (ā w.heap.size w).alloc (ŋ _) (.cells #[.pointer (some ⟨wb, 0, none⟩)] 124)
 have hs0 : (w.alloc (.cells #[.pointer (some ⟨wb, 0, none⟩)] 124)).heap.size = w.heap.size + 1 := by simp
 have hb1 := hb0.alloc (by omega) (.cells #[.int .i64 nd.kind, .int .i64 nd.lo, .int .i64 nd.hi, .int .i64 m, .int .i64 nd.ref, .slice A1 nd.set.length p1, .slice A2 nd.kids.length p2] 27)
 have HBw := ħ ((Blk.new w 124 #[.pointer (some ⟨wb, 0, none⟩)]).alloc (.cells #[.int .i64 nd.kind, .int .i64 nd.lo, .int .i64 nd.hi, .int .i64 m, .int .i64 nd.ref, .slice A1 nd.set.length p1, .slice A2 nd.kids.length p2] 27));have HBn := ħ (Blk.new (w.alloc (.cells #[.pointer (some ⟨wb, 0, none⟩)] 124)) 27 #[.int .i64 nd.kind, .int .i64 nd.lo, .int .i64 nd.hi, .int .i64 m, .int .i64 nd.ref, .slice A1 nd.set.length p1, .slice A2 nd.kids.length p2]);rw [hs0] at HBn;have HW0 := ħ (hW.on hb1);have HF0 := ħ (FrW.of_below (n₀ := n₀) (wb := wb) hb1);clear hs0 hE hN hW hl hkv ih hkids hm0 hm3 hb0
 rcases hmode with rfl | rfl | rfl | rfl
 ·go_enter Tryz.func73, Tryz.ntmps73
  go_upto_region 1 with (fail)
  generalize (w.alloc _).alloc _ = W at *;have hs1 := hb1.size;have h7 := HBn.o.c7;have c0 := HBw.o.cell 0;simp at c0;have HBi := ħ (Blk.new W 106 #[.int .i64 7, .int .i64 0, .int .i64 0, .int .i64 0, .int .i64 0, .slice none 0 0]);have hbi := (ā W.heap.size W).alloc (ŋ _) (.cells #[.int .i64 7, .int .i64 0, .int .i64 0, .int .i64 0, .int .i64 0, .slice none 0 0] 106);have HWi := ħ (HW0.o.on hbi);have HFi := ħ (HF0.o.trans (FrW.of_below (n₀ := n₀) (wb := wb) hbi));have HBn2 := ħ (HBn.o.on hbi);have HBw2 := ħ (HBw.o.on hbi)
  go_upto_region 2 with (fail)
  have hsi := hbi.size;obtain ⟨bi, hbie⟩ : ∃ bi, bi = W.heap.size := ⟨_, rfl⟩
  have hbil : w.heap.size ≤ bi ∧ wb < bi ∧ w.heap.size + 1 < bi := by rw [hbie]; have := HBn.o.lt; omega
  have hbiW : W.heap.size ≤ bi := by omega
  rw [← hbie] at HBi ⊢;clear hbie h7 c0;generalize W.alloc _ = W2 at *;have h7 := HBn2.o.c7;have c0 := HBw2.o.cell 0;simp at c0;have b6 := HBi.o.c6_
  have HX : Hid (õ (.i 7 0 0 0 0) (ý fo nd) = ÁS fo nd) := ħ (by unfold ÁS; rw [← hmd.o]; rfl)
  have HWc := ħ (Àj (w := W2) (M := M) (p1 := .pointer (some ⟨w.heap.size, 0, none⟩)) (p2 := .pointer (some ⟨w.heap.size + 1, 0, none⟩)) (.inr (.inr rfl)) 7 0 0 0 (.inl rfl) (ý fo nd) HWi.o (by omega) (fun W' hW' hF' =>
   HClo.o W' _ _ (HE.o.low ((HFi.o.trans hF').old (by omega))) (HN.o.lowB ((HFi.o.trans hF').old (by omega))) _ hW' (by rw [ă]; simp; omega) (hF'.blk HBw2.o (by decide) (by omega)) (hF'.blk HBn2.o (by decide) (by omega))))
  rw [HX.o] at HWc
  go_wp2_with fail
  refine HWc.o.mono ?_;rintro e w1 ⟨rfl, hW1, hF1⟩;have HW1 := ħ hW1;have HF1 := ħ (HFi.o.trans hF1);clear hW1 hF1;go_wp2
  exact ⟨rfl, .tuple #[], by simp [results, Tryz.results73, go_sem], rfl, HW1.o, HF1.o⟩
 ·go_enter Tryz.func73, Tryz.ntmps73
  go_upto_region 1 with (fail)
  generalize (w.alloc _).alloc _ = W at *;have hs1 := hb1.size;have h7 := HBn.o.c7;have c0 := HBw.o.cell 0;simp at c0;have HBi := ħ (Blk.new W 106 #[.int .i64 7, .int .i64 1, .int .i64 0, .int .i64 0, .int .i64 0, .slice none 0 0]);have hbi := (ā W.heap.size W).alloc (ŋ _) (.cells #[.int .i64 7, .int .i64 1, .int .i64 0, .int .i64 0, .int .i64 0, .slice none 0 0] 106);have HWi := ħ (HW0.o.on hbi);have HFi := ħ (HF0.o.trans (FrW.of_below (n₀ := n₀) (wb := wb) hbi));have HBn2 := ħ (HBn.o.on hbi);have HBw2 := ħ (HBw.o.on hbi)
  go_upto_region 2 with (fail)
  have hsi := hbi.size;obtain ⟨bi, hbie⟩ : ∃ bi, bi = W.heap.size := ⟨_, rfl⟩
  have hbil : w.heap.size ≤ bi ∧ wb < bi ∧ w.heap.size + 1 < bi := by rw [hbie]; have := HBn.o.lt; omega
  have hbiW : W.heap.size ≤ bi := by omega
  rw [← hbie] at HBi ⊢;clear hbie h7 c0;generalize W.alloc _ = W2 at *;have h7 := HBn2.o.c7;have c0 := HBw2.o.cell 0;simp at c0;have b6 := HBi.o.c6_
  have HX : Hid (õ (.i 7 1 0 0 0) (ý fo nd) = ÁS fo nd) := ħ (by unfold ÁS; rw [← hmd.o]; rfl)
  have HWc := ħ (Àj (w := W2) (M := M) (p1 := .pointer (some ⟨w.heap.size, 0, none⟩)) (p2 := .pointer (some ⟨w.heap.size + 1, 0, none⟩)) (.inr (.inr rfl)) 7 1 0 0 (.inl rfl) (ý fo nd) HWi.o (by omega) (fun W' hW' hF' =>
   HClo.o W' _ _ (HE.o.low ((HFi.o.trans hF').old (by omega))) (HN.o.lowB ((HFi.o.trans hF').old (by omega))) _ hW' (by rw [ă]; simp; omega) (hF'.blk HBw2.o (by decide) (by omega)) (hF'.blk HBn2.o (by decide) (by omega))))
  rw [HX.o] at HWc
  go_wp2_with fail
  refine HWc.o.mono ?_;rintro e w1 ⟨rfl, hW1, hF1⟩;have HW1 := ħ hW1;have HF1 := ħ (HFi.o.trans hF1);clear hW1 hF1;go_wp2
  exact ⟨rfl, .tuple #[], by simp [results, Tryz.results73, go_sem], rfl, HW1.o, HF1.o⟩
 ·go_enter Tryz.func73, Tryz.ntmps73
  go_upto_region 1 with (fail)
  generalize (w.alloc _).alloc _ = W at *;have hs1 := hb1.size;have h7 := HBn.o.c7;have c0 := HBw.o.cell 0;simp at c0;have HBi := ħ (Blk.new W 106 #[.int .i64 7, .int .i64 2, .int .i64 0, .int .i64 0, .int .i64 0, .slice none 0 0]);have hbi := (ā W.heap.size W).alloc (ŋ _) (.cells #[.int .i64 7, .int .i64 2, .int .i64 0, .int .i64 0, .int .i64 0, .slice none 0 0] 106);have HWi := ħ (HW0.o.on hbi);have HFi := ħ (HF0.o.trans (FrW.of_below (n₀ := n₀) (wb := wb) hbi));have HBn2 := ħ (HBn.o.on hbi);have HBw2 := ħ (HBw.o.on hbi)
  go_upto_region 2 with (fail)
  have hsi := hbi.size;obtain ⟨bi, hbie⟩ : ∃ bi, bi = W.heap.size := ⟨_, rfl⟩
  have hbil : w.heap.size ≤ bi ∧ wb < bi ∧ w.heap.size + 1 < bi := by rw [hbie]; have := HBn.o.lt; omega
  have hbiW : W.heap.size ≤ bi := by omega
  rw [← hbie] at HBi ⊢;clear hbie h7 c0;generalize W.alloc _ = W2 at *;have h7 := HBn2.o.c7;have c0 := HBw2.o.cell 0;simp at c0;have b6 := HBi.o.c6_;have f3 := HBi.o.frozen 3;have f4 := HBi.o.frozen 4
  have HWd := ħ (Çr nd.kids hkw hm W2 A2 p2 b off ((HK.o.low (HFi.o.old (by omega))).up (by have := HFi.o.size; omega)))
  go_wp2_with fail
  refine HWd.o.mono ?_;rintro e w3 ⟨rfl, hb3⟩;have HW3 := ħ (HWi.o.on hb3);have HF3 := ħ (HFi.o.trans (FrW.of_below (n₀ := n₀) (wb := wb) hb3));have HBi3 := ħ (HBi.o.on hb3);have HBn3 := ħ (HBn2.o.on hb3);have HBw3 := ħ (HBw2.o.on hb3);have hs3 := hb3.size;clear h7 c0 b6 f3 f4;have f3 := HBi3.o.frozen 3;have f4 := HBi3.o.frozen 4;have b6 := HBi3.o.c6_
  go_upto_region 4 with (fail)
  have HB9 : Hid (Blk ((w3.setCell ⟨bi, 3, none⟩ (.int .i64 (û nd.kids))).setCell ⟨bi, 4, none⟩ (.int .i64 (ê nd.kids))) bi 106 #[.int .i64 7, .int .i64 2, .int .i64 0, .int .i64 (û nd.kids), .int .i64 (ê nd.kids), .slice none 0 0]) := ħ ((HBi3.o.set_ 3 (.int .i64 (û nd.kids))).set_ 4 (.int .i64 (ê nd.kids)))
  have HBn9 : Hid (Blk ((w3.setCell ⟨bi, 3, none⟩ (.int .i64 (û nd.kids))).setCell ⟨bi, 4, none⟩ (.int .i64 (ê nd.kids))) (w.heap.size + 1) 27 #[.int .i64 nd.kind, .int .i64 nd.lo, .int .i64 nd.hi, .int .i64 2, .int .i64 nd.ref, .slice A1 nd.set.length p1, .slice A2 nd.kids.length p2]) := ħ ((HBn3.o.far (p := ⟨bi, 3, none⟩) (by simp only; omega) _).far (p := ⟨bi, 4, none⟩) (by simp only; omega) _)
  have HBw9 : Hid (Blk ((w3.setCell ⟨bi, 3, none⟩ (.int .i64 (û nd.kids))).setCell ⟨bi, 4, none⟩ (.int .i64 (ê nd.kids))) w.heap.size 124 #[.pointer (some ⟨wb, 0, none⟩)]) := ħ ((HBw3.o.far (p := ⟨bi, 3, none⟩) (by simp only; omega) _).far (p := ⟨bi, 4, none⟩) (by simp only; omega) _)
  have hbl9 : Below W.heap.size W ((w3.setCell ⟨bi, 3, none⟩ (.int .i64 (û nd.kids))).setCell ⟨bi, 4, none⟩ (.int .i64 (ê nd.kids))) := ((hbi.trans (hb3.mono hsi)).setCell (show W.heap.size ≤ (⟨bi, 3, none⟩ : Addr).block by simp only; omega) _).setCell (show W.heap.size ≤ (⟨bi, 4, none⟩ : Addr).block by simp only; omega) _
  have HW9 := ħ (HW0.o.on hbl9);have HF9 := ħ (HF0.o.trans (FrW.of_below (n₀ := n₀) (wb := wb) hbl9));clear b6 f3 f4;generalize (w3.setCell _ _).setCell _ _ = w9 at *;have h7 := HBn9.o.c7;have c0 := HBw9.o.cell 0;simp at c0;have b6 := HB9.o.c6_
  have HX : Hid (õ (.i 7 2 0 (û nd.kids) (ê nd.kids)) (ý fo nd) = ÁS fo nd) := ħ (by unfold ÁS; rw [← hmd.o]; rfl)
  have HWc := ħ (Àj (w := w9) (M := M) (p1 := .pointer (some ⟨w.heap.size, 0, none⟩)) (p2 := .pointer (some ⟨w.heap.size + 1, 0, none⟩)) (.inr (.inr rfl)) 7 2 (û nd.kids) (ê nd.kids) (.inl rfl) (ý fo nd) HW9.o (by omega) (fun W' hW' hF' =>
   HClo.o W' _ _ (HE.o.low ((HF9.o.trans hF').old (by omega))) (HN.o.lowB ((HF9.o.trans hF').old (by omega))) _ hW' (by rw [ă]; simp; omega) (hF'.blk HBw9.o (by decide) (by omega)) (hF'.blk HBn9.o (by decide) (by omega))))
  rw [HX.o] at HWc
  go_wp2_with fail
  refine HWc.o.mono ?_;rintro e w1 ⟨rfl, hW1, hF1⟩;have HW1 := ħ hW1;have HF1 := ħ (HF9.o.trans hF1);clear hW1 hF1;go_wp2
  exact ⟨rfl, .tuple #[], by simp [results, Tryz.results73, go_sem], rfl, HW1.o, HF1.o⟩
 ·go_enter Tryz.func73, Tryz.ntmps73
  go_upto_region 1 with (fail)
  generalize (w.alloc _).alloc _ = W at *;have hs1 := hb1.size;have h7 := HBn.o.c7;have c0 := HBw.o.cell 0;simp at c0;have HBi := ħ (Blk.new W 106 #[.int .i64 7, .int .i64 3, .int .i64 0, .int .i64 0, .int .i64 0, .slice none 0 0]);have hbi := (ā W.heap.size W).alloc (ŋ _) (.cells #[.int .i64 7, .int .i64 3, .int .i64 0, .int .i64 0, .int .i64 0, .slice none 0 0] 106);have HWi := ħ (HW0.o.on hbi);have HFi := ħ (HF0.o.trans (FrW.of_below (n₀ := n₀) (wb := wb) hbi));have HBn2 := ħ (HBn.o.on hbi);have HBw2 := ħ (HBw.o.on hbi)
  go_upto_region 2 with (fail)
  have hsi := hbi.size;obtain ⟨bi, hbie⟩ : ∃ bi, bi = W.heap.size := ⟨_, rfl⟩
  have hbil : w.heap.size ≤ bi ∧ wb < bi ∧ w.heap.size + 1 < bi := by rw [hbie]; have := HBn.o.lt; omega
  have hbiW : W.heap.size ≤ bi := by omega
  rw [← hbie] at HBi ⊢;clear hbie h7 c0;generalize W.alloc _ = W2 at *;have h7 := HBn2.o.c7;have c0 := HBw2.o.cell 0;simp at c0;have b6 := HBi.o.c6_;have f3 := HBi.o.frozen 3;have f4 := HBi.o.frozen 4
  have HWd := ħ (Çr nd.kids hkw hm W2 A2 p2 b off ((HK.o.low (HFi.o.old (by omega))).up (by have := HFi.o.size; omega)))
  go_wp2_with fail
  refine HWd.o.mono ?_;rintro e w3 ⟨rfl, hb3⟩;have HW3 := ħ (HWi.o.on hb3);have HF3 := ħ (HFi.o.trans (FrW.of_below (n₀ := n₀) (wb := wb) hb3));have HBi3 := ħ (HBi.o.on hb3);have HBn3 := ħ (HBn2.o.on hb3);have HBw3 := ħ (HBw2.o.on hb3);have hs3 := hb3.size;clear h7 c0 b6 f3 f4;have f3 := HBi3.o.frozen 3;have f4 := HBi3.o.frozen 4;have b6 := HBi3.o.c6_
  go_upto_region 4 with (fail)
  have HB9 : Hid (Blk ((w3.setCell ⟨bi, 3, none⟩ (.int .i64 (û nd.kids))).setCell ⟨bi, 4, none⟩ (.int .i64 (ê nd.kids))) bi 106 #[.int .i64 7, .int .i64 3, .int .i64 0, .int .i64 (û nd.kids), .int .i64 (ê nd.kids), .slice none 0 0]) := ħ ((HBi3.o.set_ 3 (.int .i64 (û nd.kids))).set_ 4 (.int .i64 (ê nd.kids)))
  have HBn9 : Hid (Blk ((w3.setCell ⟨bi, 3, none⟩ (.int .i64 (û nd.kids))).setCell ⟨bi, 4, none⟩ (.int .i64 (ê nd.kids))) (w.heap.size + 1) 27 #[.int .i64 nd.kind, .int .i64 nd.lo, .int .i64 nd.hi, .int .i64 3, .int .i64 nd.ref, .slice A1 nd.set.length p1, .slice A2 nd.kids.length p2]) := ħ ((HBn3.o.far (p := ⟨bi, 3, none⟩) (by simp only; omega) _).far (p := ⟨bi, 4, none⟩) (by simp only; omega) _)
  have HBw9 : Hid (Blk ((w3.setCell ⟨bi, 3, none⟩ (.int .i64 (û nd.kids))).setCell ⟨bi, 4, none⟩ (.int .i64 (ê nd.kids))) w.heap.size 124 #[.pointer (some ⟨wb, 0, none⟩)]) := ħ ((HBw3.o.far (p := ⟨bi, 3, none⟩) (by simp only; omega) _).far (p := ⟨bi, 4, none⟩) (by simp only; omega) _)
  have hbl9 : Below W.heap.size W ((w3.setCell ⟨bi, 3, none⟩ (.int .i64 (û nd.kids))).setCell ⟨bi, 4, none⟩ (.int .i64 (ê nd.kids))) := ((hbi.trans (hb3.mono hsi)).setCell (show W.heap.size ≤ (⟨bi, 3, none⟩ : Addr).block by simp only; omega) _).setCell (show W.heap.size ≤ (⟨bi, 4, none⟩ : Addr).block by simp only; omega) _
  have HW9 := ħ (HW0.o.on hbl9);have HF9 := ħ (HF0.o.trans (FrW.of_below (n₀ := n₀) (wb := wb) hbl9));clear b6 f3 f4;generalize (w3.setCell _ _).setCell _ _ = w9 at *;have h7 := HBn9.o.c7;have c0 := HBw9.o.cell 0;simp at c0;have b6 := HB9.o.c6_
  have HX : Hid (õ (.i 7 3 0 (û nd.kids) (ê nd.kids)) (ý fo nd) = ÁS fo nd) := ħ (by unfold ÁS; rw [← hmd.o]; rfl)
  have HWc := ħ (Àj (w := w9) (M := M) (p1 := .pointer (some ⟨w.heap.size, 0, none⟩)) (p2 := .pointer (some ⟨w.heap.size + 1, 0, none⟩)) (.inr (.inr rfl)) 7 3 (û nd.kids) (ê nd.kids) (.inl rfl) (ý fo nd) HW9.o (by omega) (fun W' hW' hF' =>
   HClo.o W' _ _ (HE.o.low ((HF9.o.trans hF').old (by omega))) (HN.o.lowB ((HF9.o.trans hF').old (by omega))) _ hW' (by rw [ă]; simp; omega) (hF'.blk HBw9.o (by decide) (by omega)) (hF'.blk HBn9.o (by decide) (by omega))))
  rw [HX.o] at HWc
  go_wp2_with fail
  refine HWc.o.mono ?_;rintro e w1 ⟨rfl, hW1, hF1⟩;have HW1 := ħ hW1;have HF1 := ħ (HF9.o.trans hF1);clear hW1 hF1;go_wp2
  exact ⟨rfl, .tuple #[], by simp [results, Tryz.results73, go_sem], rfl, HW1.o, HF1.o⟩
end
end Go.Proofs.YtpginkdkblmnbaaGreatDoor
