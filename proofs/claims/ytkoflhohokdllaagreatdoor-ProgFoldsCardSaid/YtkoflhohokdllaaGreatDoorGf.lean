/- The writer: rows of places; alternatives. -/
import Derived.Test.YtkoflhohokdllaaGreatDoorGe
import Derived.Test.YtkoflhohokdllaaGreatDoorMPg
namespace Go.Proofs.YtkoflhohokdllaaGreatDoor
open Go.RowKit
open Go.Proofs.YtkoflhohokdllaaGreatDoor.Cl (Rg SetV SetAt rgCells info_three info3)
variable {w w' w0 : World} {n₀ wb lp lp' base : Nat} {fo : Bool} {M : List In} {G : Int} {v : Value} {js : List Nat}

def jv (l : List Nat) : List Value := l.map fun p => Value.int .i64 ((p : Nat) : Int)
theorem jv_len (l : List Nat) : (jv l).length = l.length := by simp [jv]
theorem jv_snoc (l : List Nat) (p : Nat) : jv (l ++ [p]) = jv l ++ [.int .i64 ((p : Nat) : Int)] := by simp [jv]
/-- A row of places of the call's own. -/
abbrev RowJ (w : World) (base : Nat) (v : Value) (l : List Nat) : Prop := w.ownsRow base 3 1 v l.length (jv l)
theorem Wr.grownJ (h : Wr n₀ wb fo w M lp) (ho : RowJ w base v js) (hg : w.grownBy w' v.ownBlock) : Wr n₀ wb fo w' M lp := by
  obtain ⟨cv, L, h, hM⟩ := h
  refine ⟨cv, L, h.keep fun i hi ⟨cs, t, z, hh, hc⟩ => hg.block i hi ?_, hM⟩
  intro e
  have hne : t ≠ 3 := by
    rcases hc with ⟨rfl, _⟩ | ⟨rfl, _⟩ | rfl <;> decide
  exact own_ne ho hh (fun e => hne e.symm) e.symm
theorem FrW.grownJ (h : FrW n₀ wb w0 w) (ho : RowJ w base v js) (hb : w0.heap.size ≤ base) (hg : w.grownBy w' v.ownBlock) : FrW n₀ wb w0 w' :=
  ⟨hg.os.trans h.os, hg.tape.trans h.tape, hg.output.trans h.output, Nat.le_trans h.size hg.size, fun i hi hc => (hg.block i (Nat.lt_of_lt_of_le hi h.size) (fun e => by have := (World.ownsRow.lt ho i e.symm).1; omega)).trans (h.block i hi hc)⟩
theorem RowJ.frw (ho : RowJ w base v js) (hW : Wr n₀ wb fo w M lp) (hF : FrW n₀ wb w w') : RowJ w' base v js := by
  obtain ⟨cv, hB⟩ := hW.blk
  refine own_kept ho fun i hi _ ⟨cs, z, hh⟩ => hF.block i hi (.inr ⟨ne_of_types hh hB (by decide), fun ⟨_, _, h2⟩ => ne_of_types hh h2 (by decide) rfl⟩)
theorem RowJ.at_ {j p : Nat} (ho : RowJ w base v js) (hj : js[j]? = some p) : ∃ g c, v = .slice (some ⟨g, 0, none⟩) js.length c ∧ js.length ≤ c ∧ w.cell? ⟨g, j, none⟩ = some (.int .i64 ((p : Nat) : Int)) := by
  have hl : 0 < js.length := by have := (List.getElem?_eq_some_iff.1 hj).1; omega
  obtain ⟨g, c, hv, _, hg⟩ := ho.form hl
  have hc : js.length ≤ c := by
    rcases ho.2 with ⟨hv', hn⟩ | ⟨g', c', cur, hv', _, _, hc, _⟩
    · omega
    · rw [hv] at hv'
      injection hv' with _ _ e
      omega
  subst hv
  refine ⟨g, c, rfl, hc, ?_⟩
  have := ho.cells (g := g) rfl j (.int .i64 ((p : Nat) : Int)) (by simp [jv, hj])
  rw [← this]
  unfold Addr.add
  split <;> simp_all
theorem RowJ.form_ (ho : RowJ w base v js) : ∃ A c, v = .slice A js.length c ∧ js.length ≤ c := by
  rcases ho.2 with ⟨hv, hn⟩ | ⟨g, c, cur, hv, _, _, hc, _⟩
  · exact ⟨none, 0, by rw [hv, hn], by omega⟩
  · exact ⟨_, c, hv, hc⟩

theorem fork_alt (Q x : List In) : ((app (Q ++ [In.i 3 0 0 0 0]) x) ++ [In.i 2 0 0 0 0]).set Q.length (forkI false Q.length ((app (Q ++ [In.i 3 0 0 0 0]) x) ++ [In.i 2 0 0 0 0]).length (In.i 3 0 0 0 0)) = altStep 0 Q x := by
  have hl : ((app (Q ++ [In.i 3 0 0 0 0]) x) ++ [In.i 2 0 0 0 0]).length = Q.length + x.length + 2 := by rw [List.length_append, app_len, List.length_append]; simp; omega
  have e1 : app (Q ++ [In.i 3 0 0 0 0]) x = Q ++ In.i 3 0 0 0 0 :: x.map (sh ((Q.length + 1 : Nat) : Int) (marks Q : Nat)) := by
    unfold app
    rw [marks_snoc _ _ (by decide), List.length_append, List.append_assoc]
    rfl
  have e2 : app Q [splitI false ((x.length : Int) + 2)] = Q ++ [In.i 3 ((Q.length : Int) + 1) ((Q.length : Int) + x.length + 2) 0 0] := by
    unfold app
    congr 1
    simp [splitI, sh, In.i]
    omega
  have e3 : marks (Q ++ [In.i 3 ((Q.length : Int) + 1) ((Q.length : Int) + x.length + 2) 0 0]) = marks Q := marks_snoc _ _ (by show (3 : Int) ≠ 10; decide)
  rw [hl, altStep, e2, e1]
  have e4 : app (Q ++ [In.i 3 ((Q.length : Int) + 1) ((Q.length : Int) + x.length + 2) 0 0]) x = Q ++ In.i 3 ((Q.length : Int) + 1) ((Q.length : Int) + x.length + 2) 0 0 :: x.map (sh ((Q.length + 1 : Nat) : Int) (marks Q : Nat)) := by
    unfold app
    rw [e3, List.length_append, List.append_assoc]
    rfl
  rw [e4, List.append_assoc, List.set_append_right _ _ (Nat.le_refl _), Nat.sub_self, List.append_assoc]
  simp [forkI, In.i]
theorem alt_done (M xl : List In) (l : List (List In)) : patches ((app (altS 0 M l) xl).length : Nat) (app (altS 0 M l) xl) (altJ M.length l) = app M (altC (l ++ [xl])) := by
  have hT : (((app (altS 0 M l) xl).length : Nat) : Int) = (M.length : Int) + len (altC (l ++ [xl])) := by
    have h1 := altS_len 0 l M
    have h2 := altC_len (l ++ [xl]) (by simp)
    rw [app_len, h2]
    simp only [List.map_append, List.sum_append, List.length_append, List.map_cons, List.map_nil, List.sum_cons, List.sum_nil, List.length_cons, List.length_nil]
    unfold len at *
    omega
  rw [← altS_code, ← hT]
  clear hT
  generalize (((app (altS 0 M l) xl).length : Nat) : Int) = T
  have e := patches_alt T M l (xl.map (sh ((altS 0 M l).length : Nat) (marks (altS 0 M l) : Nat)))
  have e1 : app (altS 0 M l) xl = altS 0 M l ++ xl.map (sh ((altS 0 M l).length : Nat) (marks (altS 0 M l) : Nat)) := rfl
  rw [← e1] at e
  rw [e, altS_len_eq 0 T l M, altS_marks 0 T l M M rfl]
  rfl
theorem patches_marks (T : Int) : ∀ (ps : List Nat) (Z : List In), marks (patches T Z ps) = marks Z
  | [], _ => rfl
  | p :: ps, Z => by
    have := patches_marks T ps (patch T Z p)
    rw [patch_marks] at this
    exact this

def ChoiceG (n₀ wb : Nat) (fo : Bool) (G : Int) (n : Nat) : Prop := ∀ (L : List Nd), (∀ x ∈ L, Nx G n x) → L ≠ [] → L.length ≤ 1000000 → ∀ (w : World) (M : List In) (A : Option Addr) (p b off : Nat), Env5 n₀ w → KidsB n₀ w L A b off → Wm n₀ wb fo w M → M.length + (altC (L.map (code fo))).length ≤ 90000 →
  Calls Tryz.prog 77 #[.pointer (some ⟨wb, 0, none⟩), .slice A L.length p] w (WmP n₀ wb fo w (app M (altC (L.map (code fo)))))
theorem alt_take_le (f : Nd → List In) (L : List Nd) (M : List In) {k : Nat} (h : k < L.length) : (altS 0 M ((L.take k).map f)).length + (f L[k]).length + (if k + 1 < L.length then 2 else 0) ≤ M.length + (altC (L.map f)).length := by
  have e : L = L.take k ++ (L[k] :: L.drop (k + 1)) := by
    rw [← List.drop_eq_getElem_cons h, List.take_append_drop]
  have h1 := altS_len 0 ((L.take k).map f) M
  have h2 := altC_len (L.map f) (by intro e; have := congrArg List.length e; simp at this; rw [this] at h; simp at h)
  have e2 := congrArg (fun L => ((L.map f).map len).sum) e
  simp only [List.map_append, List.map_cons, List.sum_append, List.sum_cons] at e2
  have h0 : ∀ (l : List (List In)), 0 ≤ (l.map len).sum := by
    intro l
    induction l with
    | nil => simp
    | cons y l ih => simp only [List.map_cons, List.sum_cons]; have := len_nonneg y; omega
  have h3 := h0 ((L.drop (k + 1)).map f)
  have h4 : ((L.take k).map f).length = k := by simp; omega
  rw [h4] at h1
  rw [List.length_map] at h2
  unfold len at *
  split <;> omega
theorem map_take_snoc (f : Nd → List In) {L : List Nd} {k : Nat} (h : k < L.length) : (L.take (k + 1)).map f = (L.take k).map f ++ [f L[k]] := by rw [take_snoc h, List.map_append]; rfl

set_option maxRecDepth 100000 in
set_option maxHeartbeats 4000000 in
theorem choice_step_ (n : Nat) (ih : NodeC n₀ wb fo G n) : ChoiceG n₀ wb fo G n := by
  intro L hL hne hm w M A p b off hE hK hW hlen
  have HK := Lib.hid hK
  have HIH := Lib.hid ih
  have HL := Lib.hid hL
  have HE := Lib.hid hE
  have HW := Lib.hid hW
  have HLen := Lib.hid hlen
  have hl0 : 0 < L.length := List.length_pos_iff.2 hne
  obtain ⟨hlow1, hlow2⟩ := Wr.low hW
  obtain ⟨i0, hi, hz0, hz1, hz2⟩ := info_three info3
  clear hK ih hL hE hW hlen hne
  go_enter Tryz.func77, Tryz.ntmps77
  go_wp2
  go_loopw [5, 16] (fun u i wr => ∃ (k : Nat) (A5 : Option Addr) (c5 : Nat), k < L.length ∧ u = .slice A5 (altJ M.length ((L.take k).map (code fo))).length c5 ∧ (altJ M.length ((L.take k).map (code fo))).length ≤ c5 ∧ i = .int .i64 k ∧ Hid (Wm n₀ wb fo wr (altS 0 M ((L.take k).map (code fo))) ∧ FrW n₀ wb w wr ∧ RowJ wr w.heap.size u (altJ M.length ((L.take k).map (code fo))))) (fun _ i _ => L.length - (intOf i).toNat)
  case atStart => exact ⟨0, none, 0, by omega, rfl, Nat.le_refl _, rfl, Lib.hid ⟨HW.out, FrW.refl _, World.ownsRow_nil _ _ _ _⟩⟩
  case round =>
    obtain ⟨k, A5, c5, hk, rfl, hc5, rfl, HR⟩ := hrel
    have hsz := HR.out.2.1.size
    have HBl := Lib.hid (HR.out.2.1.old (by omega))
    have hlti : (k : Int) < L.length := by omega
    obtain ⟨hA, hb, a1, a2, r1, r2, hN, hC⟩ := HK.out k _ (List.getElem?_eq_getElem hk)
    subst hA
    have HX := Lib.hid (HL.out _ (List.getElem_mem hk))
    have HT := Lib.hid (map_take_snoc (code fo) hk)
    have HTl := Lib.hid (alt_take_le (code fo) L M hk)
    have HEq : Hid (k + 1 = L.length → (L.map (code fo)) = (L.take k).map (code fo) ++ [code fo L[k]]) := Lib.hid (fun e => by rw [← map_take_snoc (code fo) hk, e, List.take_length])
    generalize L[k] = x at hN hC HX HT HTl HEq
    have h7 := (hC.on (HBl.out.block b hb)).seven_
    have HN := Lib.hid ((hN.lowB HBl.out).lowB (new_blk wr #[.int .i64 x.kind, .int .i64 x.lo, .int .i64 x.hi, .int .i64 x.mode, .int .i64 x.ref, .slice a1 x.set.length r1, .slice a2 x.kids.length r2] |>.mono (by omega)))
    have HB := Lib.hid (Blk.new wr 27 #[.int .i64 x.kind, .int .i64 x.lo, .int .i64 x.hi, .int .i64 x.mode, .int .i64 x.ref, .slice a1 x.set.length r1, .slice a2 x.kids.length r2])
    have HW6 := Lib.hid (HR.out.1.alloc (.cells #[.int .i64 x.kind, .int .i64 x.lo, .int .i64 x.hi, .int .i64 x.mode, .int .i64 x.ref, .slice a1 x.set.length r1, .slice a2 x.kids.length r2] 27))
    have HF6 := Lib.hid (HR.out.2.1.alloc (.cells #[.int .i64 x.kind, .int .i64 x.lo, .int .i64 x.hi, .int .i64 x.mode, .int .i64 x.ref, .slice a1 x.set.length r1, .slice a2 x.kids.length r2] 27))
    have HJ6 := Lib.hid (World.ownsRow.alloc HR.out.2.2 (.cells #[.int .i64 x.kind, .int .i64 x.lo, .int .i64 x.hi, .int .i64 x.mode, .int .i64 x.ref, .slice a1 x.set.length r1, .slice a2 x.kids.length r2] 27))
    clear hN hC
    go_upto_region 5 with (fail)
    have h77 := HB.out.c7
    have hbx : wr.heap.size < (wr.alloc (.cells #[.int .i64 x.kind, .int .i64 x.lo, .int .i64 x.hi, .int .i64 x.mode, .int .i64 x.ref, .slice a1 x.set.length r1, .slice a2 x.kids.length r2] 27)).heap.size := by simp
    generalize wr.alloc _ = W at *
    have HE6 := Lib.hid (HE.out.low (HF6.out.old (by omega)))
    have HCl : Hid (((L.take k).map (code fo)).length = k) := Lib.hid (by simp; omega)
    generalize (L.take k).map (code fo) = C at *
    have hQl : (altS 0 M C).length + (code fo x).length + (if k + 1 < L.length then 2 else 0) ≤ 90000 := by have := HTl.out; have := HLen.out; omega
    obtain ⟨Q, hQ⟩ : ∃ Q, Q = altS 0 M C := ⟨_, rfl⟩
    rw [← hQ] at HW6 hQl
    have HQ := Lib.hid hQ
    clear hQ HTl
    obtain ⟨X, hX⟩ : ∃ X, X = code fo x := ⟨_, rfl⟩
    have HNd : Hid (∀ W M A1 A2 p1 p2, Env5 n₀ W → NodeB n₀ W x A1 A2 p1 p2 → Wm n₀ wb fo W M → M.length + X.length ≤ 90000 → Calls Tryz.prog 60 #[.pointer (some ⟨wb, 0, none⟩), .agg #[.int .i64 x.kind, .int .i64 x.lo, .int .i64 x.hi, .int .i64 x.mode, .int .i64 x.ref, .slice A1 x.set.length p1, .slice A2 x.kids.length p2]] W (WmP n₀ wb fo W (app M X))) := Lib.hid (by rw [hX]; exact HIH.out x HX.out)
    rw [← hX] at hQl HT HEq
    clear hX
    by_cases hlast : k + 1 < L.length
    · have hne' : ((k : Int) == (L.length : Int) - 1) = false := by simp; omega
      rw [if_pos hlast] at hQl
      have HP := Lib.hid (put_i 3 0 0 0 0 HW6.out (by omega))
      go_wp2_with fail
      refine HP.out.mono ?_
      rintro e w2 ⟨rfl, hW2, hF2⟩
      have hs2 := hF2.size
      have HB2 := Lib.hid (hF2.blk HB.out (by decide) (by omega))
      have HJ2 := Lib.hid (RowJ.frw HJ6.out HW6.out hF2)
      have HF2 := Lib.hid (HF6.out.trans hF2)
      have HN2 := Lib.hid (HN.out.lowB (hF2.old (by omega)))
      have HE2 := Lib.hid (HE.out.low (HF2.out.old (by omega)))
      have HW2 : Hid (Wm n₀ wb fo w2 (Q ++ [In.i 3 0 0 0 0])) := Lib.hid (by unfold Wm; rw [marks_snoc _ _ (by decide)]; exact hW2)
      clear hW2 hF2 HP h77
      have h77 := HB2.out.c7
      go_wp2_with fail
      refine (HNd.out w2 _ a1 a2 r1 r2 HE2.out HN2.out HW2.out (by rw [List.length_append]; simp; omega)).mono ?_
      rintro e w3 ⟨rfl, hW3, hF3⟩
      have hs3 := hF3.size
      have HJ3 := Lib.hid (RowJ.frw HJ2.out HW2.out hF3)
      have HF3 := Lib.hid (HF2.out.trans hF3)
      obtain ⟨Q2, hQ2⟩ : ∃ Q2, Q2 = app (Q ++ [In.i 3 0 0 0 0]) X := ⟨_, rfl⟩
      rw [← hQ2] at hW3
      have hQ2l : Q2.length = Q.length + 1 + X.length := by rw [hQ2, app_len, List.length_append]; rfl
      have HQ2 := Lib.hid hQ2
      have HW3 := Lib.hid hW3
      clear hW3 hF3 hQ2 h77
      have HQ2l := Lib.hid hQ2l
      have hQ2b : Q2.length + 1 ≤ 90000 := by omega
      clear hQ2l
      have HP := Lib.hid (put_i 2 0 0 0 0 HW3.out (by omega))
      go_wp2_with fail
      refine HP.out.mono ?_
      rintro e w4 ⟨rfl, hW4, hF4⟩
      have HJ4 := Lib.hid (RowJ.frw HJ3.out HW3.out hF4)
      have HF4 := Lib.hid (HF3.out.trans hF4)
      have HW4 := Lib.hid hW4
      have hs4 := HF4.out.size
      clear hW4 hF4
      have HJa := Lib.hid (World.ownsRow.alloc HJ4.out (.cells #[.int .i64 ((Q2.length : Nat) : Int)] 3))
      have HWa := Lib.hid (HW4.out.alloc (.cells #[.int .i64 ((Q2.length : Nat) : Int)] 3))
      have HFa := Lib.hid (HF4.out.alloc (.cells #[.int .i64 ((Q2.length : Nat) : Int)] 3))
      have hjl : (altJ M.length C).length ≤ 1000000 := by rw [altJ_len, HCl.out]; omega
      go_wp2_with (at_builtin; refine wpList_append_own _ rfl _ _ 70 rfl w.heap.size 3 i0 (.int .i64 0) 1 8 Tryz.underlying70 hi hz0 hz1 hz2 rfl (by decide) _ _ _ rfl HJa.out ⟨w4.heap.size, 0, none⟩ 1 1 [.int .i64 ((Q2.length : Nat) : Int)] rfl rfl ?c1 ?c2 ?c3 ?c4 ?c5 ?_)
      case c1 =>
        intro j u hj
        match j, hj with
        | 0, hj => simp at hj; subst hj; simp [Addr.add]
      case c2 => intro u hu; simp at hu; subst hu; rfl
      case c3 => unfold maxLen; omega
      case c4 => omega
      case c5 => simp; omega
      intro v' w5 hown' hgrow
      have HW5 := Lib.hid (HWa.out.grownJ HJa.out hgrow)
      have HF5 := Lib.hid (HFa.out.grownJ HJa.out (Nat.le_refl _) hgrow)
      have HJ5 : Hid (RowJ w5 w.heap.size v' (altJ M.length C ++ [Q2.length])) := Lib.hid (by
        unfold RowJ
        rw [jv_snoc, List.length_append]
        exact hown')
      obtain ⟨g9, c9, rfl, _, _⟩ := hown'.form (by omega)
      clear hown' hgrow
      have HFk := Lib.hid (fork_any (lz := false) (s := Q.length) (x := In.i 3 0 0 0 0) HW5.out (by
        rw [HQ2.out]
        unfold app
        simp))
      intro _
      go_wp2_with fail
      refine HFk.out.mono ?_
      rintro e w6 ⟨rfl, hW6, hF6⟩
      have HJ6' := Lib.hid (RowJ.frw HJ5.out HW5.out hF6)
      have HF6' := Lib.hid (HF5.out.trans hF6)
      have HW6' := Lib.hid hW6
      clear hW6 hF6
      go_wp2
      go_roundw
      case rel =>
        have e0 : altJ M.length ((L.take (k + 1)).map (code fo)) = altJ M.length C ++ [Q2.length] := by rw [HT.out, altJ_snoc _ _ _ 0, ← HQ.out, HQ2l.out]
        refine ⟨k + 1, some ⟨g9, 0, none⟩, c9, hlast, by rw [e0, List.length_append]; rfl, ?_, by go_num, Lib.hid ?_⟩
        · rw [e0]
          obtain ⟨A', c', e', h'⟩ := RowJ.form_ HJ5.out
          injection e' with _ _ e''
          omega
        rw [e0, HT.out, altS_snoc, ← HQ.out]
        have e1 : (Q2 ++ [In.i 2 0 0 0 0]).set Q.length (forkI false Q.length (Q2 ++ [In.i 2 0 0 0 0]).length (In.i 3 0 0 0 0)) = altStep 0 Q X := by rw [HQ2.out]; exact fork_alt Q X
        have e2 : marks Q2 = marks (altStep 0 Q X) := by rw [HQ2.out, app_marks, marks_snoc _ _ (by decide), altStep_marks]
        refine ⟨?_, HF6'.out, ?_⟩
        · have := HW6'.out
          rw [e1, e2] at this
          exact this
        · exact HJ6'.out
      case measure => simp [intOf]; omega
    · have hkl : k + 1 = L.length := by omega
      have hne' : ((k : Int) == (L.length : Int) - 1) = true := by simp; omega
      have HD := Lib.hid (HEq.out hkl)
      clear hkl
      go_wp2_with fail
      refine (HNd.out W Q a1 a2 r1 r2 HE6.out HN.out HW6.out (by omega)).mono ?_
      rintro e w3 ⟨rfl, hW3, hF3⟩
      have HJ3 := Lib.hid (RowJ.frw HJ6.out HW6.out hF3)
      have HF3 := Lib.hid (HF6.out.trans hF3)
      have hs3 := HF3.out.size
      have hZb : (app Q X).length ≤ 90000 := by rw [app_len]; omega
      have HZ := Lib.hid (show patches ((app Q X).length : Nat) (app Q X) (altJ M.length C) = app M (altC (C ++ [X])) by rw [HQ.out]; exact alt_done M X C)
      have HZl : Hid (∀ p ∈ altJ M.length C, p < (app Q X).length) := Lib.hid (fun p hp => by
        have := altJ_lt 0 C M p hp
        rw [app_len, HQ.out]
        omega)
      rw [← HD.out] at HZ
      have hjs : (altJ M.length C).length ≤ 1000000 := by rw [altJ_len, HCl.out]; omega
      generalize app Q X = Z0 at *
      generalize altJ M.length C = js at *
      have HW3 := Lib.hid hW3
      clear hW3 hF3 h77
      go_wp2
      go_loopw [45] (fun i wr => ∃ (j : Nat), j ≤ js.length ∧ i = .int .i64 j ∧ Hid (Wm n₀ wb fo wr (patches (Z0.length : Nat) Z0 (js.take j)) ∧ FrW n₀ wb w wr ∧ RowJ wr w.heap.size (.slice A5 js.length c5) js)) (fun i _ => js.length - (intOf i).toNat)
      case atStart => exact ⟨0, Nat.zero_le _, rfl, Lib.hid ⟨HW3.out, HF3.out, HJ3.out⟩⟩
      case round =>
        obtain ⟨j, hj, rfl, HR2⟩ := hrel
        by_cases hjl : j < js.length
        · have hji : (j : Int) < js.length := by omega
          obtain ⟨g7, c7, hv7, hc7, k7⟩ := RowJ.at_ HR2.out.2.2 (List.getElem?_eq_getElem hjl)
          have HPs := Lib.hid (HZl.out _ (List.getElem_mem hjl))
          have HTk : Hid (js.take (j + 1) = js.take j ++ [js[j]]) := Lib.hid (by rw [List.take_succ_eq_append_getElem hjl])
          generalize js[j] = pp at k7 HPs HTk
          obtain ⟨rfl, _, rfl⟩ := Value.slice.inj hv7
          have hW9 := HR2.out.1
          obtain ⟨cv, L9, hWc, hL9⟩ := hW9
          have hl9 : L9.length = Z0.length := by have := congrArg List.length hL9; rw [List.length_map, patches_len] at this; exact this
          have hpl : pp < L9.length := by have := HPs.out; omega
          have hx' := List.getElem?_eq_getElem hpl
          generalize L9[pp] = y9 at hx'
          obtain ⟨y, v9⟩ := y9
          obtain ⟨g, cp, rfl, hcp, hgs, hcell, hfz⟩ := hWc.at_ hx'
          have k1 := hcell 1 _ rfl
          have f1 := hfz (pp * 6 + 1)
          obtain ⟨c0, _, _⟩ := hWc.c3
          have hpi : (pp : Int) < (L9.length : Int) := by omega
          have HTu := Lib.hid (hWc.turn (y := { y with a := (Z0.length : Nat) }) hx' (j := 1) (u := .int .i64 (Z0.length : Nat)) (by omega) rfl rfl)
          have HHr : Hid (Calls Tryz.prog 74 #[.pointer (some ⟨wb, 0, none⟩)] wr.drew fun e w' => e = .returned (.int .i64 (Z0.length : Nat)) ∧ wr.drew = w') := Lib.hid (by
            have := here_any HR2.out.1.drew
            rw [patches_len] at this
            exact this)
          have HJ1 := Lib.hid hjl
          have HX9 : Hid ((patches (Z0.length : Nat) Z0 (js.take j))[pp]? = some y) := Lib.hid (by rw [← hL9, List.getElem?_map, hx']; rfl)
          have HL9 := Lib.hid hL9
          clear hWc hx' hcell hfz hL9 hl9
          go_wp2_with fail
          go_region_with (go_at_call 74; refine HHr.out.mono ?_; rintro e w1 ⟨rfl, rfl⟩)
          all_goals
            generalize wr.setCell _ _ = w9 at HTu ⊢
            have HN9 : Hid (Wm n₀ wb fo w9.drew (patches (Z0.length : Nat) Z0 (js.take (j + 1))) ∧ FrW n₀ wb w w9.drew ∧ RowJ w9.drew w.heap.size (.slice (some ⟨g7, 0, none⟩) js.length c5) js) := Lib.hid (by
              have hm9 : marks (patches (Z0.length : Nat) Z0 (js.take (j + 1))) = marks (patches (Z0.length : Nat) Z0 (js.take j)) := by rw [HTk.out, patches_snoc, patch_marks]
              refine ⟨by unfold Wm; rw [hm9]; exact ⟨_, _, HTu.out.1.drew, by rw [map_set_fst, HL9.out, HTk.out, patches_snoc, patch_set _ HX9.out]⟩, (HR2.out.2.1.trans HTu.out.2).drew, RowJ.frw HR2.out.2.2 HR2.out.1 HTu.out.2.drew⟩)
            clear HTu
            go_wp2
            go_roundw
            case rel => exact ⟨j + 1, HJ1.out, by go_num, HN9⟩
            case measure => have := HJ1.out; simp [intOf]; omega
        · obtain rfl : j = js.length := by omega
          go_wp2
          have HR3 := HR2.out
          rw [List.take_length, HZ.out] at HR3
          exact ⟨rfl, .tuple #[], by simp [results, Tryz.results77, go_sem], rfl, HR3.1, HR3.2.1⟩

end Go.Proofs.YtkoflhohokdllaaGreatDoor
