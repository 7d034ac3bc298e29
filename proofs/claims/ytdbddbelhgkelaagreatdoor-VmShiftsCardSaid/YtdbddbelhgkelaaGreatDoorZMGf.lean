/- Joined: Gf, Gg, Gh, Gi, Gj, Gk. -/
import Derived.Test.YtdbddbelhgkelaaGreatDoorZGe
import Derived.Test.YtdbddbelhgkelaaGreatDoorZMPg
/- The writer: rows of places; alternatives. -/
namespace Go.Proofs.YtdbddbelhgkelaaGreatDoor
open Go.RowKit
open Go.Proofs.YtdbddbelhgkelaaGreatDoor.Cl (Rg SetV SetAt rgCells info_three info3)
variable {w w' w0 : World} {n₀ wb lp lp' base : Nat} {fo : Bool} {M : List In} {G : Int} {v : Value} {js : List Nat}

def jv (l : List Nat) : List Value := l.map fun p => Value.int .i64 ((p : Nat) : Int)
theorem jv_len (l : List Nat) : (jv l).length = l.length := by simp [jv]
theorem jv_snoc (l : List Nat) (p : Nat) : jv (l ++ [p]) = jv l ++ [.int .i64 ((p : Nat) : Int)] := by simp [jv]
/-- A row of places of the call's own. -/
abbrev RowJ (w : World) (base : Nat) (v : Value) (l : List Nat) : Prop := w.ownsRow base 3 1 v l.length (jv l)
theorem Wr.grownJ (h : Wr n₀ wb fo w M lp) (ho : RowJ w base v js) (hg : w.grownBy w' v.ownBlock) : Wr n₀ wb fo w' M lp := by
  obtain ⟨cv, L, h, hM⟩ := h
  refine ⟨cv, L, h.keep fun i hi ⟨cs, t, z, hh, hc⟩ => hg.block i hi ?_, hM⟩
  intro e
  have hne : t ≠ 3 := by
    rcases hc with ⟨rfl, _⟩ | ⟨rfl, _⟩ | rfl <;> decide
  exact own_ne ho hh (fun e => hne e.symm) e.symm
theorem FrW.grownJ (h : FrW n₀ wb w0 w) (ho : RowJ w base v js) (hb : w0.heap.size ≤ base) (hg : w.grownBy w' v.ownBlock) : FrW n₀ wb w0 w' :=
  ⟨hg.os.trans h.os, hg.tape.trans h.tape, hg.output.trans h.output, Nat.le_trans h.size hg.size, fun i hi hc => (hg.block i (Nat.lt_of_lt_of_le hi h.size) (fun e => by have := (World.ownsRow.lt ho i e.symm).1; omega)).trans (h.block i hi hc)⟩
theorem RowJ.frw (ho : RowJ w base v js) (hW : Wr n₀ wb fo w M lp) (hF : FrW n₀ wb w w') : RowJ w' base v js := by
  obtain ⟨cv, hB⟩ := hW.blk
  refine own_kept ho fun i hi _ ⟨cs, z, hh⟩ => hF.block i hi (.inr ⟨ne_of_types hh hB (by decide), fun ⟨_, _, h2⟩ => ne_of_types hh h2 (by decide) rfl⟩)
theorem RowJ.at_ {j p : Nat} (ho : RowJ w base v js) (hj : js[j]? = some p) : ∃ g c, v = .slice (some ⟨g, 0, none⟩) js.length c ∧ js.length ≤ c ∧ w.cell? ⟨g, j, none⟩ = some (.int .i64 ((p : Nat) : Int)) := by
  have hl : 0 < js.length := by have := (List.getElem?_eq_some_iff.1 hj).1; omega
  obtain ⟨g, c, hv, _, hg⟩ := ho.form hl
  have hc : js.length ≤ c := by
    rcases ho.2 with ⟨hv', hn⟩ | ⟨g', c', cur, hv', _, _, hc, _⟩
    · omega
    · rw [hv] at hv'
      injection hv' with _ _ e
      omega
  subst hv
  refine ⟨g, c, rfl, hc, ?_⟩
  have := ho.cells (g := g) rfl j (.int .i64 ((p : Nat) : Int)) (by simp [jv, hj])
  rw [← this]
  unfold Addr.add
  split <;> simp_all
theorem RowJ.form_ (ho : RowJ w base v js) : ∃ A c, v = .slice A js.length c ∧ js.length ≤ c := by
  rcases ho.2 with ⟨hv, hn⟩ | ⟨g, c, cur, hv, _, _, hc, _⟩
  · exact ⟨none, 0, by rw [hv, hn], by omega⟩
  · exact ⟨_, c, hv, hc⟩

theorem fork_alt (Q x : List In) : ((app (Q ++ [In.i 3 0 0 0 0]) x) ++ [In.i 2 0 0 0 0]).set Q.length (forkI false Q.length ((app (Q ++ [In.i 3 0 0 0 0]) x) ++ [In.i 2 0 0 0 0]).length (In.i 3 0 0 0 0)) = altStep 0 Q x := by
  have hl : ((app (Q ++ [In.i 3 0 0 0 0]) x) ++ [In.i 2 0 0 0 0]).length = Q.length + x.length + 2 := by rw [List.length_append, app_len, List.length_append]; simp; omega
  have e1 : app (Q ++ [In.i 3 0 0 0 0]) x = Q ++ In.i 3 0 0 0 0 :: x.map (sh ((Q.length + 1 : Nat) : Int) (marks Q : Nat)) := by
    unfold app
    rw [marks_snoc _ _ (by decide), List.length_append, List.append_assoc]
    rfl
  have e2 : app Q [splitI false ((x.length : Int) + 2)] = Q ++ [In.i 3 ((Q.length : Int) + 1) ((Q.length : Int) + x.length + 2) 0 0] := by
    unfold app
    congr 1
    simp [splitI, sh, In.i]
    omega
  have e3 : marks (Q ++ [In.i 3 ((Q.length : Int) + 1) ((Q.length : Int) + x.length + 2) 0 0]) = marks Q := marks_snoc _ _ (by show (3 : Int) ≠ 10; decide)
  rw [hl, altStep, e2, e1]
  have e4 : app (Q ++ [In.i 3 ((Q.length : Int) + 1) ((Q.length : Int) + x.length + 2) 0 0]) x = Q ++ In.i 3 ((Q.length : Int) + 1) ((Q.length : Int) + x.length + 2) 0 0 :: x.map (sh ((Q.length + 1 : Nat) : Int) (marks Q : Nat)) := by
    unfold app
    rw [e3, List.length_append, List.append_assoc]
    rfl
  rw [e4, List.append_assoc, List.set_append_right _ _ (Nat.le_refl _), Nat.sub_self, List.append_assoc]
  simp [forkI, In.i]
theorem alt_done (M xl : List In) (l : List (List In)) : patches ((app (altS 0 M l) xl).length : Nat) (app (altS 0 M l) xl) (altJ M.length l) = app M (altC (l ++ [xl])) := by
  have hT : (((app (altS 0 M l) xl).length : Nat) : Int) = (M.length : Int) + len (altC (l ++ [xl])) := by
    have h1 := altS_len 0 l M
    have h2 := altC_len (l ++ [xl]) (by simp)
    rw [app_len, h2]
    simp only [List.map_append, List.sum_append, List.length_append, List.map_cons, List.map_nil, List.sum_cons, List.sum_nil, List.length_cons, List.length_nil]
    unfold len at *
    omega
  rw [← altS_code, ← hT]
  clear hT
  generalize (((app (altS 0 M l) xl).length : Nat) : Int) = T
  have e := patches_alt T M l (xl.map (sh ((altS 0 M l).length : Nat) (marks (altS 0 M l) : Nat)))
  have e1 : app (altS 0 M l) xl = altS 0 M l ++ xl.map (sh ((altS 0 M l).length : Nat) (marks (altS 0 M l) : Nat)) := rfl
  rw [← e1] at e
  rw [e, altS_len_eq 0 T l M, altS_marks 0 T l M M rfl]
  rfl
theorem patches_marks (T : Int) : ∀ (ps : List Nat) (Z : List In), marks (patches T Z ps) = marks Z
  | [], _ => rfl
  | p :: ps, Z => by
    have := patches_marks T ps (patch T Z p)
    rw [patch_marks] at this
    exact this

def ChoiceG (n₀ wb : Nat) (fo : Bool) (G : Int) (n : Nat) : Prop := ∀ (L : List Nd), (∀ x ∈ L, Nx G n x) → L ≠ [] → L.length ≤ 1000000 → ∀ (w : World) (M : List In) (A : Option Addr) (p b off : Nat), Env5 n₀ w → KidsB n₀ w L A b off → Wm n₀ wb fo w M → M.length + (altC (L.map (code fo))).length ≤ 90000 →
  Calls Tryz.prog 87 #[.pointer (some ⟨wb, 0, none⟩), .slice A L.length p] w (WmP n₀ wb fo w (app M (altC (L.map (code fo)))))
theorem alt_take_le (f : Nd → List In) (L : List Nd) (M : List In) {k : Nat} (h : k < L.length) : (altS 0 M ((L.take k).map f)).length + (f L[k]).length + (if k + 1 < L.length then 2 else 0) ≤ M.length + (altC (L.map f)).length := by
  have e : L = L.take k ++ (L[k] :: L.drop (k + 1)) := by
    rw [← List.drop_eq_getElem_cons h, List.take_append_drop]
  have h1 := altS_len 0 ((L.take k).map f) M
  have h2 := altC_len (L.map f) (by intro e; have := congrArg List.length e; simp at this; rw [this] at h; simp at h)
  have e2 := congrArg (fun L => ((L.map f).map len).sum) e
  simp only [List.map_append, List.map_cons, List.sum_append, List.sum_cons] at e2
  have h0 : ∀ (l : List (List In)), 0 ≤ (l.map len).sum := by
    intro l
    induction l with
    | nil => simp
    | cons y l ih => simp only [List.map_cons, List.sum_cons]; have := len_nonneg y; omega
  have h3 := h0 ((L.drop (k + 1)).map f)
  have h4 : ((L.take k).map f).length = k := by simp; omega
  rw [h4] at h1
  rw [List.length_map] at h2
  unfold len at *
  split <;> omega
theorem map_take_snoc (f : Nd → List In) {L : List Nd} {k : Nat} (h : k < L.length) : (L.take (k + 1)).map f = (L.take k).map f ++ [f L[k]] := by rw [take_snoc h, List.map_append]; rfl

set_option maxRecDepth 100000 in
set_option maxHeartbeats 4000000 in
theorem choice_step_ (n : Nat) (ih : NodeC n₀ wb fo G n) : ChoiceG n₀ wb fo G n := by
  intro L hL hne hm w M A p b off hE hK hW hlen
  have HK := Lib.hid hK
  have HIH := Lib.hid ih
  have HL := Lib.hid hL
  have HE := Lib.hid hE
  have HW := Lib.hid hW
  have HLen := Lib.hid hlen
  have hl0 : 0 < L.length := List.length_pos_iff.2 hne
  obtain ⟨hlow1, hlow2⟩ := Wr.low hW
  obtain ⟨i0, hi, hz0, hz1, hz2⟩ := info_three info3
  clear hK ih hL hE hW hlen hne
  go_enter Tryz.func87, Tryz.ntmps87
  go_wp2
  go_loopw [5, 16] (fun u i wr => ∃ (k : Nat) (A5 : Option Addr) (c5 : Nat), k < L.length ∧ u = .slice A5 (altJ M.length ((L.take k).map (code fo))).length c5 ∧ (altJ M.length ((L.take k).map (code fo))).length ≤ c5 ∧ i = .int .i64 k ∧ Hid (Wm n₀ wb fo wr (altS 0 M ((L.take k).map (code fo))) ∧ FrW n₀ wb w wr ∧ RowJ wr w.heap.size u (altJ M.length ((L.take k).map (code fo))))) (fun _ i _ => L.length - (intOf i).toNat)
  case atStart => exact ⟨0, none, 0, by omega, rfl, Nat.le_refl _, rfl, Lib.hid ⟨HW.out, FrW.refl _, World.ownsRow_nil _ _ _ _⟩⟩
  case round =>
    obtain ⟨k, A5, c5, hk, rfl, hc5, rfl, HR⟩ := hrel
    have hsz := HR.out.2.1.size
    have HBl := Lib.hid (HR.out.2.1.old (by omega))
    have hlti : (k : Int) < L.length := by omega
    obtain ⟨hA, hb, a1, a2, r1, r2, hN, hC⟩ := HK.out k _ (List.getElem?_eq_getElem hk)
    subst hA
    have HX := Lib.hid (HL.out _ (List.getElem_mem hk))
    have HT := Lib.hid (map_take_snoc (code fo) hk)
    have HTl := Lib.hid (alt_take_le (code fo) L M hk)
    have HEq : Hid (k + 1 = L.length → (L.map (code fo)) = (L.take k).map (code fo) ++ [code fo L[k]]) := Lib.hid (fun e => by rw [← map_take_snoc (code fo) hk, e, List.take_length])
    generalize L[k] = x at hN hC HX HT HTl HEq
    have h7 := (hC.on (HBl.out.block b hb)).seven_
    have HN := Lib.hid ((hN.lowB HBl.out).lowB (new_blk wr #[.int .i64 x.kind, .int .i64 x.lo, .int .i64 x.hi, .int .i64 x.mode, .int .i64 x.ref, .slice a1 x.set.length r1, .slice a2 x.kids.length r2] |>.mono (by omega)))
    have HB := Lib.hid (Blk.new wr 27 #[.int .i64 x.kind, .int .i64 x.lo, .int .i64 x.hi, .int .i64 x.mode, .int .i64 x.ref, .slice a1 x.set.length r1, .slice a2 x.kids.length r2])
    have HW6 := Lib.hid (HR.out.1.alloc (.cells #[.int .i64 x.kind, .int .i64 x.lo, .int .i64 x.hi, .int .i64 x.mode, .int .i64 x.ref, .slice a1 x.set.length r1, .slice a2 x.kids.length r2] 27))
    have HF6 := Lib.hid (HR.out.2.1.alloc (.cells #[.int .i64 x.kind, .int .i64 x.lo, .int .i64 x.hi, .int .i64 x.mode, .int .i64 x.ref, .slice a1 x.set.length r1, .slice a2 x.kids.length r2] 27))
    have HJ6 := Lib.hid (World.ownsRow.alloc HR.out.2.2 (.cells #[.int .i64 x.kind, .int .i64 x.lo, .int .i64 x.hi, .int .i64 x.mode, .int .i64 x.ref, .slice a1 x.set.length r1, .slice a2 x.kids.length r2] 27))
    clear hN hC
    go_upto_region 5 with (fail)
    have h77 := HB.out.c7
    have hbx : wr.heap.size < (wr.alloc (.cells #[.int .i64 x.kind, .int .i64 x.lo, .int .i64 x.hi, .int .i64 x.mode, .int .i64 x.ref, .slice a1 x.set.length r1, .slice a2 x.kids.length r2] 27)).heap.size := by simp
    generalize wr.alloc _ = W at *
    have HE6 := Lib.hid (HE.out.low (HF6.out.old (by omega)))
    have HCl : Hid (((L.take k).map (code fo)).length = k) := Lib.hid (by simp; omega)
    generalize (L.take k).map (code fo) = C at *
    have hQl : (altS 0 M C).length + (code fo x).length + (if k + 1 < L.length then 2 else 0) ≤ 90000 := by have := HTl.out; have := HLen.out; omega
    obtain ⟨Q, hQ⟩ : ∃ Q, Q = altS 0 M C := ⟨_, rfl⟩
    rw [← hQ] at HW6 hQl
    have HQ := Lib.hid hQ
    clear hQ HTl
    obtain ⟨X, hX⟩ : ∃ X, X = code fo x := ⟨_, rfl⟩
    have HNd : Hid (∀ W M A1 A2 p1 p2, Env5 n₀ W → NodeB n₀ W x A1 A2 p1 p2 → Wm n₀ wb fo W M → M.length + X.length ≤ 90000 → Calls Tryz.prog 68 #[.pointer (some ⟨wb, 0, none⟩), .agg #[.int .i64 x.kind, .int .i64 x.lo, .int .i64 x.hi, .int .i64 x.mode, .int .i64 x.ref, .slice A1 x.set.length p1, .slice A2 x.kids.length p2]] W (WmP n₀ wb fo W (app M X))) := Lib.hid (by rw [hX]; exact HIH.out x HX.out)
    rw [← hX] at hQl HT HEq
    clear hX
    by_cases hlast : k + 1 < L.length
    · have hne' : ((k : Int) == (L.length : Int) - 1) = false := by simp; omega
      rw [if_pos hlast] at hQl
      have HP := Lib.hid (put_i 3 0 0 0 0 HW6.out (by omega))
      go_wp2_with fail
      refine HP.out.mono ?_
      rintro e w2 ⟨rfl, hW2, hF2⟩
      have hs2 := hF2.size
      have HB2 := Lib.hid (hF2.blk HB.out (by decide) (by omega))
      have HJ2 := Lib.hid (RowJ.frw HJ6.out HW6.out hF2)
      have HF2 := Lib.hid (HF6.out.trans hF2)
      have HN2 := Lib.hid (HN.out.lowB (hF2.old (by omega)))
      have HE2 := Lib.hid (HE.out.low (HF2.out.old (by omega)))
      have HW2 : Hid (Wm n₀ wb fo w2 (Q ++ [In.i 3 0 0 0 0])) := Lib.hid (by unfold Wm; rw [marks_snoc _ _ (by decide)]; exact hW2)
      clear hW2 hF2 HP h77
      have h77 := HB2.out.c7
      go_wp2_with fail
      refine (HNd.out w2 _ a1 a2 r1 r2 HE2.out HN2.out HW2.out (by rw [List.length_append]; simp; omega)).mono ?_
      rintro e w3 ⟨rfl, hW3, hF3⟩
      have hs3 := hF3.size
      have HJ3 := Lib.hid (RowJ.frw HJ2.out HW2.out hF3)
      have HF3 := Lib.hid (HF2.out.trans hF3)
      obtain ⟨Q2, hQ2⟩ : ∃ Q2, Q2 = app (Q ++ [In.i 3 0 0 0 0]) X := ⟨_, rfl⟩
      rw [← hQ2] at hW3
      have hQ2l : Q2.length = Q.length + 1 + X.length := by rw [hQ2, app_len, List.length_append]; rfl
      have HQ2 := Lib.hid hQ2
      have HW3 := Lib.hid hW3
      clear hW3 hF3 hQ2 h77
      have HQ2l := Lib.hid hQ2l
      have hQ2b : Q2.length + 1 ≤ 90000 := by omega
      clear hQ2l
      have HP := Lib.hid (put_i 2 0 0 0 0 HW3.out (by omega))
      go_wp2_with fail
      refine HP.out.mono ?_
      rintro e w4 ⟨rfl, hW4, hF4⟩
      have HJ4 := Lib.hid (RowJ.frw HJ3.out HW3.out hF4)
      have HF4 := Lib.hid (HF3.out.trans hF4)
      have HW4 := Lib.hid hW4
      have hs4 := HF4.out.size
      clear hW4 hF4
      have HJa := Lib.hid (World.ownsRow.alloc HJ4.out (.cells #[.int .i64 ((Q2.length : Nat) : Int)] 3))
      have HWa := Lib.hid (HW4.out.alloc (.cells #[.int .i64 ((Q2.length : Nat) : Int)] 3))
      have HFa := Lib.hid (HF4.out.alloc (.cells #[.int .i64 ((Q2.length : Nat) : Int)] 3))
      have hjl : (altJ M.length C).length ≤ 1000000 := by rw [altJ_len, HCl.out]; omega
      go_wp2_with (at_builtin; refine wpList_append_own _ rfl _ _ 48 rfl w.heap.size 3 i0 (.int .i64 0) 1 8 Tryz.underlying48 hi hz0 hz1 hz2 rfl (by decide) _ _ _ rfl HJa.out ⟨w4.heap.size, 0, none⟩ 1 1 [.int .i64 ((Q2.length : Nat) : Int)] rfl rfl ?c1 ?c2 ?c3 ?c4 ?c5 ?_)
      case c1 =>
        intro j u hj
        match j, hj with
        | 0, hj => simp at hj; subst hj; simp [Addr.add]
      case c2 => intro u hu; simp at hu; subst hu; rfl
      case c3 => unfold maxLen; omega
      case c4 => omega
      case c5 => simp; omega
      intro v' w5 hown' hgrow
      have HW5 := Lib.hid (HWa.out.grownJ HJa.out hgrow)
      have HF5 := Lib.hid (HFa.out.grownJ HJa.out (Nat.le_refl _) hgrow)
      have HJ5 : Hid (RowJ w5 w.heap.size v' (altJ M.length C ++ [Q2.length])) := Lib.hid (by
        unfold RowJ
        rw [jv_snoc, List.length_append]
        exact hown')
      obtain ⟨g9, c9, rfl, _, _⟩ := hown'.form (by omega)
      clear hown' hgrow
      have HFk := Lib.hid (fork_any (lz := false) (s := Q.length) (x := In.i 3 0 0 0 0) HW5.out (by
        rw [HQ2.out]
        unfold app
        simp))
      intro _
      go_wp2_with fail
      refine HFk.out.mono ?_
      rintro e w6 ⟨rfl, hW6, hF6⟩
      have HJ6' := Lib.hid (RowJ.frw HJ5.out HW5.out hF6)
      have HF6' := Lib.hid (HF5.out.trans hF6)
      have HW6' := Lib.hid hW6
      clear hW6 hF6
      go_wp2
      go_roundw
      case rel =>
        have e0 : altJ M.length ((L.take (k + 1)).map (code fo)) = altJ M.length C ++ [Q2.length] := by rw [HT.out, altJ_snoc _ _ _ 0, ← HQ.out, HQ2l.out]
        refine ⟨k + 1, some ⟨g9, 0, none⟩, c9, hlast, by rw [e0, List.length_append]; rfl, ?_, by go_num, Lib.hid ?_⟩
        · rw [e0]
          obtain ⟨A', c', e', h'⟩ := RowJ.form_ HJ5.out
          injection e' with _ _ e''
          omega
        rw [e0, HT.out, altS_snoc, ← HQ.out]
        have e1 : (Q2 ++ [In.i 2 0 0 0 0]).set Q.length (forkI false Q.length (Q2 ++ [In.i 2 0 0 0 0]).length (In.i 3 0 0 0 0)) = altStep 0 Q X := by rw [HQ2.out]; exact fork_alt Q X
        have e2 : marks Q2 = marks (altStep 0 Q X) := by rw [HQ2.out, app_marks, marks_snoc _ _ (by decide), altStep_marks]
        refine ⟨?_, HF6'.out, ?_⟩
        · have := HW6'.out
          rw [e1, e2] at this
          exact this
        · exact HJ6'.out
      case measure => simp [intOf]; omega
    · have hkl : k + 1 = L.length := by omega
      have hne' : ((k : Int) == (L.length : Int) - 1) = true := by simp; omega
      have HD := Lib.hid (HEq.out hkl)
      clear hkl
      go_wp2_with fail
      refine (HNd.out W Q a1 a2 r1 r2 HE6.out HN.out HW6.out (by omega)).mono ?_
      rintro e w3 ⟨rfl, hW3, hF3⟩
      have HJ3 := Lib.hid (RowJ.frw HJ6.out HW6.out hF3)
      have HF3 := Lib.hid (HF6.out.trans hF3)
      have hs3 := HF3.out.size
      have hZb : (app Q X).length ≤ 90000 := by rw [app_len]; omega
      have HZ := Lib.hid (show patches ((app Q X).length : Nat) (app Q X) (altJ M.length C) = app M (altC (C ++ [X])) by rw [HQ.out]; exact alt_done M X C)
      have HZl : Hid (∀ p ∈ altJ M.length C, p < (app Q X).length) := Lib.hid (fun p hp => by
        have := altJ_lt 0 C M p hp
        rw [app_len, HQ.out]
        omega)
      rw [← HD.out] at HZ
      have hjs : (altJ M.length C).length ≤ 1000000 := by rw [altJ_len, HCl.out]; omega
      generalize app Q X = Z0 at *
      generalize altJ M.length C = js at *
      have HW3 := Lib.hid hW3
      clear hW3 hF3 h77
      go_wp2
      go_loopw [45] (fun i wr => ∃ (j : Nat), j ≤ js.length ∧ i = .int .i64 j ∧ Hid (Wm n₀ wb fo wr (patches (Z0.length : Nat) Z0 (js.take j)) ∧ FrW n₀ wb w wr ∧ RowJ wr w.heap.size (.slice A5 js.length c5) js)) (fun i _ => js.length - (intOf i).toNat)
      case atStart => exact ⟨0, Nat.zero_le _, rfl, Lib.hid ⟨HW3.out, HF3.out, HJ3.out⟩⟩
      case round =>
        obtain ⟨j, hj, rfl, HR2⟩ := hrel
        by_cases hjl : j < js.length
        · have hji : (j : Int) < js.length := by omega
          obtain ⟨g7, c7, hv7, hc7, k7⟩ := RowJ.at_ HR2.out.2.2 (List.getElem?_eq_getElem hjl)
          have HPs := Lib.hid (HZl.out _ (List.getElem_mem hjl))
          have HTk : Hid (js.take (j + 1) = js.take j ++ [js[j]]) := Lib.hid (by rw [List.take_succ_eq_append_getElem hjl])
          generalize js[j] = pp at k7 HPs HTk
          obtain ⟨rfl, _, rfl⟩ := Value.slice.inj hv7
          have hW9 := HR2.out.1
          obtain ⟨cv, L9, hWc, hL9⟩ := hW9
          have hl9 : L9.length = Z0.length := by have := congrArg List.length hL9; rw [List.length_map, patches_len] at this; exact this
          have hpl : pp < L9.length := by have := HPs.out; omega
          have hx' := List.getElem?_eq_getElem hpl
          generalize L9[pp] = y9 at hx'
          obtain ⟨y, v9⟩ := y9
          obtain ⟨g, cp, rfl, hcp, hgs, hcell, hfz⟩ := hWc.at_ hx'
          have k1 := hcell 1 _ rfl
          have f1 := hfz (pp * 6 + 1)
          obtain ⟨c0, _, _⟩ := hWc.c3
          have hpi : (pp : Int) < (L9.length : Int) := by omega
          have HTu := Lib.hid (hWc.turn (y := { y with a := (Z0.length : Nat) }) hx' (j := 1) (u := .int .i64 (Z0.length : Nat)) (by omega) rfl rfl)
          have HHr : Hid (Calls Tryz.prog 84 #[.pointer (some ⟨wb, 0, none⟩)] wr.drew fun e w' => e = .returned (.int .i64 (Z0.length : Nat)) ∧ wr.drew = w') := Lib.hid (by
            have := here_any HR2.out.1.drew
            rw [patches_len] at this
            exact this)
          have HJ1 := Lib.hid hjl
          have HX9 : Hid ((patches (Z0.length : Nat) Z0 (js.take j))[pp]? = some y) := Lib.hid (by rw [← hL9, List.getElem?_map, hx']; rfl)
          have HL9 := Lib.hid hL9
          clear hWc hx' hcell hfz hL9 hl9
          go_wp2_with fail
          go_region_with (go_at_call 84; refine HHr.out.mono ?_; rintro e w1 ⟨rfl, rfl⟩)
          all_goals
            generalize wr.setCell _ _ = w9 at HTu ⊢
            have HN9 : Hid (Wm n₀ wb fo w9.drew (patches (Z0.length : Nat) Z0 (js.take (j + 1))) ∧ FrW n₀ wb w w9.drew ∧ RowJ w9.drew w.heap.size (.slice (some ⟨g7, 0, none⟩) js.length c5) js) := Lib.hid (by
              have hm9 : marks (patches (Z0.length : Nat) Z0 (js.take (j + 1))) = marks (patches (Z0.length : Nat) Z0 (js.take j)) := by rw [HTk.out, patches_snoc, patch_marks]
              refine ⟨by unfold Wm; rw [hm9]; exact ⟨_, _, HTu.out.1.drew, by rw [map_set_fst, HL9.out, HTk.out, patches_snoc, patch_set _ HX9.out]⟩, (HR2.out.2.1.trans HTu.out.2).drew, RowJ.frw HR2.out.2.2 HR2.out.1 HTu.out.2.drew⟩)
            clear HTu
            go_wp2
            go_roundw
            case rel => exact ⟨j + 1, HJ1.out, by go_num, HN9⟩
            case measure => have := HJ1.out; simp [intOf]; omega
        · obtain rfl : j = js.length := by omega
          go_wp2
          have HR3 := HR2.out
          rw [List.take_length, HZ.out] at HR3
          exact ⟨rfl, .tuple #[], by simp [results, Tryz.results87, go_sem], rfl, HR3.1, HR3.2.1⟩

end Go.Proofs.YtdbddbelhgkelaaGreatDoor

/- The writer: a loop. -/
namespace Go.Proofs.YtdbddbelhgkelaaGreatDoor
open Go.RowKit
open Go.Proofs.YtdbddbelhgkelaaGreatDoor.Cl (Rg SetV SetAt rgCells info_three info3)
variable {w w' w0 : World} {n₀ wb lp lp' base : Nat} {fo : Bool} {M : List In} {G : Int}

theorem Wr.loops (h : Wr n₀ wb fo w M lp) {x : Int} {k : Nat} (hx : x = (k : Nat)) (hk : k ≤ 100000) : Wr n₀ wb fo (w.setCell ⟨wb, 1, none⟩ (.int .i64 x)) M k ∧ FrW n₀ wb w (w.setCell ⟨wb, 1, none⟩ (.int .i64 x)) := by
  subst hx
  have hlow := h.low
  obtain ⟨cv, L, h, hM⟩ := h
  refine ⟨⟨cv, L, ⟨?_, ?_, fun x hx => ?_, h.low, h.bnd.1, hk⟩, hM⟩, (FrW.refl w).set_ hlow.1 (.inl rfl) _⟩
  · have := h.blk.set_ 1 (.int .i64 ((k : Nat) : Int))
    simpa using this
  · refine own_keep h.own fun i hi => Below.heap_setCell _ _ _ _ ?_
    rintro rfl
    exact own_ne h.own h.blk (by decide) hi.symm
  · exact own_kept (h.sets x hx) fun i _ _ ⟨cs, z, hh⟩ => Below.heap_setCell _ _ _ _ (show i ≠ wb from ne_of_types hh h.blk (by decide))
theorem loop_code (lz : Bool) (M X : List In) : (app (M ++ [In.i 3 0 0 0 0] ++ [In.i 10 (marks M : Nat) 0 0 0]) X ++ [In.i 11 (marks M : Nat) 0 0 0] ++ [In.i 2 (M.length : Nat) 0 0 0]).set M.length (forkI lz M.length (app (M ++ [In.i 3 0 0 0 0] ++ [In.i 10 (marks M : Nat) 0 0 0]) X ++ [In.i 11 (marks M : Nat) 0 0 0] ++ [In.i 2 (M.length : Nat) 0 0 0]).length (In.i 3 0 0 0 0)) = app M (loopC lz X) := by
  have hm : marks (M ++ [In.i 3 0 0 0 0] ++ [In.i 10 (marks M : Nat) 0 0 0]) = marks M + 1 := by
    rw [marks_append, marks_snoc _ _ (by decide)]; rfl
  have e1 : app (M ++ [In.i 3 0 0 0 0] ++ [In.i 10 (marks M : Nat) 0 0 0]) X ++ [In.i 11 (marks M : Nat) 0 0 0] ++ [In.i 2 (M.length : Nat) 0 0 0] = M ++ In.i 3 0 0 0 0 :: (In.i 10 (marks M : Nat) 0 0 0 :: (X.map (sh ((M.length + 2 : Nat) : Int) ((marks M + 1 : Nat) : Int)) ++ [In.i 11 (marks M : Nat) 0 0 0, In.i 2 (M.length : Nat) 0 0 0])) := by
    unfold app
    rw [hm]
    simp
  have hl : (app (M ++ [In.i 3 0 0 0 0] ++ [In.i 10 (marks M : Nat) 0 0 0]) X ++ [In.i 11 (marks M : Nat) 0 0 0] ++ [In.i 2 (M.length : Nat) 0 0 0]).length = M.length + X.length + 4 := by
    rw [List.length_append, List.length_append, app_len]; simp; omega
  rw [hl, e1, List.set_append_right _ _ (Nat.le_refl _), Nat.sub_self]
  have e2 : app M (loopC lz X) = M ++ (loopC lz X).map (sh (M.length : Nat) (marks M : Nat)) := rfl
  rw [e2]
  congr 1
  have ms := marks_split lz ((X.length : Int) + 4)
  have e3 : loopC lz X = splitI lz ((X.length : Int) + 4) :: (In.i 10 0 0 0 0 :: (X.map (sh 2 1) ++ [In.i 11 0 0 0 0, In.i 2 0 0 0 0])) := by
    unfold loopC
    unfold app
    rw [ms]
    have h10 : marks [In.i 10 0 0 0 0] = 1 := rfl
    have h11 : marks [In.i 11 (-(marks X : Int) - 1) 0 0 0] = 0 := rfl
    rw [h10, h11]
    simp only [List.map_append, List.map_map, List.map_cons, List.map_nil, List.cons_append, List.nil_append, List.length_cons, List.length_nil]
    congr 1
    congr 1
    · congr 1
      · apply List.map_congr_left
        intro i _
        simp only [Function.comp, sh_sh]
        congr 1
      · simp [sh, In.i]
        refine ⟨?_, ?_⟩ <;> omega
  rw [e3]
  simp only [List.set_cons_zero, List.map_cons, List.map_append, List.map_map, List.map_nil]
  congr 1
  · cases lz
    · simp [forkI, splitI, sh, In.i]
      refine ⟨?_, ?_⟩ <;> omega
    · simp [forkI, splitI, sh, In.i]
      refine ⟨?_, ?_⟩ <;> omega
  · congr 1
    · simp [sh, In.i]
    · congr 1
      · apply List.map_congr_left
        intro i _
        simp only [Function.comp, sh_sh]
        congr 1 <;> omega
      · simp [sh, In.i]

/-- A call of the writer at a node, whose kids are right. -/
def AtG (n₀ wb : Nat) (fo : Bool) (G : Int) (n f : Nat) (ok : Nd → Prop) (X : Nd → List In) : Prop := ∀ (nd : Nd), ok nd → (∀ x ∈ nd.kids, Nx G n x) → ∀ (w : World) (M : List In) (A1 A2 : Option Addr) (p1 p2 : Nat), Env5 n₀ w → NodeB n₀ w nd A1 A2 p1 p2 → Wm n₀ wb fo w M → M.length + (X nd).length ≤ 90000 →
  Calls Tryz.prog f #[.pointer (some ⟨wb, 0, none⟩), .agg #[.int .i64 nd.kind, .int .i64 nd.lo, .int .i64 nd.hi, .int .i64 nd.mode, .int .i64 nd.ref, .slice A1 nd.set.length p1, .slice A2 nd.kids.length p2]] w (WmP n₀ wb fo w (app M (X nd)))
def kidsC (fo : Bool) (nd : Nd) : List In := rowC (nd.kids.map (code fo))

set_option maxRecDepth 100000 in
set_option maxHeartbeats 2000000 in
theorem loop_step (n : Nat) (ih : RowG n₀ wb fo G n) : AtG n₀ wb fo G n 129 (fun _ => True) (fun nd => loopC (nd.mode == 1) (kidsC fo nd)) := by
  intro nd _ hkids w M A1 A2 p1 p2 hE hN hW hlen
  dsimp only at hlen ⊢
  obtain ⟨b, off, hkv, hm⟩ := NodeB.kids hN
  obtain ⟨hlow1, hlow2⟩ := Wr.low hW
  have hX : (loopC (nd.mode == 1) (kidsC fo nd)).length = (kidsC fo nd).length + 4 := by have := loopC_len (nd.mode == 1) (kidsC fo nd); unfold len at this; omega
  have HRow := Lib.hid (fun W M' (h1 : Env5 n₀ W) (h2 : KidsB n₀ W nd.kids A2 b off) (h3 : Wm n₀ wb fo W M') h4 => ih nd.kids hkids hm W M' A2 p2 b off h1 h2 h3 h4)
  have HB0 := Lib.hid (Blk.new w 27 #[.int .i64 nd.kind, .int .i64 nd.lo, .int .i64 nd.hi, .int .i64 nd.mode, .int .i64 nd.ref, .slice A1 nd.set.length p1, .slice A2 nd.kids.length p2])
  have hb0 := new_blk w #[.int .i64 nd.kind, .int .i64 nd.lo, .int .i64 nd.hi, .int .i64 nd.mode, .int .i64 nd.ref, .slice A1 nd.set.length p1, .slice A2 nd.kids.length p2]
  have HE := Lib.hid hE
  have HK := Lib.hid hkv
  have HW0 := Lib.hid (hW.on hb0)
  have HF0 := Lib.hid (FrW.of_below (n₀ := n₀) (wb := wb) hb0)
  have hmk := marks_le M
  unfold kidsC at *
  clear ih hkids hE hN hW hkv hm
  go_enter Tryz.func129, Tryz.ntmps129
  go_upto_region 1 with (fail)
  generalize w.alloc _ = W at *
  have hs0 := hb0.size
  obtain ⟨X, hXe⟩ : ∃ X, X = rowC (nd.kids.map (code fo)) := ⟨_, rfl⟩
  rw [← hXe] at hX hlen HRow
  have HXe := Lib.hid hXe
  clear hXe
  have HP := Lib.hid (put_i 3 0 0 0 0 HW0.out (by omega))
  go_wp2_with fail
  refine HP.out.mono ?_
  rintro e w1 ⟨rfl, hW1, hF1⟩
  have hs1 := hF1.size
  obtain ⟨cv1, hblk1⟩ := hW1.blk
  have c1 := hblk1.cell 1
  have f1 := hblk1.frozen 1
  simp at c1
  have HB1 := Lib.hid (hF1.blk HB0.out (by decide) (by omega))
  have HF1 := Lib.hid (HF0.out.trans hF1)
  have HWl := Lib.hid (hW1.loops (x := (marks M : Nat) + 1) (k := marks M + 1) (by omega) (by omega))
  clear hW1 hF1 HP hblk1
  go_upto_region 4 with (fail)
  have HF2 := Lib.hid (HF1.out.trans HWl.out.2)
  have HB2 := Lib.hid (HWl.out.2.blk HB1.out (by decide) (by omega))
  have HW2 := Lib.hid HWl.out.1
  have hs2 := HF2.out.size
  clear HWl c1 f1
  generalize w1.setCell _ _ = w2 at *
  have HP := Lib.hid (put_i 10 (marks M : Nat) 0 0 0 HW2.out (by rw [List.length_append]; simp; omega))
  go_wp2_with fail
  refine HP.out.mono ?_
  rintro e w3 ⟨rfl, hW3, hF3⟩
  have hs3 := hF3.size
  have HB3 := Lib.hid (hF3.blk HB2.out (by decide) (by omega))
  have HF3 := Lib.hid (HF2.out.trans hF3)
  have hm3 : marks (M ++ [In.i 3 0 0 0 0] ++ [In.i 10 (marks M : Nat) 0 0 0]) = marks M + 1 := by rw [marks_append, marks_snoc _ _ (by decide)]; rfl
  have HW3 : Hid (Wm n₀ wb fo w3 (M ++ [In.i 3 0 0 0 0] ++ [In.i 10 (marks M : Nat) 0 0 0])) := Lib.hid (by unfold Wm; rw [hm3]; exact hW3)
  clear hW3 hF3 HP
  have h7 := HB3.out.c7
  go_wp2_with fail
  refine (HRow.out w3 _ (HE.out.low (HF3.out.old (by omega))) (HK.out.low (HF3.out.old (by omega))) HW3.out (by rw [List.length_append, List.length_append]; simp; omega)).mono ?_
  rintro e w4 ⟨rfl, hW4, hF4⟩
  have hs4 := hF4.size
  have HB4 := Lib.hid (hF4.blk HB3.out (by decide) (by omega))
  have HF4 := Lib.hid (HF3.out.trans hF4)
  obtain ⟨Q, hQ⟩ : ∃ Q, Q = app (M ++ [In.i 3 0 0 0 0] ++ [In.i 10 (marks M : Nat) 0 0 0]) X := ⟨_, rfl⟩
  have hQl : Q.length = M.length + 2 + X.length := by rw [hQ, app_len, List.length_append, List.length_append]; simp
  have hQb : Q.length + 2 ≤ 90000 := by omega
  have hQm : marks Q = marks M + 1 + marks X := by rw [hQ, app_marks, hm3]
  have hLc := loop_code (nd.mode == 1) M X
  rw [← hQ] at hW4 hLc
  have HLc := Lib.hid hLc
  have HW4 := Lib.hid hW4
  have HQ := Lib.hid hQ
  have HQm := Lib.hid hQm
  clear hW4 hF4 h7 hQ hLc hQl hQm hm3
  have HP := Lib.hid (put_i 11 (marks M : Nat) 0 0 0 HW4.out (by omega))
  go_wp2_with fail
  refine HP.out.mono ?_
  rintro e w5 ⟨rfl, hW5, hF5⟩
  have hs5 := hF5.size
  have HB5 := Lib.hid (hF5.blk HB4.out (by decide) (by omega))
  have HF5 := Lib.hid (HF4.out.trans hF5)
  have HW5 := Lib.hid hW5
  clear hW5 hF5 HP
  have HP := Lib.hid (put_i 2 (M.length : Nat) 0 0 0 HW5.out (by rw [List.length_append]; simp; omega))
  go_wp2_with fail
  refine HP.out.mono ?_
  rintro e w6 ⟨rfl, hW6, hF6⟩
  have hs6 := hF6.size
  have HB6 := Lib.hid (hF6.blk HB5.out (by decide) (by omega))
  have HF6 := Lib.hid (HF5.out.trans hF6)
  have HFk := Lib.hid (fork_any (lz := nd.mode == 1) (s := M.length) (x := In.i 3 0 0 0 0) hW6 (by rw [HQ.out]; unfold app; simp))
  rw [HLc.out] at HFk
  clear hW6 hF6 HP
  have h7 := HB6.out.c7
  go_wp2_with fail
  refine HFk.out.mono ?_
  rintro e w7 ⟨rfl, hW7, hF7⟩
  have HF7 := Lib.hid (HF6.out.trans hF7)
  have HW7 : Hid (Wm n₀ wb fo w7 (app M (loopC (nd.mode == 1) X))) := Lib.hid (by
    have e : marks (app M (loopC (nd.mode == 1) X)) = marks Q := by
      rw [HQm.out, app_marks]
      unfold loopC
      rw [app_marks, app_marks, app_marks, app_marks, marks_split]
      have h10 : marks [In.i 10 0 0 0 0] = 1 := rfl
      have h11 : marks [In.i 11 (-(marks X : Int) - 1) 0 0 0] = 0 := rfl
      have h2 : marks [In.i 2 (-(X.length : Int) - 3) 0 0 0] = 0 := rfl
      omega
    unfold Wm
    rw [e]
    exact hW7)
  clear hW7 hF7
  go_wp2
  exact ⟨rfl, .tuple #[], by simp [results, Tryz.results129, go_sem], rfl, (by have := HW7.out; rw [HXe.out] at this; exact this), HF7.out⟩

end Go.Proofs.YtdbddbelhgkelaaGreatDoor

/- The writer: options. -/
namespace Go.Proofs.YtdbddbelhgkelaaGreatDoor
open Go.RowKit
open Go.Proofs.YtdbddbelhgkelaaGreatDoor.Cl (Rg SetV SetAt rgCells info_three info3)
variable {w w' w0 : World} {n₀ wb lp lp' base : Nat} {fo : Bool} {M : List In} {G : Int}

def optJ (m x : Nat) : Nat → List Nat
  | 0 => []
  | n + 1 => optJ m x n ++ [m + n * (x + 1)]
theorem optJ_len (m x : Nat) : ∀ n, (optJ m x n).length = n
  | 0 => rfl
  | n + 1 => by rw [optJ, List.length_append, optJ_len m x n]; rfl
theorem optJ_get (m x : Nat) : ∀ (n j : Nat), j < n → (optJ m x n)[j]? = some (m + j * (x + 1))
  | 0, _, h => by omega
  | n + 1, j, h => by
    rw [optJ]
    by_cases e : j = n
    · subst e
      rw [List.getElem?_append_right (by rw [optJ_len]; omega), optJ_len, Nat.sub_self]
      rfl
    · rw [List.getElem?_append_left (by rw [optJ_len]; omega)]
      exact optJ_get m x n j (by omega)
theorem forkI_opt (lz : Bool) (s n : Nat) : forkI lz s n (In.i 3 0 0 0 0) = optI lz s n := by cases lz <;> rfl
theorem opt_fork (lz : Bool) (T n m : Nat) (Q x : List In) (h : n < m) (hT : T = Q.length + m * (x.length + 1)) :
    (optM lz T n m Q x)[Q.length + n * (x.length + 1)]? = some (In.i 3 0 0 0 0) ∧ (optM lz T n m Q x).set (Q.length + n * (x.length + 1)) (forkI lz (Q.length + n * (x.length + 1)) (optM lz T n m Q x).length (In.i 3 0 0 0 0)) = optM lz T (n + 1) m Q x ∧ marks (optM lz T (n + 1) m Q x) = marks (optM lz T n m Q x) := by
  obtain ⟨R, e1, e2⟩ := optM_step lz T n m Q x h
  have hl : (optM lz T n m Q x).length = T := by
    unfold optM
    rw [optS_len, optT_len, hT]
    have : m * (x.length + 1) = n * (x.length + 1) + (m - n) * (x.length + 1) := by rw [← Nat.add_mul]; congr 1; omega
    omega
  rw [forkI_opt, hl, e1, e2]
  have hs := optT_len lz T Q x n
  rw [← hs]
  refine ⟨by simp, by simp, ?_⟩
  rw [marks_append, marks_append, marks_cons, marks_cons, if_neg (by rw [optI_op]; decide), if_neg (by decide)]

set_option maxRecDepth 100000 in
set_option maxHeartbeats 4000000 in
theorem options_step (n : Nat) (ih : RowG n₀ wb fo G n) : AtG n₀ wb fo G n 130 (fun nd => 0 ≤ nd.lo ∧ nd.lo ≤ nd.hi ∧ nd.hi ≤ 64) (fun nd => optC (nd.mode == 1) (nd.hi - nd.lo).toNat (kidsC fo nd)) := by
  intro nd hok hkids w M A1 A2 p1 p2 hE hN hW hlen
  dsimp only at hlen hok
  obtain ⟨ho1, ho2, ho3⟩ := hok
  obtain ⟨b, off, hkv, hm⟩ := NodeB.kids hN
  obtain ⟨hlow1, hlow2⟩ := Wr.low hW
  obtain ⟨cnt, hcnt⟩ : ∃ cnt, cnt = (nd.hi - nd.lo).toNat := ⟨_, rfl⟩
  have hci : nd.hi - nd.lo = (cnt : Int) := by omega
  have hc64 : cnt ≤ 64 := by omega
  have HRow := Lib.hid (fun W M' (h1 : Env5 n₀ W) (h2 : KidsB n₀ W nd.kids A2 b off) (h3 : Wm n₀ wb fo W M') h4 => ih nd.kids hkids hm W M' A2 p2 b off h1 h2 h3 h4)
  have HB0 := Lib.hid (Blk.new w 27 #[.int .i64 nd.kind, .int .i64 nd.lo, .int .i64 nd.hi, .int .i64 nd.mode, .int .i64 nd.ref, .slice A1 nd.set.length p1, .slice A2 nd.kids.length p2])
  have hb0 := new_blk w #[.int .i64 nd.kind, .int .i64 nd.lo, .int .i64 nd.hi, .int .i64 nd.mode, .int .i64 nd.ref, .slice A1 nd.set.length p1, .slice A2 nd.kids.length p2]
  have HE := Lib.hid hE
  have HK := Lib.hid hkv
  have HW0 := Lib.hid (hW.on hb0)
  have HF0 := Lib.hid (FrW.of_below (n₀ := n₀) (wb := wb) hb0)
  obtain ⟨i0, hi, hz0, hz1, hz2⟩ := info_three info3
  rw [← hcnt] at hlen
  have HCnt := Lib.hid hcnt
  have HCi := Lib.hid hci
  unfold kidsC at hlen
  clear ih hkids hE hN hW hkv hm hcnt
  go_enter Tryz.func130, Tryz.ntmps130
  go_upto_region 1 with (fail)
  have hs0 := hb0.size
  generalize w.alloc _ = W at *
  obtain ⟨X, hXe⟩ : ∃ X, X = rowC (nd.kids.map (code fo)) := ⟨_, rfl⟩
  rw [← hXe] at hlen HRow
  have HXe := Lib.hid hXe
  clear hXe
  have hol := optC_len (nd.mode == 1) cnt X
  have hlen' : M.length + cnt * (X.length + 1) ≤ 90000 := by
    have e : (optC (nd.mode == 1) cnt X).length = cnt * (X.length + 1) := by
      unfold len at hol
      have : (((cnt * (X.length + 1) : Nat)) : Int) = (cnt : Int) * ((X.length : Int) + 1) := by simp
      omega
    omega
  clear hol hlen
  have h7 := HB0.out.c7
  go_wp2
  clear h7
  obtain ⟨bx, hbx⟩ : ∃ bx, bx = w.heap.size := ⟨_, rfl⟩
  rw [← hbx] at HB0 ⊢
  have hbx1 : wb < bx := by omega
  have hbx2 : w.heap.size ≤ bx := by omega
  have HBx := Lib.hid hbx
  clear hbx
  go_loopw [4, 12] (fun u i wr => ∃ (k : Nat) (A4 : Option Addr) (c4 : Nat), k ≤ cnt ∧ u = .slice A4 (optJ M.length X.length k).length c4 ∧ (optJ M.length X.length k).length ≤ c4 ∧ i = .int .i64 k ∧ Hid (Wm n₀ wb fo wr (optS k M X) ∧ FrW n₀ wb w wr ∧ RowJ wr w.heap.size u (optJ M.length X.length k) ∧ Blk wr bx 27 #[.int .i64 nd.kind, .int .i64 nd.lo, .int .i64 nd.hi, .int .i64 nd.mode, .int .i64 nd.ref, .slice A1 nd.set.length p1, .slice A2 nd.kids.length p2])) (fun _ i _ => cnt - (intOf i).toNat)
  case atStart => exact ⟨0, none, 0, Nat.zero_le _, rfl, Nat.le_refl _, rfl, Lib.hid ⟨HW0.out, HF0.out, World.ownsRow_nil _ _ _ _, HB0.out⟩⟩
  case round =>
    obtain ⟨k, A4, c4, hk, rfl, hc4, rfl, HR⟩ := hrel
    have hsz := HR.out.2.1.size
    by_cases hlt : k < cnt
    · have hlti : (k : Int) < (cnt : Int) := by omega
      have HLt := Lib.hid hlt
      have hSl : (optS k M X).length = M.length + k * (X.length + 1) := optS_len M X k
      have hSb : (optS k M X).length + X.length + 1 ≤ 90000 := by
        have : (k + 1) * (X.length + 1) ≤ cnt * (X.length + 1) := Nat.mul_le_mul_right _ hlt
        rw [Nat.add_mul] at this
        omega
      have HSl := Lib.hid hSl
      have HSn : Hid (app (optS k M X ++ [In.i 3 0 0 0 0]) X = optS (k + 1) M X) := Lib.hid rfl
      have hJl : (optJ M.length X.length k).length ≤ 100 := by rw [optJ_len]; omega
      clear hSl
      generalize optS k M X = Q at *
      have HP := Lib.hid (put_i 3 0 0 0 0 HR.out.1 (by omega))
      go_wp2_with fail
      refine HP.out.mono ?_
      rintro e w2 ⟨rfl, hW2, hF2⟩
      have hs2 := hF2.size
      have HB2 := Lib.hid (hF2.blk HR.out.2.2.2 (by decide) (by omega))
      have HJ2 := Lib.hid (RowJ.frw HR.out.2.2.1 HR.out.1 hF2)
      have HF2 := Lib.hid (HR.out.2.1.trans hF2)
      have HW2 : Hid (Wm n₀ wb fo w2 (Q ++ [In.i 3 0 0 0 0])) := Lib.hid (by unfold Wm; rw [marks_snoc _ _ (by decide)]; exact hW2)
      clear hW2 hF2 HP
      have HJa := Lib.hid (World.ownsRow.alloc HJ2.out (.cells #[.int .i64 ((Q.length : Nat) : Int)] 3))
      have HWa := Lib.hid (HW2.out.alloc (.cells #[.int .i64 ((Q.length : Nat) : Int)] 3))
      have HFa := Lib.hid (HF2.out.alloc (.cells #[.int .i64 ((Q.length : Nat) : Int)] 3))
      have HBa := Lib.hid (HB2.out.alloc (.cells #[.int .i64 ((Q.length : Nat) : Int)] 3))
      go_wp2_with (at_builtin; refine wpList_append_own _ rfl _ _ 48 rfl w.heap.size 3 i0 (.int .i64 0) 1 8 Tryz.underlying48 hi hz0 hz1 hz2 rfl (by decide) _ _ _ rfl HJa.out ⟨w2.heap.size, 0, none⟩ 1 1 [.int .i64 ((Q.length : Nat) : Int)] rfl rfl ?c1 ?c2 ?c3 ?c4 ?c5 ?_)
      case c1 =>
        intro j u hj
        match j, hj with
        | 0, hj => simp at hj; subst hj; simp [Addr.add]
      case c2 => intro u hu; simp at hu; subst hu; rfl
      case c3 => unfold maxLen; omega
      case c4 => omega
      case c5 => simp; omega
      intro v' w5 hown' hgrow
      have hs5 := hgrow.size
      have HW5 := Lib.hid (HWa.out.grownJ HJa.out hgrow)
      have HF5 := Lib.hid (HFa.out.grownJ HJa.out (Nat.le_refl _) hgrow)
      have HB5 := Lib.hid (HBa.out.grown hgrow (fun e => own_ne HJa.out HBa.out (by decide) e.symm))
      have HJ5 : Hid (RowJ w5 w.heap.size v' (optJ M.length X.length k ++ [Q.length])) := Lib.hid (by
        unfold RowJ
        rw [jv_snoc, List.length_append]
        exact hown')
      obtain ⟨g9, c9, rfl, _, _⟩ := hown'.form (by omega)
      clear hown' hgrow
      intro _
      have h7 := HB5.out.c7
      go_wp2_with fail
      refine (HRow.out w5 _ (HE.out.low (HF5.out.old (by omega))) (HK.out.low (HF5.out.old (by omega))) HW5.out (by rw [List.length_append]; simp; omega)).mono ?_
      rintro e w6 ⟨rfl, hW6, hF6⟩
      have HJ6 := Lib.hid (RowJ.frw HJ5.out HW5.out hF6)
      have HB6 := Lib.hid (hF6.blk HB5.out (by decide) (by omega))
      have HF6 := Lib.hid (HF5.out.trans hF6)
      have HW6 := Lib.hid hW6
      clear hW6 hF6 h7
      go_wp2
      go_roundw
      case rel =>
        have e0 : optJ M.length X.length (k + 1) = optJ M.length X.length k ++ [Q.length] := by rw [HSl.out]; rfl
        refine ⟨k + 1, some ⟨g9, 0, none⟩, c9, HLt.out, by rw [e0, List.length_append]; rfl, ?_, by go_num, Lib.hid ⟨?_, HF6.out, by rw [e0]; exact HJ6.out, HB6.out⟩⟩
        · rw [e0]
          obtain ⟨A', c', e', h'⟩ := RowJ.form_ HJ5.out
          injection e' with _ _ e''
          omega
        · rw [← HSn.out]; exact HW6.out
      case measure => have := HLt.out; simp [intOf]; omega
    · obtain rfl : k = cnt := by omega
      have hjs : (optJ M.length X.length k).length = k := optJ_len _ _ _
      have HJg := Lib.hid (optJ_get M.length X.length k)
      have HJl := Lib.hid hjs
      have hjs' : (optJ M.length X.length k).length ≤ 64 := by omega
      clear hjs
      generalize optJ M.length X.length k = js at *
      obtain ⟨T, hT⟩ : ∃ T, T = M.length + k * (X.length + 1) := ⟨_, rfl⟩
      have HT := Lib.hid hT
      have HZ0 : Hid (optS k M X = optM (nd.mode == 1) T 0 k M X) := Lib.hid rfl
      clear hT
      go_wp2
      go_loopw [27] (fun i wr => ∃ (j : Nat), j ≤ js.length ∧ i = .int .i64 j ∧ Hid (Wm n₀ wb fo wr (optM (nd.mode == 1) T j k M X) ∧ FrW n₀ wb w wr ∧ RowJ wr w.heap.size (.slice A4 js.length c4) js ∧ Blk wr bx 27 #[.int .i64 nd.kind, .int .i64 nd.lo, .int .i64 nd.hi, .int .i64 nd.mode, .int .i64 nd.ref, .slice A1 nd.set.length p1, .slice A2 nd.kids.length p2])) (fun i _ => js.length - (intOf i).toNat)
      case atStart => exact ⟨0, Nat.zero_le _, rfl, Lib.hid ⟨by rw [← HZ0.out]; exact HR.out.1, HR.out.2.1, HR.out.2.2.1, HR.out.2.2.2⟩⟩
      case round =>
        obtain ⟨j, hj, rfl, HR2⟩ := hrel
        by_cases hjl : j < js.length
        · have hji : (j : Int) < js.length := by omega
          have HJ1 := Lib.hid hjl
          have hjk : j < k := by have := HJl.out; omega
          obtain ⟨g7, c7, hv7, hc7, k7⟩ := RowJ.at_ HR2.out.2.2.1 (HJg.out j hjk)
          obtain ⟨rfl, _, rfl⟩ := Value.slice.inj hv7
          obtain ⟨o1, o2, o3⟩ := opt_fork (nd.mode == 1) T j k M X hjk HT.out
          have HFk := Lib.hid (fork_any (lz := nd.mode == 1) HR2.out.1 o1)
          rw [o2] at HFk
          have HO3 := Lib.hid o3
          clear o1 o2 o3
          have h7 := HR2.out.2.2.2.c7
          go_wp2_with fail
          refine HFk.out.mono ?_
          rintro e w7 ⟨rfl, hW7, hF7⟩
          have HN9 : Hid (Wm n₀ wb fo w7 (optM (nd.mode == 1) T (j + 1) k M X) ∧ FrW n₀ wb w w7 ∧ RowJ w7 w.heap.size (.slice (some ⟨g7, 0, none⟩) js.length c4) js ∧ Blk w7 bx 27 #[.int .i64 nd.kind, .int .i64 nd.lo, .int .i64 nd.hi, .int .i64 nd.mode, .int .i64 nd.ref, .slice A1 nd.set.length p1, .slice A2 nd.kids.length p2]) := Lib.hid
            ⟨by unfold Wm; rw [HO3.out]; exact hW7, HR2.out.2.1.trans hF7, RowJ.frw HR2.out.2.2.1 HR2.out.1 hF7, hF7.blk HR2.out.2.2.2 (by decide) (by omega)⟩
          clear hW7 hF7 h7
          go_wp2
          go_roundw
          case rel => exact ⟨j + 1, HJ1.out, by go_num, HN9⟩
          case measure => have := HJ1.out; simp [intOf]; omega
        · obtain rfl : j = js.length := by omega
          go_wp2
          have HR3 := HR2.out
          have e : optM (nd.mode == 1) T js.length k M X = app M (optC (nd.mode == 1) k X) := by
            rw [HJl.out, HT.out, ← optT_code]
            unfold optM
            rw [Nat.sub_self]
            rfl
          rw [e] at HR3
          exact ⟨rfl, .tuple #[], by simp [results, Tryz.results130, go_sem], rfl, (by have := HR3.1; rw [HXe.out, HCnt.out] at this; exact this), HR3.2.1⟩

end Go.Proofs.YtdbddbelhgkelaaGreatDoor

/- The writer: a repeat's kid, so often. -/
namespace Go.Proofs.YtdbddbelhgkelaaGreatDoor
open Go.RowKit
open Go.Proofs.YtdbddbelhgkelaaGreatDoor.Cl (Rg SetV SetAt rgCells info_three info3)
variable {w w' w0 : World} {n₀ wb lp lp' base : Nat} {fo : Bool} {M : List In} {G : Int}

theorem repC_snoc (X : List In) : ∀ (n : Nat), repC (n + 1) X = app (repC n X) X
  | 0 => by simp [repC, app_nil, nil_app]
  | n + 1 => by
    have ih := repC_snoc X n
    have e : repC (n + 1) X = app X (repC n X) := rfl
    rw [repC, ih, ← app_assoc, ← e, ih]
theorem repC_nil : ∀ (n : Nat), repC n [] = []
  | 0 => rfl
  | n + 1 => by rw [repC, repC_nil n]; rfl
def timesOk (nd : Nd) : Prop := 0 ≤ nd.lo ∧ nd.lo ≤ 64 ∧ nd.hi ≤ 64 ∧ (nd.hi = -1 ∨ nd.lo ≤ nd.hi)
/-- Behind those that must be there. -/
def restC (fo : Bool) (nd : Nd) : List In := if nd.hi = -1 then loopC (nd.mode == 1) (kidsC fo nd) else optC (nd.mode == 1) (nd.hi - nd.lo).toNat (kidsC fo nd)
def timesN (fo : Bool) (nd : Nd) : List In := app (repC nd.lo.toNat (kidsC fo nd)) (restC fo nd)

set_option maxRecDepth 100000 in
set_option maxHeartbeats 1000000 in
theorem times_step (n : Nat) (ih : RowG n₀ wb fo G n) : AtG n₀ wb fo G n 109 timesOk (timesN fo) := by
  have hLoop := loop_step n ih
  have hOpt := options_step n ih
  intro nd hok hkids w M A1 A2 p1 p2 hE hN hW hlen
  obtain ⟨ho1, ho2, ho3, ho4⟩ := hok
  obtain ⟨b, off, hkv, hm⟩ := NodeB.kids hN
  obtain ⟨hlow1, hlow2⟩ := Wr.low hW
  obtain ⟨cnt, hcnt⟩ : ∃ cnt, cnt = nd.lo.toNat := ⟨_, rfl⟩
  have hci : nd.lo = (cnt : Int) := by omega
  have hc64 : cnt ≤ 64 := by omega
  have HRow := Lib.hid (fun W M' (h1 : Env5 n₀ W) (h2 : KidsB n₀ W nd.kids A2 b off) (h3 : Wm n₀ wb fo W M') h4 => ih nd.kids hkids hm W M' A2 p2 b off h1 h2 h3 h4)
  have HB0 := Lib.hid (Blk.new w 27 #[.int .i64 nd.kind, .int .i64 nd.lo, .int .i64 nd.hi, .int .i64 nd.mode, .int .i64 nd.ref, .slice A1 nd.set.length p1, .slice A2 nd.kids.length p2])
  have hb0 := new_blk w #[.int .i64 nd.kind, .int .i64 nd.lo, .int .i64 nd.hi, .int .i64 nd.mode, .int .i64 nd.ref, .slice A1 nd.set.length p1, .slice A2 nd.kids.length p2]
  have HE := Lib.hid hE
  have HK := Lib.hid hkv
  have HN := Lib.hid hN
  have HW0 := Lib.hid (hW.on hb0)
  have HF0 := Lib.hid (FrW.of_below (n₀ := n₀) (wb := wb) hb0)
  have HLoop := Lib.hid (fun (_ : nd.hi = -1) W M' (h1 : Env5 n₀ W) (h2 : NodeB n₀ W nd A1 A2 p1 p2) (h3 : Wm n₀ wb fo W M') h4 => hLoop nd trivial hkids W M' A1 A2 p1 p2 h1 h2 h3 h4)
  have HOpt := Lib.hid (fun (hh : ¬ nd.hi = -1) W M' (h1 : Env5 n₀ W) (h2 : NodeB n₀ W nd A1 A2 p1 p2) (h3 : Wm n₀ wb fo W M') h4 => hOpt nd ⟨ho1, by omega, ho3⟩ hkids W M' A1 A2 p1 p2 h1 h2 h3 h4)
  have HCnt := Lib.hid hcnt
  have HCi := Lib.hid hci
  clear hci
  unfold timesN at hlen
  rw [← hcnt, app_len] at hlen
  have hrl := repC_len cnt (kidsC fo nd)
  have hrl' : (repC cnt (kidsC fo nd)).length = cnt * (kidsC fo nd).length := by
    unfold len at hrl
    have : (((cnt * (kidsC fo nd).length : Nat)) : Int) = (cnt : Int) * ((kidsC fo nd).length : Int) := by simp
    omega
  have HRl := Lib.hid hrl'
  have HLen := Lib.hid hlen
  clear ih hLoop hOpt hkids hE hN hW hkv hm hcnt hrl hrl' hlen
  go_enter Tryz.func109, Tryz.ntmps109
  go_upto_region 1 with (fail)
  have hs0 := hb0.size
  generalize w.alloc _ = W at *
  obtain ⟨X, hXe⟩ : ∃ X, X = kidsC fo nd := ⟨_, rfl⟩
  have HXe := Lib.hid hXe
  have HRow' : Hid (∀ W M', Env5 n₀ W → KidsB n₀ W nd.kids A2 b off → Wm n₀ wb fo W M' → M'.length + X.length ≤ 90000 → Calls Tryz.prog 86 #[.pointer (some ⟨wb, 0, none⟩), .slice A2 nd.kids.length p2] W (WmP n₀ wb fo W (app M' X))) := Lib.hid (by rw [hXe]; exact HRow.out)
  have HRl' : Hid ((repC cnt X).length = cnt * X.length) := Lib.hid (by rw [hXe]; exact HRl.out)
  have hlen : M.length + ((repC cnt X).length + (restC fo nd).length) ≤ 90000 := by rw [hXe]; exact HLen.out
  clear hXe HRow HRl HLen
  rw [HRl'.out] at hlen
  have h7 := HB0.out.c7
  go_wp2
  clear h7
  obtain ⟨bx, hbx⟩ : ∃ bx, bx = w.heap.size := ⟨_, rfl⟩
  rw [← hbx] at HB0 ⊢
  have hbx1 : wb < bx := by omega
  have hbx2 : w.heap.size ≤ bx := by omega
  have HBx := Lib.hid hbx
  clear hbx
  have HEnd : Hid (∀ W', Wr n₀ wb fo W' (app (app M (repC cnt X)) (restC fo nd)) (marks (app (app M (repC cnt X)) (restC fo nd))) → Wm n₀ wb fo W' (app M (timesN fo nd))) := Lib.hid (fun W' h => by
    unfold timesN
    rw [← HCnt.out, ← HXe.out, ← app_assoc]
    exact h)
  by_cases hX0 : X.length = 0
  · have hXn : X = [] := List.length_eq_zero_iff.1 hX0
    have HXn := Lib.hid hXn
    clear hXn hX0
    go_loopw [7] (fun i wr => ∃ (k : Nat), k ≤ cnt ∧ i = .int .i64 k ∧ Hid (k = 0) ∧ Hid (Wm n₀ wb fo wr M ∧ FrW n₀ wb w wr ∧ Blk wr bx 27 #[.int .i64 nd.kind, .int .i64 nd.lo, .int .i64 nd.hi, .int .i64 nd.mode, .int .i64 nd.ref, .slice A1 nd.set.length p1, .slice A2 nd.kids.length p2])) (fun i _ => cnt - (intOf i).toNat)
    case atStart => exact ⟨0, Nat.zero_le _, rfl, Lib.hid rfl, Lib.hid ⟨HW0.out, HF0.out, HB0.out⟩⟩
    case round =>
      obtain ⟨k, hk, rfl, HK0, HR⟩ := hrel
      have hsz := HR.out.2.1.size
      by_cases hlt : k < cnt
      · have hlti : (k : Int) < nd.lo := by have := HCi.out; omega
        have h7 := HR.out.2.2.c7
        go_wp2_with fail
        refine (here_any HR.out.1).mono ?_
        rintro e w2 ⟨rfl, rfl⟩
        go_wp2_with fail
        refine (HRow'.out wr M (HE.out.low (HR.out.2.1.old (by omega))) (HK.out.low (HR.out.2.1.old (by omega))) HR.out.1 (by rw [HXn.out]; simp; omega)).mono ?_
        rintro e w3 ⟨rfl, hW3, hF3⟩
        rw [HXn.out, app_nil] at hW3
        have hs3 := hF3.size
        have HB3 := Lib.hid (hF3.blk HR.out.2.2 (by decide) (by omega))
        have HF3 := Lib.hid (HR.out.2.1.trans hF3)
        have HW3 := Lib.hid hW3
        clear hW3 hF3 h7
        have h7 := HB3.out.c7
        go_wp2_with fail
        refine (here_any HW3.out).mono ?_
        rintro e w4 ⟨rfl, rfl⟩
        have HWz : Hid (Wm n₀ wb fo w3 (app M (repC cnt X))) := Lib.hid (by rw [HXn.out, repC_nil, app_nil]; exact HW3.out)
        have HFz := HF3
        have hLz : (app M (repC cnt X)).length + (restC fo nd).length ≤ 90000 := by rw [app_len, HRl'.out]; omega
        by_cases hhi : nd.hi = -1
        · have hhb : (nd.hi == -1) = true := by simp [hhi]
          have HC := Lib.hid (HLoop.out hhi w3 _ (HE.out.low (HFz.out.old (by omega))) (HN.out.lowB (HFz.out.old (by omega))) HWz.out (by have := hLz; unfold restC at this; rw [if_pos hhi] at this; exact this))
          have HRc : Hid (loopC (nd.mode == 1) (kidsC fo nd) = restC fo nd) := Lib.hid (by unfold restC; rw [if_pos hhi])
          clear hhi hLz
          go_wp2_with fail
          refine HC.out.mono ?_
          rintro e w9 ⟨rfl, hW9, hF9⟩
          rw [HRc.out] at hW9
          have HW9 := Lib.hid (HEnd.out w9 hW9)
          have HF9 := Lib.hid (HFz.out.trans hF9)
          clear hW9 hF9
          go_wp2
          exact ⟨rfl, .tuple #[], by simp [results, Tryz.results109, go_sem], rfl, HW9.out, HF9.out⟩
        · have hhb : (nd.hi == -1) = false := by simp [hhi]
          have HC := Lib.hid (HOpt.out hhi w3 _ (HE.out.low (HFz.out.old (by omega))) (HN.out.lowB (HFz.out.old (by omega))) HWz.out (by have := hLz; unfold restC at this; rw [if_neg hhi] at this; exact this))
          have HRc : Hid (optC (nd.mode == 1) (nd.hi - nd.lo).toNat (kidsC fo nd) = restC fo nd) := Lib.hid (by unfold restC; rw [if_neg hhi])
          clear hLz
          go_wp2_with fail
          refine HC.out.mono ?_
          rintro e w9 ⟨rfl, hW9, hF9⟩
          rw [HRc.out] at hW9
          have HW9 := Lib.hid (HEnd.out w9 hW9)
          have HF9 := Lib.hid (HFz.out.trans hF9)
          clear hW9 hF9
          go_wp2
          exact ⟨rfl, .tuple #[], by simp [results, Tryz.results109, go_sem], rfl, HW9.out, HF9.out⟩
      · have HWz : Hid (Wm n₀ wb fo wr (app M (repC cnt X))) := Lib.hid (by rw [HXn.out, repC_nil, app_nil]; exact HR.out.1)
        have HFz := Lib.hid HR.out.2.1
        have hLz : (app M (repC cnt X)).length + (restC fo nd).length ≤ 90000 := by rw [app_len, HRl'.out]; omega
        have hkc : ¬ (k : Int) < nd.lo := by have := HCi.out; omega
        have h7 := HR.out.2.2.c7
        by_cases hhi : nd.hi = -1
        · have hhb : (nd.hi == -1) = true := by simp [hhi]
          have HC := Lib.hid (HLoop.out hhi wr _ (HE.out.low (HFz.out.old (by omega))) (HN.out.lowB (HFz.out.old (by omega))) HWz.out (by have := hLz; unfold restC at this; rw [if_pos hhi] at this; exact this))
          have HRc : Hid (loopC (nd.mode == 1) (kidsC fo nd) = restC fo nd) := Lib.hid (by unfold restC; rw [if_pos hhi])
          clear hhi hLz
          go_wp2_with fail
          refine HC.out.mono ?_
          rintro e w9 ⟨rfl, hW9, hF9⟩
          rw [HRc.out] at hW9
          have HW9 := Lib.hid (HEnd.out w9 hW9)
          have HF9 := Lib.hid (HFz.out.trans hF9)
          clear hW9 hF9
          go_wp2
          exact ⟨rfl, .tuple #[], by simp [results, Tryz.results109, go_sem], rfl, HW9.out, HF9.out⟩
        · have hhb : (nd.hi == -1) = false := by simp [hhi]
          have HC := Lib.hid (HOpt.out hhi wr _ (HE.out.low (HFz.out.old (by omega))) (HN.out.lowB (HFz.out.old (by omega))) HWz.out (by have := hLz; unfold restC at this; rw [if_neg hhi] at this; exact this))
          have HRc : Hid (optC (nd.mode == 1) (nd.hi - nd.lo).toNat (kidsC fo nd) = restC fo nd) := Lib.hid (by unfold restC; rw [if_neg hhi])
          clear hLz
          go_wp2_with fail
          refine HC.out.mono ?_
          rintro e w9 ⟨rfl, hW9, hF9⟩
          rw [HRc.out] at hW9
          have HW9 := Lib.hid (HEnd.out w9 hW9)
          have HF9 := Lib.hid (HFz.out.trans hF9)
          clear hW9 hF9
          go_wp2
          exact ⟨rfl, .tuple #[], by simp [results, Tryz.results109, go_sem], rfl, HW9.out, HF9.out⟩
  · go_loopw [7] (fun i wr => ∃ (k : Nat), k ≤ cnt ∧ i = .int .i64 k ∧ Hid (Wm n₀ wb fo wr (app M (repC k X)) ∧ FrW n₀ wb w wr ∧ Blk wr bx 27 #[.int .i64 nd.kind, .int .i64 nd.lo, .int .i64 nd.hi, .int .i64 nd.mode, .int .i64 nd.ref, .slice A1 nd.set.length p1, .slice A2 nd.kids.length p2])) (fun i _ => cnt - (intOf i).toNat)
    case atStart => exact ⟨0, Nat.zero_le _, rfl, Lib.hid ⟨by rw [repC, app_nil]; exact HW0.out, HF0.out, HB0.out⟩⟩
    case round =>
      obtain ⟨k, hk, rfl, HR⟩ := hrel
      have hsz := HR.out.2.1.size
      by_cases hlt : k < cnt
      · have hlti : (k : Int) < nd.lo := by have := HCi.out; omega
        have HLt := Lib.hid hlt
        have HSn : Hid (app (app M (repC k X)) X = app M (repC (k + 1) X)) := Lib.hid (by rw [repC_snoc, app_assoc])
        have hQb : (app M (repC k X)).length + X.length ≤ 90000 := by
          have h1 := repC_len k X
          have h2 : (repC k X).length = k * X.length := by
            unfold len at h1
            have : (((k * X.length : Nat)) : Int) = (k : Int) * (X.length : Int) := by simp
            omega
          have : (k + 1) * X.length ≤ cnt * X.length := Nat.mul_le_mul_right _ hlt
          rw [Nat.add_mul] at this
          rw [app_len]
          omega
        have hne := app_len (app M (repC k X)) X
        generalize app M (repC k X) = Q at *
        have h7 := HR.out.2.2.c7
        go_wp2_with fail
        refine (here_any HR.out.1).mono ?_
        rintro e w2 ⟨rfl, rfl⟩
        go_wp2_with fail
        refine (HRow'.out wr Q (HE.out.low (HR.out.2.1.old (by omega))) (HK.out.low (HR.out.2.1.old (by omega))) HR.out.1 hQb).mono ?_
        rintro e w3 ⟨rfl, hW3, hF3⟩
        have hs3 := hF3.size
        have HB3 := Lib.hid (hF3.blk HR.out.2.2 (by decide) (by omega))
        have HF3 := Lib.hid (HR.out.2.1.trans hF3)
        have HW3 := Lib.hid hW3
        obtain ⟨ln, hln⟩ : ∃ ln, ln = (app Q X).length := ⟨_, rfl⟩
        have HHr : Hid (Calls Tryz.prog 84 #[.pointer (some ⟨wb, 0, none⟩)] w3 fun e w' => e = .returned (.int .i64 ((ln : Nat) : Int)) ∧ w3 = w') := Lib.hid (by rw [hln]; exact here_any hW3)
        have hlq : ((ln : Int) == (Q.length : Int)) = false := by simp; omega
        clear hW3 hF3 h7 hln hne
        go_wp2_with fail
        refine HHr.out.mono ?_
        rintro e w4 ⟨rfl, rfl⟩
        go_wp2
        go_roundw
        case rel => exact ⟨k + 1, HLt.out, by go_num, Lib.hid ⟨by rw [← HSn.out]; exact HW3.out, HF3.out, HB3.out⟩⟩
        case measure => have := HLt.out; simp [intOf]; omega
      · have hkc : ¬ (k : Int) < nd.lo := by have := HCi.out; omega
        obtain rfl : k = cnt := by omega
        have HWz : Hid (Wm n₀ wb fo wr (app M (repC k X))) := Lib.hid HR.out.1
        have HFz := Lib.hid HR.out.2.1
        have hLz : (app M (repC k X)).length + (restC fo nd).length ≤ 90000 := by rw [app_len, HRl'.out]; omega
        have h7 := HR.out.2.2.c7
        by_cases hhi : nd.hi = -1
        · have hhb : (nd.hi == -1) = true := by simp [hhi]
          have HC := Lib.hid (HLoop.out hhi wr _ (HE.out.low (HFz.out.old (by omega))) (HN.out.lowB (HFz.out.old (by omega))) HWz.out (by have := hLz; unfold restC at this; rw [if_pos hhi] at this; exact this))
          have HRc : Hid (loopC (nd.mode == 1) (kidsC fo nd) = restC fo nd) := Lib.hid (by unfold restC; rw [if_pos hhi])
          clear hhi hLz
          go_wp2_with fail
          refine HC.out.mono ?_
          rintro e w9 ⟨rfl, hW9, hF9⟩
          rw [HRc.out] at hW9
          have HW9 := Lib.hid (HEnd.out w9 hW9)
          have HF9 := Lib.hid (HFz.out.trans hF9)
          clear hW9 hF9
          go_wp2
          exact ⟨rfl, .tuple #[], by simp [results, Tryz.results109, go_sem], rfl, HW9.out, HF9.out⟩
        · have hhb : (nd.hi == -1) = false := by simp [hhi]
          have HC := Lib.hid (HOpt.out hhi wr _ (HE.out.low (HFz.out.old (by omega))) (HN.out.lowB (HFz.out.old (by omega))) HWz.out (by have := hLz; unfold restC at this; rw [if_neg hhi] at this; exact this))
          have HRc : Hid (optC (nd.mode == 1) (nd.hi - nd.lo).toNat (kidsC fo nd) = restC fo nd) := Lib.hid (by unfold restC; rw [if_neg hhi])
          clear hLz
          go_wp2_with fail
          refine HC.out.mono ?_
          rintro e w9 ⟨rfl, hW9, hF9⟩
          rw [HRc.out] at hW9
          have HW9 := Lib.hid (HEnd.out w9 hW9)
          have HF9 := Lib.hid (HFz.out.trans hF9)
          clear hW9 hF9
          go_wp2
          exact ⟨rfl, .tuple #[], by simp [results, Tryz.results109, go_sem], rfl, HW9.out, HF9.out⟩

end Go.Proofs.YtdbddbelhgkelaaGreatDoor

/- The writer: repeats; looks. -/
namespace Go.Proofs.YtdbddbelhgkelaaGreatDoor
open Go.RowKit
open Go.Proofs.YtdbddbelhgkelaaGreatDoor.Cl (Rg SetV SetAt rgCells info_three info3)
variable {w w' w0 : World} {n₀ wb lp lp' base : Nat} {fo : Bool} {M : List In} {G : Int}

def repOk (nd : Nd) : Prop := timesOk nd ∧ 0 ≤ nd.mode ∧ nd.mode ≤ 2
def repG (fo : Bool) (nd : Nd) : List In := if nd.mode = 2 then withinC (.i 8 0 0 0 0) (timesN fo nd) else timesN fo nd
theorem marks_one (i : In) (h : i.op ≠ 10) : marks [i] = 0 := by rw [marks_cons, if_neg h]; rfl
theorem within_app (op a c d : Int) (h : op = 7 ∨ op = 8) (M Y : List In) : M ++ [In.i op a ((M.length : Nat) + (Y.length : Nat) + 2) c d] ++ Y.map (sh ((M ++ [In.i op a 0 c d]).length : Nat) (marks (M ++ [In.i op a 0 c d]) : Nat)) ++ [doneI] = app M (withinC (In.i op a 0 c d) Y) := by
  have hm : marks (M ++ [In.i op a 0 c d]) = marks M := marks_snoc _ _ (by show op ≠ 10; omega)
  have hm1 : marks [In.i op a ((Y.length : Int) + 2) c d] = 0 := marks_one _ (show op ≠ 10 by omega)
  have e1 : withinC (In.i op a 0 c d) Y = In.i op a ((Y.length : Int) + 2) c d :: (Y.map (sh 1 0) ++ [doneI]) := by
    show app [In.i op a ((Y.length : Int) + 2) c d] (app Y [doneI]) = _
    rw [app_one _ _ (.inr (.inr (.inr (.inr (.inr rfl)))))]
    unfold app
    rw [hm1, List.map_append, List.map_cons, List.map_nil, sh_zero_op _ _ doneI (.inr (.inr (.inr (.inr (.inr rfl)))))]
    rfl
  rw [hm, e1]
  have e2 : app M (In.i op a ((Y.length : Int) + 2) c d :: (Y.map (sh 1 0) ++ [doneI])) = M ++ (sh (M.length : Nat) (marks M : Nat) (In.i op a ((Y.length : Int) + 2) c d) :: ((Y.map (sh 1 0)).map (sh (M.length : Nat) (marks M : Nat)) ++ [sh (M.length : Nat) (marks M : Nat) doneI])) := by
    unfold app
    simp
  rw [e2, sh_zero_op _ _ doneI (.inr (.inr (.inr (.inr (.inr rfl))))), List.map_map]
  have e3 : sh (M.length : Nat) (marks M : Nat) (In.i op a ((Y.length : Int) + 2) c d) = In.i op a ((M.length : Nat) + (Y.length : Nat) + 2) c d := by
    rcases h with rfl | rfl <;> simp [sh, In.i] <;> omega
  have e4 : Y.map (sh (M.length : Nat) (marks M : Nat) ∘ sh 1 0) = Y.map (sh ((M ++ [In.i op a 0 c d]).length : Nat) (marks M : Nat)) := by
    apply List.map_congr_left
    intro i _
    simp only [Function.comp, sh_sh, List.length_append, List.length_cons, List.length_nil]
    congr 1 <;> omega
  rw [e3, e4]
  simp
/-- What stands between, and its Done. -/
theorem within_mark (op a c d : Int) (h : op = 7 ∨ op = 8) (M Y : List In) : marks (app M (withinC (In.i op a 0 c d) Y)) = marks M + marks Y := by
  rw [app_marks]
  unfold withinC
  rw [app_marks, app_marks]
  show marks M + (marks [In.i op a ((Y.length : Int) + 2) c d] + (marks Y + marks [doneI])) = _
  have h1 := marks_one (In.i op a ((Y.length : Int) + 2) c d) (show op ≠ 10 by omega)
  have h2 : marks [doneI] = 0 := rfl
  omega
/-- within, where what inside writes is a code. -/
theorem within_code {f : Nat} (hf : f = 92 ∨ f = 108 ∨ f = 110) {p1 p2 : Value} (op a c d : Int) (ho : op = 7 ∨ op = 8) (Y : List In) (h : Wm n₀ wb fo w M) (hl : M.length + Y.length + 2 ≤ 100000)
    (hc : ∀ W, Wm n₀ wb fo W (M ++ [.i op a 0 c d]) → FrW n₀ wb w W → Calls Tryz.prog f #[p1, p2] W (WmP n₀ wb fo W (app (M ++ [.i op a 0 c d]) Y))) :
    Calls Tryz.prog 91 #[.pointer (some ⟨wb, 0, none⟩), .agg #[.int .i64 op, .int .i64 a, .int .i64 0, .int .i64 c, .int .i64 d, .slice none 0 0], .func (.func f) #[] #[p1, p2]] w (WmP n₀ wb fo w (app M (withinC (.i op a 0 c d) Y))) := by
  have hm : marks (M ++ [In.i op a 0 c d]) = marks M := marks_snoc _ _ (by show op ≠ 10; omega)
  have := within_any hf (p1 := p1) (p2 := p2) op a 0 c d (lp' := marks M + marks Y) (Y.map (sh ((M ++ [In.i op a 0 c d]).length : Nat) (marks (M ++ [In.i op a 0 c d]) : Nat))) h (by rw [List.length_map]; exact hl) (fun W hW hF => by
    have e : marks M + marks Y = marks (app (M ++ [In.i op a 0 c d]) Y) := by rw [app_marks, hm]
    rw [e]
    exact hc W (by unfold Wm; rw [hm]; exact hW) hF)
  rw [List.length_map, within_app op a c d ho, ← within_mark op a c d ho] at this
  exact this

set_option maxRecDepth 100000 in
set_option maxHeartbeats 1000000 in
/-- The closure of a possessive repeat. -/
theorem repClo (n : Nat) (ih : AtG n₀ wb fo G n 109 timesOk (timesN fo)) {nd : Nd} (hok : timesOk nd) (hkids : ∀ x ∈ nd.kids, Nx G n x) {bw bn : Nat} {A1 A2 : Option Addr} {p1 p2 : Nat} (hE : Env5 n₀ w) (hN : NodeB n₀ w nd A1 A2 p1 p2) (hW : Wm n₀ wb fo w M) (hl : M.length + (timesN fo nd).length ≤ 90000)
    (hbw : Blk w bw 137 #[.pointer (some ⟨wb, 0, none⟩)]) (hbn : Blk w bn 27 #[.int .i64 nd.kind, .int .i64 nd.lo, .int .i64 nd.hi, .int .i64 nd.mode, .int .i64 nd.ref, .slice A1 nd.set.length p1, .slice A2 nd.kids.length p2]) :
    Calls Tryz.prog 108 #[.pointer (some ⟨bw, 0, none⟩), .pointer (some ⟨bn, 0, none⟩)] w (WmP n₀ wb fo w (app M (timesN fo nd))) := by
  have HC := Lib.hid (ih nd hok hkids w M A1 A2 p1 p2 hE hN hW hl)
  have c0 := hbw.cell 0
  simp at c0
  have h7 := hbn.c7
  clear hE hN hW hbw hbn hok hkids ih
  go_enter Tryz.func108, Tryz.ntmps108
  go_wp2_with fail
  refine HC.out.mono ?_
  rintro e w1 ⟨rfl, hW1, hF1⟩
  have HW1 := Lib.hid hW1
  have HF1 := Lib.hid hF1
  clear hW1 hF1
  go_wp2
  exact ⟨rfl, .tuple #[], by simp [results, Tryz.results108, go_sem], rfl, HW1.out, HF1.out⟩

set_option maxRecDepth 100000 in
set_option maxHeartbeats 1000000 in
theorem repeat_step (n : Nat) (ih : RowG n₀ wb fo G n) : AtG n₀ wb fo G n 88 repOk (repG fo) := by
  have hTimes := times_step n ih
  intro nd hok hkids w M A1 A2 p1 p2 hE hN hW hlen
  obtain ⟨ht, hm0, hm2⟩ := hok
  obtain ⟨hlow1, hlow2⟩ := Wr.low hW
  have hb0 := (Below.refl w.heap.size w).alloc (Nat.le_refl _) (.cells #[.pointer (some ⟨wb, 0, none⟩)] 137)
  have hs0 : (w.alloc (.cells #[.pointer (some ⟨wb, 0, none⟩)] 137)).heap.size = w.heap.size + 1 := by simp
  have hb1 := hb0.alloc (by omega) (.cells #[.int .i64 nd.kind, .int .i64 nd.lo, .int .i64 nd.hi, .int .i64 nd.mode, .int .i64 nd.ref, .slice A1 nd.set.length p1, .slice A2 nd.kids.length p2] 27)
  have HBw := Lib.hid ((Blk.new w 137 #[.pointer (some ⟨wb, 0, none⟩)]).alloc (.cells #[.int .i64 nd.kind, .int .i64 nd.lo, .int .i64 nd.hi, .int .i64 nd.mode, .int .i64 nd.ref, .slice A1 nd.set.length p1, .slice A2 nd.kids.length p2] 27))
  have HBn := Lib.hid (Blk.new (w.alloc (.cells #[.pointer (some ⟨wb, 0, none⟩)] 137)) 27 #[.int .i64 nd.kind, .int .i64 nd.lo, .int .i64 nd.hi, .int .i64 nd.mode, .int .i64 nd.ref, .slice A1 nd.set.length p1, .slice A2 nd.kids.length p2])
  rw [hs0] at HBn
  have HE := Lib.hid hE
  have HN := Lib.hid hN
  have HW0 := Lib.hid (hW.on hb1)
  have HF0 := Lib.hid (FrW.of_below (n₀ := n₀) (wb := wb) hb1)
  by_cases hm : nd.mode = 2
  · have hX : repG fo nd = withinC (.i 8 0 0 0 0) (timesN fo nd) := by unfold repG; rw [if_pos hm]
    have hl : (withinC (.i 8 0 0 0 0) (timesN fo nd)).length = (timesN fo nd).length + 2 := by have := withinC_len (.i 8 0 0 0 0) (timesN fo nd); unfold len at this; omega
    rw [hX] at hlen ⊢
    rw [hl] at hlen
    have hmb : (nd.mode == 2) = true := by simp [hm]
    have HClo := Lib.hid (fun W bw bn (h1 : Env5 n₀ W) (h2 : NodeB n₀ W nd A1 A2 p1 p2) M' (h3 : Wm n₀ wb fo W M') h4 h5 h6 => repClo n hTimes ht hkids h1 h2 h3 h4 h5 h6 (bw := bw) (bn := bn))
    clear hTimes ht hkids hE hN hW hX hl ih hm
    go_enter Tryz.func88, Tryz.ntmps88
    go_upto_region 1 with (fail)
    generalize (w.alloc _).alloc _ = W at *
    have hs1 := hb1.size
    have h7 := HBn.out.c7
    have c0 := HBw.out.cell 0
    simp at c0
    have HWi := Lib.hid (within_code (w := W) (M := M) (p1 := .pointer (some ⟨w.heap.size, 0, none⟩)) (p2 := .pointer (some ⟨w.heap.size + 1, 0, none⟩)) (.inr (.inl rfl)) 8 0 0 0 (.inr rfl) (timesN fo nd) HW0.out (by omega) (fun W' hW' hF' =>
      HClo.out W' _ _ (HE.out.low ((HF0.out.trans hF').old (by omega))) (HN.out.lowB ((HF0.out.trans hF').old (by omega))) _ hW' (by rw [List.length_append]; simp; omega) (hF'.blk HBw.out (by decide) (by omega)) (hF'.blk HBn.out (by decide) (by omega))))
    go_wp2_with fail
    refine HWi.out.mono ?_
    rintro e w1 ⟨rfl, hW1, hF1⟩
    have HW1 := Lib.hid hW1
    have HF1 := Lib.hid (HF0.out.trans hF1)
    clear hW1 hF1
    go_wp2
    exact ⟨rfl, .tuple #[], by simp [results, Tryz.results88, go_sem], rfl, HW1.out, HF1.out⟩
  · have hX : repG fo nd = timesN fo nd := by unfold repG; rw [if_neg hm]
    rw [hX] at hlen ⊢
    have hmb : (nd.mode == 2) = false := by simp [hm]
    have HC := Lib.hid (fun W (h1 : Env5 n₀ W) (h2 : NodeB n₀ W nd A1 A2 p1 p2) (h3 : Wm n₀ wb fo W M) => hTimes nd ht hkids W M A1 A2 p1 p2 h1 h2 h3 hlen)
    clear hTimes ht hkids hE hN hW hX ih hm
    go_enter Tryz.func88, Tryz.ntmps88
    go_upto_region 1 with (fail)
    generalize (w.alloc _).alloc _ = W at *
    have hs1 := hb1.size
    have h7 := HBn.out.c7
    have c0 := HBw.out.cell 0
    simp at c0
    go_wp2_with fail
    refine (HC.out W (HE.out.low (HF0.out.old (by omega))) (HN.out.lowB (HF0.out.old (by omega))) HW0.out).mono ?_
    rintro e w1 ⟨rfl, hW1, hF1⟩
    have HW1 := Lib.hid hW1
    have HF1 := Lib.hid (HF0.out.trans hF1)
    clear hW1 hF1
    go_wp2
    exact ⟨rfl, .tuple #[], by simp [results, Tryz.results88, go_sem], rfl, HW1.out, HF1.out⟩

end Go.Proofs.YtdbddbelhgkelaaGreatDoor

/- The writer: looks. -/
namespace Go.Proofs.YtdbddbelhgkelaaGreatDoor
open Go.RowKit
open Go.Proofs.YtdbddbelhgkelaaGreatDoor.Cl (Rg SetV SetAt rgCells info_three info3)
variable {w w' w0 : World} {n₀ wb lp lp' base : Nat} {fo : Bool} {M : List In} {G : Int}

def lookOk (nd : Nd) : Prop := (∀ x ∈ nd.kids, Wf x) ∧ 0 ≤ nd.mode ∧ nd.mode ≤ 3
def lookN (fo : Bool) (nd : Nd) : List In := withinC (lookI nd.mode (loSum nd.kids) (hiSum nd.kids) 0) (kidsC fo nd)
theorem NodeV.up {nd : Nd} {sv kv : Value} (h : NodeV (fun b => b < n₀) w nd sv kv) (hn : n₀ ≤ w.heap.size) : NodeV (fun b => b < w.heap.size) w nd sv kv := h.keep fun _ hk => ⟨Nat.lt_of_lt_of_le hk hn, rfl⟩
theorem KidsB.up {L : List Nd} {A : Option Addr} {b off : Nat} (h : KidsB n₀ w L A b off) (hn : n₀ ≤ w.heap.size) : KidsV w L A b off := fun i x hx => by
  obtain ⟨h1, h2, A1, A2, p1, p2, h3, h4⟩ := h i x hx
  exact ⟨h1, Nat.lt_of_lt_of_le h2 hn, A1, A2, p1, p2, h3.up hn, h4⟩

set_option maxRecDepth 100000 in
set_option maxHeartbeats 1000000 in
theorem lookClo (n : Nat) (ih : RowG n₀ wb fo G n) {nd : Nd} (hkids : ∀ x ∈ nd.kids, Nx G n x) {bw bn : Nat} {A1 A2 : Option Addr} {p1 p2 : Nat} (hE : Env5 n₀ w) (hN : NodeB n₀ w nd A1 A2 p1 p2) (hW : Wm n₀ wb fo w M) (hl : M.length + (kidsC fo nd).length ≤ 90000)
    (hbw : Blk w bw 137 #[.pointer (some ⟨wb, 0, none⟩)]) (hbn : Blk w bn 27 #[.int .i64 nd.kind, .int .i64 nd.lo, .int .i64 nd.hi, .int .i64 nd.mode, .int .i64 nd.ref, .slice A1 nd.set.length p1, .slice A2 nd.kids.length p2]) {f : Nat} (hf : f = 110 ∨ f = 92) :
    Calls Tryz.prog f #[.pointer (some ⟨bw, 0, none⟩), .pointer (some ⟨bn, 0, none⟩)] w (WmP n₀ wb fo w (app M (kidsC fo nd))) := by
  obtain ⟨b, off, hkv, hm⟩ := NodeB.kids hN
  have HC := Lib.hid (ih nd.kids hkids hm w M A2 p2 b off hE hkv hW hl)
  have c0 := hbw.cell 0
  simp at c0
  have h7 := hbn.c7
  clear hE hN hW hbw hbn hkids ih hkv hm
  rcases hf with rfl | rfl
  · go_enter Tryz.func110, Tryz.ntmps110
    go_wp2_with fail
    refine HC.out.mono ?_
    rintro e w1 ⟨rfl, hW1, hF1⟩
    have HW1 := Lib.hid hW1
    have HF1 := Lib.hid hF1
    clear hW1 hF1
    go_wp2
    exact ⟨rfl, .tuple #[], by simp [results, Tryz.results110, go_sem], rfl, HW1.out, HF1.out⟩
  · go_enter Tryz.func92, Tryz.ntmps92
    go_wp2_with fail
    refine HC.out.mono ?_
    rintro e w1 ⟨rfl, hW1, hF1⟩
    have HW1 := Lib.hid hW1
    have HF1 := Lib.hid hF1
    clear hW1 hF1
    go_wp2
    exact ⟨rfl, .tuple #[], by simp [results, Tryz.results92, go_sem], rfl, HW1.out, HF1.out⟩

set_option maxRecDepth 100000 in
set_option maxHeartbeats 1000000 in
/-- Width of nodes as a row, of one too. -/
theorem width_cat (L : List Nd) (hw : ∀ x ∈ L, Wf x) (hm : L.length ≤ 1000000) (w : World) (A : Option Addr) (p b off : Nat) (h : KidsV w L A b off) :
    Calls Tryz.prog 10 #[.agg #[.int .i64 2, .int .i64 0, .int .i64 0, .int .i64 0, .int .i64 0, .slice none 0 0, .slice A L.length p]] w fun e w' => e = .returned (.tuple #[.int .i64 (loSum L), .int .i64 (hiSum L)]) ∧ Below w.heap.size w w' := by
  have HB0 := Lib.hid (Blk.new w 27 #[.int .i64 2, .int .i64 0, .int .i64 0, .int .i64 0, .int .i64 0, .slice none 0 0, .slice A L.length p])
  have hb0 := new_blk w #[.int .i64 2, .int .i64 0, .int .i64 0, .int .i64 0, .int .i64 0, .slice none 0 0, .slice A L.length p]
  have HR := Lib.hid (fun W (k : KidsV W L A b off) => rowWidth_any L hw hm W A p b off k)
  have HV := Lib.hid (h.on hb0)
  clear h hw
  go_enter Tryz.func10, Tryz.ntmps10
  go_upto_region 1 with (fail)
  have h7 := HB0.out.c7
  generalize w.alloc _ = W at *
  go_wp2_with fail
  refine (HR.out W HV.out).mono ?_
  rintro e w1 ⟨rfl, hb1⟩
  have hbw := hb0.trans (hb1.mono hb0.size)
  go_wp2
  go_ret2
  exact ⟨rfl, hbw⟩

set_option maxRecDepth 100000 in
set_option maxHeartbeats 1000000 in
theorem look_step (n : Nat) (ih : RowG n₀ wb fo G n) : AtG n₀ wb fo G n 90 lookOk (lookN fo) := by
  intro nd hok hkids w M A1 A2 p1 p2 hE hN hW hlen
  obtain ⟨hkw, hm0, hm3⟩ := hok
  obtain ⟨hlow1, hlow2⟩ := Wr.low hW
  obtain ⟨b, off, hkv, hm⟩ := NodeB.kids hN
  have hl : (lookN fo nd).length = (kidsC fo nd).length + 2 := by have := withinC_len (lookI nd.mode (loSum nd.kids) (hiSum nd.kids) 0) (kidsC fo nd); unfold len at this; unfold lookN; omega
  rw [hl] at hlen
  have hmode : nd.mode = 0 ∨ nd.mode = 1 ∨ nd.mode = 2 ∨ nd.mode = 3 := by omega
  have HClo := Lib.hid (fun W bw bn (h1 : Env5 n₀ W) (h2 : NodeB n₀ W nd A1 A2 p1 p2) M' (h3 : Wm n₀ wb fo W M') h4 h5 h6 => lookClo n ih hkids h1 h2 h3 h4 h5 h6 (bw := bw) (bn := bn) (.inl rfl))
  have HE := Lib.hid hE
  have HN := Lib.hid hN
  have HK := Lib.hid hkv
  obtain ⟨m, hmd⟩ : ∃ m, m = nd.mode := ⟨_, rfl⟩
  rw [← hmd] at hmode
  rw [← hmd] at HClo
  rw [← hmd]
  replace hmd := Lib.hid hmd
  have hb0 := (Below.refl w.heap.size w).alloc (Nat.le_refl _) (.cells #[.pointer (some ⟨wb, 0, none⟩)] 137)
  have hs0 : (w.alloc (.cells #[.pointer (some ⟨wb, 0, none⟩)] 137)).heap.size = w.heap.size + 1 := by simp
  have hb1 := hb0.alloc (by omega) (.cells #[.int .i64 nd.kind, .int .i64 nd.lo, .int .i64 nd.hi, .int .i64 m, .int .i64 nd.ref, .slice A1 nd.set.length p1, .slice A2 nd.kids.length p2] 27)
  have HBw := Lib.hid ((Blk.new w 137 #[.pointer (some ⟨wb, 0, none⟩)]).alloc (.cells #[.int .i64 nd.kind, .int .i64 nd.lo, .int .i64 nd.hi, .int .i64 m, .int .i64 nd.ref, .slice A1 nd.set.length p1, .slice A2 nd.kids.length p2] 27))
  have HBn := Lib.hid (Blk.new (w.alloc (.cells #[.pointer (some ⟨wb, 0, none⟩)] 137)) 27 #[.int .i64 nd.kind, .int .i64 nd.lo, .int .i64 nd.hi, .int .i64 m, .int .i64 nd.ref, .slice A1 nd.set.length p1, .slice A2 nd.kids.length p2])
  rw [hs0] at HBn
  have HW0 := Lib.hid (hW.on hb1)
  have HF0 := Lib.hid (FrW.of_below (n₀ := n₀) (wb := wb) hb1)
  clear hs0 hE hN hW hl hkv ih hkids hm0 hm3 hb0
  rcases hmode with rfl | rfl | rfl | rfl
  · go_enter Tryz.func90, Tryz.ntmps90
    go_upto_region 1 with (fail)
    generalize (w.alloc _).alloc _ = W at *
    have hs1 := hb1.size
    have h7 := HBn.out.c7
    have c0 := HBw.out.cell 0
    simp at c0
    have HBi := Lib.hid (Blk.new W 118 #[.int .i64 7, .int .i64 0, .int .i64 0, .int .i64 0, .int .i64 0, .slice none 0 0])
    have hbi := (Below.refl W.heap.size W).alloc (Nat.le_refl _) (.cells #[.int .i64 7, .int .i64 0, .int .i64 0, .int .i64 0, .int .i64 0, .slice none 0 0] 118)
    have HWi := Lib.hid (HW0.out.on hbi)
    have HFi := Lib.hid (HF0.out.trans (FrW.of_below (n₀ := n₀) (wb := wb) hbi))
    have HBn2 := Lib.hid (HBn.out.on hbi)
    have HBw2 := Lib.hid (HBw.out.on hbi)
    go_upto_region 2 with (fail)
    have hsi := hbi.size
    obtain ⟨bi, hbie⟩ : ∃ bi, bi = W.heap.size := ⟨_, rfl⟩
    have hbil : w.heap.size ≤ bi ∧ wb < bi ∧ w.heap.size + 1 < bi := by rw [hbie]; have := HBn.out.lt; omega
    have hbiW : W.heap.size ≤ bi := by omega
    rw [← hbie] at HBi ⊢
    clear hbie h7 c0
    generalize W.alloc _ = W2 at *
    have h7 := HBn2.out.c7
    have c0 := HBw2.out.cell 0
    simp at c0
    have b6 := HBi.out.c6_
    have HX : Hid (withinC (.i 7 0 0 0 0) (kidsC fo nd) = lookN fo nd) := Lib.hid (by unfold lookN; rw [← hmd.out]; rfl)
    have HWc := Lib.hid (within_code (w := W2) (M := M) (p1 := .pointer (some ⟨w.heap.size, 0, none⟩)) (p2 := .pointer (some ⟨w.heap.size + 1, 0, none⟩)) (.inr (.inr rfl)) 7 0 0 0 (.inl rfl) (kidsC fo nd) HWi.out (by omega) (fun W' hW' hF' =>
      HClo.out W' _ _ (HE.out.low ((HFi.out.trans hF').old (by omega))) (HN.out.lowB ((HFi.out.trans hF').old (by omega))) _ hW' (by rw [List.length_append]; simp; omega) (hF'.blk HBw2.out (by decide) (by omega)) (hF'.blk HBn2.out (by decide) (by omega))))
    rw [HX.out] at HWc
    go_wp2_with fail
    refine HWc.out.mono ?_
    rintro e w1 ⟨rfl, hW1, hF1⟩
    have HW1 := Lib.hid hW1
    have HF1 := Lib.hid (HFi.out.trans hF1)
    clear hW1 hF1
    go_wp2
    exact ⟨rfl, .tuple #[], by simp [results, Tryz.results90, go_sem], rfl, HW1.out, HF1.out⟩
  · go_enter Tryz.func90, Tryz.ntmps90
    go_upto_region 1 with (fail)
    generalize (w.alloc _).alloc _ = W at *
    have hs1 := hb1.size
    have h7 := HBn.out.c7
    have c0 := HBw.out.cell 0
    simp at c0
    have HBi := Lib.hid (Blk.new W 118 #[.int .i64 7, .int .i64 1, .int .i64 0, .int .i64 0, .int .i64 0, .slice none 0 0])
    have hbi := (Below.refl W.heap.size W).alloc (Nat.le_refl _) (.cells #[.int .i64 7, .int .i64 1, .int .i64 0, .int .i64 0, .int .i64 0, .slice none 0 0] 118)
    have HWi := Lib.hid (HW0.out.on hbi)
    have HFi := Lib.hid (HF0.out.trans (FrW.of_below (n₀ := n₀) (wb := wb) hbi))
    have HBn2 := Lib.hid (HBn.out.on hbi)
    have HBw2 := Lib.hid (HBw.out.on hbi)
    go_upto_region 2 with (fail)
    have hsi := hbi.size
    obtain ⟨bi, hbie⟩ : ∃ bi, bi = W.heap.size := ⟨_, rfl⟩
    have hbil : w.heap.size ≤ bi ∧ wb < bi ∧ w.heap.size + 1 < bi := by rw [hbie]; have := HBn.out.lt; omega
    have hbiW : W.heap.size ≤ bi := by omega
    rw [← hbie] at HBi ⊢
    clear hbie h7 c0
    generalize W.alloc _ = W2 at *
    have h7 := HBn2.out.c7
    have c0 := HBw2.out.cell 0
    simp at c0
    have b6 := HBi.out.c6_
    have HX : Hid (withinC (.i 7 1 0 0 0) (kidsC fo nd) = lookN fo nd) := Lib.hid (by unfold lookN; rw [← hmd.out]; rfl)
    have HWc := Lib.hid (within_code (w := W2) (M := M) (p1 := .pointer (some ⟨w.heap.size, 0, none⟩)) (p2 := .pointer (some ⟨w.heap.size + 1, 0, none⟩)) (.inr (.inr rfl)) 7 1 0 0 (.inl rfl) (kidsC fo nd) HWi.out (by omega) (fun W' hW' hF' =>
      HClo.out W' _ _ (HE.out.low ((HFi.out.trans hF').old (by omega))) (HN.out.lowB ((HFi.out.trans hF').old (by omega))) _ hW' (by rw [List.length_append]; simp; omega) (hF'.blk HBw2.out (by decide) (by omega)) (hF'.blk HBn2.out (by decide) (by omega))))
    rw [HX.out] at HWc
    go_wp2_with fail
    refine HWc.out.mono ?_
    rintro e w1 ⟨rfl, hW1, hF1⟩
    have HW1 := Lib.hid hW1
    have HF1 := Lib.hid (HFi.out.trans hF1)
    clear hW1 hF1
    go_wp2
    exact ⟨rfl, .tuple #[], by simp [results, Tryz.results90, go_sem], rfl, HW1.out, HF1.out⟩
  · go_enter Tryz.func90, Tryz.ntmps90
    go_upto_region 1 with (fail)
    generalize (w.alloc _).alloc _ = W at *
    have hs1 := hb1.size
    have h7 := HBn.out.c7
    have c0 := HBw.out.cell 0
    simp at c0
    have HBi := Lib.hid (Blk.new W 118 #[.int .i64 7, .int .i64 2, .int .i64 0, .int .i64 0, .int .i64 0, .slice none 0 0])
    have hbi := (Below.refl W.heap.size W).alloc (Nat.le_refl _) (.cells #[.int .i64 7, .int .i64 2, .int .i64 0, .int .i64 0, .int .i64 0, .slice none 0 0] 118)
    have HWi := Lib.hid (HW0.out.on hbi)
    have HFi := Lib.hid (HF0.out.trans (FrW.of_below (n₀ := n₀) (wb := wb) hbi))
    have HBn2 := Lib.hid (HBn.out.on hbi)
    have HBw2 := Lib.hid (HBw.out.on hbi)
    go_upto_region 2 with (fail)
    have hsi := hbi.size
    obtain ⟨bi, hbie⟩ : ∃ bi, bi = W.heap.size := ⟨_, rfl⟩
    have hbil : w.heap.size ≤ bi ∧ wb < bi ∧ w.heap.size + 1 < bi := by rw [hbie]; have := HBn.out.lt; omega
    have hbiW : W.heap.size ≤ bi := by omega
    rw [← hbie] at HBi ⊢
    clear hbie h7 c0
    generalize W.alloc _ = W2 at *
    have h7 := HBn2.out.c7
    have c0 := HBw2.out.cell 0
    simp at c0
    have b6 := HBi.out.c6_
    have f3 := HBi.out.frozen 3
    have f4 := HBi.out.frozen 4
    have HWd := Lib.hid (width_cat nd.kids hkw hm W2 A2 p2 b off ((HK.out.low (HFi.out.old (by omega))).up (by have := HFi.out.size; omega)))
    go_wp2_with fail
    refine HWd.out.mono ?_
    rintro e w3 ⟨rfl, hb3⟩
    have HW3 := Lib.hid (HWi.out.on hb3)
    have HF3 := Lib.hid (HFi.out.trans (FrW.of_below (n₀ := n₀) (wb := wb) hb3))
    have HBi3 := Lib.hid (HBi.out.on hb3)
    have HBn3 := Lib.hid (HBn2.out.on hb3)
    have HBw3 := Lib.hid (HBw2.out.on hb3)
    have hs3 := hb3.size
    clear h7 c0 b6 f3 f4
    have f3 := HBi3.out.frozen 3
    have f4 := HBi3.out.frozen 4
    have b6 := HBi3.out.c6_
    go_upto_region 4 with (fail)
    have HB9 : Hid (Blk ((w3.setCell ⟨bi, 3, none⟩ (.int .i64 (loSum nd.kids))).setCell ⟨bi, 4, none⟩ (.int .i64 (hiSum nd.kids))) bi 118 #[.int .i64 7, .int .i64 2, .int .i64 0, .int .i64 (loSum nd.kids), .int .i64 (hiSum nd.kids), .slice none 0 0]) := Lib.hid ((HBi3.out.set_ 3 (.int .i64 (loSum nd.kids))).set_ 4 (.int .i64 (hiSum nd.kids)))
    have HBn9 : Hid (Blk ((w3.setCell ⟨bi, 3, none⟩ (.int .i64 (loSum nd.kids))).setCell ⟨bi, 4, none⟩ (.int .i64 (hiSum nd.kids))) (w.heap.size + 1) 27 #[.int .i64 nd.kind, .int .i64 nd.lo, .int .i64 nd.hi, .int .i64 2, .int .i64 nd.ref, .slice A1 nd.set.length p1, .slice A2 nd.kids.length p2]) := Lib.hid ((HBn3.out.far (p := ⟨bi, 3, none⟩) (by simp only; omega) _).far (p := ⟨bi, 4, none⟩) (by simp only; omega) _)
    have HBw9 : Hid (Blk ((w3.setCell ⟨bi, 3, none⟩ (.int .i64 (loSum nd.kids))).setCell ⟨bi, 4, none⟩ (.int .i64 (hiSum nd.kids))) w.heap.size 137 #[.pointer (some ⟨wb, 0, none⟩)]) := Lib.hid ((HBw3.out.far (p := ⟨bi, 3, none⟩) (by simp only; omega) _).far (p := ⟨bi, 4, none⟩) (by simp only; omega) _)
    have hbl9 : Below W.heap.size W ((w3.setCell ⟨bi, 3, none⟩ (.int .i64 (loSum nd.kids))).setCell ⟨bi, 4, none⟩ (.int .i64 (hiSum nd.kids))) := ((hbi.trans (hb3.mono hsi)).setCell (show W.heap.size ≤ (⟨bi, 3, none⟩ : Addr).block by simp only; omega) _).setCell (show W.heap.size ≤ (⟨bi, 4, none⟩ : Addr).block by simp only; omega) _
    have HW9 := Lib.hid (HW0.out.on hbl9)
    have HF9 := Lib.hid (HF0.out.trans (FrW.of_below (n₀ := n₀) (wb := wb) hbl9))
    clear b6 f3 f4
    generalize (w3.setCell _ _).setCell _ _ = w9 at *
    have h7 := HBn9.out.c7
    have c0 := HBw9.out.cell 0
    simp at c0
    have b6 := HB9.out.c6_
    have HX : Hid (withinC (.i 7 2 0 (loSum nd.kids) (hiSum nd.kids)) (kidsC fo nd) = lookN fo nd) := Lib.hid (by unfold lookN; rw [← hmd.out]; rfl)
    have HWc := Lib.hid (within_code (w := w9) (M := M) (p1 := .pointer (some ⟨w.heap.size, 0, none⟩)) (p2 := .pointer (some ⟨w.heap.size + 1, 0, none⟩)) (.inr (.inr rfl)) 7 2 (loSum nd.kids) (hiSum nd.kids) (.inl rfl) (kidsC fo nd) HW9.out (by omega) (fun W' hW' hF' =>
      HClo.out W' _ _ (HE.out.low ((HF9.out.trans hF').old (by omega))) (HN.out.lowB ((HF9.out.trans hF').old (by omega))) _ hW' (by rw [List.length_append]; simp; omega) (hF'.blk HBw9.out (by decide) (by omega)) (hF'.blk HBn9.out (by decide) (by omega))))
    rw [HX.out] at HWc
    go_wp2_with fail
    refine HWc.out.mono ?_
    rintro e w1 ⟨rfl, hW1, hF1⟩
    have HW1 := Lib.hid hW1
    have HF1 := Lib.hid (HF9.out.trans hF1)
    clear hW1 hF1
    go_wp2
    exact ⟨rfl, .tuple #[], by simp [results, Tryz.results90, go_sem], rfl, HW1.out, HF1.out⟩
  · go_enter Tryz.func90, Tryz.ntmps90
    go_upto_region 1 with (fail)
    generalize (w.alloc _).alloc _ = W at *
    have hs1 := hb1.size
    have h7 := HBn.out.c7
    have c0 := HBw.out.cell 0
    simp at c0
    have HBi := Lib.hid (Blk.new W 118 #[.int .i64 7, .int .i64 3, .int .i64 0, .int .i64 0, .int .i64 0, .slice none 0 0])
    have hbi := (Below.refl W.heap.size W).alloc (Nat.le_refl _) (.cells #[.int .i64 7, .int .i64 3, .int .i64 0, .int .i64 0, .int .i64 0, .slice none 0 0] 118)
    have HWi := Lib.hid (HW0.out.on hbi)
    have HFi := Lib.hid (HF0.out.trans (FrW.of_below (n₀ := n₀) (wb := wb) hbi))
    have HBn2 := Lib.hid (HBn.out.on hbi)
    have HBw2 := Lib.hid (HBw.out.on hbi)
    go_upto_region 2 with (fail)
    have hsi := hbi.size
    obtain ⟨bi, hbie⟩ : ∃ bi, bi = W.heap.size := ⟨_, rfl⟩
    have hbil : w.heap.size ≤ bi ∧ wb < bi ∧ w.heap.size + 1 < bi := by rw [hbie]; have := HBn.out.lt; omega
    have hbiW : W.heap.size ≤ bi := by omega
    rw [← hbie] at HBi ⊢
    clear hbie h7 c0
    generalize W.alloc _ = W2 at *
    have h7 := HBn2.out.c7
    have c0 := HBw2.out.cell 0
    simp at c0
    have b6 := HBi.out.c6_
    have f3 := HBi.out.frozen 3
    have f4 := HBi.out.frozen 4
    have HWd := Lib.hid (width_cat nd.kids hkw hm W2 A2 p2 b off ((HK.out.low (HFi.out.old (by omega))).up (by have := HFi.out.size; omega)))
    go_wp2_with fail
    refine HWd.out.mono ?_
    rintro e w3 ⟨rfl, hb3⟩
    have HW3 := Lib.hid (HWi.out.on hb3)
    have HF3 := Lib.hid (HFi.out.trans (FrW.of_below (n₀ := n₀) (wb := wb) hb3))
    have HBi3 := Lib.hid (HBi.out.on hb3)
    have HBn3 := Lib.hid (HBn2.out.on hb3)
    have HBw3 := Lib.hid (HBw2.out.on hb3)
    have hs3 := hb3.size
    clear h7 c0 b6 f3 f4
    have f3 := HBi3.out.frozen 3
    have f4 := HBi3.out.frozen 4
    have b6 := HBi3.out.c6_
    go_upto_region 4 with (fail)
    have HB9 : Hid (Blk ((w3.setCell ⟨bi, 3, none⟩ (.int .i64 (loSum nd.kids))).setCell ⟨bi, 4, none⟩ (.int .i64 (hiSum nd.kids))) bi 118 #[.int .i64 7, .int .i64 3, .int .i64 0, .int .i64 (loSum nd.kids), .int .i64 (hiSum nd.kids), .slice none 0 0]) := Lib.hid ((HBi3.out.set_ 3 (.int .i64 (loSum nd.kids))).set_ 4 (.int .i64 (hiSum nd.kids)))
    have HBn9 : Hid (Blk ((w3.setCell ⟨bi, 3, none⟩ (.int .i64 (loSum nd.kids))).setCell ⟨bi, 4, none⟩ (.int .i64 (hiSum nd.kids))) (w.heap.size + 1) 27 #[.int .i64 nd.kind, .int .i64 nd.lo, .int .i64 nd.hi, .int .i64 3, .int .i64 nd.ref, .slice A1 nd.set.length p1, .slice A2 nd.kids.length p2]) := Lib.hid ((HBn3.out.far (p := ⟨bi, 3, none⟩) (by simp only; omega) _).far (p := ⟨bi, 4, none⟩) (by simp only; omega) _)
    have HBw9 : Hid (Blk ((w3.setCell ⟨bi, 3, none⟩ (.int .i64 (loSum nd.kids))).setCell ⟨bi, 4, none⟩ (.int .i64 (hiSum nd.kids))) w.heap.size 137 #[.pointer (some ⟨wb, 0, none⟩)]) := Lib.hid ((HBw3.out.far (p := ⟨bi, 3, none⟩) (by simp only; omega) _).far (p := ⟨bi, 4, none⟩) (by simp only; omega) _)
    have hbl9 : Below W.heap.size W ((w3.setCell ⟨bi, 3, none⟩ (.int .i64 (loSum nd.kids))).setCell ⟨bi, 4, none⟩ (.int .i64 (hiSum nd.kids))) := ((hbi.trans (hb3.mono hsi)).setCell (show W.heap.size ≤ (⟨bi, 3, none⟩ : Addr).block by simp only; omega) _).setCell (show W.heap.size ≤ (⟨bi, 4, none⟩ : Addr).block by simp only; omega) _
    have HW9 := Lib.hid (HW0.out.on hbl9)
    have HF9 := Lib.hid (HF0.out.trans (FrW.of_below (n₀ := n₀) (wb := wb) hbl9))
    clear b6 f3 f4
    generalize (w3.setCell _ _).setCell _ _ = w9 at *
    have h7 := HBn9.out.c7
    have c0 := HBw9.out.cell 0
    simp at c0
    have b6 := HB9.out.c6_
    have HX : Hid (withinC (.i 7 3 0 (loSum nd.kids) (hiSum nd.kids)) (kidsC fo nd) = lookN fo nd) := Lib.hid (by unfold lookN; rw [← hmd.out]; rfl)
    have HWc := Lib.hid (within_code (w := w9) (M := M) (p1 := .pointer (some ⟨w.heap.size, 0, none⟩)) (p2 := .pointer (some ⟨w.heap.size + 1, 0, none⟩)) (.inr (.inr rfl)) 7 3 (loSum nd.kids) (hiSum nd.kids) (.inl rfl) (kidsC fo nd) HW9.out (by omega) (fun W' hW' hF' =>
      HClo.out W' _ _ (HE.out.low ((HF9.out.trans hF').old (by omega))) (HN.out.lowB ((HF9.out.trans hF').old (by omega))) _ hW' (by rw [List.length_append]; simp; omega) (hF'.blk HBw9.out (by decide) (by omega)) (hF'.blk HBn9.out (by decide) (by omega))))
    rw [HX.out] at HWc
    go_wp2_with fail
    refine HWc.out.mono ?_
    rintro e w1 ⟨rfl, hW1, hF1⟩
    have HW1 := Lib.hid hW1
    have HF1 := Lib.hid (HF9.out.trans hF1)
    clear hW1 hF1
    go_wp2
    exact ⟨rfl, .tuple #[], by simp [results, Tryz.results90, go_sem], rfl, HW1.out, HF1.out⟩

end Go.Proofs.YtdbddbelhgkelaaGreatDoor

