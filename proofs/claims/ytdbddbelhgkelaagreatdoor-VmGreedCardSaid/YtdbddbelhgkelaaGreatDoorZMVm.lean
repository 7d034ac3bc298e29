/- Joined: VmM, VmP, VmF, VmG, VmH, VmI, VmJ, VmAb, VmAg. -/
import Derived.Test.YtdbddbelhgkelaaGreatDoorZMPg
import Derived.Test.YtdbddbelhgkelaaGreatDoorZMModel
/- The machine, as a function. Of no program. -/
namespace Go.Proofs.YtdbddbelhgkelaaGreatDoor
open Go.Proofs.YtdbddbelhgkelaaGreatDoor.Cl

/-- What all runs of a match share. -/
structure Ms where
  steps : Nat
  deep : Nat
  sl : List Int
  chg : List (Nat × Int)
  cho : List (Nat × Nat × Nat)
/-- A slot is changed. -/
def Ms.put (s : Ms) (i : Nat) (v : Int) : Ms := { s with chg := s.chg ++ [(i, s.sl.getD i 0)], sl := s.sl.set i v }
/-- The slots as they were when there were so many changes. -/
def undoL (sl : List Int) (l : List (Nat × Int)) : List Int := l.foldr (fun c s => s.set c.1 c.2) sl
def Ms.undo (s : Ms) (n : Nat) : Ms := { s with chg := s.chg.take n, sl := undoL s.sl (s.chg.drop n) }
/-- A run: where it is, where it is due, and how many choices and changes there were when it began. -/
structure Rn where
  place : Nat
  at_ : Nat
  tg : Int
  fc : Nat
  fg : Nat
/-- 0 failed, 1 succeeded, 2 over, 3 under way. -/
abbrev Out := Nat × Nat × Nat × Ms
def word (U : List Int) (i : Int) : Bool := if i < 0 then false else match U[i.toNat]? with | none => false | some u => decide ((97 ≤ u ∧ u ≤ 122) ∨ (65 ≤ u ∧ u ≤ 90) ∨ (48 ≤ u ∧ u ≤ 57) ∨ u = 95)
def edgeB (U : List Int) (p : Nat) (a : Int) : Bool :=
  if a = 0 then decide (p = 0) else if a = 1 then decide (p = U.length)
  else decide ((word U ((p : Int) - 1) != word U p) = decide (a = 2))
def splitM (stack : Nat) (x : In) (p : Nat) (s : Ms) (pl : Nat) : Out :=
  if s.cho.length = stack then (2, pl, p, s)
  else (3, x.a.toNat, p, { s with cho := s.cho ++ [(x.b.toNat, p, s.chg.length)], deep := max s.deep (s.cho.length + 1) })
def setM (U : List Int) (x : In) (p : Nat) (s : Ms) (pl : Nat) : Out :=
  match U[p]? with
  | none => (0, pl, p, s)
  | some u => if hasB x.set u then (3, pl + 1, p + 1, s) else (0, pl, p, s)
/-- One instruction; rec: a run of its own. -/
def stepM (X : List In) (U : List Int) (stack : Nat) (rec : Nat → Nat → Ms → Nat × Nat × Ms) (tg : Int) (pl p : Nat) (s : Ms) : Out :=
  match X[pl]? with
  | none => (2, pl, p, s)
  | some x =>
    if x.op = 0 then (1, pl, p, s)
    else if x.op = 9 then (if tg = -1 ∨ (p : Int) = tg then 1 else 0, pl, p, s)
    else if x.op = 2 then (3, x.a.toNat, p, s)
    else if x.op = 3 then splitM stack x p s pl
    else if x.op = 8 then
      let r := rec (pl + 1) p s
      if r.1 = 1 then (3, x.b.toNat, r.2.1, r.2.2) else (r.1, pl, p, r.2.2)
    else if x.op = 1 then setM U x p s pl
    else if x.op = 4 then (3, pl + 1, p, s.put x.a.toNat p)
    else if x.op = 10 then (3, pl + 1, p, s.put (20 + x.a.toNat) p)
    else if x.op = 11 then (if s.sl.getD (20 + x.a.toNat) 0 = (p : Int) then (0, pl, p, s) else (3, pl + 1, p, s))
    else if x.op = 6 then (if edgeB U p x.a then (3, pl + 1, p, s) else (0, pl, p, s))
    else (2, pl, p, s)
/-- Back to the run's last choice. -/
def backM (fc : Nat) (s : Ms) : Option (Nat × Nat × Ms) :=
  if s.cho.length ≤ fc then none
  else match s.cho.getLast? with
  | none => none
  | some c => some (c.1, c.2.1, ({ s with cho := s.cho.dropLast } : Ms).undo c.2.2)
/-- What comes of a run that ended so. -/
def endM (fc fg : Nat) (o : Out) : Nat × Nat × Ms :=
  if o.1 = 1 then (1, o.2.2.1, { o.2.2.2 with cho := o.2.2.2.cho.take fc })
  else if o.1 = 0 then (0, o.2.2.1, o.2.2.2.undo fg)
  else (o.1, o.2.2.1, o.2.2.2)
def goM (X : List In) (U : List Int) (fuel stack : Nat) : Nat → Int → Nat → Nat → Nat → Nat → Ms → Nat × Nat × Ms
  | 0, _, _, _, _, p, s => (2, p, s)
  | k + 1, tg, fc, fg, pl, p, s =>
    if fuel ≤ s.steps then (2, p, s)
    else
      let o := stepM X U stack (fun pl p s => goM X U fuel stack k (-1) s.cho.length s.chg.length pl p s) tg pl p { s with steps := s.steps + 1 }
      if o.1 = 3 then goM X U fuel stack k tg fc fg o.2.1 o.2.2.1 o.2.2.2
      else if o.1 = 0 then
        match backM fc o.2.2.2 with
        | some (pl', p', s') => goM X U fuel stack k tg fc fg pl' p' s'
        | none => endM fc fg o
      else endM fc fg o
/-- A run that begins. -/
def runM (X : List In) (U : List Int) (fuel stack k : Nat) (tg : Int) (pl p : Nat) (s : Ms) : Nat × Nat × Ms := goM X U fuel stack k tg s.cho.length s.chg.length pl p s
def startM (X : List In) : Ms := ⟨0, 0, List.replicate (20 + marks X) (-1), [], []⟩
/-- Runs at one position after the other, n positions at most. -/
def findM (X : List In) (U : List Int) (fuel stack : Nat) : Nat → Nat → Ms → Nat × Ms
  | 0, _, s => (0, s)
  | n + 1, p, s =>
    let r := runM X U fuel stack fuel (-1) 0 p s
    if r.1 = 0 then findM X U fuel stack n (p + 1) r.2.2 else (r.1, r.2.2)
theorem goM_step (X : List In) (U : List Int) (fuel stack k : Nat) (tg : Int) (fc fg pl p : Nat) (s : Ms) (h : s.steps < fuel) :
    goM X U fuel stack (k + 1) tg fc fg pl p s =
      let o := stepM X U stack (fun pl p s => runM X U fuel stack k (-1) pl p s) tg pl p { s with steps := s.steps + 1 }
      if o.1 = 3 then goM X U fuel stack k tg fc fg o.2.1 o.2.2.1 o.2.2.2
      else if o.1 = 0 then
        match backM fc o.2.2.2 with
        | some (pl', p', s') => goM X U fuel stack k tg fc fg pl' p' s'
        | none => endM fc fg o
      else endM fc fg o := by
  rw [goM, if_neg (by omega)]
  rfl

/-! ### The examples -/
def exA : List In := [.i 4 0 0 0 0, .i 3 2 6 0 0, .i 10 0 0 0 0, ⟨1, 0, 0, 0, 0, [(97, 97)]⟩, .i 11 0 0 0 0, .i 2 1 0 0 0, ⟨1, 0, 0, 0, 0, [(98, 98)]⟩, .i 4 1 0 0 0, .i 0 0 0 0 0]
theorem ex_a : (runM exA [97, 97, 98] 30 4096 30 (-1) 0 0 (startM exA)).1 = 1 ∧ (runM exA [97, 97, 98] 30 4096 30 (-1) 0 0 (startM exA)).2.2.steps = 17 ∧ (runM exA [97, 97, 98] 30 4096 30 (-1) 0 0 (startM exA)).2.2.deep = 3 := by decide

end Go.Proofs.YtdbddbelhgkelaaGreatDoor

/- Programs of plain letters, and what the machine does with them. Of no program. -/
namespace Go.Proofs.YtdbddbelhgkelaaGreatDoor
open Go.Proofs.YtdbddbelhgkelaaGreatDoor.Cl

/-! ### More fuel changes nothing -/
theorem stepM_mono {X : List In} {U : List Int} {stack : Nat} {f g : Nat → Nat → Ms → Nat × Nat × Ms} (hfg : ∀ pl p s, (f pl p s).1 ≠ 2 → g pl p s = f pl p s) {tg : Int} {pl p : Nat} {s : Ms}
    (h : (stepM X U stack f tg pl p s).1 ≠ 2) : stepM X U stack g tg pl p s = stepM X U stack f tg pl p s := by
  unfold stepM at h ⊢
  cases hx : X[pl]? with
  | none => rfl
  | some x =>
    simp only [hx] at h
    simp only
    by_cases o8 : x.op = 8
    · have e0 : ¬ x.op = 0 := by omega
      have e9 : ¬ x.op = 9 := by omega
      have e2 : ¬ x.op = 2 := by omega
      have e3 : ¬ x.op = 3 := by omega
      rw [if_neg e0, if_neg e9, if_neg e2, if_neg e3, if_pos o8] at h
      rw [if_neg e0, if_neg e9, if_neg e2, if_neg e3, if_pos o8, if_neg e0, if_neg e9, if_neg e2, if_neg e3, if_pos o8]
      have : (f (pl + 1) p s).1 ≠ 2 := by
        intro h2
        rw [h2] at h
        exact h rfl
      rw [hfg _ _ _ this]
    · simp only [o8, if_false]
theorem endM_two {fc fg : Nat} {o : Out} (h : (endM fc fg o).1 ≠ 2) : o.1 ≠ 2 := by
  intro h2
  unfold endM at h
  rw [h2] at h
  exact h rfl
theorem goM_mono {X : List In} {U : List Int} {stack : Nat} : ∀ (k : Nat) {k' fuel fuel' : Nat} {tg : Int} {fc fg pl p : Nat} {s : Ms}, k ≤ k' → fuel ≤ fuel' → (goM X U fuel stack k tg fc fg pl p s).1 ≠ 2 →
    goM X U fuel' stack k' tg fc fg pl p s = goM X U fuel stack k tg fc fg pl p s
  | 0, _, _, _, _, _, _, _, _, _, _, _, h => absurd rfl h
  | k + 1, 0, _, _, _, _, _, _, _, _, hk, _, _ => absurd hk (by omega)
  | k + 1, k' + 1, fuel, fuel', tg, fc, fg, pl, p, s, hk, hf, h => by
    have hlt : s.steps < fuel := by
      apply Classical.byContradiction
      intro hge
      rw [goM, if_pos (by omega)] at h
      exact h rfl
    have hk1 : k ≤ k' := by omega
    rw [goM_step _ _ _ _ _ _ _ _ _ _ _ hlt] at h ⊢
    rw [goM_step _ _ _ _ _ _ _ _ _ _ _ (by omega)]
    have hrec : ∀ pl p s, (runM X U fuel stack k (-1) pl p s).1 ≠ 2 → runM X U fuel' stack k' (-1) pl p s = runM X U fuel stack k (-1) pl p s := fun pl p s hne => by
      unfold runM at hne ⊢
      exact goM_mono k hk1 hf hne
    have ho : (stepM X U stack (fun pl p s => runM X U fuel stack k (-1) pl p s) tg pl p { s with steps := s.steps + 1 }).1 ≠ 2 := by
      intro h2
      simp only [h2] at h
      exact endM_two h h2
    have hs := stepM_mono hrec ho
    rw [hs]
    generalize stepM X U stack (fun pl p s => runM X U fuel stack k (-1) pl p s) tg pl p { s with steps := s.steps + 1 } = o at h ho ⊢
    simp only at h ⊢
    by_cases h3 : o.1 = 3
    · simp only [h3, if_true] at h ⊢
      exact goM_mono k hk1 hf h
    · simp only [h3, if_false] at h ⊢
      by_cases h0 : o.1 = 0
      · simp only [h0, if_true] at h ⊢
        cases hb : backM fc o.2.2.2 with
        | none => rfl
        | some q =>
          obtain ⟨a, b, c⟩ := q
          rw [hb] at h
          simp only at h ⊢
          exact goM_mono k hk1 hf h
      · simp only [h0, if_false]

/-! ### Letters -/
def uI (c : UInt8) : In := ⟨1, 0, 0, 0, 0, [((c.toNat : Int), (c.toNat : Int))]⟩
def plainC (s : List UInt8) : List In := saveI 0 :: (s.map uI ++ [saveI 1, .i 0 0 0 0 0])
def uN (c : UInt8) : Nd := setN [((c.toNat : Int), (c.toNat : Int))]
def Low (s : List UInt8) : Prop := ∀ c ∈ s, 97 ≤ c.toNat ∧ c.toNat ≤ 122

theorem low_atom {c : UInt8} {t : List UInt8} (hc : 97 ≤ c.toNat ∧ c.toNat ≤ 122) (p g : Nat) (bk : List (Nat × Nat)) : atomP ⟨p, c :: t, g, bk⟩ = .ok (uN c, ⟨p + 1, t, g, bk⟩) := by
  have a0 : at_ (c :: t) 0 = c.toNat := rfl
  have hq : isQ c.toNat = false := by unfold isQ; simp; omega
  have hn : nx (c :: t) = (c.toNat, 1) := by rw [nx_small (by simp) (by rw [a0]; omega), a0]
  unfold atomP
  simp only [a0, hq, hn]
  rw [if_neg (by omega), if_neg (by omega)]
  simp only [Bool.false_eq_true, if_false]
  rw [if_neg (by omega), if_neg (by omega), if_neg (by omega), if_neg (by omega)]
  rfl
theorem low_quant {t : List UInt8} (h : Low t) (gr : Bool) (a : Nd) (p g : Nat) (bk : List (Nat × Nat)) : quantRest gr a ⟨p, t, g, bk⟩ = .ok (a, ⟨p, t, g, bk⟩) := by
  have : isQ (at_ t 0) = false := by
    cases t with
    | nil => rfl
    | cons c t =>
      have := h c (by simp)
      have a0 : at_ (c :: t) 0 = c.toNat := rfl
      rw [a0]; unfold isQ; simp; omega
  unfold quantRest
  simp only [this, Bool.false_eq_true, if_false]
theorem low_row : ∀ (s : List UInt8) (n : Nat) (acc : List Nd) (p : Nat), Low s → s.length < n → run (n + 1) 1 0 acc ⟨p, s, 0, []⟩ = .ok (joinR (acc ++ s.map uN), ⟨p + s.length, [], 0, []⟩)
  | [], n, acc, p, _, _ => by rw [run_row]; simp
  | c :: s, n + 1, acc, p, hl, hn => by
    have hc := hl c (by simp)
    have hls : Low s := fun x hx => hl x (by simp [hx])
    have a0 : at_ (c :: s) 0 = c.toNat := rfl
    have h2 : run (n + 1) 2 0 [] ⟨p, c :: s, 0, []⟩ = .ok (uN c, ⟨p + 1, s, 0, []⟩) := by
      rw [run_quant]
      simp only [a0]
      rw [if_neg (by omega), low_atom hc]
      exact low_quant hls _ _ _ _ _
    rw [run_row]
    simp only [a0]
    rw [if_neg (by simp; omega), h2]
    simp only
    simp only [List.length_cons] at hn
    rw [low_row s n (acc ++ [uN c]) (p + 1) hls (by omega)]
    simp
    omega
theorem low_parse {s : List UInt8} (h : Low s) (hl : s.length ≤ 100) : parse 1026 s = .ok (joinR (s.map uN), 0, false) := by
  have hf : foldAt s = false := by
    unfold foldAt pre
    cases s with
    | nil => rfl
    | cons c t =>
      have := h c (by simp)
      have hne : (40 == c) = false := by
        apply beq_false_of_ne
        intro e
        rw [← e] at this
        exact absurd this (by decide)
      simp [List.isPrefixOf, hne]
  have hr := low_row s 1024 [] 0 h (by omega)
  have hrun : run 1026 0 0 [] ⟨0, s, 0, []⟩ = .ok (joinR (s.map uN), ⟨0 + s.length, [], 0, []⟩) := by
    rw [show (1026 : Nat) = 1025 + 1 from rfl, run_alts, hr]
    rfl
  unfold parse begins
  rw [if_neg (by omega), hf]
  simp only [Bool.false_eq_true, if_false]
  rw [hrun]
  rfl
theorem row_units (s : List UInt8) : rowC (s.map fun c => [uI c]) = s.map uI := by
  induction s with
  | nil => rfl
  | cons c s ih =>
    rw [List.map_cons, rowC, ih]
    unfold app
    have : ∀ x ∈ s.map uI, sh (([uI c] : List In).length : Nat) (marks [uI c] : Nat) x = x := by
      intro x hx
      obtain ⟨d, _, rfl⟩ := List.mem_map.1 hx
      rfl
    rw [List.map_congr_left this, List.map_id']
    rfl
theorem low_code (s : List UInt8) : code false (joinR (s.map uN)) = s.map uI := by
  cases s with
  | nil => rfl
  | cons c s =>
    cases s with
    | nil => rfl
    | cons d s =>
      have : joinR ((c :: d :: s).map uN) = catN ((c :: d :: s).map uN) := rfl
      rw [this]
      unfold catN
      rw [code_eq]
      unfold cF
      rw [if_neg (by decide), if_pos rfl, List.map_map]
      exact row_units _
theorem low_whole (s : List UInt8) : whole false (joinR (s.map uN)) = plainC s := by
  unfold whole
  rw [low_code]
  unfold plainC
  have e : app (s.map uI) (app [saveI 1] [.i 0 0 0 0 0]) = s.map uI ++ [saveI 1, .i 0 0 0 0 0] := by
    have : app [saveI 1] [In.i 0 0 0 0 0] = [saveI 1, .i 0 0 0 0 0] := rfl
    rw [this]
    unfold app
    rfl
  rw [e]
  unfold app
  have : ∀ x ∈ s.map uI ++ [saveI 1, In.i 0 0 0 0 0], sh (([saveI 0] : List In).length : Nat) (marks [saveI 0] : Nat) x = x := by
    intro x hx
    rcases List.mem_append.1 hx with hx | hx
    · obtain ⟨d, _, rfl⟩ := List.mem_map.1 hx
      rfl
    · simp at hx
      rcases hx with rfl | rfl <;> rfl
  rw [List.map_congr_left this, List.map_id']
  rfl
theorem low_verdict (s : List UInt8) (h : s.length ≤ 100) : verdictN (joinR (s.map uN)) = 0 := by
  have hb : ∀ l : List UInt8, (l.map uN).all bounded = true := fun l => by
    rw [List.all_map]
    exact List.all_eq_true.2 fun c _ => rfl
  have hs : ∀ l : List UInt8, ((l.map uN).map ndSize).sum = l.length := by
    intro l
    induction l with
    | nil => rfl
    | cons c l ih =>
      rw [List.map_cons, List.map_cons, List.sum_cons, ih]
      have : ndSize (uN c) = 1 := rfl
      rw [this]
      simp
      omega
  cases s with
  | nil => rfl
  | cons c s =>
    cases s with
    | nil => rfl
    | cons d s =>
      have : joinR ((c :: d :: s).map uN) = catN ((c :: d :: s).map uN) := rfl
      rw [this]
      have h1 : bounded (catN ((c :: d :: s).map uN)) = true := by
        unfold catN
        rw [bounded_eq, hb]
        rfl
      have h2 : ndSize (catN ((c :: d :: s).map uN)) = ((c :: d :: s).length : Int) := by
        unfold catN
        rw [ndSize_eq]
        unfold sizeF
        rw [if_neg (by decide), if_pos rfl, hs, cap_min]
        unfold far
        omega
      unfold verdictN
      rw [h1, if_pos rfl, h2, if_neg (by omega)]

/-! ### What the machine does with them -/
def isPre (s : List UInt8) (U : List Int) (p : Nat) : Bool := (s.map fun c => (c.toNat : Int)).isPrefixOf (U.drop p)
theorem has_one (u c : Int) : hasB [(c, c)] u = decide (u = c) := by
  unfold hasB inB
  simp only [List.any_cons, List.any_nil, Bool.or_false]
  congr 1
  apply propext
  omega
theorem plain_get (s : List UInt8) (j : Nat) (c : UInt8) (h : s[j]? = some c) : (plainC s)[j + 1]? = some (uI c) := by
  unfold plainC
  rw [List.getElem?_cons_succ, List.getElem?_append_left (by rw [List.length_map]; exact (List.getElem?_eq_some_iff.1 h).1), List.getElem?_map, h]
  rfl
theorem plain_save (s : List UInt8) : (plainC s)[s.length + 1]? = some (saveI 1) := by
  unfold plainC
  rw [List.getElem?_cons_succ, List.getElem?_append_right (by simp)]
  simp
theorem plain_match (s : List UInt8) : (plainC s)[s.length + 2]? = some (.i 0 0 0 0 0) := by
  unfold plainC
  rw [List.getElem?_cons_succ, List.getElem?_append_right (by simp)]
  simp
variable {U : List Int} {fuel stack : Nat}
theorem back_none {fc : Nat} {s : Ms} (h : s.cho.length ≤ fc) : backM fc s = none := by unfold backM; rw [if_pos h]
theorem go_save {X : List In} {k : Nat} {tg : Int} {fc fg pl p : Nat} {s : Ms} {a : Nat} (hx : X[pl]? = some (saveI a)) (h : s.steps < fuel) :
    goM X U fuel stack (k + 1) tg fc fg pl p s = goM X U fuel stack k tg fc fg (pl + 1) p (({ s with steps := s.steps + 1 } : Ms).put a p) := by
  rw [goM_step _ _ _ _ _ _ _ _ _ _ _ h]
  simp only [stepM, hx, saveI, In.i]
  rfl
theorem go_match {X : List In} {k : Nat} {tg : Int} {fc fg pl p : Nat} {s : Ms} (hx : X[pl]? = some (.i 0 0 0 0 0)) (h : s.steps < fuel) :
    goM X U fuel stack (k + 1) tg fc fg pl p s = (1, p, { s with steps := s.steps + 1, cho := s.cho.take fc }) := by
  rw [goM_step _ _ _ _ _ _ _ _ _ _ _ h]
  simp only [stepM, hx, In.i]
  rfl
theorem set_unit (c : UInt8) (p pl : Nat) (s : Ms) : setM U (uI c) p s pl = if U[p]? = some (c.toNat : Int) then (3, pl + 1, p + 1, s) else (0, pl, p, s) := by
  unfold setM uI
  cases hu : U[p]? with
  | none => rfl
  | some u =>
    simp only
    rw [has_one]
    by_cases he : u = (c.toNat : Int)
    · simp [he]
    · simp [he]
theorem go_unit {X : List In} {k : Nat} {tg : Int} {fc fg pl p : Nat} {s : Ms} {c : UInt8} (hx : X[pl]? = some (uI c)) (h : s.steps < fuel) (hc : s.cho.length ≤ fc) :
    goM X U fuel stack (k + 1) tg fc fg pl p s = if U[p]? = some (c.toNat : Int) then goM X U fuel stack k tg fc fg (pl + 1) (p + 1) { s with steps := s.steps + 1 } else (0, p, ({ s with steps := s.steps + 1 } : Ms).undo fg) := by
  have e : stepM X U stack (fun pl p s => runM X U fuel stack k (-1) pl p s) tg pl p { s with steps := s.steps + 1 } = setM U (uI c) p { s with steps := s.steps + 1 } pl := by
    unfold stepM
    rw [hx]
    rfl
  rw [goM_step _ _ _ _ _ _ _ _ _ _ _ h, e, set_unit]
  by_cases he : U[p]? = some (c.toNat : Int)
  · simp only [he, if_true]
  · simp only [he, if_false]
    rw [back_none (by exact hc)]
    rfl
theorem undo_len (sl : List Int) (l : List (Nat × Int)) : (undoL sl l).length = sl.length := by
  induction l with
  | nil => rfl
  | cons c l ih => unfold undoL at ih ⊢; rw [List.foldr_cons, List.length_set, ih]

/-- From a letter on. -/
theorem plain_go (w : List UInt8) (fc fg : Nat) : ∀ (m j k p : Nat) (s : Ms), j + m = w.length → m + 2 ≤ k → s.steps + m + 2 ≤ fuel → s.cho.length ≤ fc →
    (isPre (w.drop j) U p = true → ∃ s' : Ms, goM (plainC w) U fuel stack k (-1) fc fg (j + 1) p s = (1, p + m, s') ∧ s'.sl = s.sl.set 1 (p + m : Nat)) ∧
    (isPre (w.drop j) U p = false → ∃ (a : Nat) (s' : Ms), goM (plainC w) U fuel stack k (-1) fc fg (j + 1) p s = (0, a, s') ∧ s'.cho = s.cho ∧ s'.chg = s.chg.take fg ∧ s'.sl.length = s.sl.length ∧ s'.steps ≤ s.steps + m)
  | 0, j, k + 2, p, s, hj, _, hs, hc => by
    obtain rfl : j = w.length := by omega
    have hp : isPre (w.drop w.length) U p = true := by rw [List.drop_length]; rfl
    refine ⟨fun _ => ?_, fun h => by rw [hp] at h; cases h⟩
    rw [go_save (plain_save w) (by omega), go_match (plain_match w) (by simp [Ms.put]; omega)]
    exact ⟨_, rfl, rfl⟩
  | m + 1, j, k + 1, p, s, hj, hk, hs, hc => by
    have hjl : j < w.length := by omega
    have hd : w.drop j = w[j] :: w.drop (j + 1) := List.drop_eq_getElem_cons hjl
    have hg := go_unit (U := U) (fuel := fuel) (stack := stack) (k := k) (tg := -1) (fc := fc) (fg := fg) (p := p) (s := s) (plain_get w j _ (List.getElem?_eq_getElem hjl)) (by omega) hc
    have hpre : isPre (w.drop j) U p = (decide (U[p]? = some (w[j].toNat : Int)) && isPre (w.drop (j + 1)) U (p + 1)) := by
      unfold isPre
      rw [hd, List.map_cons]
      by_cases hpl : p < U.length
      · rw [List.drop_eq_getElem_cons hpl, List.isPrefixOf, List.getElem?_eq_getElem hpl]
        congr 1
        by_cases he : (w[j].toNat : Int) = U[p]
        · simp [he]
        · simp [he, Ne.symm he]
      · have e1 : U.drop p = [] := List.drop_eq_nil_of_le (by omega)
        have e2 : U[p]? = none := List.getElem?_eq_none (by omega)
        rw [e1, e2]
        rfl
    rw [hg, hpre]
    by_cases hu : U[p]? = some (w[j].toNat : Int)
    · simp only [hu, if_true, decide_true, Bool.true_and]
      have ih := plain_go w fc fg m (j + 1) k (p + 1) { s with steps := s.steps + 1 } (by omega) (by omega) (by simp; omega) hc
      refine ⟨fun h => ?_, fun h => ?_⟩
      · obtain ⟨s', e1, e2⟩ := ih.1 h
        refine ⟨s', ?_, ?_⟩
        · rw [e1]; congr 2; omega
        · rw [e2]; congr 2; omega
      · obtain ⟨a, s', e1, e2, e3, e4, e5⟩ := ih.2 h
        exact ⟨a, s', e1, e2, e3, e4, by simp at e5; omega⟩
    · simp only [hu, if_false, decide_false, Bool.false_and]
      refine ⟨?_, ?_⟩
      · intro h
        cases h
      · intro _
        refine ⟨p, _, rfl, rfl, rfl, undo_len _ _, ?_⟩
        show s.steps + 1 ≤ s.steps + (m + 1)
        omega
/-- A whole run. -/
theorem plain_run (w : List UInt8) {k p : Nat} {s : Ms} (hk : w.length + 3 ≤ k) (hs : s.steps + w.length + 3 ≤ fuel) (hc : s.cho = []) (hg : s.chg = []) (hl : 2 ≤ s.sl.length) :
    (isPre w U p = true → ∃ s' : Ms, runM (plainC w) U fuel stack k (-1) 0 p s = (1, p + w.length, s') ∧ s'.sl.length = s.sl.length ∧ s'.sl[0]? = some (p : Int) ∧ s'.sl[1]? = some ((p + w.length : Nat) : Int)) ∧
    (isPre w U p = false → ∃ (a : Nat) (s' : Ms), runM (plainC w) U fuel stack k (-1) 0 p s = (0, a, s') ∧ s'.cho = [] ∧ s'.chg = [] ∧ s'.sl.length = s.sl.length ∧ s'.steps ≤ s.steps + w.length + 1) := by
  obtain ⟨k, rfl⟩ : ∃ k', k = k' + 1 := ⟨k - 1, by omega⟩
  have hc0 : s.cho.length = 0 := by rw [hc]; rfl
  have hg0 : s.chg.length = 0 := by rw [hg]; rfl
  unfold runM
  rw [hc0, hg0, go_save (a := 0) (s := s) rfl (by omega)]
  have h := plain_go (U := U) (fuel := fuel) (stack := stack) w 0 0 w.length 0 k p (({ s with steps := s.steps + 1 } : Ms).put 0 p) (by omega) (by omega) (by simp [Ms.put]; omega) (by simp [Ms.put, hc])
  simp only [List.drop_zero] at h
  have l0 : 0 < s.sl.length := by omega
  have l1 : 1 < s.sl.length := by omega
  refine ⟨fun hp => ?_, fun hp => ?_⟩
  · obtain ⟨s', e1, e2⟩ := h.1 hp
    refine ⟨s', e1, ?_, ?_, ?_⟩
    · rw [e2]; simp [Ms.put]
    · rw [e2]; simp [Ms.put, l0]
    · rw [e2]; simp [Ms.put, l1]
  · obtain ⟨a, s', e1, e2, e3, e4, e5⟩ := h.2 hp
    exact ⟨a, s', e1, by rw [e2]; simp [Ms.put, hc], by rw [e3]; simp, by rw [e4]; simp [Ms.put], by simp [Ms.put] at e5; omega⟩
/-- The first place. -/
theorem plain_find (w : List UInt8) (hfw : w.length + 3 ≤ fuel) : ∀ (n p : Nat) (s : Ms), s.steps + n * (w.length + 1) + w.length + 3 ≤ fuel + (w.length + 1) → s.cho = [] → s.chg = [] → 2 ≤ s.sl.length →
    (∃ (q : Nat) (s' : Ms), p ≤ q ∧ q < p + n ∧ isPre w U q = true ∧ (∀ r, p ≤ r → r < q → isPre w U r = false) ∧ findM (plainC w) U fuel stack n p s = (1, s') ∧ s'.sl.length = s.sl.length ∧ s'.sl[0]? = some (q : Int) ∧ s'.sl[1]? = some ((q + w.length : Nat) : Int)) ∨
    ((∀ r, p ≤ r → r < p + n → isPre w U r = false) ∧ ∃ s' : Ms, findM (plainC w) U fuel stack n p s = (0, s'))
  | 0, p, s, _, _, _, _ => .inr ⟨fun r h1 h2 => absurd h2 (by omega), s, rfl⟩
  | n + 1, p, s, hs, hc, hg, hl => by
    rw [Nat.add_mul, Nat.one_mul] at hs
    have h := plain_run (U := U) (fuel := fuel) (stack := stack) w (k := fuel) (p := p) (s := s) hfw (by omega) hc hg hl
    rw [findM]
    cases hp : isPre w U p with
    | true =>
      obtain ⟨s', e1, e2, e3, e4⟩ := h.1 hp
      refine .inl ⟨p, s', Nat.le_refl _, by omega, hp, fun r h1 h2 => absurd h2 (by omega), ?_, e2, e3, e4⟩
      rw [e1]
      rfl
    | false =>
      obtain ⟨a, s', e1, e2, e3, e4, e5⟩ := h.2 hp
      rw [e1]
      simp only [if_true]
      rcases plain_find w hfw n (p + 1) s' (by omega) e2 e3 (by omega) with ⟨q, s2, h1, h2, h3, h4, h5, h6, h7, h8⟩ | ⟨h1, s2, h2⟩
      · refine .inl ⟨q, s2, by omega, by omega, h3, fun r hr1 hr2 => ?_, h5, by omega, h7, h8⟩
        by_cases hrp : r = p
        · rw [hrp]; exact hp
        · exact h4 r (by omega) hr2
      · refine .inr ⟨fun r hr1 hr2 => ?_, s2, h2⟩
        by_cases hrp : r = p
        · rw [hrp]; exact hp
        · exact h1 r (by omega) (by omega)

end Go.Proofs.YtdbddbelhgkelaaGreatDoor

/- What holds of a machine all along, whatever it does. Of no program. -/
namespace Go.Proofs.YtdbddbelhgkelaaGreatDoor
open Go.Proofs.YtdbddbelhgkelaaGreatDoor.Cl

/-- Programs without looks and references, whose ways lead into them. -/
structure InOk (X : List In) (i : Nat) (x : In) : Prop where
  op : x.op = 0 ∨ x.op = 1 ∨ x.op = 2 ∨ x.op = 3 ∨ x.op = 4 ∨ x.op = 6 ∨ x.op = 8 ∨ x.op = 9 ∨ x.op = 10 ∨ x.op = 11
  jump : x.op = 2 ∨ x.op = 3 → 0 ≤ x.a ∧ x.a < X.length
  split : x.op = 3 ∨ x.op = 8 → 0 ≤ x.b ∧ x.b < X.length
  save : x.op = 4 → 0 ≤ x.a ∧ x.a < 20
  mark : x.op = 10 ∨ x.op = 11 → 0 ≤ x.a ∧ x.a < marks X
  edge : x.op = 6 → x.a = 0 ∨ x.a = 1
  next : x.op ≠ 0 → x.op ≠ 9 → i + 1 < X.length
  set : x.set.length ≤ 1000000
def PrOk (X : List In) : Prop := X.length ≤ 2003 ∧ ∀ (i : Nat) (x : In), X[i]? = some x → InOk X i x

/-- .. of what all runs share. -/
structure Fit (X : List In) (U : List Int) (S : Nat) (s : Ms) : Prop where
  sl : s.sl.length = 20 + marks X
  chg : s.chg.length ≤ s.steps
  slot : ∀ c ∈ s.chg, c.1 < s.sl.length
  cho : s.cho.length ≤ S
  kept : ∀ c ∈ s.cho, c.1 < X.length ∧ c.2.1 ≤ U.length ∧ c.2.2 ≤ s.chg.length
  rise : s.cho.Pairwise fun a b => a.2.2 ≤ b.2.2
  deep : s.deep ≤ S
/-- .. of a run under way. -/
structure Und (s : Ms) (fc fg : Nat) : Prop where
  lc : fc ≤ s.cho.length
  lg : fg ≤ s.chg.length
  own : ∀ (i : Nat) (c : Nat × Nat × Nat), fc ≤ i → s.cho[i]? = some c → fg ≤ c.2.2
  old : ∀ (i : Nat) (c : Nat × Nat × Nat), i < fc → s.cho[i]? = some c → c.2.2 ≤ fg
/-- What a run that is through leaves of the choices and the changes that were there. -/
structure Left (s s' : Ms) (kind : Nat) : Prop where
  ok : kind = 1 → s'.cho = s.cho ∧ s.chg.length ≤ s'.chg.length
  no : kind = 0 → s'.cho = s.cho ∧ s'.chg.length = s.chg.length
  up : s.steps ≤ s'.steps
variable {X : List In} {U : List Int} {F S : Nat} {s : Ms}

theorem undoL_size (sl : List Int) (l : List (Nat × Int)) : (undoL sl l).length = sl.length := by
  induction l with
  | nil => rfl
  | cons c l ih => unfold undoL at ih ⊢; rw [List.foldr_cons, List.length_set, ih]
theorem Fit.undo (h : Fit X U S s) {n : Nat} (hk : ∀ c ∈ s.cho, c.2.2 ≤ n) : Fit X U S (s.undo n) := by
  refine ⟨by simp only [Ms.undo]; rw [undoL_size]; exact h.sl, ?_, ?_, h.cho, ?_, h.rise, h.deep⟩
  · simp only [Ms.undo]; rw [List.length_take]; have := h.chg; omega
  · intro c hc
    simp only [Ms.undo] at hc ⊢
    rw [undoL_size]
    exact h.slot c (List.mem_of_mem_take hc)
  · intro c hc
    obtain ⟨h1, h2, h3⟩ := h.kept c hc
    refine ⟨h1, h2, ?_⟩
    simp only [Ms.undo]
    rw [List.length_take]
    have := hk c hc
    omega
theorem Fit.put (h : Fit X U S s) {i : Nat} {v : Int} (hi : i < s.sl.length) (hn : s.chg.length < s.steps) : Fit X U S (s.put i v) := by
  refine ⟨by simp only [Ms.put, List.length_set]; exact h.sl, ?_, ?_, h.cho, ?_, h.rise, h.deep⟩
  · simp only [Ms.put, List.length_append, List.length_singleton]; omega
  · intro c hc
    simp only [Ms.put, List.length_set, List.mem_append, List.mem_singleton] at hc ⊢
    rcases hc with hc | rfl
    · exact h.slot c hc
    · exact hi
  · intro c hc
    obtain ⟨h1, h2, h3⟩ := h.kept c hc
    refine ⟨h1, h2, ?_⟩
    simp only [Ms.put, List.length_append, List.length_singleton]
    omega
theorem Fit.take (h : Fit X U S s) (n : Nat) : Fit X U S { s with cho := s.cho.take n } := by
  refine ⟨h.sl, h.chg, h.slot, ?_, fun c hc => h.kept c (List.mem_of_mem_take hc), h.rise.sublist (List.take_sublist _ _), h.deep⟩
  have := h.cho
  simp only [List.length_take]
  omega

/-- What one instruction leaves. -/
structure Stp (X : List In) (U : List Int) (S : Nat) (s : Ms) (o : Out) : Prop where
  fit : Fit X U S o.2.2.2
  pos : o.2.2.1 ≤ U.length
  pl : o.1 = 3 → o.2.1 < X.length
  kind : o.1 ≤ 3
  steps : s.steps ≤ o.2.2.2.steps
  pre : o.1 ≠ 2 → ∃ l, o.2.2.2.cho = s.cho ++ l ∧ ∀ c ∈ l, s.chg.length ≤ c.2.2
  chg : o.1 ≠ 2 → s.chg.length ≤ o.2.2.2.chg.length
theorem Stp.same {pl p : Nat} {kd : Nat} (h : Fit X U S s) (hk : kd ≤ 3) (hp : p ≤ U.length) (hpl : kd = 3 → pl < X.length) : Stp X U S s (kd, pl, p, s) :=
  ⟨h, hp, hpl, hk, Nat.le_refl _, fun _ => ⟨[], by simp, by simp⟩, fun _ => Nat.le_refl _⟩
/-- What a run within a run leaves. -/
structure Rec (X : List In) (U : List Int) (S : Nat) (s : Ms) (r : Nat × Nat × Ms) : Prop where
  fit : Fit X U S r.2.2
  pos : r.2.1 ≤ U.length
  kind : r.1 ≤ 2
  left : Left s r.2.2 r.1
theorem step_fit {tg : Int} (hX : PrOk X) {rec : Nat → Nat → Ms → Nat × Nat × Ms} (hrec : ∀ pl p s, Fit X U S s → pl < X.length → p ≤ U.length → Rec X U S s (rec pl p s)) {pl p : Nat} (hpl : pl < X.length) (hp : p ≤ U.length) (h : Fit X U S s) (hn : s.chg.length < s.steps) :
    Stp X U S s (stepM X U S rec tg pl p s) := by
  have hx : X[pl]? = some X[pl] := List.getElem?_eq_getElem hpl
  have hI := hX.2 pl _ hx
  unfold stepM
  rw [hx]
  generalize X[pl] = x at hI
  simp only
  by_cases o0 : x.op = 0
  · rw [if_pos o0]; exact Stp.same h (by decide) hp (by intro e; cases e)
  rw [if_neg o0]
  by_cases o9 : x.op = 9
  · rw [if_pos o9]
    split
    · exact Stp.same h (by decide) hp (by intro e; cases e)
    · exact Stp.same h (by decide) hp (by intro e; cases e)
  rw [if_neg o9]
  have hnx := hI.next o0 o9
  by_cases o2 : x.op = 2
  · rw [if_pos o2]
    have := hI.jump (.inl o2)
    exact Stp.same h (by decide) hp (fun _ => by show x.a.toNat < _; omega)
  rw [if_neg o2]
  by_cases o3 : x.op = 3
  · rw [if_pos o3]
    have hj := hI.jump (.inr o3)
    have hb := hI.split (.inl o3)
    unfold splitM
    split
    · exact Stp.same h (by decide) hp (by intro e; cases e)
    · rename_i hne
      have hc := h.cho
      refine ⟨⟨h.sl, h.chg, h.slot, ?_, ?_, ?_, ?_⟩, hp, fun _ => ?_, by show 3 ≤ 3; decide, Nat.le_refl _, fun _ => ⟨[(x.b.toNat, p, s.chg.length)], rfl, by simp⟩, fun _ => Nat.le_refl _⟩
      · simp only [List.length_append, List.length_singleton]; omega
      · intro c hc
        simp only [List.mem_append, List.mem_singleton] at hc
        rcases hc with hc | rfl
        · exact h.kept c hc
        · exact ⟨by simp only; omega, hp, Nat.le_refl _⟩
      · refine List.pairwise_append.2 ⟨h.rise, List.pairwise_singleton _ _, fun a ha b hb => ?_⟩
        simp only [List.mem_singleton] at hb
        subst hb
        exact (h.kept a ha).2.2
      · have := h.deep
        simp only
        omega
      · show x.a.toNat < _; omega
  rw [if_neg o3]
  by_cases o8 : x.op = 8
  · rw [if_pos o8]
    have hb := hI.split (.inr o8)
    have hr := hrec (pl + 1) p s h hnx hp
    generalize rec (pl + 1) p s = r at hr ⊢
    obtain ⟨rk, rp, rs⟩ := r
    have hk := hr.kind
    simp only at hk ⊢
    by_cases h1 : rk = 1
    · rw [if_pos h1]
      obtain ⟨e1, e2⟩ := hr.left.ok h1
      exact ⟨hr.fit, hr.pos, fun _ => by show x.b.toNat < _; omega, by show 3 ≤ 3; decide, hr.left.up, fun _ => ⟨[], by rw [List.append_nil]; exact e1, by simp⟩, fun _ => e2⟩
    · rw [if_neg h1]
      refine ⟨hr.fit, hp, fun e => ?_, by show rk ≤ 3; omega, hr.left.up, fun e => ?_, fun e => ?_⟩
      · have e' : rk = 3 := e
        omega
      · have e' : rk ≠ 2 := e
        obtain ⟨e1, e2⟩ := hr.left.no (by omega)
        exact ⟨[], by rw [List.append_nil]; exact e1, by simp⟩
      · have e' : rk ≠ 2 := e
        obtain ⟨e1, e2⟩ := hr.left.no (by omega)
        exact Nat.le_of_eq e2.symm
  rw [if_neg o8]
  by_cases o1 : x.op = 1
  · rw [if_pos o1]
    unfold setM
    cases hu : U[p]? with
    | none => exact Stp.same h (by decide) hp (by intro e; cases e)
    | some u =>
      have hlt := (List.getElem?_eq_some_iff.1 hu).1
      simp only
      split
      · exact Stp.same h (by decide) (by omega) (fun _ => hnx)
      · exact Stp.same h (by decide) hp (by intro e; cases e)
  rw [if_neg o1]
  have hput : ∀ i, i < s.sl.length → Stp X U S s (3, pl + 1, p, s.put i p) := fun i hi => by
    refine ⟨h.put hi hn, hp, fun _ => hnx, by show 3 ≤ 3; decide, Nat.le_refl _, fun _ => ⟨[], by simp [Ms.put], by simp⟩, fun _ => ?_⟩
    simp [Ms.put]
  by_cases o4 : x.op = 4
  · rw [if_pos o4]
    have := hI.save o4
    exact hput _ (by rw [h.sl]; omega)
  rw [if_neg o4]
  by_cases o10 : x.op = 10
  · rw [if_pos o10]
    have := hI.mark (.inl o10)
    exact hput _ (by rw [h.sl]; omega)
  rw [if_neg o10]
  by_cases o11 : x.op = 11
  · rw [if_pos o11]
    split
    · exact Stp.same h (by decide) hp (by intro e; cases e)
    · exact Stp.same h (by decide) hp (fun _ => hnx)
  rw [if_neg o11]
  by_cases o6 : x.op = 6
  · rw [if_pos o6]
    split
    · exact Stp.same h (by decide) hp (fun _ => hnx)
    · exact Stp.same h (by decide) hp (by intro e; cases e)
  rw [if_neg o6]
  exact Stp.same h (by decide) hp (by intro e; cases e)

/-- What a run that goes on from somewhere leaves. -/
structure Gone (X : List In) (U : List Int) (S : Nat) (s : Ms) (fc fg : Nat) (r : Nat × Nat × Ms) : Prop where
  fit : Fit X U S r.2.2
  pos : r.2.1 ≤ U.length
  kind : r.1 ≤ 2
  up : s.steps ≤ r.2.2.steps
  ok : r.1 = 1 → r.2.2.cho = s.cho.take fc ∧ fg ≤ r.2.2.chg.length
  no : r.1 = 0 → r.2.2.cho = s.cho.take fc ∧ r.2.2.chg.length = fg
theorem Und.step {fc fg : Nat} {s s' : Ms} (h : Und s fc fg) (hl : ∃ l, s'.cho = s.cho ++ l ∧ ∀ c ∈ l, s.chg.length ≤ c.2.2) (hc : s.chg.length ≤ s'.chg.length) : Und s' fc fg ∧ s'.cho.take fc = s.cho.take fc := by
  obtain ⟨l, e, hl⟩ := hl
  have h1 := h.lc
  have h2 := h.lg
  refine ⟨⟨by rw [e, List.length_append]; omega, by omega, fun i c hi hg => ?_, fun i c hi hg => ?_⟩, by rw [e, List.take_append_of_le_length h1]⟩
  · rw [e, List.getElem?_append] at hg
    split at hg
    · exact h.own i c hi hg
    · have := hl c (List.mem_of_getElem? hg)
      omega
  · rw [e, List.getElem?_append_left (by omega)] at hg
    exact h.old i c hi hg
theorem back_some {fc : Nat} {s s' : Ms} {pl p : Nat} (h : backM fc s = some (pl, p, s')) : ∃ l c, s.cho = l ++ [c] ∧ fc ≤ l.length ∧ pl = c.1 ∧ p = c.2.1 ∧ s' = ({ s with cho := l } : Ms).undo c.2.2 := by
  unfold backM at h
  split at h
  · cases h
  · rename_i hne
    cases hg : s.cho.getLast? with
    | none => rw [hg] at h; cases h
    | some c =>
      rw [hg] at h
      simp only [Option.some.injEq, Prod.mk.injEq] at h
      obtain ⟨rfl, rfl, rfl⟩ := h
      have hne' : s.cho ≠ [] := fun e => by rw [e] at hg; cases hg
      have hcc : s.cho.getLast hne' = c := by
        rw [List.getLast?_eq_some_getLast hne'] at hg
        exact Option.some.inj hg
      refine ⟨s.cho.dropLast, c, ?_, ?_, rfl, rfl, rfl⟩
      · rw [← hcc]
        exact (List.dropLast_concat_getLast hne').symm
      · rw [List.length_dropLast]
        omega
theorem Fit.back {l : List (Nat × Nat × Nat)} {c : Nat × Nat × Nat} (h : Fit X U S s) (e : s.cho = l ++ [c]) : Fit X U S (({ s with cho := l } : Ms).undo c.2.2) ∧ c.1 < X.length ∧ c.2.1 ≤ U.length ∧ c.2.2 ≤ s.chg.length := by
  have hc := h.kept c (by rw [e]; simp)
  have hr := h.rise
  rw [e] at hr
  have hr' := List.pairwise_append.1 hr
  have h0 := h.cho
  rw [e, List.length_append] at h0
  have hf : Fit X U S { s with cho := l } := ⟨h.sl, h.chg, h.slot, by simp only; omega, fun a ha => h.kept a (by rw [e]; simp [ha]), hr'.1, h.deep⟩
  exact ⟨hf.undo (fun a ha => hr'.2.2 a ha c (by simp)), hc⟩
theorem go_fit (hX : PrOk X) (fuel : Nat) : ∀ (k : Nat) (tg : Int) (fc fg pl p : Nat) (s : Ms), Fit X U S s → Und s fc fg → pl < X.length → p ≤ U.length → Gone X U S s fc fg (goM X U fuel S k tg fc fg pl p s)
  | 0, tg, fc, fg, pl, p, s, h, hu, _, hp => ⟨h, hp, by show 2 ≤ 2; decide, Nat.le_refl _, fun e => absurd (show (2 : Nat) = 1 from e) (by decide), fun e => absurd (show (2 : Nat) = 0 from e) (by decide)⟩
  | k + 1, tg, fc, fg, pl, p, s, h, hu, hpl, hp => by
    by_cases hlt : s.steps < fuel
    · rw [goM_step _ _ _ _ _ _ _ _ _ _ _ hlt]
      have h' : Fit X U S { s with steps := s.steps + 1 } := ⟨h.sl, by have := h.chg; simp only; omega, h.slot, h.cho, h.kept, h.rise, h.deep⟩
      have hrec : ∀ pl p s, Fit X U S s → pl < X.length → p ≤ U.length → Rec X U S s (runM X U fuel S k (-1) pl p s) := fun pl p s hs h1 h2 => by
        have g := go_fit hX fuel k (-1) s.cho.length s.chg.length pl p s hs ⟨Nat.le_refl _, Nat.le_refl _, fun i c hi hg => by
          have := (List.getElem?_eq_some_iff.1 hg).1
          omega, fun i c _ hg => (hs.kept c (List.mem_of_getElem? hg)).2.2⟩ h1 h2
        refine ⟨g.fit, g.pos, g.kind, ⟨fun e => ?_, fun e => ?_, g.up⟩⟩
        · have := g.ok e
          rw [List.take_length] at this
          exact this
        · have := g.no e
          rw [List.take_length] at this
          exact this
      have st := step_fit (tg := tg) hX hrec hpl hp h' (by have := h.chg; simp only; omega)
      generalize stepM X U S (fun pl p s => runM X U fuel S k (-1) pl p s) tg pl p { s with steps := s.steps + 1 } = o at st ⊢
      have hup : s.steps ≤ o.2.2.2.steps := by have := st.steps; simp only at this; omega
      have hu' : Und { s with steps := s.steps + 1 } fc fg := ⟨hu.lc, hu.lg, hu.own, hu.old⟩
      have hkd := st.kind
      simp only
      by_cases h3 : o.1 = 3
      · rw [if_pos h3]
        obtain ⟨u1, u2⟩ := hu'.step (st.pre (by omega)) (st.chg (by omega))
        have g := go_fit hX fuel k tg fc fg o.2.1 o.2.2.1 o.2.2.2 st.fit u1 (st.pl h3) st.pos
        exact ⟨g.fit, g.pos, g.kind, Nat.le_trans hup g.up, fun e => by have := g.ok e; rw [u2] at this; exact this, fun e => by have := g.no e; rw [u2] at this; exact this⟩
      · rw [if_neg h3]
        by_cases h0 : o.1 = 0
        · rw [if_pos h0]
          obtain ⟨u1, u2⟩ := hu'.step (st.pre (by omega)) (st.chg (by omega))
          cases hb : backM fc o.2.2.2 with
          | none =>
            simp only
            have hle : o.2.2.2.cho.length ≤ fc := by
              unfold backM at hb
              split at hb
              · assumption
              · rename_i hne
                cases hg : o.2.2.2.cho.getLast? with
                | none =>
                  have : o.2.2.2.cho = [] := List.getLast?_eq_none_iff.1 hg
                  rw [this] at hne
                  simp at hne
                | some c => rw [hg] at hb; cases hb
            unfold endM
            rw [if_neg (by omega), if_pos h0]
            refine ⟨st.fit.undo (fun c hc => ?_), st.pos, by show 0 ≤ 2; decide, hup, fun e => absurd (show (0 : Nat) = 1 from e) (by decide), fun _ => ⟨?_, ?_⟩⟩
            · obtain ⟨i, hi⟩ := List.getElem?_of_mem hc
              exact u1.old i c (by have := (List.getElem?_eq_some_iff.1 hi).1; omega) hi
            · show o.2.2.2.cho = _
              rw [← List.take_of_length_le hle, u2]
            · have := u1.lg
              simp only [Ms.undo, List.length_take]
              omega
          | some q =>
            obtain ⟨pl', p', s'⟩ := q
            obtain ⟨l, c, e1, e2, rfl, rfl, rfl⟩ := back_some hb
            simp only
            obtain ⟨f1, f2, f3, f4⟩ := st.fit.back e1
            have hown := u1.own l.length c e2 (by rw [e1]; simp)
            have hu2 : Und (({ o.2.2.2 with cho := l } : Ms).undo c.2.2) fc fg := by
              have hget : ∀ (i : Nat) (a : Nat × Nat × Nat), l[i]? = some a → o.2.2.2.cho[i]? = some a := fun i a hg => by
                rw [e1, List.getElem?_append_left (List.getElem?_eq_some_iff.1 hg).1]
                exact hg
              refine ⟨e2, ?_, fun i a hi hg => u1.own i a hi (hget i a hg), fun i a hi hg => u1.old i a hi (hget i a hg)⟩
              simp only [Ms.undo, List.length_take]
              omega
            have g := go_fit hX fuel k tg fc fg c.1 c.2.1 _ f1 hu2 f2 f3
            have et : (({ o.2.2.2 with cho := l } : Ms).undo c.2.2).cho.take fc = s.cho.take fc := by
              show l.take fc = _
              rw [← u2, e1, List.take_append_of_le_length e2]
            exact ⟨g.fit, g.pos, g.kind, Nat.le_trans hup g.up, fun e => by have := g.ok e; rw [et] at this; exact this, fun e => by have := g.no e; rw [et] at this; exact this⟩
        · rw [if_neg h0]
          unfold endM
          by_cases h1 : o.1 = 1
          · rw [if_pos h1]
            obtain ⟨u1, u2⟩ := hu'.step (st.pre (by omega)) (st.chg (by omega))
            exact ⟨st.fit.take fc, st.pos, by show 1 ≤ 2; decide, hup, fun _ => ⟨u2, u1.lg⟩, fun e => absurd (show (1 : Nat) = 0 from e) (by decide)⟩
          · rw [if_neg h1, if_neg h0]
            exact ⟨st.fit, st.pos, by show o.1 ≤ 2; omega, hup, fun e => absurd e h1, fun e => absurd e h0⟩
    · rw [goM, if_pos (by omega)]
      exact ⟨h, hp, by show 2 ≤ 2; decide, Nat.le_refl _, fun e => absurd (show (2 : Nat) = 1 from e) (by decide), fun e => absurd (show (2 : Nat) = 0 from e) (by decide)⟩

theorem back_none_le {fc : Nat} {s : Ms} (h : backM fc s = none) : s.cho.length ≤ fc := by
  unfold backM at h
  split at h
  · assumption
  · rename_i hne
    cases hg : s.cho.getLast? with
    | none =>
      have : s.cho = [] := List.getLast?_eq_none_iff.1 hg
      rw [this] at hne
      simp at hne
    | some c => rw [hg] at h; cases h
theorem step_up {fuel : Nat} {rec : Nat → Nat → Ms → Nat × Nat × Ms} (hrec : ∀ pl p s, s.steps ≤ fuel → (rec pl p s).2.2.steps ≤ fuel) {tg : Int} {pl p : Nat} (h : s.steps ≤ fuel) : (stepM X U S rec tg pl p s).2.2.2.steps ≤ fuel := by
  unfold stepM
  cases X[pl]? with
  | none => exact h
  | some x =>
    simp only
    have hr := hrec (pl + 1) p s h
    by_cases o8 : x.op = 8
    · rw [if_neg (by omega), if_neg (by omega), if_neg (by omega), if_neg (by omega), if_pos o8]
      split
      · exact hr
      · exact hr
    · unfold splitM setM
      repeat' split
      all_goals first | exact h | exact absurd ‹x.op = 8› o8
theorem go_up {fuel : Nat} : ∀ (k : Nat) (tg : Int) (fc fg pl p : Nat) (s : Ms), s.steps ≤ fuel → (goM X U fuel S k tg fc fg pl p s).2.2.steps ≤ fuel
  | 0, _, _, _, _, _, _, h => h
  | k + 1, tg, fc, fg, pl, p, s, h => by
    by_cases hlt : s.steps < fuel
    · rw [goM_step _ _ _ _ _ _ _ _ _ _ _ hlt]
      have st := step_up (X := X) (U := U) (S := S) (s := { s with steps := s.steps + 1 }) (fuel := fuel) (rec := fun pl p s => runM X U fuel S k (-1) pl p s) (fun pl p s hs => go_up k (-1) _ _ pl p s hs) (tg := tg) (pl := pl) (p := p) (by simp only; omega)
      generalize stepM X U S (fun pl p s => runM X U fuel S k (-1) pl p s) tg pl p { s with steps := s.steps + 1 } = o at st ⊢
      simp only
      have hend : (endM fc fg o).2.2.steps ≤ fuel := by
        unfold endM
        repeat' split
        all_goals exact st
      by_cases h3 : o.1 = 3
      · rw [if_pos h3]; exact go_up k _ _ _ _ _ _ st
      · rw [if_neg h3]
        by_cases h0 : o.1 = 0
        · rw [if_pos h0]
          cases hb : backM fc o.2.2.2 with
          | none => exact hend
          | some q =>
            obtain ⟨a, b, c⟩ := q
            obtain ⟨l, ch, _, _, _, _, rfl⟩ := back_some hb
            exact go_up k _ _ _ _ _ _ st
        · rw [if_neg h0]; exact hend
    · rw [goM, if_pos (by omega)]
      exact h

end Go.Proofs.YtdbddbelhgkelaaGreatDoor

/- A letter that is repeated: its program, and what the machine does with it. Of no program. -/
namespace Go.Proofs.YtdbddbelhgkelaaGreatDoor
open Go.Proofs.YtdbddbelhgkelaaGreatDoor.Cl

/-! ### The text -/
/-- Behind the braces anything may stand. -/
theorem braces_tail {σ : St} {lo hi : Nat} {r : List UInt8} (hl : lo ≤ 64) (hh : hi ≤ 64) (hlh : lo ≤ hi) (ht : σ.t = 123 :: (dd lo ++ 44 :: (dd hi ++ 125 :: r))) :
    ∃ σ1, braces σ = some (((lo : Int), (hi : Int)), σ1) ∧ σ1.t = r ∧ σ1.g = σ.g ∧ σ1.bk = σ.bk := by
  have h1 : (σ.adv 1).t = dd lo ++ 44 :: (dd hi ++ 125 :: r) := by simp [St.adv, ht]
  obtain ⟨n1, n2, n3⟩ := dd_num lo (by omega) (44 :: (dd hi ++ 125 :: r))
  have h2 : ((σ.adv 1).adv 2).t = 44 :: (dd hi ++ 125 :: r) := adv_dd h1
  obtain ⟨m1, m2, m3⟩ := dd_num hi (by omega) (125 :: r)
  have hpre : pre [44, 125] (44 :: (dd hi ++ 125 :: r)) = false := pre_dd hi (by omega) _
  have h3 : (((σ.adv 1).adv 2).adv 1).t = dd hi ++ 125 :: r := by
    have : (((σ.adv 1).adv 2).adv 1).t = ((σ.adv 1).adv 2).t.drop 1 := rfl
    rw [this, h2]; rfl
  have h4 : ((((σ.adv 1).adv 2).adv 1).adv 2).t = 125 :: r := adv_dd h3
  unfold braces
  rw [h1, n1, n2, n3, if_pos (by simpa using hl), h2, hpre, if_neg (by decide), if_pos (by rfl), h3, m1, m2, m3, h4, if_pos]
  · refine ⟨_, rfl, ?_, rfl, rfl⟩
    have : (((((σ.adv 1).adv 2).adv 1).adv 2).adv 1).t = ((((σ.adv 1).adv 2).adv 1).adv 2).t.drop 1 := rfl
    rw [this, h4]; rfl
  · simp [at_cons]
    omega
def gText (lo hi m : Nat) (tl : List UInt8) : List UInt8 := 94 :: 97 :: 123 :: (dd lo ++ 44 :: (dd hi ++ 125 :: (modeB m ++ tl)))
def gNode (lo hi m : Nat) (tl : List UInt8) : Nd := catN (edgeN 0 :: repN lo hi m (uN 97) :: tl.map uN)
theorem low97 : Low [97] := by intro c hc; simp at hc; subst hc; decide
theorem g_parse {lo hi m : Nat} {tl : List UInt8} (hl : lo ≤ 20) (hh : hi ≤ 20) (hlh : lo ≤ hi) (hm : m ≤ 2) (ht : tl = [] ∨ (tl = [97] ∧ m = 2)) : parse 1026 (gText lo hi m tl) = .ok (gNode lo hi m tl, 0, false) := by
  have hlow : Low tl := by rcases ht with rfl | ⟨rfl, _⟩; (intro c hc; simp at hc); exact low97
  have htl : tl.length ≤ 1 := by rcases ht with rfl | ⟨rfl, _⟩ <;> simp
  have hmode : modeOf (modeB m ++ tl) = m := by
    rcases ht with rfl | ⟨rfl, rfl⟩
    · rw [List.append_nil]; exact mode_of m hm
    · rfl
  have e1 : run 1024 2 0 [] ⟨0, gText lo hi m tl, 0, []⟩ = .ok (edgeN 0, ⟨1, (gText lo hi m tl).drop 1, 0, []⟩) := by
    rw [show (1024 : Nat) = 1023 + 1 from rfl, run_quant]
    rfl
  have e2 : ∃ p, run 1023 2 0 [] ⟨1, (gText lo hi m tl).drop 1, 0, []⟩ = .ok (repN lo hi m (uN 97), ⟨p, tl, 0, []⟩) := by
    have hat : atomP ⟨1, (gText lo hi m tl).drop 1, 0, []⟩ = .ok (uN 97, ⟨2, (gText lo hi m tl).drop 2, 0, []⟩) := low_atom (by decide) _ _ _
    obtain ⟨σ1, hb, h1, h2, h3⟩ := braces_tail (σ := ⟨2, (gText lo hi m tl).drop 2, 0, []⟩) (lo := lo) (hi := hi) (r := modeB m ++ tl) (by omega) (by omega) hlh rfl
    have a0 : at_ ((gText lo hi m tl).drop 2) 0 = 123 := rfl
    have hbm : ∃ p, behindMode σ1 = ⟨p, tl, 0, []⟩ := by
      have hd : (σ1.t).drop 1 = (modeB m ++ tl).drop 1 := by rw [h1]
      unfold behindMode
      rw [h1, hmode]
      by_cases h0 : m = 0
      · rw [if_pos h0]
        refine ⟨σ1.pos, ?_⟩
        have : σ1.t = tl := by rw [h1, h0]; rfl
        cases σ1
        simp_all
      · rw [if_neg h0]
        refine ⟨σ1.pos + 1, ?_⟩
        have hdr : (modeB m ++ tl).drop 1 = tl := by
          unfold modeB
          rw [if_neg h0]
          split <;> rfl
        unfold St.adv
        rw [hd, hdr, h2, h3]
    obtain ⟨p, hbm⟩ := hbm
    refine ⟨p, ?_⟩
    have hq : quantRest false (uN 97) ⟨2, (gText lo hi m tl).drop 2, 0, []⟩ = .ok (repN lo hi m (uN 97), behindMode σ1) := by
      have hk9 : ((uN 97).kind = 9) = False := by simp [uN, setN, Nd.kind]
      have hk7 : ((uN 97).kind = 7) = False := by simp [uN, setN, Nd.kind]
      unfold quantRest times
      simp only [a0, hb, hk9, hk7]
      simp [isQ, h1, hmode]
    rw [show (1023 : Nat) = 1022 + 1 from rfl, run_quant]
    have b0 : at_ ((gText lo hi m tl).drop 1) 0 = 97 := rfl
    have bp : pre [40, 63, 58] ((gText lo hi m tl).drop 1) = false := rfl
    simp only [b0, bp]
    rw [if_neg (by decide), hat]
    simp only
    rw [hq, hbm]
  obtain ⟨p, e2⟩ := e2
  have e3 := low_row tl 1022 [edgeN 0, repN lo hi m (uN 97)] p hlow (by omega)
  have hrow : run 1025 1 0 [] ⟨0, gText lo hi m tl, 0, []⟩ = .ok (gNode lo hi m tl, ⟨p + tl.length, [], 0, []⟩) := by
    have c0 : ((gText lo hi m tl).isEmpty || decide (at_ (gText lo hi m tl) 0 = 124 ∨ at_ (gText lo hi m tl) 0 = 41)) = false := rfl
    have c1 : (((gText lo hi m tl).drop 1).isEmpty || decide (at_ ((gText lo hi m tl).drop 1) 0 = 124 ∨ at_ ((gText lo hi m tl).drop 1) 0 = 41)) = false := rfl
    rw [show (1025 : Nat) = 1024 + 1 from rfl, run_row]
    simp only [c0]
    rw [if_neg (by decide), e1]
    simp only
    rw [show (1024 : Nat) = 1023 + 1 from rfl, run_row]
    simp only [c1]
    rw [if_neg (by decide), e2]
    simp only
    exact e3
  have hf : foldAt (gText lo hi m tl) = false := rfl
  have hlen : ¬ 256 < (gText lo hi m tl).length := by
    have := mode_len m
    unfold gText
    simp [dd]
    omega
  have hrun : run 1026 0 0 [] ⟨0, gText lo hi m tl, 0, []⟩ = .ok (gNode lo hi m tl, ⟨p + tl.length, [], 0, []⟩) := by
    rw [show (1026 : Nat) = 1025 + 1 from rfl, run_alts, hrow]
    rfl
  unfold parse begins
  rw [if_neg hlen, hf]
  simp only [Bool.false_eq_true, if_false]
  rw [hrun]
  rfl
theorem g_verdict {lo hi m : Nat} {tl : List UInt8} (hh : hi ≤ 20) (_ : lo ≤ hi) (ht : tl = [] ∨ tl = [97]) : verdictN (gNode lo hi m tl) = 0 := by
  have h1 : bounded (gNode lo hi m tl) = true := by rcases ht with rfl | rfl <;> rfl
  have hr : ndSize (repN lo hi m (uN 97)) = min ((lo : Int) + (hi - lo) * 2 + (if (m : Int) = 2 then 2 else 0)) far := by
    unfold repN
    rw [ndSize_eq]
    have e1 : ndSize (uN 97) = 1 := rfl
    have : ¬ ((hi : Int) < 0) := by omega
    simp [sizeF, hd, e1, cap_min, this]
  have h2 : ndSize (gNode lo hi m tl) ≤ 100 := by
    unfold gNode catN
    rw [ndSize_eq]
    have e0 : ndSize (edgeN 0) = 1 := rfl
    have e1 : ndSize (uN 97) = 1 := rfl
    have hs : (if (m : Int) = 2 then (2 : Int) else 0) ≤ 2 := by split <;> decide
    rcases ht with rfl | rfl
    · simp only [List.map_cons, List.map_nil, e0, hr, sizeF, List.sum_cons, List.sum_nil, cap_min, far]
      simp
      omega
    · simp only [List.map_cons, List.map_nil, e0, e1, hr, sizeF, List.sum_cons, List.sum_nil, cap_min, far]
      simp
      omega
  unfold verdictN
  rw [h1, if_pos rfl, if_neg (by omega)]

/-! ### The program -/
def aI : In := uI 97
theorem rep_get (n j : Nat) (h : j < n) : (repC n [aI])[j]? = some aI := by
  induction n generalizing j with
  | zero => omega
  | succ n ih =>
    rw [repC]
    cases j with
    | zero => exact app_get_left rfl
    | succ j =>
      have := app_get_right (x := [aI]) (ih j (by omega))
      rw [show ([aI] : List In).length + j = j + 1 by simp; omega] at this
      exact this
theorem rep_length (n : Nat) : (repC n [aI]).length = n := by
  have := repC_len n [aI]
  unfold len at this
  simp at this
  omega
theorem rep_marks (n : Nat) : marks (repC n [aI]) = 0 := by
  induction n with
  | zero => rfl
  | succ n ih => rw [repC, app_marks, ih]; rfl
/-- The i-th option of n: its choice. -/
def goptI (lz : Bool) (n i : Nat) : In := if lz then .i 3 (2 * n : Nat) (2 * i + 1 : Nat) 0 0 else .i 3 (2 * i + 1 : Nat) (2 * n : Nat) 0 0
theorem opt_get (lz : Bool) : ∀ (n i : Nat), i < n → (optC lz n [aI])[2 * i]? = some (goptI lz n i) ∧ (optC lz n [aI])[2 * i + 1]? = some aI
  | 0, i, h => absurd h (by omega)
  | n + 1, 0, _ => by
    rw [optC]
    refine ⟨?_, ?_⟩
    · have h : (app [splitI lz (((n : Int) + 1) * ((([aI] : List In).length : Int) + 1))] (app [aI] (optC lz n [aI])))[0]? = some (splitI lz (((n : Int) + 1) * ((([aI] : List In).length : Int) + 1))) := app_get_left rfl
      rw [Nat.mul_zero, h]
      have : ((n : Int) + 1) * ((([aI] : List In).length : Int) + 1) = ((2 * (n + 1) : Nat) : Int) := by simp; omega
      rw [this]
      cases lz <;> rfl
    · have h : (app [aI] (optC lz n [aI]))[0]? = some aI := app_get_left rfl
      exact app_get_right h
  | n + 1, i + 1, h => by
    obtain ⟨h1, h2⟩ := opt_get lz n i (by omega)
    rw [optC]
    have f1 := app_get_right (x := [splitI lz (((n : Int) + 1) * ((([aI] : List In).length : Int) + 1))]) (app_get_right (x := [aI]) h1)
    have f2 := app_get_right (x := [splitI lz (((n : Int) + 1) * ((([aI] : List In).length : Int) + 1))]) (app_get_right (x := [aI]) h2)
    refine ⟨?_, ?_⟩
    · rw [show 2 * (i + 1) = 1 + (1 + 2 * i) by omega]
      refine f1.trans ?_
      rw [sh_sh]
      cases lz
      · simp [goptI, In.i, sh]
        omega
      · simp [goptI, In.i, sh]
        omega
    · rw [show 2 * (i + 1) + 1 = 1 + (1 + (2 * i + 1)) by omega]
      refine f2.trans ?_
      rfl
theorem opt_length (lz : Bool) (n : Nat) : (optC lz n [aI]).length = 2 * n := by
  have := optC_len lz n [aI]
  unfold len at this
  simp at this
  omega

end Go.Proofs.YtdbddbelhgkelaaGreatDoor

/- A letter that is repeated: what the machine does. Of no program. -/
namespace Go.Proofs.YtdbddbelhgkelaaGreatDoor
open Go.Proofs.YtdbddbelhgkelaaGreatDoor.Cl

def edgeI : In := .i 6 0 0 0 0
def matchI : In := .i 0 0 0 0 0
def splitA (lz : Bool) (a e : Nat) : In := if lz then .i 3 (e : Nat) (a : Nat) 0 0 else .i 3 (a : Nat) (e : Nat) 0 0
/-- Where what is repeated begins. -/
def gb (m : Nat) : Nat := if m = 2 then 3 else 2
structure GP (Z : List In) (lo d m : Nat) (tl : List UInt8) : Prop where
  z0 : Z[0]? = some (saveI 0)
  z1 : Z[1]? = some edgeI
  z2 : m = 2 → Z[2]? = some (.i 8 0 ((3 + lo + 2 * d + 1 : Nat) : Int) 0 0)
  u : ∀ j, j < lo → Z[gb m + j]? = some aI
  sp : ∀ i, i < d → Z[gb m + lo + 2 * i]? = some (splitA (decide (m = 1)) (gb m + lo + 2 * i + 1) (gb m + lo + 2 * d))
  su : ∀ i, i < d → Z[gb m + lo + 2 * i + 1]? = some aI
  dn : m = 2 → Z[3 + lo + 2 * d]? = some doneI
  tls : ∀ j c, tl[j]? = some c → Z[gb m + lo + 2 * d + (if m = 2 then 1 else 0) + j]? = some (uI c)
  sv : Z[gb m + lo + 2 * d + (if m = 2 then 1 else 0) + tl.length]? = some (saveI 1)
  mt : Z[gb m + lo + 2 * d + (if m = 2 then 1 else 0) + tl.length + 1]? = some matchI
theorem times_get (lo d : Nat) (lz : Bool) : (∀ j, j < lo → (app (repC lo [aI]) (optC lz d [aI]))[j]? = some aI) ∧
    (∀ i, i < d → (app (repC lo [aI]) (optC lz d [aI]))[lo + 2 * i]? = some (splitA lz (lo + 2 * i + 1) (lo + 2 * d)) ∧ (app (repC lo [aI]) (optC lz d [aI]))[lo + 2 * i + 1]? = some aI) ∧
    (app (repC lo [aI]) (optC lz d [aI])).length = lo + 2 * d ∧ marks (app (repC lo [aI]) (optC lz d [aI])) = 0 := by
  have hom : ∀ n, marks (optC lz n [aI]) = 0 := by
    intro n
    induction n with
    | zero => rfl
    | succ n ih => rw [optC, app_marks, app_marks, ih]; cases lz <;> rfl
  refine ⟨fun j hj => app_get_left (rep_get lo j hj), fun i hi => ?_, by rw [app_len, rep_length, opt_length], by rw [app_marks, rep_marks, hom]⟩
  obtain ⟨h1, h2⟩ := opt_get lz d i hi
  have f1 := app_get_right (x := repC lo [aI]) h1
  have f2 := app_get_right (x := repC lo [aI]) h2
  rw [rep_length] at f1 f2
  refine ⟨f1.trans ?_, f2.trans ?_⟩
  · cases lz
    · simp [goptI, splitA, In.i, sh]
      omega
    · simp [goptI, splitA, In.i, sh]
      omega
  · rfl
theorem inn_one {x : In} {Z : List In} {p q : Nat} (h : Inn [x] p q Z) : Z[p]? = some (sh (p : Nat) (q : Nat) x) := h.get 0 x rfl
theorem sh_split (lz : Bool) (p a e : Nat) : sh (p : Nat) (0 : Nat) (splitA lz a e) = splitA lz (p + a) (p + e) := by
  cases lz
  · simp [splitA, In.i, sh]
    omega
  · simp [splitA, In.i, sh]
    omega
theorem within8 (x : List In) : (withinC (.i 8 0 0 0 0) x).length = x.length + 2 ∧ marks (withinC (.i 8 0 0 0 0) x) = marks x := by
  unfold withinC
  refine ⟨?_, ?_⟩
  · rw [app_len, app_len]
    simp
    omega
  · rw [app_marks, app_marks]
    rw [show marks [doneI] = 0 from rfl, Nat.add_zero]
    exact Nat.zero_add _
theorem units_marks (l : List UInt8) : marks (l.map uI) = 0 := by
  induction l with
  | nil => rfl
  | cons c l ih => rw [List.map_cons, marks_cons, ih]; rfl
theorem g_prog {lo hi m : Nat} {tl : List UInt8} (hlh : lo ≤ hi) : GP (whole false (gNode lo hi m tl)) lo (hi - lo) m tl := by
  obtain ⟨d, rfl⟩ : ∃ d, hi = lo + d := ⟨hi - lo, by omega⟩
  rw [Nat.add_sub_cancel_left]
  obtain ⟨t1, t2, t3, t4⟩ := times_get lo d (decide (m = 1))
  have hz0 : (whole false (gNode lo (lo + d) m tl))[0]? = some (saveI 0) := app_get_left rfl
  have h0 := Inn.refl (whole false (gNode lo (lo + d) m tl))
  have hcode : code false (gNode lo (lo + d) m tl) = app [edgeI] (app (code false (repN lo (lo + d : Nat) m (uN 97))) (rowC ((tl.map uN).map (code false)))) := by
    unfold gNode catN
    rw [code_eq]
    unfold cF
    rw [if_neg (by decide), if_pos rfl, List.map_cons, List.map_cons, rowC, rowC]
    rfl
  have htl : rowC ((tl.map uN).map (code false)) = tl.map uI := by rw [List.map_map]; exact row_units tl
  have hrep : code false (repN lo (lo + d : Nat) m (uN 97)) = if (m : Int) = 2 then withinC (.i 8 0 0 0 0) (app (repC lo [aI]) (optC (decide (m = 1)) d [aI])) else app (repC lo [aI]) (optC (decide (m = 1)) d [aI]) := by
    unfold repN
    rw [code_eq]
    unfold cF
    rw [if_neg (by decide), if_neg (by decide), if_neg (by decide), if_pos rfl]
    have e1 : rowC (List.map (code false) [uN 97]) = [aI] := rfl
    have e2 : timesC (lo : Int) ((lo + d : Nat) : Int) (m : Int) [aI] = app (repC lo [aI]) (optC (decide (m = 1)) d [aI]) := by
      unfold timesC
      rw [if_neg (by omega), show ((lo : Int)).toNat = lo by omega, show (((lo + d : Nat) : Int) - (lo : Int)).toNat = d by omega]
      congr 2
      by_cases h : m = 1
      · simp [h]
      · have : ¬ (m : Int) = 1 := by omega
        simp [h, this]
    rw [e1, e2]
  have hmk : marks (tl.map uI) = 0 := units_marks tl
  have hrep2 : m = 2 → code false (repN lo (lo + d : Nat) m (uN 97)) = withinC (.i 8 0 0 0 0) (app (repC lo [aI]) (optC (decide (m = 1)) d [aI])) := fun h => by rw [hrep, if_pos (by omega)]
  have hrep1 : m ≠ 2 → code false (repN lo (lo + d : Nat) m (uN 97)) = app (repC lo [aI]) (optC (decide (m = 1)) d [aI]) := fun h => by rw [hrep, if_neg (by omega)]
  clear hrep
  generalize hZ : whole false (gNode lo (lo + d) m tl) = Z at *
  have hZ' : Z = app [saveI 0] (app (code false (gNode lo (lo + d) m tl)) (app [saveI 1] [matchI])) := hZ.symm
  have hin : Inn (app [saveI 0] (app (code false (gNode lo (lo + d) m tl)) (app [saveI 1] [matchI]))) 0 0 Z := by rw [← hZ']; exact h0
  have hb : Inn (code false (gNode lo (lo + d) m tl)) 1 0 Z := hin.right.left
  have he : Inn (app [saveI 1] [matchI]) (1 + (code false (gNode lo (lo + d) m tl)).length) (0 + marks (code false (gNode lo (lo + d) m tl))) Z := hin.right.right
  rw [hcode] at hb
  have hz1 : Z[1]? = some edgeI := inn_one hb.left
  have hR : Inn (code false (repN lo (lo + d : Nat) m (uN 97))) 2 0 Z := hb.right.left
  have hT : Inn (rowC ((tl.map uN).map (code false))) (2 + (code false (repN lo (lo + d : Nat) m (uN 97))).length) (0 + marks (code false (repN lo (lo + d : Nat) m (uN 97)))) Z := hb.right.right
  rw [htl] at hT
  have hRl : (code false (repN lo (lo + d : Nat) m (uN 97))).length = gb m - 2 + (lo + 2 * d) + (if m = 2 then 1 else 0) ∧ marks (code false (repN lo (lo + d : Nat) m (uN 97))) = 0 := by
    by_cases h : m = 2
    · rw [hrep2 h]
      rw [(within8 _).1, (within8 _).2, t3, t4]
      refine ⟨?_, rfl⟩
      simp [gb, h]
      omega
    · rw [hrep1 h, t3, t4]
      refine ⟨?_, rfl⟩
      simp [gb, h]
  rw [hRl.1, hRl.2] at hT
  have hCl : (code false (gNode lo (lo + d) m tl)).length = 1 + (gb m - 2 + (lo + 2 * d) + (if m = 2 then 1 else 0)) + tl.length ∧ marks (code false (gNode lo (lo + d) m tl)) = 0 := by
    rw [hcode, htl, app_len, app_len, app_marks, app_marks, hRl.1, hRl.2, hmk, List.length_map]
    refine ⟨?_, rfl⟩
    simp
    omega
  rw [hCl.1, hCl.2] at he
  have hgb : 2 ≤ gb m := by unfold gb; split <;> omega
  have hTT : Inn (app (repC lo [aI]) (optC (decide (m = 1)) d [aI])) (gb m) 0 Z ∧ (m = 2 → Z[2]? = some (.i 8 0 ((3 + lo + 2 * d + 1 : Nat) : Int) 0 0) ∧ Z[3 + lo + 2 * d]? = some doneI) := by
    by_cases h : m = 2
    · rw [hrep2 h] at hR
      subst h
      unfold withinC at hR
      refine ⟨hR.right.left, fun _ => ⟨?_, ?_⟩⟩
      · have := inn_one hR.left
        rw [this, t3]
        simp [In.i, sh]
        omega
      · have := inn_one hR.right.right
        rw [t3] at this
        rw [show 3 + lo + 2 * d = 2 + ([{ In.i 8 0 0 0 0 with b := ((lo + 2 * d : Nat) : Int) + 2 }] : List In).length + (lo + 2 * d) by simp; omega]
        exact this
    · rw [hrep1 h] at hR
      have : gb m = 2 := by simp [gb, h]
      rw [this]
      exact ⟨hR, fun h2 => absurd h2 h⟩
  obtain ⟨hTT, h2⟩ := hTT
  refine ⟨hz0, hz1, fun h => (h2 h).1, fun j hj => hTT.get j _ (t1 j hj), fun i hi => ?_, fun i hi => ?_, fun h => (h2 h).2, fun j c hc => ?_, ?_, ?_⟩
  · have := hTT.get _ _ (t2 i hi).1
    rw [sh_split] at this
    rw [Nat.add_assoc, this]
    congr 2 <;> omega
  · have := hTT.get _ _ (t2 i hi).2
    rw [Nat.add_assoc, Nat.add_assoc, ← Nat.add_assoc lo, this]
    rfl
  · have := hT.get j (uI c) (by rw [List.getElem?_map, hc]; rfl)
    rw [show gb m + lo + 2 * d + (if m = 2 then 1 else 0) + j = 2 + (gb m - 2 + (lo + 2 * d) + (if m = 2 then 1 else 0)) + j by omega, this]
    rfl
  · have := inn_one he.left
    rw [show gb m + lo + 2 * d + (if m = 2 then 1 else 0) + tl.length = 1 + (1 + (gb m - 2 + (lo + 2 * d) + (if m = 2 then 1 else 0)) + tl.length) by omega, this]
    rfl
  · have := inn_one he.right
    rw [show gb m + lo + 2 * d + (if m = 2 then 1 else 0) + tl.length + 1 = 1 + (1 + (gb m - 2 + (lo + 2 * d) + (if m = 2 then 1 else 0)) + tl.length) + 1 by omega]
    exact this

end Go.Proofs.YtdbddbelhgkelaaGreatDoor

/- A letter that is repeated: runs. Of no program. -/
namespace Go.Proofs.YtdbddbelhgkelaaGreatDoor
open Go.Proofs.YtdbddbelhgkelaaGreatDoor.Cl
variable {U : List Int} {fuel stack : Nat} {X : List In}

theorem go_unitY {k : Nat} {tg : Int} {fc fg pl p : Nat} {s : Ms} {c : UInt8} (hx : X[pl]? = some (uI c)) (h : s.steps < fuel) (hu : U[p]? = some (c.toNat : Int)) :
    goM X U fuel stack (k + 1) tg fc fg pl p s = goM X U fuel stack k tg fc fg (pl + 1) (p + 1) { s with steps := s.steps + 1 } := by
  have e : stepM X U stack (fun pl p s => runM X U fuel stack k (-1) pl p s) tg pl p { s with steps := s.steps + 1 } = setM U (uI c) p { s with steps := s.steps + 1 } pl := by
    unfold stepM
    rw [hx]
    rfl
  rw [goM_step _ _ _ _ _ _ _ _ _ _ _ h, e, set_unit, if_pos hu]
  rfl
/-- A unit that isn't there: back to the last choice, which kept the slots of now. -/
theorem go_unitB {k : Nat} {tg : Int} {fc fg pl p : Nat} {s : Ms} {c : UInt8} (hx : X[pl]? = some (uI c)) (h : s.steps < fuel) (hu : U[p]? ≠ some (c.toNat : Int)) {l : List (Nat × Nat × Nat)} {b q : Nat} (hc : s.cho = l ++ [(b, q, s.chg.length)]) (hl : fc ≤ l.length) :
    goM X U fuel stack (k + 1) tg fc fg pl p s = goM X U fuel stack k tg fc fg b q { s with steps := s.steps + 1, cho := l } := by
  have e : stepM X U stack (fun pl p s => runM X U fuel stack k (-1) pl p s) tg pl p { s with steps := s.steps + 1 } = setM U (uI c) p { s with steps := s.steps + 1 } pl := by
    unfold stepM
    rw [hx]
    rfl
  have hb : backM fc { s with steps := s.steps + 1 } = some (b, q, { s with steps := s.steps + 1, cho := l }) := by
    unfold backM
    rw [if_neg (by rw [show ({ s with steps := s.steps + 1 } : Ms).cho = l ++ [(b, q, s.chg.length)] from hc]; simp; omega)]
    rw [show ({ s with steps := s.steps + 1 } : Ms).cho = l ++ [(b, q, s.chg.length)] from hc]
    rw [List.getLast?_concat, List.dropLast_concat]
    simp [Ms.undo, undoL]
  rw [goM_step _ _ _ _ _ _ _ _ _ _ _ h, e, set_unit, if_neg hu]
  simp only
  rw [hb]
  rfl
theorem go_edge {k : Nat} {tg : Int} {fc fg pl p : Nat} {s : Ms} (hx : X[pl]? = some edgeI) (h : s.steps < fuel) (hc : s.cho.length ≤ fc) :
    goM X U fuel stack (k + 1) tg fc fg pl p s = if p = 0 then goM X U fuel stack k tg fc fg (pl + 1) p { s with steps := s.steps + 1 } else (0, p, ({ s with steps := s.steps + 1 } : Ms).undo fg) := by
  have e : stepM X U stack (fun pl p s => runM X U fuel stack k (-1) pl p s) tg pl p { s with steps := s.steps + 1 } = if p = 0 then (3, pl + 1, p, { s with steps := s.steps + 1 }) else (0, pl, p, { s with steps := s.steps + 1 }) := by
    unfold stepM
    rw [hx]
    by_cases hp : p = 0 <;> simp [edgeI, In.i, edgeB, hp]
  rw [goM_step _ _ _ _ _ _ _ _ _ _ _ h, e]
  by_cases hp : p = 0
  · simp only [hp, if_true]
  · simp only [hp, if_false]
    rw [back_none (by exact hc)]
    rfl
theorem go_split {k : Nat} {tg : Int} {fc fg pl p : Nat} {s : Ms} {a b : Nat} (hx : X[pl]? = some (.i 3 (a : Nat) (b : Nat) 0 0)) (h : s.steps < fuel) (hc : s.cho.length < stack) :
    goM X U fuel stack (k + 1) tg fc fg pl p s = goM X U fuel stack k tg fc fg a p { s with steps := s.steps + 1, cho := s.cho ++ [(b, p, s.chg.length)], deep := max s.deep (s.cho.length + 1) } := by
  have e : stepM X U stack (fun pl p s => runM X U fuel stack k (-1) pl p s) tg pl p { s with steps := s.steps + 1 } = (3, a, p, { s with steps := s.steps + 1, cho := s.cho ++ [(b, p, s.chg.length)], deep := max s.deep (s.cho.length + 1) }) := by
    unfold stepM
    rw [hx]
    have : ¬ s.cho.length = stack := by omega
    simp [In.i, splitM, this]
  rw [goM_step _ _ _ _ _ _ _ _ _ _ _ h, e]
  rfl
theorem go_done {k : Nat} {fc fg pl p : Nat} {s : Ms} (hx : X[pl]? = some doneI) (h : s.steps < fuel) :
    goM X U fuel stack (k + 1) (-1) fc fg pl p s = (1, p, { s with steps := s.steps + 1, cho := s.cho.take fc }) := by
  rw [goM_step _ _ _ _ _ _ _ _ _ _ _ h]
  simp only [stepM, hx, doneI, In.i]
  rfl
theorem go_atomic {k : Nat} {tg : Int} {fc fg pl p : Nat} {s : Ms} {b : Nat} (hx : X[pl]? = some (.i 8 0 (b : Nat) 0 0)) (h : s.steps < fuel) {r : Nat × Nat × Ms} (hr : runM X U fuel stack k (-1) (pl + 1) p { s with steps := s.steps + 1 } = r) :
    (r.1 = 1 → goM X U fuel stack (k + 1) tg fc fg pl p s = goM X U fuel stack k tg fc fg b r.2.1 r.2.2) ∧
    (r.1 = 0 → r.2.2.cho.length ≤ fc → goM X U fuel stack (k + 1) tg fc fg pl p s = (0, p, r.2.2.undo fg)) := by
  have e : stepM X U stack (fun pl p s => runM X U fuel stack k (-1) pl p s) tg pl p { s with steps := s.steps + 1 } = if r.1 = 1 then (3, b, r.2.1, r.2.2) else (r.1, pl, p, r.2.2) := by
    unfold stepM
    rw [hx]
    simp [In.i, hr]
  refine ⟨fun h1 => ?_, fun h0 hf => ?_⟩
  · rw [goM_step _ _ _ _ _ _ _ _ _ _ _ h, e, if_pos h1]
    rfl
  · have e' : stepM X U stack (fun pl p s => runM X U fuel stack k (-1) pl p s) tg pl p { s with steps := s.steps + 1 } = (0, pl, p, r.2.2) := by rw [e, if_neg (by rw [h0]; decide), h0]
    rw [goM_step _ _ _ _ _ _ _ _ _ _ _ h, e']
    simp only
    rw [back_none hf]
    rfl

/-- How many letters a text begins with. -/
def runsA (U : List Int) (n : Nat) : Prop := (∀ j, j < n → U[j]? = some 97) ∧ U[n]? ≠ some 97
variable {n : Nat}
theorem a_yes (hn : runsA U n) {j : Nat} (h : j < n) : U[j]? = some ((97 : UInt8).toNat : Int) := hn.1 j h
theorem a_no (hn : runsA U n) : U[n]? ≠ some ((97 : UInt8).toNat : Int) := hn.2

/-- What a way leaves that changes no slots. -/
structure Kept (s s' : Ms) (m : Nat) : Prop where
  sl : s'.sl = s.sl
  chg : s'.chg = s.chg
  lo : s.steps ≤ s'.steps
  up : s'.steps ≤ s.steps + m
theorem Kept.refl (s : Ms) (m : Nat) : Kept s s m := ⟨rfl, rfl, Nat.le_refl _, by omega⟩
theorem Kept.trans {a b c : Ms} {m k : Nat} (h : Kept a b m) (g : Kept b c k) : Kept a c (m + k) := ⟨g.sl.trans h.sl, g.chg.trans h.chg, Nat.le_trans h.lo g.lo, by have := h.up; have := g.up; omega⟩

/-- So many letters, one after the other. -/
theorem go_many {lo : Nat} {tg : Int} {fc fg b : Nat} (hu : ∀ j, j < lo → X[b + j]? = some aI) (hn : runsA U n) : ∀ (m j k : Nat) (s : Ms), j + m = lo → m < k → s.steps + m < fuel → s.cho.length ≤ fc →
    (lo ≤ n → ∃ s' : Ms, goM X U fuel stack k tg fc fg (b + j) j s = goM X U fuel stack (k - m) tg fc fg (b + lo) lo s' ∧ Kept s s' m ∧ s'.steps = s.steps + m ∧ s'.cho = s.cho) ∧
    (n < lo → j ≤ n → ∃ s' : Ms, goM X U fuel stack k tg fc fg (b + j) j s = (0, n, s'.undo fg) ∧ Kept s s' m ∧ s'.cho = s.cho)
  | 0, j, k, s, hj, _, _, _ => by
    obtain rfl : j = lo := by omega
    exact ⟨fun _ => ⟨s, rfl, Kept.refl _ _, rfl, rfl⟩, fun h1 h2 => absurd h1 (by omega)⟩
  | m + 1, j, k + 1, s, hj, hk, hs, hc => by
    have hx := hu j (by omega)
    by_cases hjn : j < n
    · have ih := go_many (lo := lo) (tg := tg) (fc := fc) (fg := fg) (b := b) hu hn m (j + 1) k { s with steps := s.steps + 1 } (by omega) (by omega) (by simp; omega) hc
      have e := go_unitY (stack := stack) (k := k) (tg := tg) (fc := fc) (fg := fg) hx (s := s) (fuel := fuel) (by omega) (a_yes hn hjn)
      refine ⟨fun h1 => ?_, fun h1 h2 => ?_⟩
      · obtain ⟨s', e1, e2, e3, e4⟩ := ih.1 h1
        refine ⟨s', ?_, ⟨e2.sl, e2.chg, by have := e2.lo; simp at this; omega, by have := e2.up; simp at this; omega⟩, by simp at e3; omega, e4⟩
        rw [e, Nat.add_assoc, e1, show k + 1 - (m + 1) = k - m by omega]
      · obtain ⟨s', e1, e2, e3⟩ := ih.2 h1 (by omega)
        refine ⟨s', ?_, ⟨e2.sl, e2.chg, by have := e2.lo; simp at this; omega, by have := e2.up; simp at this; omega⟩, e3⟩
        rw [e, Nat.add_assoc, e1]
    · refine ⟨fun h1 => absurd h1 (by omega), fun h1 h2 => ?_⟩
      obtain rfl : j = n := by omega
      refine ⟨{ s with steps := s.steps + 1 }, ?_, ⟨rfl, rfl, by simp, by simp⟩, rfl⟩
      rw [go_unit hx (by omega) hc, if_neg (a_no hn)]
/-- Options, as many as there are. -/
theorem go_opts {d lo : Nat} {tg : Int} {fc fg b : Nat} (hsp : ∀ i, i < d → X[b + 2 * i]? = some (splitA false (b + 2 * i + 1) (b + 2 * d))) (hsu : ∀ i, i < d → X[b + 2 * i + 1]? = some aI) (hn : runsA U n) : ∀ (m i k : Nat) (s : Ms), i + m = d → 2 * m + 1 < k → s.steps + 2 * m < fuel → fc ≤ s.cho.length → s.cho.length + m < stack → lo + i ≤ n →
    ∃ (k' : Nat) (s' : Ms) (l : List (Nat × Nat × Nat)), goM X U fuel stack k tg fc fg (b + 2 * i) (lo + i) s = goM X U fuel stack k' tg fc fg (b + 2 * d) (min n (lo + d)) s' ∧ Kept s s' (2 * m) ∧ k ≤ k' + 2 * m ∧ s'.cho = s.cho ++ l ∧ l.length ≤ m
  | 0, i, k, s, hi, _, _, _, _, hin => by
    obtain rfl : i = d := by omega
    refine ⟨k, s, [], ?_, Kept.refl _ _, by omega, by simp, by simp⟩
    rw [Nat.min_eq_right hin]
  | m + 1, i, k + 2, s, hi, hk, hs, hc, hst, hin => by
    have hx := hsp i (by omega)
    have hx2 := hsu i (by omega)
    have e := go_split (U := U) (fuel := fuel) (k := k + 1) (tg := tg) (fc := fc) (fg := fg) (p := lo + i) (s := s) (stack := stack) hx (by omega) (by omega)
    by_cases hlt : lo + i < n
    · have e2 := go_unitY (stack := stack) (k := k) (tg := tg) (fc := fc) (fg := fg) hx2 (s := { s with steps := s.steps + 1, cho := s.cho ++ [(b + 2 * d, lo + i, s.chg.length)], deep := max s.deep (s.cho.length + 1) }) (fuel := fuel) (by simp; omega) (a_yes hn hlt)
      obtain ⟨k', s', l, e3, e4, e5, e6, e7⟩ := go_opts (lo := lo) (tg := tg) (fc := fc) (fg := fg) hsp hsu hn m (i + 1) k { s with steps := s.steps + 1 + 1, cho := s.cho ++ [(b + 2 * d, lo + i, s.chg.length)], deep := max s.deep (s.cho.length + 1) } (by omega) (by omega) (by simp; omega) (by simp; omega) (by simp; omega) (by omega)
      refine ⟨k', s', (b + 2 * d, lo + i, s.chg.length) :: l, ?_, ⟨e4.sl, e4.chg, by have := e4.lo; simp at this; omega, by have := e4.up; simp at this; omega⟩, by omega, by rw [e6]; simp, by simp; omega⟩
      rw [e, e2]
      exact e3
    · obtain rfl : n = lo + i := by omega
      have e2 := go_unitB (stack := stack) (k := k) (tg := tg) (fc := fc) (fg := fg) hx2 (s := { s with steps := s.steps + 1, cho := s.cho ++ [(b + 2 * d, lo + i, s.chg.length)], deep := max s.deep (s.cho.length + 1) }) (fuel := fuel) (by simp; omega) (a_no hn) (l := s.cho) rfl hc
      refine ⟨k, { s with steps := s.steps + 1 + 1, deep := max s.deep (s.cho.length + 1), cho := s.cho }, [], ?_, ⟨rfl, rfl, ?_, ?_⟩, by omega, (List.append_nil _).symm, by simp⟩
      · rw [e, e2, Nat.min_eq_left (by omega)]
      · show s.steps ≤ s.steps + 1 + 1
        omega
      · show s.steps + 1 + 1 ≤ s.steps + 2 * (m + 1)
        omega

end Go.Proofs.YtdbddbelhgkelaaGreatDoor

/- A letter that is repeated: what is found. Of no program. -/
namespace Go.Proofs.YtdbddbelhgkelaaGreatDoor
open Go.Proofs.YtdbddbelhgkelaaGreatDoor.Cl
variable {U : List Int} {fuel stack : Nat} {X : List In} {n lo d m : Nat} {tl : List UInt8}

/-- The end of a match. -/
theorem go_end {k e p : Nat} {fc fg : Nat} {tg : Int} {s : Ms} (hs : X[e]? = some (saveI 1)) (hm : X[e + 1]? = some matchI) (hk : 2 ≤ k) (hf : s.steps + 2 ≤ fuel) :
    ∃ s' : Ms, goM X U fuel stack k tg fc fg e p s = (1, p, s') ∧ s'.sl = s.sl.set 1 (p : Nat) := by
  obtain ⟨k, rfl⟩ : ∃ k', k = k' + 2 := ⟨k - 2, by omega⟩
  rw [go_save (a := 1) hs (by omega), go_match hm (by simp [Ms.put]; omega)]
  exact ⟨_, rfl, rfl⟩
/-- What a run at the beginning comes to. -/
structure Came (lo hi n m : Nat) (tl : List UInt8) (r : Nat × Nat × Ms) : Prop where
  no : n < lo → r.1 = 0
  greedy : lo ≤ n → (m = 0 ∨ m = 2) → tl = [] → r.1 = 1 ∧ r.2.2.sl[0]? = some 0 ∧ r.2.2.sl[1]? = some ((min n hi : Nat) : Int)
  lazy : lo ≤ n → m = 1 → tl = [] → r.1 = 1 ∧ r.2.2.sl[0]? = some 0 ∧ r.2.2.sl[1]? = some ((lo : Nat) : Int)
  more : lo ≤ n → m = 2 → tl = [97] → r.1 = if hi < n then 1 else 0
  zero : r.1 = 0 → r.2.2.cho = [] ∧ r.2.2.steps ≤ 100
theorem sl_two {sl : List Int} (h : 2 ≤ sl.length) (e : Nat) : ((sl.set 0 0).set 1 (e : Nat))[0]? = some 0 ∧ ((sl.set 0 0).set 1 (e : Nat))[1]? = some (e : Int) := by
  have l0 : 0 < sl.length := by omega
  have l1 : 1 < sl.length := by omega
  simp [l0, l1]
theorem g_run (hG : GP X lo d m tl) (hn : runsA U n) (hlo : lo ≤ 20) (hd : d ≤ 20) (hm : m ≤ 2) (ht : tl = [] ∨ (tl = [97] ∧ m = 2)) {k : Nat} (hk : 200 ≤ k) (hf : 200 ≤ fuel) (hst : 100 ≤ stack) {s : Ms} (h0 : s.steps = 0) (hc : s.cho = []) (hg : s.chg = []) (hsl : 2 ≤ s.sl.length) :
    Came lo (lo + d) n m tl (runM X U fuel stack k (-1) 0 0 s) := by
  obtain ⟨k, rfl⟩ : ∃ k', k = k' + 2 := ⟨k - 2, by omega⟩
  have hc0 : s.cho.length = 0 := by rw [hc]; rfl
  have hg0 : s.chg.length = 0 := by rw [hg]; rfl
  have e1 : runM X U fuel stack (k + 2) (-1) 0 0 s = goM X U fuel stack k (-1) 0 0 2 0 { (({ s with steps := s.steps + 1 } : Ms).put 0 (0 : Nat)) with steps := 2 } := by
    unfold runM
    rw [hc0, hg0, go_save (a := 0) hG.z0 (by omega), go_edge hG.z1 (by simp [Ms.put]; omega) (by simp [Ms.put, hc]), if_pos rfl, h0]
    rfl
  rw [e1]
  obtain ⟨s1, hs1⟩ : ∃ s1 : Ms, s1 = { (({ s with steps := s.steps + 1 } : Ms).put 0 (0 : Nat)) with steps := 2 } := ⟨_, rfl⟩
  rw [← hs1]
  have a1 : s1.steps = 2 := by rw [hs1]
  have a2 : s1.cho = [] := by rw [hs1]; exact hc
  have a3 : s1.sl = s.sl.set 0 0 := by rw [hs1]; rfl
  have a5 : s1.cho.length = 0 := by rw [a2]; rfl
  clear hs1 e1
  by_cases h2 : m = 2
  · subst h2
    have u2 : ∀ j, j < lo → X[3 + j]? = some aI := hG.u
    have hat := hG.z2 rfl
    obtain ⟨k, rfl⟩ : ∃ k', k = k' + 1 := ⟨k - 1, by omega⟩
    have many := go_many (U := U) (fuel := fuel) (stack := stack) (tg := -1) (fc := 0) (fg := s1.chg.length) (b := 3) u2 hn lo 0 k { s1 with steps := s1.steps + 1 } (by omega) (by omega) (by simp; omega) (by simp [a2])
    by_cases hlt : n < lo
    · obtain ⟨s2, b1, b2, b3⟩ := many.2 hlt (by omega)
      have hr : runM X U fuel stack k (-1) (2 + 1) 0 { s1 with steps := s1.steps + 1 } = (0, n, s2.undo s1.chg.length) := by
        unfold runM
        rw [show ({ s1 with steps := s1.steps + 1 } : Ms).cho.length = 0 from a5]
        exact b1
      have := (go_atomic (tg := -1) (fc := 0) (fg := 0) (s := s1) hat (by omega) hr).2 rfl (by simp only [Ms.undo]; rw [b3]; exact Nat.le_of_eq a5)
      rw [this]
      refine ⟨fun _ => rfl, fun h => absurd h (by omega), fun h => absurd h (by omega), fun h => absurd h (by omega), fun _ => ⟨?_, ?_⟩⟩
      · simp only [Ms.undo]; rw [b3]; exact a2
      · simp only [Ms.undo]; have := b2.up; simp at this; omega
    · obtain ⟨s2, b1, b2, b3, b4⟩ := many.1 (by omega)
      have sp : ∀ i, i < d → X[3 + lo + 2 * i]? = some (splitA false (3 + lo + 2 * i + 1) (3 + lo + 2 * d)) := hG.sp
      have su : ∀ i, i < d → X[3 + lo + 2 * i + 1]? = some aI := hG.su
      have st2 : s2.steps ≤ 23 := by simp at b3; omega
      have c2 : s2.cho = [] := by rw [b4]; exact a2
      obtain ⟨k', s3, l, d1, d2, d3, d4, d5⟩ := go_opts (U := U) (fuel := fuel) (stack := stack) (lo := lo) (tg := -1) (fc := 0) (fg := s1.chg.length) sp su hn d 0 (k - lo) s2 (by omega) (by omega) (by omega) (by omega) (by rw [c2]; simp; omega) (by omega)
      have hk' : 2 ≤ k' := by omega
      have st3 : s3.steps ≤ 63 := by have := d2.up; omega
      obtain ⟨k'', rfl⟩ : ∃ q, k' = q + 1 := ⟨k' - 1, by omega⟩
      have hdn := go_done (U := U) (fuel := fuel) (stack := stack) (k := k'') (fc := 0) (fg := s1.chg.length) (p := min n (lo + d)) (s := s3) (hG.dn rfl) (by omega)
      obtain ⟨s4, hs4⟩ : ∃ s4 : Ms, s4 = { s3 with steps := s3.steps + 1, cho := s3.cho.take 0 } := ⟨_, rfl⟩
      rw [← hs4] at hdn
      have f1 : s4.steps ≤ 64 := by rw [hs4]; simp; omega
      have f2 : s4.cho = [] := by rw [hs4]; simp
      have f3 : s4.sl = s.sl.set 0 0 := by rw [hs4, ← a3]; exact d2.sl.trans b2.sl
      have hr : runM X U fuel stack k (-1) (2 + 1) 0 { s1 with steps := s1.steps + 1 } = (1, min n (lo + d), s4) := by
        unfold runM
        rw [show ({ s1 with steps := s1.steps + 1 } : Ms).cho.length = 0 from a5]
        exact b1.trans (Eq.trans d1 hdn)
      have hgo := (go_atomic (tg := -1) (fc := 0) (fg := 0) (s := s1) hat (by omega) hr).1 rfl
      have hsv := hG.sv
      have hmt := hG.mt
      have htls := hG.tls
      rw [if_pos rfl] at hsv hmt htls
      have g3 : gb 2 = 3 := rfl
      rw [g3] at hsv hmt htls
      simp only at hgo
      rw [hgo]
      rcases ht with rfl | ⟨rfl, _⟩
      · obtain ⟨s5, g1, g2⟩ := go_end (U := U) (fuel := fuel) (stack := stack) (k := k) (p := min n (lo + d)) (fc := 0) (fg := 0) (tg := -1) (s := s4) hsv hmt (by omega) (by omega)
        have g1' : goM X U fuel stack k (-1) 0 0 (3 + lo + 2 * d + 1) (min n (lo + d)) s4 = (1, min n (lo + d), s5) := g1
        rw [g1']
        have := sl_two hsl (min n (lo + d))
        refine ⟨fun h => absurd h hlt, fun _ _ _ => ⟨rfl, ?_, ?_⟩, fun _ h => (by omega), fun _ _ h => (by cases h), fun h => absurd (show (1 : Nat) = 0 from h) (by decide)⟩
        · rw [g2, f3]; exact this.1
        · rw [g2, f3]; exact this.2
      · obtain ⟨k, rfl⟩ : ∃ q, k = q + 1 := ⟨k - 1, by omega⟩
        have hu := htls 0 97 rfl
        by_cases hh : lo + d < n
        · have hy := go_unitY (U := U) (stack := stack) (k := k) (tg := -1) (fc := 0) (fg := 0) (p := min n (lo + d)) (s := s4) (fuel := fuel) hu (by omega) (a_yes hn (by omega))
          obtain ⟨s5, g1, g2⟩ := go_end (U := U) (fuel := fuel) (stack := stack) (k := k) (p := min n (lo + d) + 1) (fc := 0) (fg := 0) (tg := -1) (s := { s4 with steps := s4.steps + 1 }) hsv hmt (by omega) (by simp; omega)
          refine ⟨fun h => absurd h hlt, fun _ _ h => (by cases h), fun _ h => (by omega), fun _ _ _ => ?_, fun h => ?_⟩
          · rw [if_pos hh]
            refine congrArg (fun r : Nat × Nat × Ms => r.1) (hy.trans g1)
          · have := congrArg (fun r : Nat × Nat × Ms => r.1) (hy.trans g1)
            exact absurd (show (0 : Nat) = 1 from h.symm.trans this) (by decide)
        · have hmn : min n (lo + d) = n := by omega
          have hy := go_unit (U := U) (stack := stack) (k := k) (tg := -1) (fc := 0) (fg := 0) (p := min n (lo + d)) (s := s4) (fuel := fuel) hu (by omega) (by rw [f2]; simp)
          rw [if_neg (by rw [hmn]; exact a_no hn)] at hy
          have hy' : goM X U fuel stack (k + 1) (-1) 0 0 (3 + lo + 2 * d + 1) (min n (lo + d)) s4 = (0, min n (lo + d), ({ s4 with steps := s4.steps + 1 } : Ms).undo 0) := hy
          rw [hy']
          refine ⟨fun _ => rfl, fun _ _ h => (by cases h), fun _ h => (by omega), fun _ _ _ => (by rw [if_neg hh]), fun _ => ⟨?_, ?_⟩⟩
          · simp only [Ms.undo]; exact f2
          · simp only [Ms.undo]; omega
  · have g2 : gb m = 2 := by unfold gb; rw [if_neg h2]
    have htl : tl = [] := by rcases ht with h | h; exact h; exact absurd h.2 h2
    subst htl
    have u2 := hG.u
    have sp := hG.sp
    have su := hG.su
    have hsv := hG.sv
    have hmt := hG.mt
    rw [if_neg h2, g2] at hsv hmt
    rw [g2] at u2 sp su
    have many := go_many (U := U) (fuel := fuel) (stack := stack) (tg := -1) (fc := 0) (fg := 0) (b := 2) u2 hn lo 0 k s1 (by omega) (by omega) (by omega) (by omega)
    by_cases hlt : n < lo
    · obtain ⟨s2, b1, b2, b3⟩ := many.2 hlt (by omega)
      refine ⟨fun _ => ?_, fun h => absurd h (by omega), fun h => absurd h (by omega), fun h => absurd h (by omega), fun _ => ?_⟩
      · exact congrArg (fun r : Nat × Nat × Ms => r.1) b1
      · have e := congrArg (fun r : Nat × Nat × Ms => r.2.2) b1
        simp only at e
        have e' : (goM X U fuel stack k (-1) 0 0 2 0 s1).2.2 = s2.undo 0 := e
        rw [e']
        refine ⟨?_, ?_⟩
        · simp only [Ms.undo]; rw [b3]; exact a2
        · simp only [Ms.undo]; have := b2.up; omega
    · obtain ⟨s2, b1, b2, b3, b4⟩ := many.1 (by omega)
      have b1' : goM X U fuel stack k (-1) 0 0 2 0 s1 = goM X U fuel stack (k - lo) (-1) 0 0 (2 + lo) lo s2 := b1
      have st2 : s2.steps ≤ 23 := by omega
      have c2 : s2.cho = [] := by rw [b4]; exact a2
      rw [b1']
      by_cases h1 : m = 1
      · subst h1
        have hend : ∃ s5 : Ms, goM X U fuel stack (k - lo) (-1) 0 0 (2 + lo) lo s2 = (1, lo, s5) ∧ s5.sl = s2.sl.set 1 (lo : Nat) := by
          by_cases hd0 : d = 0
          · subst hd0
            exact go_end (U := U) (fuel := fuel) (stack := stack) (k := k - lo) (p := lo) (fc := 0) (fg := 0) (tg := -1) (s := s2) hsv hmt (by omega) (by omega)
          · obtain ⟨q, hq⟩ : ∃ q, k - lo = q + 1 := ⟨k - lo - 1, by omega⟩
            rw [hq]
            have e := go_split (U := U) (fuel := fuel) (stack := stack) (k := q) (tg := -1) (fc := 0) (fg := 0) (p := lo) (s := s2) (sp 0 (by omega)) (by omega) (by rw [c2]; simp; omega)
            obtain ⟨s5, g1, g2⟩ := go_end (U := U) (fuel := fuel) (stack := stack) (k := q) (p := lo) (fc := 0) (fg := 0) (tg := -1) (s := { s2 with steps := s2.steps + 1, cho := s2.cho ++ [(2 + lo + 2 * 0 + 1, lo, s2.chg.length)], deep := max s2.deep (s2.cho.length + 1) }) hsv hmt (by omega) (by simp; omega)
            exact ⟨s5, e.trans g1, g2⟩
        obtain ⟨s5, g1, g2⟩ := hend
        rw [g1]
        have := sl_two hsl lo
        refine ⟨fun h => absurd h hlt, fun _ h => (by omega), fun _ _ _ => ⟨rfl, ?_, ?_⟩, fun _ h => (by omega), fun h => absurd (show (1 : Nat) = 0 from h) (by decide)⟩
        · rw [g2, b2.sl, a3]; exact this.1
        · rw [g2, b2.sl, a3]; exact this.2
      · have hdec : decide (m = 1) = false := by simp [h1]
        rw [hdec] at sp
        obtain ⟨k', s3, l, d1, d2, d3, d4, d5⟩ := go_opts (U := U) (fuel := fuel) (stack := stack) (lo := lo) (tg := -1) (fc := 0) (fg := 0) sp su hn d 0 (k - lo) s2 (by omega) (by omega) (by omega) (by omega) (by rw [c2]; simp; omega) (by omega)
        obtain ⟨s5, g1, g2⟩ := go_end (U := U) (fuel := fuel) (stack := stack) (k := k') (p := min n (lo + d)) (fc := 0) (fg := 0) (tg := -1) (s := s3) hsv hmt (by omega) (by have := d2.up; omega)
        have e9 : goM X U fuel stack (k - lo) (-1) 0 0 (2 + lo) lo s2 = (1, min n (lo + d), s5) := d1.trans g1
        rw [e9]
        have := sl_two hsl (min n (lo + d))
        refine ⟨fun h => absurd h hlt, fun _ _ _ => ⟨rfl, ?_, ?_⟩, fun _ h => absurd h h1, fun _ h => absurd h h2, fun h => absurd (show (1 : Nat) = 0 from h) (by decide)⟩
        · rw [g2, d2.sl, b2.sl, a3]; exact this.1
        · rw [g2, d2.sl, b2.sl, a3]; exact this.2
/-- At any further place it fails at once. -/
theorem g_later (hG : GP X lo d m tl) (j : Nat) : ∀ (p : Nat) (s : Ms), 1 ≤ p → s.steps + 2 * j < fuel → s.cho = [] → (findM X U fuel stack j p s).1 = 0 := by
  induction j with
  | zero => intro p s _ _ _; rfl
  | succ j ih =>
    intro p s hp hs hc
    obtain ⟨f, rfl⟩ : ∃ f, fuel = f + 2 := ⟨fuel - 2, by omega⟩
    have hc0 : s.cho.length = 0 := by rw [hc]; rfl
    have e : runM X U (f + 2) stack (f + 2) (-1) 0 p s = (0, p, ({ (({ s with steps := s.steps + 1 } : Ms).put 0 p) with steps := s.steps + 1 + 1 } : Ms).undo s.chg.length) := by
      unfold runM
      rw [go_save (a := 0) hG.z0 (by omega), go_edge hG.z1 (by simp [Ms.put]; omega) (by simp [Ms.put]), if_neg (by omega)]
      rfl
    rw [findM, e]
    simp only [if_true]
    exact ih (p + 1) _ (by omega) (by simp [Ms.undo]; omega) hc
theorem g_find (hG : GP X lo d m tl) (hn : runsA U n) (hlo : lo ≤ 20) (hd : d ≤ 20) (hm : m ≤ 2) (ht : tl = [] ∨ (tl = [97] ∧ m = 2)) (hf : 1000 ≤ fuel) (hst : 100 ≤ stack) (hU : U.length ≤ 60) {s : Ms} (h0 : s.steps = 0) (hc : s.cho = []) (hg : s.chg = []) (hsl : 2 ≤ s.sl.length) :
    (n < lo → (findM X U fuel stack (U.length + 1) 0 s).1 = 0) ∧
    (lo ≤ n → (m = 0 ∨ m = 2) → tl = [] → (findM X U fuel stack (U.length + 1) 0 s).1 = 1 ∧ (findM X U fuel stack (U.length + 1) 0 s).2.sl[0]? = some 0 ∧ (findM X U fuel stack (U.length + 1) 0 s).2.sl[1]? = some ((min n (lo + d) : Nat) : Int)) ∧
    (lo ≤ n → m = 1 → tl = [] → (findM X U fuel stack (U.length + 1) 0 s).1 = 1 ∧ (findM X U fuel stack (U.length + 1) 0 s).2.sl[0]? = some 0 ∧ (findM X U fuel stack (U.length + 1) 0 s).2.sl[1]? = some ((lo : Nat) : Int)) ∧
    (lo ≤ n → m = 2 → tl = [97] → (findM X U fuel stack (U.length + 1) 0 s).1 = if lo + d < n then 1 else 0) := by
  have h := g_run (U := U) (fuel := fuel) (stack := stack) hG hn hlo hd hm ht (k := fuel) (by omega) (by omega) hst h0 hc hg hsl
  rw [findM]
  generalize runM X U fuel stack fuel (-1) 0 0 s = r at h ⊢
  by_cases hr : r.1 = 0
  · simp only [hr, if_true]
    obtain ⟨z1, z2⟩ := h.zero hr
    have hl := g_later (fuel := fuel) (stack := stack) (U := U) hG U.length 1 r.2.2 (by omega) (by omega) z1
    rw [Nat.zero_add]
    refine ⟨fun _ => hl, fun a b c => absurd (show (0 : Nat) = 1 from hr.symm.trans (h.greedy a b c).1) (by decide), fun a b c => absurd (show (0 : Nat) = 1 from hr.symm.trans (h.lazy a b c).1) (by decide), fun a b c => ?_⟩
    rw [hl, ← h.more a b c, hr]
  · simp only [hr, if_false]
    exact ⟨fun a => absurd (h.no a) hr, h.greedy, h.lazy, h.more⟩

end Go.Proofs.YtdbddbelhgkelaaGreatDoor

/- Programs that keep to their ways; the examples' answers. Of no program. -/
namespace Go.Proofs.YtdbddbelhgkelaaGreatDoor
open Go.Proofs.YtdbddbelhgkelaaGreatDoor.Cl

def insB (X : List In) (i : Nat) (x : In) : Bool :=
  (x.op == 0 || x.op == 1 || x.op == 2 || x.op == 3 || x.op == 4 || x.op == 6 || x.op == 8 || x.op == 9 || x.op == 10 || x.op == 11) &&
  (!(x.op == 2 || x.op == 3) || (decide (0 ≤ x.a) && decide (x.a < X.length))) &&
  (!(x.op == 3 || x.op == 8) || (decide (0 ≤ x.b) && decide (x.b < X.length))) &&
  (!(x.op == 4) || (decide (0 ≤ x.a) && decide (x.a < 20))) &&
  (!(x.op == 10 || x.op == 11) || (decide (0 ≤ x.a) && decide (x.a < marks X))) &&
  (!(x.op == 6) || (x.a == 0 || x.a == 1)) &&
  ((x.op == 0 || x.op == 9) || decide (i + 1 < X.length)) && decide (x.set.length ≤ 1000)
def prB (X : List In) : Bool := decide (X.length ≤ 2003) && (List.range X.length).all fun i => match X[i]? with | none => true | some x => insB X i x
theorem in_ok {X : List In} {i : Nat} {x : In} (h : insB X i x = true) : InOk X i x := by
  simp only [insB, Bool.and_eq_true, Bool.or_eq_true, Bool.not_eq_true', Bool.or_eq_false_iff, beq_iff_eq, beq_eq_false_iff_ne, decide_eq_true_eq] at h
  obtain ⟨⟨⟨⟨⟨⟨⟨h1, h2⟩, h3⟩, h4⟩, h5⟩, h6⟩, h7⟩, h8⟩ := h
  exact ⟨by omega, by omega, by omega, by omega, by omega, by omega, by omega, by omega⟩
theorem pr_ok {X : List In} (h : prB X = true) : PrOk X := by
  unfold prB at h
  simp only [Bool.and_eq_true, decide_eq_true_eq] at h
  refine ⟨h.1, fun i x hx => ?_⟩
  have := List.all_eq_true.1 h.2 i (List.mem_range.2 (List.getElem?_eq_some_iff.1 hx).1)
  rw [hx] at this
  exact in_ok this
theorem plain_ok (s : List UInt8) (hs : s.length ≤ 1000) : PrOk (plainC s) := by
  have hl : (plainC s).length = s.length + 3 := by simp [plainC]
  refine ⟨by omega, fun i x hx => ?_⟩
  have hi := (List.getElem?_eq_some_iff.1 hx).1
  cases i with
  | zero =>
    have : x = saveI 0 := by simpa [plainC] using hx.symm
    subst this
    exact ⟨by simp [saveI, In.i], by simp [saveI, In.i], by simp [saveI, In.i], by simp [saveI, In.i], by simp [saveI, In.i], by simp [saveI, In.i], fun _ _ => by omega, by simp [saveI, In.i]⟩
  | succ i =>
    by_cases h1 : i < s.length
    · have := plain_get s i s[i] (List.getElem?_eq_getElem h1)
      rw [this] at hx
      obtain rfl := Option.some.inj hx
      exact ⟨by simp [uI], by simp [uI], by simp [uI], by simp [uI], by simp [uI], by simp [uI], fun _ _ => by omega, by simp [uI]⟩
    · by_cases h2 : i = s.length
      · subst h2
        rw [plain_save] at hx
        obtain rfl := Option.some.inj hx
        exact ⟨by simp [saveI, In.i], by simp [saveI, In.i], by simp [saveI, In.i], by simp [saveI, In.i], by simp [saveI, In.i], by simp [saveI, In.i], fun _ _ => by omega, by simp [saveI, In.i]⟩
      · obtain rfl : i = s.length + 1 := by omega
        rw [plain_match] at hx
        obtain rfl := Option.some.inj hx
        exact ⟨by simp [In.i], by simp [In.i], by simp [In.i], by simp [In.i], by simp [In.i], by simp [In.i], fun h _ => absurd rfl h, by simp [In.i]⟩
theorem findM_mono {X : List In} {U : List Int} {stack f F : Nat} (hf : f ≤ F) : ∀ (n p : Nat) (s : Ms), (findM X U f stack n p s).1 ≠ 2 → findM X U F stack n p s = findM X U f stack n p s
  | 0, _, _, _ => rfl
  | n + 1, p, s, h => by
    rw [findM] at h ⊢
    rw [findM]
    have hm : (runM X U f stack f (-1) 0 p s).1 ≠ 2 → runM X U F stack F (-1) 0 p s = runM X U f stack f (-1) 0 p s := fun h => goM_mono f hf hf h
    by_cases h0 : (runM X U f stack f (-1) 0 p s).1 = 0
    · rw [if_pos h0] at h ⊢
      rw [hm (by omega), if_pos h0]
      exact findM_mono hf n (p + 1) _ h
    · rw [if_neg h0] at h ⊢
      rw [hm h, if_neg h0]

end Go.Proofs.YtdbddbelhgkelaaGreatDoor

/- Programs of patterns without looks, references and loops without an end keep to their ways. Of no program. -/
namespace Go.Proofs.YtdbddbelhgkelaaGreatDoor
open Go.Proofs.YtdbddbelhgkelaaGreatDoor.Cl

def Pln (l : List In) : Prop := ∀ x ∈ l, (x.op = 0 ∨ x.op = 1 ∨ x.op = 2 ∨ x.op = 3 ∨ x.op = 4 ∨ x.op = 6 ∨ x.op = 8 ∨ x.op = 9) ∧ (x.op = 6 → x.a = 0 ∨ x.a = 1)
theorem Pln.nil : Pln [] := fun _ h => by simp at h
theorem Pln.one {i : In} (h : (i.op = 0 ∨ i.op = 1 ∨ i.op = 2 ∨ i.op = 3 ∨ i.op = 4 ∨ i.op = 6 ∨ i.op = 8 ∨ i.op = 9) ∧ (i.op = 6 → i.a = 0 ∨ i.a = 1)) : Pln [i] := fun x hx => by rw [List.mem_singleton.1 hx]; exact h
theorem Pln.app {x y : List In} (hx : Pln x) (hy : Pln y) : Pln (app x y) := by
  intro z hz
  unfold Go.Proofs.YtdbddbelhgkelaaGreatDoor.app at hz
  rcases List.mem_append.1 hz with h | h
  · exact hx z h
  · obtain ⟨u, hu, rfl⟩ := List.mem_map.1 h
    refine ⟨by rw [sh_op]; exact (hy u hu).1, fun h6 => ?_⟩
    rw [sh_op] at h6
    have : sh (x.length : Nat) (marks x : Nat) u = u := by
      unfold sh
      rw [if_neg (by omega), if_neg (by omega), if_neg (by omega), if_neg (by omega)]
    rw [this]
    exact (hy u hu).2 h6
theorem Pln.split {lz : Bool} {n : Int} : Pln [splitI lz n] := Pln.one (by unfold splitI; split <;> simp [In.i])
theorem Pln.rep {x : List In} (h : Pln x) : ∀ (n : Nat), Pln (repC n x)
  | 0 => Pln.nil
  | n + 1 => h.app (Pln.rep h n)
theorem Pln.opt {lz : Bool} {x : List In} (h : Pln x) : ∀ (n : Nat), Pln (optC lz n x)
  | 0 => Pln.nil
  | n + 1 => Pln.split.app (h.app (Pln.opt h n))
theorem Pln.within {i : In} {x : List In} (hi : i.op = 8) (h : Pln x) : Pln (withinC i x) := (Pln.one (i := { i with b := (x.length : Int) + 2 }) (by simp [hi])).app (h.app (Pln.one (i := doneI) (by simp [doneI, In.i])))
theorem Pln.units (l : List UInt8) : Pln (l.map uI) := by
  intro x hx
  obtain ⟨c, _, rfl⟩ := List.mem_map.1 hx
  simp [uI]
theorem g_pln {lo hi m : Nat} {tl : List UInt8} (hlh : lo ≤ hi) : Pln (whole false (gNode lo hi m tl)) := by
  obtain ⟨d, rfl⟩ : ∃ d, hi = lo + d := ⟨hi - lo, by omega⟩
  have hcode : code false (gNode lo (lo + d) m tl) = app [edgeI] (app (code false (repN lo (lo + d : Nat) m (uN 97))) (rowC ((tl.map uN).map (code false)))) := by
    unfold gNode catN
    rw [code_eq]
    unfold cF
    rw [if_neg (by decide), if_pos rfl, List.map_cons, List.map_cons, rowC, rowC]
    rfl
  have htl : rowC ((tl.map uN).map (code false)) = tl.map uI := by rw [List.map_map]; exact row_units tl
  have ha : Pln [aI] := Pln.units [97]
  have hrep : Pln (code false (repN lo (lo + d : Nat) m (uN 97))) := by
    unfold repN
    rw [code_eq]
    unfold cF
    rw [if_neg (by decide), if_neg (by decide), if_neg (by decide), if_pos rfl]
    have e1 : rowC (List.map (code false) [uN 97]) = [aI] := rfl
    have e2 : timesC (lo : Int) ((lo + d : Nat) : Int) (m : Int) [aI] = app (repC lo [aI]) (optC (decide ((m : Int) = 1)) d [aI]) := by
      unfold timesC
      rw [if_neg (by omega), show ((lo : Int)).toNat = lo by omega, show (((lo + d : Nat) : Int) - (lo : Int)).toNat = d by omega]
    rw [e1, e2]
    split
    · exact Pln.within (by simp [In.i]) ((ha.rep _).app (ha.opt _))
    · exact (ha.rep _).app (ha.opt _)
  unfold whole
  rw [hcode, htl]
  exact (Pln.one (by simp [saveI, In.i])).app (((Pln.one (by simp [edgeI, In.i])).app (hrep.app (Pln.units tl))).app ((Pln.one (by simp [saveI, In.i])).app (Pln.one (by simp [In.i]))))
theorem pln_ok {fo : Bool} {g : Nat} {nd : Nd} (hf : Wf nd) (hn : Wn (g : Nat) nd) (hg : g ≤ 9) (hv : verdictN nd = 0) (hp : Pln (whole fo nd)) : PrOk (whole fo nd) := by
  have hlen : len (code fo nd) ≤ 2000 := by
    have := code_len fo hf
    unfold verdictN at hv
    split at hv
    · split at hv
      · cases hv
      · unfold capF far at this
        split at this <;> omega
    · cases hv
  have hbl := body_len fo nd
  have hw := whole_body fo nd
  have hwl : (whole fo nd).length = (body fo nd).length + 1 := by rw [hw]; simp
  have hb := body_ok fo hf hn
  have hlim := whole_lim fo hn
  unfold len at hbl hlen
  refine ⟨by omega, fun i x hx => ?_⟩
  have hi := (List.getElem?_eq_some_iff.1 hx).1
  have hm := hp x (List.mem_of_getElem? hx)
  have hs := hlim x (List.mem_of_getElem? hx)
  by_cases hil : i < (body fo nd).length
  · have hxb : (body fo nd)[i]? = some x := by rw [hw, List.getElem?_append_left hil] at hx; exact hx
    have hO := hb i x hxb
    rw [Nat.zero_add, show ((0 : Nat) : Int) = 0 from rfl, sh_zero] at hO
    have hj := hO.jump
    have hsp := hO.split
    have hsv := hO.save
    have hu : x.op = 8 → (i : Int) + 1 < x.b ∧ x.b ≤ len (body fo nd) := fun h => ⟨(hO.upto (.inr h)).1, (hO.upto (.inr h)).2.1⟩
    clear hO
    unfold len at hj hsp hu
    refine ⟨by omega, fun h => ?_, fun h => ?_, fun h => ?_, fun h => by omega, hm.2, fun _ _ => by omega, hs⟩
    · rcases h with h | h
      · have := hj h; omega
      · have := hsp h; omega
    · rcases h with h | h
      · have := hsp h; omega
      · have := hu h; omega
    · have := hsv h; omega
  · have : i = (body fo nd).length := by omega
    subst this
    rw [hw, List.getElem?_append_right (Nat.le_refl _)] at hx
    simp at hx
    subst hx
    exact ⟨by simp [In.i], by simp [In.i], by simp [In.i], by simp [In.i], by simp [In.i], by simp [In.i], fun h _ => absurd rfl h, by simp [In.i]⟩
theorem g_ok {lo hi m : Nat} {tl : List UInt8} (hlo : lo ≤ 20) (hh : hi ≤ 20) (hlh : lo ≤ hi) (hm : m ≤ 2) (ht : tl = [] ∨ (tl = [97] ∧ m = 2)) : PrOk (whole false (gNode lo hi m tl)) := by
  have e := g_parse hlo hh hlh hm ht
  have hn : Wn ((0 : Nat) : Int) (gNode lo hi m tl) := parse_wn e
  exact pln_ok (g := 0) (parse_wf e) hn (by omega) (g_verdict hh hlh (by rcases ht with h | h; exact .inl h; exact .inr h.1)) (g_pln hlh)
end Go.Proofs.YtdbddbelhgkelaaGreatDoor

