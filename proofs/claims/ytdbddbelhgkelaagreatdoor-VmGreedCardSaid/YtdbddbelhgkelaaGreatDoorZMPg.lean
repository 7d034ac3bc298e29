/- Joined: PgM, PgP, PgW, PgL, PgA, PgQ, PgS, PgX, PgY, PgO. -/
import Derived.Test.YtdbddbelhgkelaaGreatDoorZMModel
/- Patterns as programs: instructions, code moved, the code of nodes. Of no program. -/
namespace Go.Proofs.YtdbddbelhgkelaaGreatDoor
open Go.Proofs.YtdbddbelhgkelaaGreatDoor.Cl

/-- An instruction. -/
structure In where
  op : Int
  a : Int
  b : Int
  c : Int
  d : Int
  set : List Rg
def In.i (op a b c d : Int) : In := ⟨op, a, b, c, d, []⟩
/-- An instruction, so many places and loops on. -/
def sh (p q : Int) (x : In) : In :=
  if x.op = 2 then { x with a := x.a + p }
  else if x.op = 3 then { x with a := x.a + p, b := x.b + p }
  else if x.op = 7 ∨ x.op = 8 then { x with b := x.b + p }
  else if x.op = 10 ∨ x.op = 11 then { x with a := x.a + q }
  else x
theorem sh_op (p q : Int) (x : In) : (sh p q x).op = x.op := by unfold sh; split <;> (try split) <;> (try split) <;> (try split) <;> rfl
theorem sh_set (p q : Int) (x : In) : (sh p q x).set = x.set := by unfold sh; split <;> (try split) <;> (try split) <;> (try split) <;> rfl
theorem sh_c (p q : Int) (x : In) : (sh p q x).c = x.c := by unfold sh; split <;> (try split) <;> (try split) <;> (try split) <;> rfl
theorem sh_d (p q : Int) (x : In) : (sh p q x).d = x.d := by unfold sh; split <;> (try split) <;> (try split) <;> (try split) <;> rfl
theorem sh_zero (x : In) : sh 0 0 x = x := by unfold sh; cases x; simp
theorem sh_sh (p q p' q' : Int) (x : In) : sh p q (sh p' q' x) = sh (p' + p) (q' + q) x := by
  obtain ⟨op, a, b, c, d, s⟩ := x
  unfold sh
  by_cases h2 : op = 2
  · simp [h2]; omega
  by_cases h3 : op = 3
  · simp [h3]; omega
  by_cases h7 : op = 7 ∨ op = 8
  · simp [h2, h3, h7]; omega
  by_cases h10 : op = 10 ∨ op = 11
  · simp [h2, h3, h7, h10]; omega
  · simp [h2, h3, h7, h10]
/-- How many Marks. -/
def marks (l : List In) : Nat := l.countP fun x => decide (x.op = 10)
theorem marks_nil : marks [] = 0 := rfl
theorem marks_append (l m : List In) : marks (l ++ m) = marks l + marks m := by simp [marks]
theorem marks_cons (x : In) (l : List In) : marks (x :: l) = (if x.op = 10 then 1 else 0) + marks l := by
  unfold marks
  rw [List.countP_cons]
  by_cases h : x.op = 10 <;> simp [h] <;> omega
theorem marks_le (l : List In) : marks l ≤ l.length := List.countP_le_length
theorem marks_sh (p q : Int) (l : List In) : marks (l.map (sh p q)) = marks l := by
  unfold marks
  rw [List.countP_map]
  congr 1
  funext x
  simp [sh_op]
/-- One code behind the other. -/
def app (x y : List In) : List In := x ++ y.map (sh (x.length : Nat) (marks x : Nat))
theorem app_len (x y : List In) : (app x y).length = x.length + y.length := by simp [app]
theorem app_marks (x y : List In) : marks (app x y) = marks x + marks y := by rw [app, marks_append, marks_sh]
theorem map_zero (x : List In) : x.map (sh 0 0) = x := by
  rw [show sh 0 0 = id from funext sh_zero, List.map_id]
theorem app_nil (x : List In) : app x [] = x := by simp [app]
theorem nil_app (x : List In) : app [] x = x := by
  unfold app
  simp only [List.length_nil, marks_nil, List.nil_append]
  exact map_zero x
theorem app_assoc (x y z : List In) : app (app x y) z = app x (app y z) := by
  have e : app x (app y z) = x ++ (y ++ z.map (sh (y.length : Nat) (marks y : Nat))).map (sh (x.length : Nat) (marks x : Nat)) := rfl
  have e' : app (app x y) z = app x y ++ z.map (sh ((app x y).length : Nat) (marks (app x y) : Nat)) := rfl
  rw [e, e', app_len, app_marks, List.map_append, List.map_map]
  unfold app
  rw [List.append_assoc]
  congr 2
  apply List.map_congr_left
  intro i _
  simp only [Function.comp]
  rw [sh_sh]
  congr 1 <;> omega

/-! ### The codes -/
def saveI (n : Int) : In := .i 4 n 0 0 0
def doneI : In := .i 9 0 0 0 0
def splitI (lz : Bool) (n : Int) : In := if lz then .i 3 n 1 0 0 else .i 3 1 n 0 0
def foldS (l : List Rg) : List Rg := mkSet (l ++ folds l)
def unitI (fo : Bool) (s : List Rg) : In := ⟨1, 0, 0, 0, 0, if fo then foldS s else s⟩
def backI (fo : Bool) (r : Int) : In := .i 5 r (if fo then 1 else 0) 0 0
def lookI (m c d : Int) (n : Nat) : In := .i 7 m (n : Nat) (if m = 2 ∨ m = 3 then c else 0) (if m = 2 ∨ m = 3 then d else 0)
def rowC : List (List In) → List In
  | [] => []
  | x :: l => app x (rowC l)
def altC : List (List In) → List In
  | [] => []
  | [x] => x
  | x :: y :: l => app [splitI false ((x.length : Int) + 2)] (app x (app [.i 2 (((altC (y :: l)).length : Int) + 1) 0 0 0] (altC (y :: l))))
def repC : Nat → List In → List In
  | 0, _ => []
  | n + 1, x => app x (repC n x)
def loopC (lz : Bool) (x : List In) : List In :=
  app [splitI lz ((x.length : Int) + 4)] (app [.i 10 0 0 0 0] (app x (app [.i 11 (-(marks x : Int) - 1) 0 0 0] [.i 2 (-(x.length : Int) - 3) 0 0 0])))
def optC (lz : Bool) : Nat → List In → List In
  | 0, _ => []
  | n + 1, x => app [splitI lz (((n : Int) + 1) * ((x.length : Int) + 1))] (app x (optC lz n x))
def timesC (lo hi m : Int) (x : List In) : List In := app (repC lo.toNat x) (if hi = -1 then loopC (decide (m = 1)) x else optC (decide (m = 1)) (hi - lo).toNat x)
def withinC (i : In) (x : List In) : List In := app [{ i with b := (x.length : Int) + 2 }] (app x [doneI])
def cF (fo : Bool) (k lo hi m r : Int) (set : List Rg) (c d : Int) (l : List (List In)) : List In :=
  if k = 1 then [unitI fo set]
  else if k = 2 then rowC l
  else if k = 3 then altC l
  else if k = 4 then (if m = 2 then withinC (.i 8 0 0 0 0) (timesC lo hi m (rowC l)) else timesC lo hi m (rowC l))
  else if k = 5 then app [saveI (2 * r)] (app (rowC l) [saveI (2 * r + 1)])
  else if k = 6 then [backI fo r]
  else if k = 7 then withinC (lookI m c d 0) (rowC l)
  else if k = 8 then withinC (.i 8 0 0 0 0) (rowC l)
  else if k = 9 then [.i 6 r 0 0 0]
  else []
mutual
def code (fo : Bool) : Nd → List In
  | .mk k lo hi m r s kids => cF fo k lo hi m r s (loSum kids) (hiSum kids) (codes fo kids)
def codes (fo : Bool) : List Nd → List (List In)
  | [] => []
  | x :: l => code fo x :: codes fo l
end
theorem codes_map (fo : Bool) (l : List Nd) : codes fo l = l.map (code fo) := by induction l with | nil => rfl | cons x l ih => simp [codes, ih]
theorem code_eq (fo : Bool) (k lo hi m r : Int) (s : List Rg) (l : List Nd) : code fo (.mk k lo hi m r s l) = cF fo k lo hi m r s (loSum l) (hiSum l) (l.map (code fo)) := by rw [code, codes_map]
/-- A whole program. -/
def whole (fo : Bool) (nd : Nd) : List In := app [saveI 0] (app (code fo nd) (app [saveI 1] [.i 0 0 0 0 0]))

/-! ### Lengths -/
def len (x : List In) : Int := (x.length : Nat)
theorem len_app (x y : List In) : len (app x y) = len x + len y := by unfold len; rw [app_len]; omega
theorem len_nonneg (x : List In) : 0 ≤ len x := by unfold len; omega
theorem rowC_len (l : List (List In)) : len (rowC l) = (l.map len).sum := by
  induction l with
  | nil => rfl
  | cons x l ih => rw [rowC, len_app, ih]; simp
theorem altC_len : ∀ (l : List (List In)), l ≠ [] → len (altC l) = (l.map len).sum + 2 * ((l.length : Int) - 1)
  | [x], _ => by simp [altC]
  | x :: y :: l, _ => by
    have ih := altC_len (y :: l) (by simp)
    rw [altC, len_app, len_app, len_app, ih]
    simp [len]
    omega
theorem repC_len (n : Nat) (x : List In) : len (repC n x) = (n : Int) * len x := by
  induction n with
  | zero => simp [repC, len]
  | succ n ih =>
    rw [repC, len_app, ih, Int.natCast_add, Int.add_mul]
    omega
theorem loopC_len (lz : Bool) (x : List In) : len (loopC lz x) = len x + 4 := by
  unfold loopC
  simp only [len_app]
  simp [len]
  omega
theorem optC_len (lz : Bool) (n : Nat) (x : List In) : len (optC lz n x) = (n : Int) * (len x + 1) := by
  induction n with
  | zero => simp [optC, len]
  | succ n ih =>
    have e : ((n + 1 : Nat) : Int) * (len x + 1) = (n : Int) * (len x + 1) + 1 * (len x + 1) := by rw [Int.natCast_add, Int.add_mul]; rfl
    rw [optC, len_app, len_app, ih, e]
    simp [len]
    omega
theorem withinC_len (i : In) (x : List In) : len (withinC i x) = len x + 2 := by
  unfold withinC
  simp only [len_app]
  simp [len]
  omega
theorem timesC_len (lo hi m : Int) (h0 : 0 ≤ lo) (h1 : hi = -1 ∨ lo ≤ hi) (x : List In) : len (timesC lo hi m x) = lo * len x + (if hi = -1 then len x + 4 else (hi - lo) * (len x + 1)) := by
  unfold timesC
  rw [len_app, repC_len, Int.toNat_of_nonneg h0]
  by_cases c : hi = -1
  · rw [if_pos c, if_pos c, loopC_len]
  · rw [if_neg c, if_neg c, optC_len, Int.toNat_of_nonneg (by omega)]

theorem cap_add {a b a' b' : Int} (h0 : 0 ≤ a) (h1 : 0 ≤ b) (h2 : 0 ≤ a') (h3 : 0 ≤ b') (h : capF a = capF a') (k : capF b = capF b') : capF (a + b) = capF (a' + b') := by
  have _ := h1
  have _ := h2
  unfold capF far at *
  split at h <;> split at h <;> split at k <;> split at k <;> split <;> split <;> omega
theorem cap_cap (x : Int) : capF (capF x) = capF x := by
  by_cases h : far < x
  · have e : capF x = far := by unfold capF; rw [if_pos h]
    rw [e]; exact if_neg (Int.lt_irrefl _)
  · have e : capF x = x := by unfold capF; rw [if_neg h]
    rw [e]; exact e
theorem cap_sum {α : Type} (f g : α → Int) : ∀ (l : List α), (∀ x ∈ l, f x = capF (g x)) → (∀ x ∈ l, 0 ≤ g x) → capF (l.map f).sum = capF (l.map g).sum ∧ 0 ≤ (l.map f).sum ∧ 0 ≤ (l.map g).sum
  | [], _, _ => by simp
  | x :: l, hf, hg => by
    obtain ⟨h1, h2, h3⟩ := cap_sum f g l (fun y hy => hf y (by simp [hy])) (fun y hy => hg y (by simp [hy]))
    have a := hf x (by simp)
    have b := hg x (by simp)
    have c := (cap_range b).1
    simp only [List.map_cons, List.sum_cons]
    refine ⟨cap_add (by omega) h2 b h3 (by rw [a, cap_cap]) h1, by omega, by omega⟩
theorem cap_big {a b : Int} (h : far ≤ a) (k : far ≤ b) : capF a = capF b := by unfold capF at *; split <;> split <;> omega
theorem cap_mul {c y : Int} (hc : 0 ≤ c) (hy : 0 ≤ y) : capF (c * capF y) = capF (c * y) ∧ 0 ≤ c * capF y ∧ 0 ≤ c * y := by
  have h0 := cap_range hy
  refine ⟨?_, Int.mul_nonneg hc h0.1, Int.mul_nonneg hc hy⟩
  by_cases h : far < y
  · have e : capF y = far := by unfold capF; rw [if_pos h]
    rw [e]
    by_cases h1 : 0 < c
    · refine cap_big ?_ ?_
      · have : 1 * far ≤ c * far := Int.mul_le_mul_of_nonneg_right (by omega) (by simp [far])
        omega
      · have : 1 * y ≤ c * y := Int.mul_le_mul_of_nonneg_right (by omega) hy
        omega
    · obtain rfl : c = 0 := by omega
      simp
  · have e : capF y = y := by unfold capF; rw [if_neg h]
    rw [e]
theorem len_map_nonneg (fo : Bool) (l : List Nd) : ∀ x ∈ l, 0 ≤ (fun y => len (code fo y)) x := fun _ _ => len_nonneg _
theorem map_len (fo : Bool) (l : List Nd) : (l.map (code fo)).map len = l.map fun y => len (code fo y) := by rw [List.map_map]; rfl

/-! ### The codes, kind by kind -/
section
variable (fo : Bool) (lo hi m r : Int) (s : List Rg) (c d : Int) (l : List (List In))
theorem cF0 : cF fo 0 lo hi m r s c d l = [] := by simp [cF]
theorem cF1 : cF fo 1 lo hi m r s c d l = [unitI fo s] := by simp [cF]
theorem cF2 : cF fo 2 lo hi m r s c d l = rowC l := by simp [cF]
theorem cF3 : cF fo 3 lo hi m r s c d l = altC l := by simp [cF]
theorem cF4 (h : m ≠ 2) : cF fo 4 lo hi m r s c d l = timesC lo hi m (rowC l) := by simp [cF, h]
theorem cF42 : cF fo 4 lo hi 2 r s c d l = withinC (.i 8 0 0 0 0) (timesC lo hi 2 (rowC l)) := by simp [cF]
theorem cF5 : cF fo 5 lo hi m r s c d l = app [saveI (2 * r)] (app (rowC l) [saveI (2 * r + 1)]) := by simp [cF]
theorem cF6 : cF fo 6 lo hi m r s c d l = [backI fo r] := by simp [cF]
theorem cF7 : cF fo 7 lo hi m r s c d l = withinC (lookI m c d 0) (rowC l) := by simp [cF]
theorem cF8 : cF fo 8 lo hi m r s c d l = withinC (.i 8 0 0 0 0) (rowC l) := by simp [cF]
theorem cF9 : cF fo 9 lo hi m r s c d l = [.i 6 r 0 0 0] := by simp [cF]
end
theorem rowC_one (x : List In) : rowC [x] = x := by simp [rowC, app_nil]

/-- A node's code is as long as its size, unless that is above Far. -/
theorem code_len (fo : Bool) {nd : Nd} (h : Wf nd) : ndSize nd = capF (len (code fo nd)) := by
  refine Wf.ind (P := fun nd => ndSize nd = capF (len (code fo nd))) (fun k lo hi m r s l hs _ ih => ?_) h
  obtain ⟨c1, c2, c3⟩ := cap_sum ndSize (fun y => len (code fo y)) l ih (len_map_nonneg fo l)
  rw [ndSize_eq, code_eq]
  rcases hs with ⟨rfl, _⟩ | ⟨rfl, _⟩ | ⟨rfl, _⟩ | ⟨rfl, hn⟩ | ⟨rfl, hn, h0, _, h1, _, h2, _, _⟩ | ⟨rfl, hn⟩ | ⟨rfl, _⟩ | ⟨rfl, hn, _⟩ | ⟨rfl, hn⟩ | ⟨rfl, _⟩
  · rw [cF0]; simp [sizeF, len]
  · rw [cF1]; simp [sizeF, len]
  · rw [cF2, rowC_len, map_len]
    have e : sizeF 2 lo hi m (l.map ndSize) = capF (l.map ndSize).sum := by simp [sizeF]
    rw [e]
    exact c1
  · have e : sizeF 3 lo hi m (l.map ndSize) = capF ((l.map ndSize).sum + 2 * ((l.length : Int) - 1)) := by simp [sizeF]
    rw [cF3, e, altC_len _ (by intro e; have := congrArg List.length e; simp at this; rw [this] at hn; simp at hn), map_len, List.length_map]
    exact cap_add c2 (by omega) c3 (by omega) c1 rfl
  · obtain ⟨x, rfl⟩ := hd_one hn
    have hx := ih x (by simp)
    have e : sizeF 4 lo hi m ([x].map ndSize) = capF (lo * ndSize x + (if hi < 0 then ndSize x + 4 else (hi - lo) * (ndSize x + 1)) + (if m = 2 then 2 else 0)) := by simp [sizeF, hd]
    have hy := len_nonneg (code fo x)
    have hT := timesC_len lo hi m h0 (by omega) (code fo x)
    rw [e, hx]
    simp only [List.map_cons, List.map_nil]
    have k1 : capF (lo * capF (len (code fo x)) + (if hi < 0 then capF (len (code fo x)) + 4 else (hi - lo) * (capF (len (code fo x)) + 1))) = capF (len (timesC lo hi m (code fo x))) ∧ 0 ≤ lo * capF (len (code fo x)) + (if hi < 0 then capF (len (code fo x)) + 4 else (hi - lo) * (capF (len (code fo x)) + 1)) := by
      rw [hT]
      generalize len (code fo x) = y at *
      have hc := cap_range hy
      obtain ⟨p1, p2, p3⟩ := cap_mul h0 hy
      by_cases ch : hi = -1
      · rw [if_pos ch, if_pos (by omega)]
        exact ⟨cap_add p2 (by omega) p3 (by omega) p1 (cap_add hc.1 (by omega) hy (by omega) (cap_cap y) rfl), by omega⟩
      · obtain ⟨q1, q2, q3⟩ := cap_mul (c := hi - lo) (by omega) hy
        rw [if_neg ch, if_neg (by omega), Int.mul_add, Int.mul_add]
        exact ⟨cap_add p2 (by omega) p3 (by omega) p1 (cap_add q2 (by omega) q3 (by omega) q1 rfl), by omega⟩
    by_cases hm : m = 2
    · subst hm
      rw [cF42, withinC_len, rowC_one, if_pos rfl]
      exact cap_add k1.2 (by omega) (len_nonneg _) (by omega) k1.1 rfl
    · rw [cF4 _ _ _ _ _ _ _ _ _ hm, rowC_one, if_neg hm, Int.add_zero]
      exact k1.1
  · obtain ⟨x, rfl⟩ := hd_one hn
    have hx := ih x (by simp)
    have e : sizeF 5 lo hi m ([x].map ndSize) = capF (ndSize x + 2) := by simp [sizeF, hd]
    have hy := len_nonneg (code fo x)
    have e2 : len [saveI (2 * r)] + (len (code fo x) + len [saveI (2 * r + 1)]) = len (code fo x) + 2 := by simp [len]; omega
    rw [e, hx, cF5, len_app, len_app]
    simp only [List.map_cons, List.map_nil]
    rw [rowC_one, e2]
    exact cap_add (cap_range hy).1 (by omega) hy (by omega) (cap_cap _) rfl
  · rw [cF6]; simp [sizeF, len]
  · obtain ⟨x, rfl⟩ := hd_one hn
    have hx := ih x (by simp)
    have e : sizeF 7 lo hi m ([x].map ndSize) = capF (ndSize x + 2) := by simp [sizeF, hd]
    have hy := len_nonneg (code fo x)
    rw [e, hx, cF7, withinC_len]
    simp only [List.map_cons, List.map_nil]
    rw [rowC_one]
    exact cap_add (cap_range hy).1 (by omega) hy (by omega) (cap_cap _) rfl
  · obtain ⟨x, rfl⟩ := hd_one hn
    have hx := ih x (by simp)
    have e : sizeF 8 lo hi m ([x].map ndSize) = capF (ndSize x + 2) := by simp [sizeF, hd]
    have hy := len_nonneg (code fo x)
    rw [e, hx, cF8, withinC_len]
    simp only [List.map_cons, List.map_nil]
    rw [rowC_one]
    exact cap_add (cap_range hy).1 (by omega) hy (by omega) (cap_cap _) rfl
  · rw [cF9]; simp [sizeF, len]

end Go.Proofs.YtdbddbelhgkelaaGreatDoor

/- Places of programs: each way leads into the program; what goes up to a place ends ahead of it; loops are numbered as they come. Of no program. -/
namespace Go.Proofs.YtdbddbelhgkelaaGreatDoor
open Go.Proofs.YtdbddbelhgkelaaGreatDoor.Cl

/-- An instruction at a place of a code. -/
structure OkI (G : Int) (Z : List In) (i : Nat) (x : In) : Prop where
  go : x.op ≠ 0
  set : Norm x.set
  jump : x.op = 2 → 0 ≤ x.a ∧ x.a ≤ len Z
  split : x.op = 3 → (i : Int) < x.a ∧ (i : Int) < x.b ∧ x.a ≤ len Z ∧ x.b ≤ len Z ∧ min x.a x.b = (i : Int) + 1
  save : x.op = 4 → 0 ≤ x.a ∧ x.a < 2 * G + 2
  back : x.op = 5 → 1 ≤ x.a ∧ x.a ≤ G
  upto : x.op = 7 ∨ x.op = 8 → (i : Int) + 1 < x.b ∧ x.b ≤ len Z ∧ ∃ (j : Nat) (y : In), (j : Int) + 1 = x.b ∧ Z[j]? = some y ∧ y.op = 9
  mark : x.op = 10 → x.a = marks (Z.take i)
  guard : x.op = 11 → x.a < marks (Z.take i) ∧ ∃ (y z : In) (j : Nat), Z[i + 1]? = some y ∧ y.op = 2 ∧ y.a = (j : Int) ∧ Z[j]? = some z ∧ z.op = 3
/-- A code stands within another one. -/
structure Inn (X : List In) (p q : Nat) (Z : List In) : Prop where
  get : ∀ (j : Nat) (y : In), X[j]? = some y → Z[p + j]? = some (sh (p : Nat) (q : Nat) y)
  mks : ∀ (j : Nat), j ≤ X.length → marks (Z.take (p + j)) = q + marks (X.take j)
  le : p + X.length ≤ Z.length
theorem Inn.refl (Z : List In) : Inn Z 0 0 Z := ⟨fun j y h => by simp [sh_zero, h], fun j _ => by simp, by simp⟩
theorem app_get_left {x y : List In} {j : Nat} {i : In} (h : x[j]? = some i) : (app x y)[j]? = some i := by
  unfold app
  rw [List.getElem?_append_left (List.getElem?_eq_some_iff.1 h).1]
  exact h
theorem app_get_right {x y : List In} {j : Nat} {i : In} (h : y[j]? = some i) : (app x y)[x.length + j]? = some (sh (x.length : Nat) (marks x : Nat) i) := by
  unfold app
  rw [List.getElem?_append_right (by omega), Nat.add_sub_cancel_left, List.getElem?_map, h]
  rfl
theorem Inn.left {x y Z : List In} {p q : Nat} (h : Inn (app x y) p q Z) : Inn x p q Z := by
  refine ⟨fun j i hi => h.get j i (app_get_left hi), fun j hj => ?_, ?_⟩
  · have := h.mks j (by rw [app_len]; omega)
    rw [this]
    unfold app
    rw [List.take_append_of_le_length hj]
  · have := h.le; rw [app_len] at this; omega
theorem Inn.right {x y Z : List In} {p q : Nat} (h : Inn (app x y) p q Z) : Inn y (p + x.length) (q + marks x) Z := by
  refine ⟨fun j i hi => ?_, fun j hj => ?_, ?_⟩
  · have := h.get _ _ (app_get_right hi)
    rw [sh_sh] at this
    rw [Nat.add_assoc, this]
    congr 2 <;> omega
  · have := h.mks (x.length + j) (by rw [app_len]; omega)
    rw [Nat.add_assoc, this]
    unfold app
    rw [List.take_length_add_append, marks_append, ← List.map_take, marks_sh]
    omega
  · have := h.le; rw [app_len] at this; omega
/-- All of a code, within another one. -/
def OkIn (G : Int) (X : List In) (p q : Nat) (Z : List In) : Prop := ∀ (i : Nat) (x : In), X[i]? = some x → OkI G Z (p + i) (sh (p : Nat) (q : Nat) x)
def OkC (G : Int) (X : List In) : Prop := OkIn G X 0 0 X
theorem OkIn.two {G : Int} {x y Z : List In} {p q : Nat} (hx : OkIn G x p q Z) (hy : OkIn G y (p + x.length) (q + marks x) Z) : OkIn G (app x y) p q Z := by
  intro i a ha
  unfold app at ha
  rw [List.getElem?_append] at ha
  split at ha
  · exact hx i a ha
  · rename_i hi
    rw [List.getElem?_map] at ha
    obtain ⟨b, hb, rfl⟩ := Option.map_eq_some_iff.1 ha
    have := hy _ _ hb
    rw [sh_sh]
    have e : p + x.length + (i - x.length) = p + i := by omega
    rw [e] at this
    have e1 : ((x.length : Nat) : Int) + (p : Nat) = ((p + x.length : Nat) : Int) := by omega
    have e2 : ((marks x : Nat) : Int) + (q : Nat) = ((q + marks x : Nat) : Int) := by omega
    rw [e1, e2]
    exact this
theorem OkIn.one {G : Int} {i : In} {Z : List In} {p q : Nat} (h : OkI G Z p (sh (p : Nat) (q : Nat) i)) : OkIn G [i] p q Z := by
  intro j x hj
  match j, hj with
  | 0, hj =>
    simp at hj
    subst hj
    exact h
theorem OkIn.nil {G : Int} {Z : List In} {p q : Nat} : OkIn G [] p q Z := by intro j x hj; simp at hj
theorem sh_get (p q : Int) (x : In) : (x.op = 2 → (sh p q x).a = x.a + p) ∧ (x.op = 3 → (sh p q x).a = x.a + p ∧ (sh p q x).b = x.b + p) ∧ (x.op = 4 → (sh p q x).a = x.a) ∧ (x.op = 5 → (sh p q x).a = x.a) ∧
    (x.op = 7 ∨ x.op = 8 → (sh p q x).b = x.b + p) ∧ (x.op = 10 → (sh p q x).a = x.a + q) ∧ (x.op = 11 → (sh p q x).a = x.a + q) := by
  obtain ⟨op, a, b, c, d, s⟩ := x
  simp only [sh]
  refine ⟨?_, ?_, ?_, ?_, ?_, ?_, ?_⟩
  · intro h; simp [h]
  · intro h; simp [h]
  · intro h; simp [h]
  · intro h; simp [h]
  · rintro (h | h) <;> simp [h]
  · intro h; simp [h]
  · intro h; simp [h]
theorem OkC.within {G : Int} {X Z : List In} {p q : Nat} (h : OkC G X) (hi : Inn X p q Z) : OkIn G X p q Z := by
  intro i x hx
  have h1 := h i x hx
  rw [show ((0 : Nat) : Int) = 0 from rfl, sh_zero, Nat.zero_add] at h1
  obtain ⟨s2, s3, s4, s5, s7, s10, s11⟩ := sh_get (p : Nat) (q : Nat) x
  have hle := hi.le
  have hil : i < X.length := (List.getElem?_eq_some_iff.1 hx).1
  have lX : len X = (X.length : Nat) := rfl
  have lZ : len Z = (Z.length : Nat) := rfl
  refine ⟨by rw [sh_op]; exact h1.go, by rw [sh_set]; exact h1.set, ?_, ?_, ?_, ?_, ?_, ?_, ?_⟩
  · intro ho; rw [sh_op] at ho
    have := h1.jump ho
    rw [s2 ho]
    omega
  · intro ho; rw [sh_op] at ho
    have := h1.split ho
    rw [(s3 ho).1, (s3 ho).2]
    omega
  · intro ho; rw [sh_op] at ho
    rw [s4 ho]; exact h1.save ho
  · intro ho; rw [sh_op] at ho
    rw [s5 ho]; exact h1.back ho
  · intro ho; rw [sh_op] at ho
    obtain ⟨a1, a2, j, y, a3, a4, a5⟩ := h1.upto ho
    rw [s7 ho]
    exact ⟨by omega, by omega, p + j, _, by omega, hi.get j y a4, by rw [sh_op]; exact a5⟩
  · intro ho; rw [sh_op] at ho
    rw [s10 ho, h1.mark ho, hi.mks i (by omega)]
    omega
  · intro ho; rw [sh_op] at ho
    obtain ⟨a1, y, z, j, a2, a3, a4, a5, a6⟩ := h1.guard ho
    rw [s11 ho, hi.mks i (by omega)]
    refine ⟨by omega, _, _, p + j, hi.get (i + 1) y a2, by rw [sh_op]; exact a3, ?_, hi.get j z a5, by rw [sh_op]; exact a6⟩
    rw [(sh_get (p : Nat) (q : Nat) y).1 a3, a4]
    omega
theorem OkC.two {G : Int} {x y : List In} (hx : OkC G x) (hy : OkC G y) : OkC G (app x y) :=
  (hx.within (Inn.refl _).left).two (hy.within (Inn.refl _).right)
theorem OkC.nil {G : Int} : OkC G [] := OkIn.nil
theorem OkC.row {G : Int} : ∀ {l : List (List In)}, (∀ x ∈ l, OkC G x) → OkC G (rowC l)
  | [], _ => OkC.nil
  | x :: l, h => (h x (by simp)).two (OkC.row fun y hy => h y (by simp [hy]))
theorem OkC.rep {G : Int} {x : List In} (h : OkC G x) : ∀ (n : Nat), OkC G (repC n x)
  | 0 => OkC.nil
  | n + 1 => h.two (OkC.rep h n)

theorem okI_plain {G : Int} {Z : List In} {p : Nat} {x : In} (h0 : x.op ≠ 0) (hs : Norm x.set) (h : x.op ≠ 2 ∧ x.op ≠ 3 ∧ x.op ≠ 4 ∧ x.op ≠ 5 ∧ x.op ≠ 7 ∧ x.op ≠ 8 ∧ x.op ≠ 10 ∧ x.op ≠ 11) : OkI G Z p x :=
  ⟨h0, hs, fun e => absurd e h.1, fun e => absurd e h.2.1, fun e => absurd e h.2.2.1, fun e => absurd e h.2.2.2.1, fun e => by rcases e with e | e; exact absurd e h.2.2.2.2.1; exact absurd e h.2.2.2.2.2.1, fun e => absurd e h.2.2.2.2.2.2.1, fun e => absurd e h.2.2.2.2.2.2.2⟩
theorem okI_jump {G : Int} {Z : List In} {p : Nat} {x : In} (h : x.op = 2) (hs : Norm x.set) (hj : 0 ≤ x.a ∧ x.a ≤ len Z) : OkI G Z p x :=
  ⟨by omega, hs, fun _ => hj, fun e => by omega, fun e => by omega, fun e => by omega, fun e => by omega, fun e => by omega, fun e => by omega⟩
theorem okI_split {G : Int} {Z : List In} {p : Nat} {x : In} (h : x.op = 3) (hs : Norm x.set) (hj : (p : Int) < x.a ∧ (p : Int) < x.b ∧ x.a ≤ len Z ∧ x.b ≤ len Z ∧ min x.a x.b = (p : Int) + 1) : OkI G Z p x :=
  ⟨by omega, hs, fun e => by omega, fun _ => hj, fun e => by omega, fun e => by omega, fun e => by omega, fun e => by omega, fun e => by omega⟩
theorem okI_save {G : Int} {Z : List In} {p : Nat} {x : In} (h : x.op = 4) (hs : Norm x.set) (hj : 0 ≤ x.a ∧ x.a < 2 * G + 2) : OkI G Z p x :=
  ⟨by omega, hs, fun e => by omega, fun e => by omega, fun _ => hj, fun e => by omega, fun e => by omega, fun e => by omega, fun e => by omega⟩
theorem okI_back {G : Int} {Z : List In} {p : Nat} {x : In} (h : x.op = 5) (hs : Norm x.set) (hj : 1 ≤ x.a ∧ x.a ≤ G) : OkI G Z p x :=
  ⟨by omega, hs, fun e => by omega, fun e => by omega, fun e => by omega, fun _ => hj, fun e => by omega, fun e => by omega, fun e => by omega⟩
theorem okI_upto {G : Int} {Z : List In} {p : Nat} {x : In} (h : x.op = 7 ∨ x.op = 8) (hs : Norm x.set) (hj : (p : Int) + 1 < x.b ∧ x.b ≤ len Z ∧ ∃ (j : Nat) (y : In), (j : Int) + 1 = x.b ∧ Z[j]? = some y ∧ y.op = 9) : OkI G Z p x :=
  ⟨by omega, hs, fun e => by omega, fun e => by omega, fun e => by omega, fun e => by omega, fun _ => hj, fun e => by omega, fun e => by omega⟩
theorem okI_mark {G : Int} {Z : List In} {p : Nat} {x : In} (h : x.op = 10) (hs : Norm x.set) (hj : x.a = marks (Z.take p)) : OkI G Z p x :=
  ⟨by omega, hs, fun e => by omega, fun e => by omega, fun e => by omega, fun e => by omega, fun e => by omega, fun _ => hj, fun e => by omega⟩
theorem okI_guard {G : Int} {Z : List In} {p : Nat} {x : In} (h : x.op = 11) (hs : Norm x.set) (hj : x.a < marks (Z.take p) ∧ ∃ (y z : In) (j : Nat), Z[p + 1]? = some y ∧ y.op = 2 ∧ y.a = (j : Int) ∧ Z[j]? = some z ∧ z.op = 3) : OkI G Z p x :=
  ⟨by omega, hs, fun e => by omega, fun e => by omega, fun e => by omega, fun e => by omega, fun e => by omega, fun e => by omega, fun _ => hj⟩

theorem len_one (i : In) : len [i] = 1 := rfl
theorem length_of (x : List In) : len x = (x.length : Nat) := rfl
theorem splitI_op (lz : Bool) (n : Int) : (splitI lz n).op = 3 ∧ (splitI lz n).set = [] := by cases lz <;> exact ⟨rfl, rfl⟩
theorem marks_split (lz : Bool) (n : Int) : marks [splitI lz n] = 0 := by cases lz <;> rfl
theorem split_at (G : Int) (Z : List In) (p q : Nat) (lz : Bool) (n : Int) (h1 : 1 ≤ n) (h2 : (p : Int) + n ≤ len Z) : OkI G Z p (sh (p : Nat) (q : Nat) (splitI lz n)) := by
  obtain ⟨e1, e2⟩ := splitI_op lz n
  have e3 := (sh_get (p : Nat) (q : Nat) (splitI lz n)).2.1 e1
  refine okI_split (by rw [sh_op]; exact e1) (by rw [sh_set, e2]; exact norm_nil) ?_
  rw [e3.1, e3.2]
  cases lz
  · show (p : Int) < 1 + p ∧ (p : Int) < n + p ∧ 1 + (p : Int) ≤ len Z ∧ n + (p : Int) ≤ len Z ∧ min (1 + (p : Int)) (n + p) = p + 1
    omega
  · show (p : Int) < n + p ∧ (p : Int) < 1 + p ∧ n + (p : Int) ≤ len Z ∧ 1 + (p : Int) ≤ len Z ∧ min (n + (p : Int)) (1 + p) = p + 1
    omega
theorem jump_at (G : Int) (Z : List In) (p q : Nat) (n : Int) (h1 : 0 ≤ p + n) (h2 : (p : Int) + n ≤ len Z) : OkI G Z p (sh (p : Nat) (q : Nat) (.i 2 n 0 0 0)) := by
  have e3 := (sh_get (p : Nat) (q : Nat) (.i 2 n 0 0 0)).1 rfl
  refine okI_jump (by rw [sh_op]; rfl) (by rw [sh_set]; exact norm_nil) ?_
  rw [e3]
  show 0 ≤ n + (p : Int) ∧ n + (p : Int) ≤ len Z
  omega

theorem OkC.alt {G : Int} : ∀ {l : List (List In)}, (∀ x ∈ l, OkC G x) → OkC G (altC l)
  | [], _ => OkC.nil
  | [x], h => h x (by simp)
  | x :: y :: l, h => by
    have hx := h x (by simp)
    have hR : OkC G (altC (y :: l)) := OkC.alt fun z hz => h z (by simp [hz])
    rw [altC]
    generalize altC (y :: l) = R at *
    generalize hZ : app [splitI false ((x.length : Int) + 2)] (app x (app [.i 2 ((R.length : Int) + 1) 0 0 0] R)) = Z
    have hl : len Z = len x + len R + 2 := by rw [← hZ]; simp only [len_app, len_one]; omega
    have hI : Inn (app [splitI false ((x.length : Int) + 2)] (app x (app [.i 2 ((R.length : Int) + 1) 0 0 0] R))) 0 0 Z := by rw [hZ]; exact Inn.refl _
    have l0 := len_nonneg R
    have l1 : len x = (x.length : Nat) := rfl
    have l2 : len R = (R.length : Nat) := rfl
    have key : OkIn G (app [splitI false ((x.length : Int) + 2)] (app x (app [.i 2 ((R.length : Int) + 1) 0 0 0] R))) 0 0 Z := by
      refine OkIn.two (OkIn.one (split_at _ _ _ _ _ _ (by omega) (by omega))) (OkIn.two (hx.within hI.right.left) (OkIn.two (OkIn.one (jump_at _ _ _ _ _ (by simp; omega) (by simp; omega))) (hR.within hI.right.right.right)))
    rw [hZ] at key
    exact key
theorem OkC.opt {G : Int} (lz : Bool) {x : List In} (hx : OkC G x) : ∀ (n : Nat), OkC G (optC lz n x)
  | 0 => OkC.nil
  | n + 1 => by
    have hR := OkC.opt lz hx n
    have hlR := optC_len lz n x
    rw [optC]
    generalize optC lz n x = R at *
    generalize hZ : app [splitI lz (((n : Int) + 1) * ((x.length : Int) + 1))] (app x R) = Z
    have l1 : len x = (x.length : Nat) := rfl
    have l0 := len_nonneg R
    have hm : ((n : Int) + 1) * ((x.length : Int) + 1) = len R + len x + 1 := by rw [Int.add_mul, hlR, l1]; omega
    have hl : len Z = len x + len R + 1 := by rw [← hZ]; simp only [len_app, len_one]; omega
    have hI : Inn (app [splitI lz (((n : Int) + 1) * ((x.length : Int) + 1))] (app x R)) 0 0 Z := by rw [hZ]; exact Inn.refl _
    have key : OkIn G (app [splitI lz (((n : Int) + 1) * ((x.length : Int) + 1))] (app x R)) 0 0 Z :=
      OkIn.two (OkIn.one (split_at _ _ _ _ _ _ (by omega) (by simp; omega))) (OkIn.two (hx.within hI.right.left) (hR.within hI.right.right))
    rw [hZ] at key
    exact key
theorem OkC.loop {G : Int} (lz : Bool) {x : List In} (hx : OkC G x) : OkC G (loopC lz x) := by
  have hlen := loopC_len lz x
  unfold loopC at hlen ⊢
  generalize hZ : app [splitI lz ((x.length : Int) + 4)] (app [.i 10 0 0 0 0] (app x (app [.i 11 (-(marks x : Int) - 1) 0 0 0] [.i 2 (-(x.length : Int) - 3) 0 0 0]))) = Z at hlen
  have l1 : len x = (x.length : Nat) := rfl
  have hI : Inn (app [splitI lz ((x.length : Int) + 4)] (app [.i 10 0 0 0 0] (app x (app [.i 11 (-(marks x : Int) - 1) 0 0 0] [.i 2 (-(x.length : Int) - 3) 0 0 0])))) 0 0 Z := by rw [hZ]; exact Inn.refl _
  have hs0 := hI.left.get 0 _ rfl
  have hms := hI.right.left.mks 0 (by simp)
  have hmg := hI.right.right.right.left.mks 0 (by simp)
  have hj := hI.right.right.right.right.get 0 _ rfl
  have ms := marks_split lz ((x.length : Int) + 4)
  have key : OkIn G (app [splitI lz ((x.length : Int) + 4)] (app [.i 10 0 0 0 0] (app x (app [.i 11 (-(marks x : Int) - 1) 0 0 0] [.i 2 (-(x.length : Int) - 3) 0 0 0])))) 0 0 Z := by
    refine OkIn.two (OkIn.one (split_at _ _ _ _ _ _ (by omega) (by simp; omega))) (OkIn.two (OkIn.one ?_) (OkIn.two (hx.within hI.right.right.left) (OkIn.two (OkIn.one ?_) (OkIn.one ?_))))
    · refine okI_mark (by rw [sh_op]; rfl) (by rw [sh_set]; exact norm_nil) ?_
      rw [(sh_get _ _ _).2.2.2.2.2.1 rfl]
      rw [Nat.add_zero] at hms
      rw [hms]
      simp [In.i, marks_nil]
    · refine okI_guard (by rw [sh_op]; rfl) (by rw [sh_set]; exact norm_nil) ?_
      rw [(sh_get _ _ _).2.2.2.2.2.2 rfl]
      rw [Nat.add_zero] at hmg
      rw [hmg]
      refine ⟨?_, _, _, 0, hj, by rw [sh_op]; rfl, ?_, hs0, by rw [sh_op]; exact (splitI_op _ _).1⟩
      · rw [ms]
        have e10 : marks [In.i 10 0 0 0 0] = 1 := rfl
        rw [e10]
        simp [In.i]
        omega
      · rw [(sh_get _ _ _).1 rfl]
        simp [In.i]
        omega
    · exact jump_at _ _ _ _ _ (by simp; omega) (by simp; omega)
  rw [hZ] at key
  exact key
theorem OkC.times {G : Int} (lo hi m : Int) {x : List In} (hx : OkC G x) : OkC G (timesC lo hi m x) := by
  unfold timesC
  refine (hx.rep _).two ?_
  split
  · exact hx.loop _
  · exact hx.opt _ _
theorem OkC.within_ {G : Int} {i : In} (hi : i.op = 7 ∨ i.op = 8) (hs : i.set = []) {x : List In} (hx : OkC G x) : OkC G (withinC i x) := by
  have hlen := withinC_len i x
  unfold withinC at hlen ⊢
  generalize hZ : app [{ i with b := (x.length : Int) + 2 }] (app x [doneI]) = Z at hlen
  have l1 : len x = (x.length : Nat) := rfl
  have hI : Inn (app [{ i with b := (x.length : Int) + 2 }] (app x [doneI])) 0 0 Z := by rw [hZ]; exact Inn.refl _
  have hd := hI.right.right.get 0 _ rfl
  have key : OkIn G (app [{ i with b := (x.length : Int) + 2 }] (app x [doneI])) 0 0 Z := by
    refine OkIn.two (OkIn.one ?_) (OkIn.two (hx.within hI.right.left) (OkIn.one ?_))
    · refine okI_upto (by rw [sh_op]; exact hi) (by rw [sh_set]; show Norm i.set; rw [hs]; exact norm_nil) ?_
      rw [(sh_get _ _ { i with b := (x.length : Int) + 2 }).2.2.2.2.1 hi]
      refine ⟨?_, ?_, _, _, ?_, hd, by rw [sh_op]; rfl⟩
      · simp; omega
      · simp; omega
      · simp; omega
    · exact okI_plain (by rw [sh_op]; decide) (by rw [sh_set]; exact norm_nil) (by rw [sh_op]; decide)
  rw [hZ] at key
  exact key

end Go.Proofs.YtdbddbelhgkelaaGreatDoor

/- What parse gives: sets are normal, groups and references are those of the pattern. Of no program. -/
namespace Go.Proofs.YtdbddbelhgkelaaGreatDoor
open Go.Proofs.YtdbddbelhgkelaaGreatDoor.Cl

theorem Wf.kids_ {k lo hi m r : Int} {s : List Rg} {l : List Nd} (h : Wf (.mk k lo hi m r s l)) : ∀ x ∈ l, Wf x := by cases h with | mk _ hk => exact hk
theorem Wf.shape_ {k lo hi m r : Int} {s : List Rg} {l : List Nd} (h : Wf (.mk k lo hi m r s l)) : shapeOk k lo hi m l.length := by cases h with | mk hs _ => exact hs

/-- A set of a pattern. -/
def Ns (l : List Rg) : Prop := Norm l ∧ l.length ≤ 2000
theorem ns_nil : Ns [] := ⟨norm_nil, by simp⟩
inductive Wg (g : Nat) (bk : List (Nat × Nat)) : Nd → Prop
  | mk {k lo hi m r : Int} {set : List Rg} {kids : List Nd} (hs : Ns set) (h5 : k = 5 → 1 ≤ r ∧ r ≤ g) (h6 : k = 6 → ∃ b ∈ bk, r = (b.1 : Nat) ∧ 1 ≤ b.1) (hk : ∀ x ∈ kids, Wg g bk x) : Wg g bk (.mk k lo hi m r set kids)
theorem Wg.mono {g g' : Nat} {bk bk' : List (Nat × Nat)} (hg : g ≤ g') (hb : ∀ b ∈ bk, b ∈ bk') {nd : Nd} (h : Wg g bk nd) : Wg g' bk' nd := by
  induction h with
  | mk hs h5 h6 _ ih =>
    refine .mk hs (fun e => ?_) (fun e => ?_) ih
    · have := h5 e; omega
    · obtain ⟨b, h1, h2⟩ := h6 e
      exact ⟨b, hb b h1, h2⟩
theorem Wg.plain {g : Nat} {bk : List (Nat × Nat)} {k lo hi m r : Int} {set : List Rg} {kids : List Nd} (hs : Ns set) (h5 : k ≠ 5) (h6 : k ≠ 6) (hk : ∀ x ∈ kids, Wg g bk x) : Wg g bk (.mk k lo hi m r set kids) :=
  .mk hs (fun e => absurd e h5) (fun e => absurd e h6) hk
theorem Wg.leaf {g : Nat} {bk : List (Nat × Nat)} {k lo hi m r : Int} {set : List Rg} (hs : Ns set) (h5 : k ≠ 5) (h6 : k ≠ 6) : Wg g bk (.mk k lo hi m r set []) := .plain hs h5 h6 (fun _ h => by simp at h)
theorem Wg.set {g : Nat} {bk : List (Nat × Nat)} {l : List Rg} (h : Ns l) : Wg g bk (setN l) := .leaf h (by decide) (by decide)
theorem Wg.edge {g : Nat} {bk : List (Nat × Nat)} (r : Int) : Wg g bk (edgeN r) := .leaf ns_nil (by decide) (by decide)
theorem Wg.one {g : Nat} {bk : List (Nat × Nat)} {k lo hi m r : Int} {x : Nd} (h5 : k ≠ 5) (h6 : k ≠ 6) (hx : Wg g bk x) : Wg g bk (.mk k lo hi m r [] [x]) := .plain ns_nil h5 h6 (fun y hy => by rw [List.mem_singleton] at hy; subst hy; exact hx)
theorem Wg.joinA {g : Nat} {bk : List (Nat × Nat)} {l : List Nd} (h : ∀ x ∈ l, Wg g bk x) : Wg g bk (joinA l) := by
  match l with
  | [] => exact .plain ns_nil (by decide) (by decide) h
  | [x] => exact h x (by simp)
  | x :: y :: l => exact .plain ns_nil (by decide) (by decide) h
theorem Wg.joinR {g : Nat} {bk : List (Nat × Nat)} {l : List Nd} (h : ∀ x ∈ l, Wg g bk x) : Wg g bk (joinR l) := by
  match l with
  | [] => exact .leaf ns_nil (by decide) (by decide)
  | [x] => exact h x (by simp)
  | x :: y :: l => exact .plain ns_nil (by decide) (by decide) h
theorem mkSet_nrm {l : List Rg} (hr : ∀ r ∈ l, Rt r) : Norm (mkSet l) ∧ (∀ u, hasB (mkSet l) u = hasB l u) ∧ (mkSet l).length ≤ l.length := by
  have hq : (l.mergeSort fun a b => decide (a.1 ≤ b.1)).Perm l := List.mergeSort_perm _ _
  have hs2 : (l.mergeSort fun a b => decide (a.1 ≤ b.1)).Pairwise fun a b => a.1 ≤ b.1 := by
    have := List.pairwise_mergeSort (le := fun (a b : Rg) => decide (a.1 ≤ b.1)) (fun a b c h1 h2 => by simp at *; omega) (fun a b => by simp; omega) l
    exact this.imp (fun h => by simpa using h)
  have h2 := together_ok _ (fun r h => hr r (hq.mem_iff.1 h)) hs2
  refine ⟨h2.1, fun u => (h2.2 u).trans (hasB_perm hq u), ?_⟩
  have := together_len (l.mergeSort fun a b => decide (a.1 ≤ b.1))
  rw [hq.length_eq] at this
  exact this
theorem gaps_norm {l : List Rg} (h : Norm l) : Norm (gaps 0 l) := (gaps_ok l 0 (by omega) h (fun r hr => (h.1 r hr).1)).1
theorem low_norm {c : Nat} {l : List Rg} (h : lowOf c = some l) : Norm l := by
  unfold lowOf at h
  split at h
  · cases h; simp [Norm, Rt]
  split at h
  · cases h; simp [Norm, Rt]
  split at h
  · cases h; simp [Norm, Rt]
  · cases h
theorem units_norm_ {c : Nat} {l : List Rg} (h : units c = some l) : Norm l := by
  unfold units at h
  split at h
  · cases ho : lowOf c with
    | none => rw [ho] at h; cases h
    | some m => rw [ho] at h; cases h; exact gaps_norm (low_norm ho)
  · exact low_norm h
theorem units_norm {c : Nat} {l : List Rg} (h : units c = some l) : Ns l := ⟨units_norm_ h, by have := (units_ok h).2; omega⟩
theorem one_norm {u : Int} (h0 : 0 ≤ u) (h1 : u ≤ 1114367) : Ns [(u, u)] := ⟨by simp [Norm, Rt]; omega, by simp⟩
theorem escUnit_max {σ σ1 : St} {u : Nat} (h : escUnit σ = .ok (u, σ1)) : u ≤ 1114367 := by
  unfold escUnit at h
  split at h
  · split at h
    · cases h
    split at h
    · rename_i hx
      simp only [Bool.and_eq_true] at hx
      have a := hx.1
      have b := hx.2
      unfold isHex at a b
      simp only [decide_eq_true_eq] at a b
      cases h
      unfold hexV
      split <;> split <;> omega
    · cases h
  split at h
  · cases h; omega
  split at h
  · cases h; omega
  split at h
  · cases h; omega
  split at h
  · rename_i hm
    unfold isMark at hm
    simp only [decide_eq_true_eq] at hm
    cases h
    omega
  · cases h
theorem members_norm (op : Nat) (neg : Bool) : ∀ (n : Nat) (acc : List Rg) (σ σ1 : St) (l : List Rg), (∀ r ∈ acc, Rt r) → members op neg n acc σ = .ok (l, σ1) → Norm l ∧ σ1.g = σ.g ∧ l.length ≤ acc.length + 5 * n + 1 := by
  intro n
  induction n with
  | zero => intro acc σ σ1 l _ h; simp [members] at h
  | succ n ih =>
    intro acc σ σ1 l ha h
    rw [members] at h
    split at h
    · split at h
      · cases h
      · cases h
        have hl := (mkSet_nrm ha).2.2
        refine ⟨?_, rfl, ?_⟩
        · split
          · exact gaps_norm (mkSet_nrm ha).1
          · exact (mkSet_nrm ha).1
        · split
          · have := gaps_len (mkSet acc) 0; omega
          · omega
    split at h
    · cases h
    · rename_i hne
      split at h
      · cases h
      · rename_i lm σm hm
        obtain ⟨_, h2, h3, h4⟩ := member_len hm (by simpa using hne)
        obtain ⟨k1, k2, k3⟩ := ih _ _ _ _ (by
          intro r hr
          rcases List.mem_append.1 hr with hr | hr
          · exact ha r hr
          · exact h2 r hr) h
        rw [List.length_append] at k3
        exact ⟨k1, k2.trans h4, by omega⟩
section
variable {σ σ1 : St}
theorem adv_bk (σ : St) (n : Nat) : (σ.adv n).bk = σ.bk := rfl
theorem escUnit_bk {u : Nat} (h : escUnit σ = .ok (u, σ1)) : σ1.bk = σ.bk := by
  unfold escUnit at h
  repeat' split at h
  all_goals first
    | (cases h; rfl)
    | cases h
theorem mUnit_bk {u : Nat} (h : mUnit σ = .ok (u, σ1)) : σ1.bk = σ.bk := by
  unfold mUnit at h
  split at h
  · exact escUnit_bk h
  · cases h; rfl
theorem member_bk {l : List Rg} (h : member σ = .ok (l, σ1)) : σ1.bk = σ.bk := by
  unfold member at h
  split at h
  · cases h
  split at h
  · cases h; rfl
  split at h
  · cases h
  · rename_i lo σa ha
    have ea := mUnit_bk ha
    split at h
    · split at h
      · split at h
        · cases h
        · rename_i hi σb hb
          have eb := mUnit_bk hb
          split at h
          · cases h
          · cases h; exact (eb.trans (adv_bk σa 1)).trans ea
      · cases h
    · cases h; exact ea
theorem members_bk {op : Nat} {neg : Bool} : ∀ {k : Nat} {acc l : List Rg} {σ σ1 : St}, members op neg k acc σ = .ok (l, σ1) → σ1.bk = σ.bk := by
  intro k
  induction k with
  | zero => intro acc l σ σ1 h; simp [members] at h
  | succ n ih =>
    intro acc l σ σ1 h
    rw [members] at h
    split at h
    · split at h
      · cases h
      · cases h; rfl
    split at h
    · cases h
    split at h
    · cases h
    · rename_i lm σm hm
      exact (ih h).trans (member_bk hm)
theorem times_bk {x : Int × Int} (h : times σ = some (x, σ1)) : σ1.bk = σ.bk := by
  unfold times at h
  split at h
  · cases h; rfl
  split at h
  · cases h; rfl
  split at h
  · cases h; rfl
  unfold braces at h
  repeat' split at h
  all_goals first
    | (cases h; rfl)
    | cases h
theorem behindMode_bk (σ : St) : (behindMode σ).bk = σ.bk ∧ (behindMode σ).g = σ.g := by unfold behindMode; split <;> exact ⟨rfl, rfl⟩
theorem behindNeg_bk (σ : St) : (behindNeg σ).bk = σ.bk ∧ (behindNeg σ).g = σ.g := by unfold behindNeg; split <;> exact ⟨rfl, rfl⟩
theorem times_g {x : Int × Int} (h : times σ = some (x, σ1)) : σ1.g = σ.g := (times_len h).2
theorem escape_wg {r : Nd} (h : escape σ = .ok (r, σ1)) : Wg σ1.g σ1.bk r ∧ σ1.g = σ.g ∧ ∀ b ∈ σ.bk, b ∈ σ1.bk := by
  unfold escape at h
  split at h
  · cases h; exact ⟨.edge _, rfl, fun _ h => h⟩
  split at h
  · cases h; exact ⟨.edge _, rfl, fun _ h => h⟩
  split at h
  · rename_i hr
    cases h
    refine ⟨.mk ns_nil (fun e => absurd e (by decide)) (fun _ => ⟨(sign σ.t - 48, σ.pos), by simp [refAt], rfl, by simp only; omega⟩) (fun _ h => by simp at h), rfl, fun b hb => by simp [refAt, hb]⟩
  split at h
  · rename_i l hu
    cases h; exact ⟨.set (units_norm hu), rfl, fun _ h => h⟩
  split at h
  · cases h
  · rename_i u σu hu
    cases h
    exact ⟨.set (one_norm (by omega) (by have := escUnit_max hu; omega)), (escUnit_len hu).2.2, fun b hb => by rw [escUnit_bk hu]; exact hb⟩
theorem atomP_wg {r : Nd} (h : atomP σ = .ok (r, σ1)) (hn : σ.t ≠ []) : Wg σ1.g σ1.bk r ∧ σ1.g = σ.g ∧ ∀ b ∈ σ.bk, b ∈ σ1.bk := by
  unfold atomP at h
  split at h
  · unfold brackets at h
    split at h
    · cases h
    · rename_i l σm hm
      cases h
      obtain ⟨k1, k2, k4⟩ := members_norm _ _ _ _ _ _ _ (by simp) hm
      have k3 := members_bk hm
      obtain ⟨b1, b2⟩ := behindNeg_bk σ
      exact ⟨.set ⟨k1, by simp only [List.length_nil] at k4; omega⟩, k2.trans b2, fun b hb => by rw [k3, b1]; exact hb⟩
  split at h
  · exact escape_wg h
  split at h
  · cases h
  split at h
  · cases h
  split at h
  · cases h; exact ⟨.set ⟨by simp [Norm, Rt], by simp⟩, rfl, fun _ h => h⟩
  split at h
  · cases h; exact ⟨.edge _, rfl, fun _ h => h⟩
  split at h
  · cases h; exact ⟨.edge _, rfl, fun _ h => h⟩
  · cases h
    have := nx_max σ.t hn
    exact ⟨.set (one_norm (by omega) (by omega)), rfl, fun _ h => h⟩
theorem quantRest_wg {gr : Bool} {a r : Nd} (ha : Wg σ.g σ.bk a) (h : quantRest gr a σ = .ok (r, σ1)) : Wg σ1.g σ1.bk r ∧ σ1.g = σ.g ∧ σ1.bk = σ.bk := by
  unfold quantRest at h
  split at h
  · split at h
    · cases h
    split at h
    · cases h
    · rename_i lo hi σ2 ht
      have e1 := times_bk ht
      have e2 := times_g ht
      obtain ⟨b1, b2⟩ := behindMode_bk σ2
      cases h
      rw [b1, b2, e1, e2]
      exact ⟨.one (by decide) (by decide) ha, rfl, rfl⟩
  · cases h; exact ⟨ha, rfl, rfl⟩
theorem opening_wg {a b c : Int} (h : opening σ = .ok ((a, b, c), σ1)) : σ.g ≤ σ1.g ∧ σ1.bk = σ.bk ∧ a ≠ 6 ∧ (a = 5 → 1 ≤ c ∧ c ≤ σ1.g) := by
  unfold opening at h
  repeat' split at h
  all_goals first
    | (cases h; refine ⟨?_, rfl, by decide, ?_⟩ <;> simp [opened, St.adv] <;> omega)
    | (cases h; exact ⟨Nat.le_refl _, rfl, by decide, fun e => absurd e (by decide)⟩)
    | cases h
theorem run_wg : ∀ (n : Nat), (∀ d acc σ r σ1, (∀ x ∈ acc, Wg σ.g σ.bk x) → run n 0 d acc σ = .ok (r, σ1) → Wg σ1.g σ1.bk r ∧ σ.g ≤ σ1.g ∧ ∀ b ∈ σ.bk, b ∈ σ1.bk) ∧
    (∀ d acc σ r σ1, (∀ x ∈ acc, Wg σ.g σ.bk x) → run n 1 d acc σ = .ok (r, σ1) → Wg σ1.g σ1.bk r ∧ σ.g ≤ σ1.g ∧ ∀ b ∈ σ.bk, b ∈ σ1.bk) ∧
    (∀ d acc σ r σ1, σ.t ≠ [] → run n 2 d acc σ = .ok (r, σ1) → Wg σ1.g σ1.bk r ∧ σ.g ≤ σ1.g ∧ ∀ b ∈ σ.bk, b ∈ σ1.bk) ∧
    (∀ d acc σ r σ1, run n 3 d acc σ = .ok (r, σ1) → Wg σ1.g σ1.bk r ∧ σ.g ≤ σ1.g ∧ ∀ b ∈ σ.bk, b ∈ σ1.bk) := by
  intro n
  induction n with
  | zero => refine ⟨?_, ?_, ?_, ?_⟩ <;> intros <;> simp [run] at *
  | succ n ih =>
    obtain ⟨ih0, ih1, ih2, ih3⟩ := ih
    refine ⟨?_, ?_, ?_, ?_⟩
    · intro d acc σ r σ1 ha h
      rw [run_alts] at h
      split at h
      · cases h
      · rename_i ra σa hra
        obtain ⟨w1, g1, b1⟩ := ih1 _ _ _ _ _ (by simp) hra
        have ha' : ∀ x ∈ acc ++ [ra], Wg σa.g σa.bk x := by
          intro x hx
          rcases List.mem_append.1 hx with hx | hx
          · exact (ha x hx).mono g1 b1
          · rw [List.mem_singleton] at hx; subst hx; exact w1
        split at h
        · obtain ⟨w2, g2, b2⟩ := ih0 d _ (σa.adv 1) _ _ ha' h
          exact ⟨w2, Nat.le_trans g1 g2, fun b hb => b2 b (b1 b hb)⟩
        · cases h; exact ⟨.joinA ha', g1, b1⟩
    · intro d acc σ r σ1 ha h
      rw [run_row] at h
      split at h
      · cases h; exact ⟨.joinR ha, Nat.le_refl _, fun _ h => h⟩
      · rename_i c
        have hn : σ.t ≠ [] := by
          intro e
          rw [e] at c
          exact c rfl
        split at h
        · cases h
        · rename_i ra σa hra
          obtain ⟨w1, g1, b1⟩ := ih2 _ _ _ _ _ hn hra
          obtain ⟨w2, g2, b2⟩ := ih1 d _ σa _ _ (by
            intro x hx
            rcases List.mem_append.1 hx with hx | hx
            · exact (ha x hx).mono g1 b1
            · rw [List.mem_singleton] at hx; subst hx; exact w1) h
          exact ⟨w2, Nat.le_trans g1 g2, fun b hb => b2 b (b1 b hb)⟩
    · intro d acc σ r σ1 hn h
      rw [run_quant] at h
      split at h
      · cases h
      · rename_i ra σa hra
        have key : Wg σa.g σa.bk ra ∧ σ.g ≤ σa.g ∧ ∀ b ∈ σ.bk, b ∈ σa.bk := by
          split at hra
          · exact ih3 _ _ _ _ _ hra
          · obtain ⟨k1, k2, k3⟩ := atomP_wg hra hn
            exact ⟨k1, by omega, k3⟩
        obtain ⟨q1, q2, q3⟩ := quantRest_wg key.1 h
        exact ⟨q1, by omega, fun b hb => by rw [q3]; exact key.2.2 b hb⟩
    · intro d acc σ r σ1 h
      rw [run_paren] at h
      split at h
      · cases h
      · split at h
        · cases h
        · rename_i sh σa ho
          split at h
          · cases h
          · rename_i kid σb hk
            split at h
            · cases h
              obtain ⟨a, b, c⟩ := sh
              obtain ⟨o1, o2, o3, o4⟩ := opening_wg ho
              obtain ⟨k1, k2, k3⟩ := ih0 _ _ _ _ _ (by simp) hk
              refine ⟨?_, Nat.le_trans o1 k2, fun x hx => k3 x (by rw [o2]; exact hx)⟩
              unfold wrap
              split
              · exact k1
              · refine .mk ns_nil (fun e => ?_) (fun e => absurd e o3) (fun y hy => by rw [List.mem_singleton] at hy; subst hy; exact k1)
                have := o4 e
                simp only [St.adv]
                omega
            · cases h
/-- The nodes of a pattern, by themselves. -/
inductive Wn (G : Int) : Nd → Prop
  | mk {k lo hi m r : Int} {set : List Rg} {kids : List Nd} (hs : Ns set) (h5 : k = 5 → 1 ≤ r ∧ r ≤ G) (h6 : k = 6 → 1 ≤ r ∧ r ≤ G) (hk : ∀ x ∈ kids, Wn G x) : Wn G (.mk k lo hi m r set kids)
theorem wn_of {g : Nat} {bk : List (Nat × Nat)} (hb : bk.find? (fun b => decide (g < b.1)) = none) {nd : Nd} (h : Wg g bk nd) : Wn (g : Nat) nd := by
  induction h with
  | mk hs h5 h6 _ ih =>
    refine .mk hs h5 (fun e => ?_) ih
    obtain ⟨b, h1, h2, h3⟩ := h6 e
    have := List.find?_eq_none.1 hb b h1
    simp at this
    omega
theorem parse_wn {N : Nat} {s : List UInt8} {nd : Nd} {g : Nat} {fo : Bool} (h : parse N s = .ok (nd, g, fo)) : Wn (g : Nat) nd := by
  unfold parse at h
  split at h
  · cases h
  · split at h
    · cases h
    · rename_i r σ hr
      have hw := ((run_wg N).1 _ _ _ _ _ (by simp) hr).1
      unfold ended at h
      split at h
      · cases h
      · split at h
        · cases h
        · rename_i hf
          cases h
          exact wn_of hf hw
theorem fold_norm {l : List Rg} (h : Norm l) : Norm (foldS l) := (mkSet_nrm (l := l ++ folds l) (fun r hr => (List.mem_append.1 hr).elim (h.1 r) (folds_right l r))).1

theorem okI_of {G : Int} {Z : List In} {p : Nat} {x : In} (n : Int) (h : x.op = n) (hs : Norm x.set) (hn : n ≠ 0 ∧ n ≠ 2 ∧ n ≠ 3 ∧ n ≠ 4 ∧ n ≠ 5 ∧ n ≠ 7 ∧ n ≠ 8 ∧ n ≠ 10 ∧ n ≠ 11) : OkI G Z p x :=
  okI_plain (by rw [h]; exact hn.1) hs (by rw [h]; exact hn.2)
/-- The code of a node of a pattern. -/
theorem code_ok (fo : Bool) {G : Int} {nd : Nd} (hf : Wf nd) (hn : Wn G nd) : OkC G (code fo nd) := by
  induction hn with
  | @mk k lo hi m r set kids hs h5 h6 _ ih =>
    have hkf := hf.kids_
    have hsh := hf.shape_
    have hk : ∀ x ∈ kids.map (code fo), OkC G x := by
      intro x hx
      obtain ⟨y, hy, rfl⟩ := List.mem_map.1 hx
      exact ih y hy (hkf y hy)
    rw [code_eq]
    rcases hsh with ⟨rfl, _⟩ | ⟨rfl, _⟩ | ⟨rfl, _⟩ | ⟨rfl, hn⟩ | ⟨rfl, hn, h0, _, h1, _, h2, _, _⟩ | ⟨rfl, hn⟩ | ⟨rfl, _⟩ | ⟨rfl, hn, _⟩ | ⟨rfl, hn⟩ | ⟨rfl, _⟩
    · rw [cF0]; exact OkC.nil
    · rw [cF1]
      refine OkIn.one (okI_of 1 (by rw [sh_op]; rfl) (by rw [sh_set]; unfold unitI; split; exact fold_norm hs.1; exact hs.1) (by decide))
    · rw [cF2]; exact OkC.row hk
    · rw [cF3]; exact OkC.alt hk
    · by_cases hm : m = 2
      · subst hm
        rw [cF42]
        exact OkC.within_ (.inr rfl) rfl (OkC.times _ _ _ (OkC.row hk))
      · rw [cF4 _ _ _ _ _ _ _ _ _ hm]
        exact OkC.times _ _ _ (OkC.row hk)
    · rw [cF5]
      have h := h5 rfl
      generalize hZ : app [saveI (2 * r)] (app (rowC (kids.map (code fo))) [saveI (2 * r + 1)]) = Z
      have hI : Inn (app [saveI (2 * r)] (app (rowC (kids.map (code fo))) [saveI (2 * r + 1)])) 0 0 Z := by rw [hZ]; exact Inn.refl _
      have key : OkIn G (app [saveI (2 * r)] (app (rowC (kids.map (code fo))) [saveI (2 * r + 1)])) 0 0 Z := by
        refine OkIn.two (OkIn.one (okI_save (by rw [sh_op]; rfl) (by rw [sh_set]; exact norm_nil) ?_)) (OkIn.two ((OkC.row hk).within hI.right.left) (OkIn.one (okI_save (by rw [sh_op]; rfl) (by rw [sh_set]; exact norm_nil) ?_)))
        · rw [(sh_get _ _ (saveI (2 * r))).2.2.1 rfl]
          simp [saveI, In.i]; omega
        · rw [(sh_get _ _ (saveI (2 * r + 1))).2.2.1 rfl]
          simp [saveI, In.i]; omega
      rw [hZ] at key
      exact key
    · rw [cF6]
      have h := h6 rfl
      refine OkIn.one (okI_back (by rw [sh_op]; rfl) (by rw [sh_set]; exact norm_nil) ?_)
      rw [(sh_get _ _ (backI fo r)).2.2.2.1 rfl]
      exact h
    · rw [cF7]
      exact OkC.within_ (.inl rfl) rfl (OkC.row hk)
    · rw [cF8]
      exact OkC.within_ (.inr rfl) rfl (OkC.row hk)
    · rw [cF9]
      exact OkIn.one (okI_of 6 (by rw [sh_op]; rfl) (by rw [sh_set]; exact norm_nil) (by decide))
end

/-- A whole program, but for its Match. -/
def body (fo : Bool) (nd : Nd) : List In := app [saveI 0] (app (code fo nd) [saveI 1])
theorem sh_zero_op (p q : Int) (x : In) (h : x.op = 0 ∨ x.op = 1 ∨ x.op = 4 ∨ x.op = 5 ∨ x.op = 6 ∨ x.op = 9) : sh p q x = x := by
  unfold sh
  rw [if_neg (by omega), if_neg (by omega), if_neg (by omega), if_neg (by omega)]
theorem app_one (x : List In) (i : In) (h : i.op = 0 ∨ i.op = 1 ∨ i.op = 4 ∨ i.op = 5 ∨ i.op = 6 ∨ i.op = 9) : app x [i] = x ++ [i] := by
  unfold app
  rw [List.map_cons, List.map_nil, sh_zero_op _ _ _ h]
theorem whole_body (fo : Bool) (nd : Nd) : whole fo nd = body fo nd ++ [.i 0 0 0 0 0] := by
  unfold whole body
  rw [← app_one _ _ (.inl rfl), app_assoc, app_assoc]
theorem body_len (fo : Bool) (nd : Nd) : len (body fo nd) = len (code fo nd) + 2 := by
  unfold body
  rw [len_app, len_app]
  simp [len]
  omega
theorem body_ok (fo : Bool) {g : Nat} {nd : Nd} (hf : Wf nd) (hn : Wn (g : Nat) nd) : OkC (g : Nat) (body fo nd) := by
  have hc := code_ok fo hf hn
  unfold body
  generalize hZ : app [saveI 0] (app (code fo nd) [saveI 1]) = Z
  have hI : Inn (app [saveI 0] (app (code fo nd) [saveI 1])) 0 0 Z := by rw [hZ]; exact Inn.refl _
  have key : OkIn (g : Nat) (app [saveI 0] (app (code fo nd) [saveI 1])) 0 0 Z := by
    refine OkIn.two (OkIn.one (okI_save (by rw [sh_op]; rfl) (by rw [sh_set]; exact norm_nil) ?_)) (OkIn.two (hc.within hI.right.left) (OkIn.one (okI_save (by rw [sh_op]; rfl) (by rw [sh_set]; exact norm_nil) ?_)))
    · rw [(sh_get _ _ (saveI 0)).2.2.1 rfl]
      simp [saveI, In.i]; omega
    · rw [(sh_get _ _ (saveI 1)).2.2.1 rfl]
      simp [saveI, In.i]; omega
  rw [hZ] at key
  exact key

end Go.Proofs.YtdbddbelhgkelaaGreatDoor

/- The code of a folded pattern; the codes of nodes that are alike. Of no program. -/
namespace Go.Proofs.YtdbddbelhgkelaaGreatDoor
open Go.Proofs.YtdbddbelhgkelaaGreatDoor.Cl

/-- A turn of instructions that keeps places. -/
structure Hom (φ : In → In) : Prop where
  mv : ∀ (p q : Int) (x : In), φ (sh p q x) = sh p q (φ x)
  op : ∀ x, (φ x).op = x.op
  fix : ∀ x : In, x.set = [] → x.op ≠ 4 → x.op ≠ 5 → x.op ≠ 6 → φ x = x
section
variable {φ : In → In} (h : Hom φ)
include h
theorem Hom.marks_ (x : List In) : marks (x.map φ) = marks x := by
  unfold marks
  rw [List.countP_map]
  congr 1
  funext i
  simp [h.op]
theorem Hom.two (x y : List In) : (app x y).map φ = app (x.map φ) (y.map φ) := by
  unfold app
  rw [List.map_append, List.map_map, List.map_map, List.length_map, h.marks_]
  congr 1
  apply List.map_congr_left
  intro i _
  exact h.mv _ _ _
theorem Hom.one (i : In) (n : Int) (ho : i.op = n) (h1 : i.set = []) (hn : n ≠ 4 ∧ n ≠ 5 ∧ n ≠ 6) : [i].map φ = [i] := by
  rw [List.map_cons, List.map_nil, h.fix i h1 (by omega) (by omega) (by omega)]
theorem Hom.row (l : List (List In)) : (rowC l).map φ = rowC (l.map fun x => x.map φ) := by
  induction l with
  | nil => rfl
  | cons x l ih => rw [rowC, h.two, ih]; rfl
theorem Hom.alt : ∀ (l : List (List In)), (altC l).map φ = altC (l.map fun x => x.map φ)
  | [] => rfl
  | [x] => rfl
  | x :: y :: l => by
    have ih := Hom.alt (y :: l)
    have e : (altC (List.map (fun x => List.map φ x) (y :: l))).length = (altC (y :: l)).length := by rw [← ih, List.length_map]
    have e2 : altC (List.map (fun x => List.map φ x) (x :: y :: l)) = app [splitI false (((x.map φ).length : Int) + 2)] (app (x.map φ) (app [.i 2 (((altC (List.map (fun x => List.map φ x) (y :: l))).length : Int) + 1) 0 0 0] (altC (List.map (fun x => List.map φ x) (y :: l))))) := rfl
    rw [e2, e, altC, h.two, h.two, h.two, ih, List.length_map, h.one _ 3 rfl rfl (by decide), h.one _ 2 rfl rfl (by decide)]
theorem Hom.rep (n : Nat) (x : List In) : (repC n x).map φ = repC n (x.map φ) := by
  induction n with
  | zero => rfl
  | succ n ih => rw [repC, h.two, ih]; rfl
theorem Hom.split (lz : Bool) (n : Int) : [splitI lz n].map φ = [splitI lz n] := by
  cases lz
  · exact h.one _ 3 rfl rfl (by decide)
  · exact h.one _ 3 rfl rfl (by decide)
theorem Hom.loop (lz : Bool) (x : List In) : (loopC lz x).map φ = loopC lz (x.map φ) := by
  unfold loopC
  rw [h.two, h.two, h.two, h.two, h.split, h.one (.i 10 0 0 0 0) 10 rfl rfl (by decide), h.one _ 11 rfl rfl (by decide), h.one _ 2 rfl rfl (by decide), List.length_map, h.marks_]
theorem Hom.opt (lz : Bool) (n : Nat) (x : List In) : (optC lz n x).map φ = optC lz n (x.map φ) := by
  induction n with
  | zero => rfl
  | succ n ih => rw [optC, h.two, h.two, ih, h.split, optC, List.length_map]
theorem Hom.times (lo hi m : Int) (x : List In) : (timesC lo hi m x).map φ = timesC lo hi m (x.map φ) := by
  unfold timesC
  rw [h.two, h.rep]
  congr 1
  split
  · exact h.loop _ _
  · exact h.opt _ _ _
theorem Hom.within (i : In) (hi : i.op = 7 ∨ i.op = 8) (hs : i.set = []) (x : List In) : (withinC i x).map φ = withinC i (x.map φ) := by
  have e : ([{ i with b := (x.length : Int) + 2 }] : List In).map φ = [{ i with b := (x.length : Int) + 2 }] := h.one _ i.op rfl hs (by omega)
  unfold withinC
  rw [h.two, h.two, e, h.one doneI 9 rfl rfl (by decide), List.length_map]
end

/-! ### Folded -/
def fiT (x : In) : In := { x with set := foldS x.set, b := if x.op = 5 then 1 else x.b }
theorem foldS_nil : foldS [] = [] := by unfold foldS folds mkSet; simp [together]
theorem hom_fold : Hom fiT := by
  refine ⟨fun p q x => ?_, fun x => rfl, fun x h1 h4 h5 h6 => ?_⟩
  · obtain ⟨op, a, b, c, d, s⟩ := x
    unfold sh fiT
    by_cases h2 : op = 2
    · simp [h2]
    by_cases h3 : op = 3
    · simp [h3]
    by_cases h7 : op = 7 ∨ op = 8
    · have : op ≠ 5 := by omega
      simp [h2, h3, h7, this]
    by_cases h10 : op = 10 ∨ op = 11
    · simp [h2, h3, h7, h10]
    · simp [h2, h3, h7, h10]
  · obtain ⟨op, a, b, c, d, s⟩ := x
    simp only at h1 h5
    simp [fiT, h1, h5, foldS_nil]
theorem codes_fold {l : List Nd} (h : ∀ x ∈ l, (code false x).map fiT = code true x) : (l.map (code false)).map (fun x => x.map fiT) = l.map (code true) := by
  rw [List.map_map]
  exact List.map_congr_left h
theorem code_fold {nd : Nd} (hf : Wf nd) : (code false nd).map fiT = code true nd := by
  refine Wf.ind (P := fun nd => (code false nd).map fiT = code true nd) (fun k lo hi m r s l hs _ ih => ?_) hf
  have hc := codes_fold ih
  have H := hom_fold
  rw [code_eq, code_eq]
  rcases hs with ⟨rfl, _⟩ | ⟨rfl, _⟩ | ⟨rfl, _⟩ | ⟨rfl, _⟩ | ⟨rfl, _⟩ | ⟨rfl, _⟩ | ⟨rfl, _⟩ | ⟨rfl, _, _⟩ | ⟨rfl, _⟩ | ⟨rfl, _⟩
  · rw [cF0, cF0]; rfl
  · rw [cF1, cF1]; rfl
  · rw [cF2, cF2, H.row, hc]
  · rw [cF3, cF3, H.alt, hc]
  · by_cases hm : m = 2
    · subst hm
      rw [cF42, cF42, H.within _ (.inr rfl) rfl, H.times, H.row, hc]
    · rw [cF4 _ _ _ _ _ _ _ _ _ hm, cF4 _ _ _ _ _ _ _ _ _ hm, H.times, H.row, hc]
  · have e : ∀ n, [saveI n].map fiT = [saveI n] := fun n => by simp [fiT, saveI, In.i, foldS_nil]
    rw [cF5, cF5, H.two, H.two, H.row, hc, e, e]
  · rw [cF6, cF6]
    simp [fiT, backI, In.i, foldS_nil]
  · rw [cF7, cF7, H.within _ (.inl rfl) rfl, H.row, hc]
  · rw [cF8, cF8, H.within _ (.inr rfl) rfl, H.row, hc]
  · rw [cF9, cF9]
    simp [fiT, In.i, foldS_nil]
theorem whole_fold {nd : Nd} (hf : Wf nd) : (whole false nd).map fiT = whole true nd := by
  have H := hom_fold
  have e : ∀ n, [saveI n].map fiT = [saveI n] := fun n => by simp [fiT, saveI, In.i, foldS_nil]
  unfold whole
  rw [H.two, H.two, H.two, code_fold hf, e, e, H.one (.i 0 0 0 0 0) 0 rfl rfl (by decide)]

/-! ### What all instructions of a code have -/
section
variable {P : In → Prop} (hv : ∀ p q x, P x → P (sh p q x)) (hp : ∀ x : In, x.op ≠ 1 → x.op ≠ 5 → x.set = [] → P x)
include hv
theorem all_app {x y : List In} (hx : ∀ i ∈ x, P i) (hy : ∀ i ∈ y, P i) : ∀ i ∈ app x y, P i := by
  intro i hi
  rcases List.mem_append.1 hi with hi | hi
  · exact hx i hi
  · obtain ⟨j, hj, rfl⟩ := List.mem_map.1 hi
    exact hv _ _ _ (hy j hj)
theorem all_row : ∀ {l : List (List In)}, (∀ x ∈ l, ∀ i ∈ x, P i) → ∀ i ∈ rowC l, P i
  | [], _ => by intro i hi; cases hi
  | x :: l, h => all_app hv (h x (by simp)) (all_row fun y hy => h y (by simp [hy]))
theorem all_rep {x : List In} (h : ∀ i ∈ x, P i) : ∀ (n : Nat), ∀ i ∈ repC n x, P i
  | 0 => by intro i hi; cases hi
  | n + 1 => all_app hv h (all_rep h n)
omit hv in
include hp in
theorem all_one (i : In) (n : Int) (ho : i.op = n) (hn : n ≠ 1 ∧ n ≠ 5) (hs : i.set = []) : ∀ j ∈ [i], P j := by
  intro j hj
  rw [List.mem_singleton] at hj
  subst hj
  exact hp _ (by omega) (by omega) hs
omit hv in
include hp in
theorem all_split (lz : Bool) (n : Int) : ∀ j ∈ [splitI lz n], P j := by
  cases lz
  · exact all_one hp _ 3 rfl (by decide) rfl
  · exact all_one hp _ 3 rfl (by decide) rfl
include hp
theorem all_alt : ∀ {l : List (List In)}, (∀ x ∈ l, ∀ i ∈ x, P i) → ∀ i ∈ altC l, P i
  | [], _ => by intro i hi; cases hi
  | [x], h => h x (by simp)
  | x :: y :: l, h => by
    rw [altC]
    exact all_app hv (all_split hp _ _) (all_app hv (h x (by simp)) (all_app hv (all_one hp _ 2 rfl (by decide) rfl) (all_alt fun z hz => h z (by simp [hz]))))
theorem all_opt (lz : Bool) {x : List In} (h : ∀ i ∈ x, P i) : ∀ (n : Nat), ∀ i ∈ optC lz n x, P i
  | 0 => by intro i hi; cases hi
  | n + 1 => all_app hv (all_split hp _ _) (all_app hv h (all_opt lz h n))
theorem all_times (lo hi m : Int) {x : List In} (h : ∀ i ∈ x, P i) : ∀ i ∈ timesC lo hi m x, P i := by
  unfold timesC
  refine all_app hv (all_rep hv h _) ?_
  split
  · unfold loopC
    exact all_app hv (all_split hp _ _) (all_app hv (all_one hp _ 10 rfl (by decide) rfl) (all_app hv h (all_app hv (all_one hp _ 11 rfl (by decide) rfl) (all_one hp _ 2 rfl (by decide) rfl))))
  · exact all_opt hv hp _ h _
theorem all_within (e : In) (he : e.op = 7 ∨ e.op = 8) (hs : e.set = []) {x : List In} (h : ∀ i ∈ x, P i) : ∀ i ∈ withinC e x, P i := by
  unfold withinC
  exact all_app hv (all_one hp { e with b := (x.length : Int) + 2 } e.op rfl (by omega) hs) (all_app hv h (all_one hp doneI 9 rfl (by decide) rfl))
theorem code_all (fo : Bool) (h1 : ∀ s, P (unitI fo s)) (h5 : ∀ r, P (backI fo r)) {nd : Nd} (hf : Wf nd) : ∀ i ∈ code fo nd, P i := by
  refine Wf.ind (P := fun nd => ∀ i ∈ code fo nd, P i) (fun k lo hi m r s l hs _ ih => ?_) hf
  have hl : ∀ x ∈ l.map (code fo), ∀ i ∈ x, P i := by
    intro x hx
    obtain ⟨y, hy, rfl⟩ := List.mem_map.1 hx
    exact ih y hy
  rw [code_eq]
  rcases hs with ⟨rfl, _⟩ | ⟨rfl, _⟩ | ⟨rfl, _⟩ | ⟨rfl, _⟩ | ⟨rfl, _⟩ | ⟨rfl, _⟩ | ⟨rfl, _⟩ | ⟨rfl, _, _⟩ | ⟨rfl, _⟩ | ⟨rfl, _⟩
  · rw [cF0]; intro i hi; cases hi
  · rw [cF1]; intro i hi; rw [List.mem_singleton] at hi; subst hi; exact h1 _
  · rw [cF2]; exact all_row hv hl
  · rw [cF3]; exact all_alt hv hp hl
  · by_cases hm : m = 2
    · subst hm
      rw [cF42]; exact all_within hv hp (.i 8 0 0 0 0) (.inr rfl) rfl (all_times hv hp _ _ _ (all_row hv hl))
    · rw [cF4 _ _ _ _ _ _ _ _ _ hm]; exact all_times hv hp _ _ _ (all_row hv hl)
  · rw [cF5]; exact all_app hv (all_one hp _ 4 rfl (by decide) rfl) (all_app hv (all_row hv hl) (all_one hp _ 4 rfl (by decide) rfl))
  · rw [cF6]; intro i hi; rw [List.mem_singleton] at hi; subst hi; exact h5 _
  · rw [cF7]; exact all_within hv hp (lookI m (loSum l) (hiSum l) 0) (.inl rfl) rfl (all_row hv hl)
  · rw [cF8]; exact all_within hv hp (.i 8 0 0 0 0) (.inr rfl) rfl (all_row hv hl)
  · rw [cF9]; exact all_one hp _ 6 rfl (by decide) rfl
end
/-- References of a pattern that isn't folded do not count twins. -/
theorem back_zero {nd : Nd} (hf : Wf nd) : ∀ i ∈ whole false nd, i.op = 5 → i.b = 0 := by
  have hv : ∀ p q x, (x.op = 5 → x.b = 0) → ((sh p q x).op = 5 → (sh p q x).b = 0) := by
    intro p q x h h'
    rw [sh_op] at h'
    rw [sh_zero_op p q x (by omega)]
    exact h h'
  have hp : ∀ x : In, x.op ≠ 1 → x.op ≠ 5 → x.set = [] → (x.op = 5 → x.b = 0) := fun x _ h5 _ h => absurd h h5
  have hc := code_all hv hp false (fun s h => absurd h (show ¬ (1 : Int) = 5 by decide)) (fun r _ => rfl) hf
  unfold whole
  exact all_app hv (all_one hp _ 4 rfl (by decide) rfl) (all_app hv hc (all_app hv (all_one hp _ 4 rfl (by decide) rfl) (all_one hp _ 0 rfl (by decide) rfl)))

/-! ### Alike -/
def nrm (x : In) : In := if x.op = 4 ∨ x.op = 5 ∨ x.op = 6 then { x with a := 0 } else x
theorem nrm_op (x : In) : (nrm x).op = x.op := by unfold nrm; split <;> rfl
theorem hom_nrm : Hom nrm := by
  refine ⟨fun p q x => ?_, nrm_op, fun x _ h4 h5 h6 => ?_⟩
  · by_cases h : x.op = 4 ∨ x.op = 5 ∨ x.op = 6
    · have e : sh p q x = x := sh_zero_op _ _ _ (by omega)
      have e2 : sh p q (nrm x) = nrm x := sh_zero_op _ _ _ (by rw [nrm_op]; omega)
      rw [e, e2]
    · have e : nrm x = x := by unfold nrm; rw [if_neg h]
      have e2 : nrm (sh p q x) = sh p q x := by unfold nrm; rw [sh_op, if_neg h]
      rw [e, e2]
  · unfold nrm; rw [if_neg (by omega)]
theorem nrm_eq {x y : In} (h : nrm x = nrm y) : x.op = y.op ∧ x.b = y.b ∧ x.c = y.c ∧ x.d = y.d ∧ x.set = y.set ∧ (x.op ≠ 4 → x.op ≠ 5 → x.op ≠ 6 → x.a = y.a) := by
  have ho : x.op = y.op := by rw [← nrm_op x, ← nrm_op y, h]
  unfold nrm at h
  rw [ho] at h
  split at h
  · rename_i c
    obtain ⟨a1, a2, a3, a4, a5, a6⟩ := x
    obtain ⟨b1, b2, b3, b4, b5, b6⟩ := y
    simp only [In.mk.injEq] at h
    simp only at c ho ⊢
    exact ⟨ho, h.2.2.1, h.2.2.2.1, h.2.2.2.2.1, h.2.2.2.2.2, fun _ _ _ => by omega⟩
  · subst h; exact ⟨rfl, rfl, rfl, rfl, rfl, fun _ _ _ => rfl⟩
theorem cF_nrm (fo : Bool) (k lo hi m r r' : Int) (s : List Rg) (c d : Int) (l l' : List (List In)) (h : l.map (fun x => x.map nrm) = l'.map (fun x => x.map nrm)) : (cF fo k lo hi m r s c d l).map nrm = (cF fo k lo hi m r' s c d l').map nrm := by
  have H := hom_nrm
  have hr : (rowC l).map nrm = (rowC l').map nrm := by rw [H.row, H.row, h]
  have hsv : ∀ n n' : Int, [saveI n].map nrm = [saveI n'].map nrm := fun n n' => by simp [nrm, saveI, In.i]
  unfold cF
  split
  · rfl
  split
  · exact hr
  split
  · rw [H.alt, H.alt, h]
  split
  · split
    · rw [H.within _ (.inr rfl) rfl, H.within _ (.inr rfl) rfl, H.times, H.times, hr]
    · rw [H.times, H.times, hr]
  split
  · rw [H.two, H.two, H.two, H.two, hr, hsv (2 * r) (2 * r'), hsv (2 * r + 1) (2 * r' + 1)]
  split
  · simp [nrm, backI, In.i]
  split
  · rw [H.within _ (.inl rfl) rfl, H.within _ (.inl rfl) rfl, hr]
  split
  · rw [H.within _ (.inr rfl) rfl, H.within _ (.inr rfl) rfl, hr]
  split
  · simp [nrm, In.i]
  · rfl
theorem code_like (fo : Bool) {x x' : Nd} (h : Lk x x') : (code fo x).map nrm = (code fo x').map nrm := by
  induction h with
  | @mk k lo hi m r r' set kids kids' hl hk ih =>
    have h1 : kids.map least = kids'.map least := map_like hl (fun i x y hx hy => (like_same (hk i x y hx hy)).1)
    have h2 : kids.map most = kids'.map most := map_like hl (fun i x y hx hy => (like_same (hk i x y hx hy)).2.1)
    have e1 : loSum kids = loSum kids' := by unfold loSum; rw [h1]
    have e2 : hiSum kids = hiSum kids' := by unfold hiSum; rw [h2]
    rw [code_eq, code_eq, e1, e2]
    refine cF_nrm _ _ _ _ _ _ _ _ _ _ _ _ ?_
    rw [List.map_map, List.map_map]
    exact map_like hl ih

end Go.Proofs.YtdbddbelhgkelaaGreatDoor

/- Alternatives and options as the writer lays them: ways that are set later. Of no program. -/
namespace Go.Proofs.YtdbddbelhgkelaaGreatDoor
open Go.Proofs.YtdbddbelhgkelaaGreatDoor.Cl

/-- An alternative more: the Split leads on, the Jump to T. -/
def altStep (T : Int) (Q x : List In) : List In := app (app Q [splitI false ((x.length : Int) + 2)]) x ++ [.i 2 T 0 0 0]
def altS (T : Int) : List In → List (List In) → List In
  | Q, [] => Q
  | Q, x :: l => altS T (altStep T Q x) l
def altJ : Nat → List (List In) → List Nat
  | _, [] => []
  | n, x :: l => (n + 1 + x.length) :: altJ (n + x.length + 2) l
theorem altStep_len (T : Int) (Q x : List In) : (altStep T Q x).length = Q.length + x.length + 2 := by unfold altStep; rw [List.length_append, app_len, app_len]; simp; omega
theorem altStep_marks (T : Int) (Q x : List In) : marks (altStep T Q x) = marks Q + marks x := by
  unfold altStep
  rw [marks_append, app_marks, app_marks]
  have e1 : marks [splitI false ((x.length : Int) + 2)] = 0 := rfl
  have e2 : marks [In.i 2 T 0 0 0] = 0 := rfl
  omega
theorem altS_snoc (T : Int) (x : List In) : ∀ (l : List (List In)) (Q : List In), altS T Q (l ++ [x]) = altStep T (altS T Q l) x
  | [], _ => rfl
  | y :: l, Q => by rw [List.cons_append, altS, altS, altS_snoc T x l]
theorem altS_len (T : Int) : ∀ (l : List (List In)) (Q : List In), ((altS T Q l).length : Int) = Q.length + (l.map len).sum + 2 * (l.length : Int)
  | [], Q => by simp [altS]
  | x :: l, Q => by
    rw [altS, altS_len T l, altStep_len]
    simp [len]
    omega
theorem altS_len_eq (T T' : Int) (l : List (List In)) (Q : List In) : (altS T Q l).length = (altS T' Q l).length := by
  have a := altS_len T l Q
  have b := altS_len T' l Q
  omega
theorem altS_marks (T T' : Int) : ∀ (l : List (List In)) (Q Q' : List In), marks Q = marks Q' → marks (altS T Q l) = marks (altS T' Q' l)
  | [], _, _, h => h
  | x :: l, Q, Q', h => by
    rw [altS, altS]
    exact altS_marks T T' l _ _ (by rw [altStep_marks, altStep_marks, h])
theorem altJ_snoc (x : List In) : ∀ (l : List (List In)) (Q : List In) (T : Int), altJ Q.length (l ++ [x]) = altJ Q.length l ++ [(altS T Q l).length + 1 + x.length]
  | [], _, _ => rfl
  | y :: l, Q, T => by
    rw [List.cons_append, altJ, altJ, altS]
    have e : Q.length + y.length + 2 = (altStep T Q y).length := (altStep_len T Q y).symm
    rw [e, altJ_snoc x l _ T]
    rfl
theorem altJ_len : ∀ (l : List (List In)) (n : Nat), (altJ n l).length = l.length
  | [], _ => rfl
  | _ :: l, _ => by rw [altJ, List.length_cons, altJ_len l, List.length_cons]
theorem altJ_lt (T : Int) : ∀ (l : List (List In)) (Q : List In), ∀ p ∈ altJ Q.length l, p < (altS T Q l).length
  | [], _ => by intro p hp; cases hp
  | x :: l, Q => by
    intro p hp
    rw [altJ] at hp
    rw [altS]
    have e : Q.length + x.length + 2 = (altStep T Q x).length := (altStep_len T Q x).symm
    rcases List.mem_cons.1 hp with rfl | hp
    · have := altS_len T l (altStep T Q x)
      have h0 : 0 ≤ (l.map len).sum := by
        have : ∀ (l : List (List In)), 0 ≤ (l.map len).sum := by
          intro l
          induction l with
          | nil => simp
          | cons y l ih => simp only [List.map_cons, List.sum_cons]; have := len_nonneg y; omega
        exact this l
      omega
    · rw [e] at hp
      exact altJ_lt T l _ p hp
/-- A way that is set later. -/
def patch (T : Int) (Z : List In) (p : Nat) : List In := Z.modify p fun x => { x with a := T }
def patches (T : Int) (Z : List In) (ps : List Nat) : List In := ps.foldl (patch T) Z
theorem patch_len (T : Int) (Z : List In) (p : Nat) : (patch T Z p).length = Z.length := by simp [patch]
theorem patches_len (T : Int) : ∀ (ps : List Nat) (Z : List In), (patches T Z ps).length = Z.length
  | [], _ => rfl
  | p :: ps, Z => by
    have := patches_len T ps (patch T Z p)
    rw [patch_len] at this
    exact this
theorem patches_snoc (T : Int) (Z : List In) (ps : List Nat) (p : Nat) : patches T Z (ps ++ [p]) = patch T (patches T Z ps) p := by simp [patches]
theorem patch_set (T : Int) {Z : List In} {p : Nat} {x : In} (h : Z[p]? = some x) : patch T Z p = Z.set p { x with a := T } := by
  unfold patch
  apply List.ext_getElem?
  intro i
  rw [List.getElem?_modify, List.getElem?_set]
  by_cases e : p = i
  · subst e
    have hl := (List.getElem?_eq_some_iff.1 h).1
    rw [h, if_pos rfl, if_pos hl]
    simp
  · rw [if_neg e]
    cases Z[i]? <;> simp [e]
theorem patch_marks (T : Int) (Z : List In) (p : Nat) : marks (patch T Z p) = marks Z := by
  have e : (patch T Z p).map (·.op) = Z.map (·.op) := by
    unfold patch
    apply List.ext_getElem?
    intro i
    rw [List.getElem?_map, List.getElem?_map, List.getElem?_modify]
    cases Z[i]? <;> simp
    split <;> rfl
  have k : ∀ l : List In, marks l = (l.map (·.op)).countP fun o => decide (o = 10) := fun l => by unfold marks; rw [List.countP_map]; rfl
  rw [k, k, e]
theorem patch_mid (T : Int) (A B : List In) (i : In) : patch T (A ++ i :: B) A.length = A ++ { i with a := T } :: B := by
  rw [patch_set (x := i) T (by simp), List.set_append_right _ _ (Nat.le_refl _), Nat.sub_self]
  rfl
theorem snoc_ind {α : Type} {P : List α → Prop} (h0 : P []) (h1 : ∀ l x, P l → P (l ++ [x])) : ∀ (n : Nat) (l : List α), l.length = n → P l := by
  intro n
  induction n with
  | zero => intro l hl; rw [List.length_eq_zero_iff.1 hl]; exact h0
  | succ n ih =>
    intro l hl
    have hne : l ≠ [] := by rintro rfl; simp at hl
    rw [← List.dropLast_concat_getLast hne]
    exact h1 _ _ (ih _ (by rw [List.length_dropLast]; omega))
theorem patches_alt (T : Int) (M : List In) (l : List (List In)) : ∀ (R : List In), patches T (altS 0 M l ++ R) (altJ M.length l) = altS T M l ++ R := by
  refine snoc_ind (P := fun l => ∀ (R : List In), patches T (altS 0 M l ++ R) (altJ M.length l) = altS T M l ++ R) ?_ ?_ _ l rfl
  · intro R; rfl
  · intro l x ih R
    rw [altS_snoc, altS_snoc, altJ_snoc x l M 0, patches_snoc]
    have e0 : ∀ U, altStep U (altS U M l) x ++ R = altS U M l ++ (([splitI false ((x.length : Int) + 2)].map (sh ((altS U M l).length : Nat) (marks (altS U M l) : Nat)) ++ x.map (sh ((app (altS U M l) [splitI false ((x.length : Int) + 2)]).length : Nat) (marks (app (altS U M l) [splitI false ((x.length : Int) + 2)]) : Nat))) ++ (In.i 2 U 0 0 0 :: R)) := by
      intro U
      unfold altStep
      conv => lhs; unfold app
      simp [List.append_assoc, app]
    have e1 : (altS 0 M l).length = (altS T M l).length := altS_len_eq 0 T l M
    have e2 : marks (altS 0 M l) = marks (altS T M l) := altS_marks 0 T l M M rfl
    rw [e0 0, ih, e0 T, app_len, app_len, app_marks, app_marks, e1, e2]
    have key := patch_mid T (altS T M l ++ ([splitI false ((x.length : Int) + 2)].map (sh ((altS T M l).length : Nat) (marks (altS T M l) : Nat)) ++ x.map (sh (((altS T M l).length + [splitI false ((x.length : Int) + 2)].length : Nat) : Int) ((marks (altS T M l) + marks [splitI false ((x.length : Int) + 2)] : Nat) : Int)))) R (.i 2 0 0 0 0)
    have el : (altS T M l ++ ([splitI false ((x.length : Int) + 2)].map (sh ((altS T M l).length : Nat) (marks (altS T M l) : Nat)) ++ x.map (sh (((altS T M l).length + [splitI false ((x.length : Int) + 2)].length : Nat) : Int) ((marks (altS T M l) + marks [splitI false ((x.length : Int) + 2)] : Nat) : Int)))).length = (altS T M l).length + 1 + x.length := by simp; omega
    rw [el] at key
    rw [← List.append_assoc, key]
    simp only [List.append_assoc]
    rfl
/-- All alternatives: their code. -/
theorem altS_code (xl : List In) : ∀ (l : List (List In)) (M : List In), app (altS ((M.length : Int) + len (altC (l ++ [xl]))) M l) xl = app M (altC (l ++ [xl]))
  | [], M => by simp [altS, altC]
  | x :: l, M => by
    have ih := altS_code xl l (altStep ((M.length : Int) + len (altC (x :: l ++ [xl]))) M x)
    have hc : altC (x :: l ++ [xl]) = app [splitI false ((x.length : Int) + 2)] (app x (app [.i 2 (((altC (l ++ [xl])).length : Int) + 1) 0 0 0] (altC (l ++ [xl])))) := by
      cases l with
      | nil => rfl
      | cons y l => rfl
    have hT : ((altStep ((M.length : Int) + len (altC (x :: l ++ [xl]))) M x).length : Int) + len (altC (l ++ [xl])) = (M.length : Int) + len (altC (x :: l ++ [xl])) := by
      rw [altStep_len, hc, len_app, len_app, len_app]
      simp [len]
      omega
    rw [hT] at ih
    rw [altS, ih, hc]
    conv => rhs; rw [← app_assoc, ← app_assoc, ← app_assoc]
    congr 1
    unfold altStep
    have e : app (app (app M [splitI false ((x.length : Int) + 2)]) x) [In.i 2 (((altC (l ++ [xl])).length : Int) + 1) 0 0 0] = app (app M [splitI false ((x.length : Int) + 2)]) x ++ [sh ((app (app M [splitI false ((x.length : Int) + 2)]) x).length : Nat) (marks (app (app M [splitI false ((x.length : Int) + 2)]) x) : Nat) (In.i 2 (((altC (l ++ [xl])).length : Int) + 1) 0 0 0)] := rfl
    rw [e]
    congr 2
    rw [app_len, app_len, len_app, len_app, len_app]
    simp [sh, In.i, len]
    omega

/-! ### Options -/
def optStep (Q x : List In) : List In := app (Q ++ [.i 3 0 0 0 0]) x
/-- Options as they are laid first: their Splits lead nowhere yet. -/
def optS : Nat → List In → List In → List In
  | 0, Q, _ => Q
  | n + 1, Q, x => optStep (optS n Q x) x
theorem optS_len (Q x : List In) : ∀ (n : Nat), (optS n Q x).length = Q.length + n * (x.length + 1)
  | 0 => by simp [optS]
  | n + 1 => by rw [optS, optStep, app_len, List.length_append, optS_len Q x n, Nat.add_mul]; simp; omega
def optI (lz : Bool) (s T : Nat) : In := if lz then .i 3 (T : Nat) (((s : Nat) : Int) + 1) 0 0 else .i 3 (((s : Nat) : Int) + 1) (T : Nat) 0 0
/-- .. the first ones set: they lead to T. -/
def optT (lz : Bool) (T : Nat) : Nat → List In → List In → List In
  | 0, Q, _ => Q
  | n + 1, Q, x => app (optT lz T n Q x ++ [optI lz (optT lz T n Q x).length T]) x
theorem optT_len (lz : Bool) (T : Nat) (Q x : List In) : ∀ (n : Nat), (optT lz T n Q x).length = Q.length + n * (x.length + 1)
  | 0 => by simp [optT]
  | n + 1 => by rw [optT, app_len, List.length_append, optT_len lz T Q x n, Nat.add_mul]; simp; omega
/-- n of m are set. -/
def optM (lz : Bool) (T : Nat) (n m : Nat) (Q x : List In) : List In := optS (m - n) (optT lz T n Q x) x
theorem optS_add (Q x : List In) (a : Nat) : ∀ (b : Nat), optS (a + b) Q x = optS b (optS a Q x) x
  | 0 => rfl
  | b + 1 => by rw [← Nat.add_assoc, optS, optS_add Q x a b, optS]
theorem marks_snoc (Q : List In) (i : In) (h : i.op ≠ 10) : marks (Q ++ [i]) = marks Q := by rw [marks_append, marks_cons, if_neg h]; rfl
theorem optI_op (lz : Bool) (s T : Nat) : (optI lz s T).op = 3 := by cases lz <;> rfl
theorem optS_tail (x : List In) : ∀ (n : Nat) (A B A' : List In), A.length = A'.length → marks A = marks A' → ∃ R, optS n (A ++ B) x = A ++ R ∧ optS n (A' ++ B) x = A' ++ R
  | 0, A, B, A', _, _ => ⟨B, rfl, rfl⟩
  | n + 1, A, B, A', h1, h2 => by
    obtain ⟨R, e1, e2⟩ := optS_tail x n A B A' h1 h2
    refine ⟨R ++ [.i 3 0 0 0 0] ++ x.map (sh ((A ++ R ++ [In.i 3 0 0 0 0]).length : Nat) (marks (A ++ R ++ [In.i 3 0 0 0 0]) : Nat)), ?_, ?_⟩
    · rw [optS, optStep, e1]
      unfold app
      simp only [List.append_assoc]
    · have k1 : (A' ++ R ++ [In.i 3 0 0 0 0]).length = (A ++ R ++ [In.i 3 0 0 0 0]).length := by simp [h1]
      have k2 : marks (A' ++ R ++ [In.i 3 0 0 0 0]) = marks (A ++ R ++ [In.i 3 0 0 0 0]) := by rw [marks_append, marks_append, marks_append, marks_append, h2]
      rw [optS, optStep, e2]
      unfold app
      rw [k1, k2]
      simp only [List.append_assoc]
/-- One more is set. -/
theorem optM_step (lz : Bool) (T n m : Nat) (Q x : List In) (h : n < m) : ∃ R, optM lz T n m Q x = optT lz T n Q x ++ In.i 3 0 0 0 0 :: R ∧ optM lz T (n + 1) m Q x = optT lz T n Q x ++ optI lz (Q.length + n * (x.length + 1)) T :: R := by
  unfold optM
  have e : m - n = 1 + (m - (n + 1)) := by omega
  rw [e, optS_add]
  have hl := optT_len lz T Q x n
  rw [optT, ← hl]
  have a1 : optS 1 (optT lz T n Q x) x = (optT lz T n Q x ++ [In.i 3 0 0 0 0]) ++ x.map (sh ((optT lz T n Q x).length + 1 : Nat) (marks (optT lz T n Q x) : Nat)) := by
    show app (optT lz T n Q x ++ [In.i 3 0 0 0 0]) x = _
    unfold app
    rw [List.length_append, marks_snoc _ _ (by decide)]
    rfl
  have a2 : app (optT lz T n Q x ++ [optI lz (optT lz T n Q x).length T]) x = (optT lz T n Q x ++ [optI lz (optT lz T n Q x).length T]) ++ x.map (sh ((optT lz T n Q x).length + 1 : Nat) (marks (optT lz T n Q x) : Nat)) := by
    unfold app
    rw [List.length_append, marks_snoc _ _ (by rw [optI_op]; decide)]
    rfl
  rw [a1, a2]
  obtain ⟨R, r1, r2⟩ := optS_tail x (m - (n + 1)) (optT lz T n Q x ++ [In.i 3 0 0 0 0]) (x.map (sh ((optT lz T n Q x).length + 1 : Nat) (marks (optT lz T n Q x) : Nat))) (optT lz T n Q x ++ [optI lz (optT lz T n Q x).length T]) (by simp) (by rw [marks_snoc _ _ (by decide), marks_snoc _ _ (by rw [optI_op]; decide)])
  exact ⟨R, by rw [r1, List.append_assoc]; rfl, by rw [r2, List.append_assoc]; rfl⟩
theorem optC_succ (lz : Bool) (n : Nat) (x : List In) : optC lz (n + 1) x = app [splitI lz (((n : Int) + 1) * ((x.length : Int) + 1))] (app x (optC lz n x)) := rfl
theorem optT_first (lz : Bool) (T : Nat) (x : List In) : ∀ (n : Nat) (Q : List In), optT lz T (n + 1) Q x = optT lz T n (app (Q ++ [optI lz Q.length T]) x) x
  | 0, _ => rfl
  | n + 1, Q => by
    have ih := optT_first lz T x n Q
    rw [optT, ih, optT]
/-- All options: their code. -/
theorem optT_code (lz : Bool) (x : List In) : ∀ (n : Nat) (Q : List In), optT lz (Q.length + n * (x.length + 1)) n Q x = app Q (optC lz n x)
  | 0, Q => by rw [optT, optC, app_nil]
  | n + 1, Q => by
    rw [optT_first, optC_succ, ← app_assoc, ← app_assoc]
    have e : Q ++ [optI lz Q.length (Q.length + (n + 1) * (x.length + 1))] = app Q [splitI lz (((n : Int) + 1) * ((x.length : Int) + 1))] := by
      unfold app
      congr 1
      rw [List.map_cons, List.map_nil]
      congr 1
      have hm : (((n + 1) * (x.length + 1) : Nat) : Int) = ((n : Int) + 1) * ((x.length : Int) + 1) := by simp
      cases lz
      · simp only [optI, splitI, sh, In.i, Bool.false_eq_true, if_false]
        simp
        omega
      · simp only [optI, splitI, sh, In.i, if_true]
        simp
        omega
    rw [e]
    have hl : Q.length + (n + 1) * (x.length + 1) = (app (app Q [splitI lz (((n : Int) + 1) * ((x.length : Int) + 1))]) x).length + n * (x.length + 1) := by
      rw [app_len, app_len, Nat.add_mul]
      simp
      omega
    rw [hl]
    exact optT_code lz x n _

end Go.Proofs.YtdbddbelhgkelaaGreatDoor

/- The sets in a code are short. Of no program. -/
namespace Go.Proofs.YtdbddbelhgkelaaGreatDoor
open Go.Proofs.YtdbddbelhgkelaaGreatDoor.Cl

def Lim (l : List In) : Prop := ∀ x ∈ l, x.set.length ≤ 1000000
theorem Lim.nil : Lim [] := fun _ h => by simp at h
theorem Lim.one {i : In} (h : i.set.length ≤ 1000000) : Lim [i] := fun x hx => by rw [List.mem_singleton.1 hx]; exact h
theorem Lim.app {x y : List In} (hx : Lim x) (hy : Lim y) : Lim (app x y) := by
  intro z hz
  unfold Go.Proofs.YtdbddbelhgkelaaGreatDoor.app at hz
  rcases List.mem_append.1 hz with h | h
  · exact hx z h
  · obtain ⟨u, hu, rfl⟩ := List.mem_map.1 h
    rw [sh_set]
    exact hy u hu
theorem Lim.row : ∀ {l : List (List In)}, (∀ x ∈ l, Lim x) → Lim (rowC l)
  | [], _ => Lim.nil
  | x :: l, h => (h x (by simp)).app (Lim.row fun y hy => h y (by simp [hy]))
theorem Lim.i {a b c d e : Int} : Lim [.i a b c d e] := Lim.one (by simp [In.i])
theorem Lim.split {lz : Bool} {n : Int} : Lim [splitI lz n] := Lim.one (by unfold splitI; split <;> simp [In.i])
theorem Lim.alt : ∀ {l : List (List In)}, (∀ x ∈ l, Lim x) → Lim (altC l)
  | [], _ => Lim.nil
  | [x], h => h x (by simp)
  | x :: y :: l, h => by
    have := Lim.alt (l := y :: l) fun z hz => h z (by simp at hz ⊢; exact .inr hz)
    rw [altC]
    exact Lim.split.app ((h x (by simp)).app (Lim.i.app this))
theorem Lim.rep {x : List In} (h : Lim x) : ∀ (n : Nat), Lim (repC n x)
  | 0 => Lim.nil
  | n + 1 => h.app (Lim.rep h n)
theorem Lim.opt {lz : Bool} {x : List In} (h : Lim x) : ∀ (n : Nat), Lim (optC lz n x)
  | 0 => Lim.nil
  | n + 1 => Lim.split.app (h.app (Lim.opt h n))
theorem Lim.loop {lz : Bool} {x : List In} (h : Lim x) : Lim (loopC lz x) := Lim.split.app (Lim.i.app (h.app (Lim.i.app Lim.i)))
theorem Lim.times {lo hi m : Int} {x : List In} (h : Lim x) : Lim (timesC lo hi m x) := by
  unfold timesC
  refine (h.rep _).app ?_
  split
  · exact h.loop
  · exact h.opt _
theorem Lim.within {i : In} {x : List In} (hi : i.set = []) (h : Lim x) : Lim (withinC i x) := (Lim.one (by simp [hi])).app (h.app (Lim.one (by simp [doneI, In.i])))
theorem foldS_len {l : List Rg} (h : Ns l) : (foldS l).length ≤ 1000000 := by
  have h1 := (mkSet_nrm (l := l ++ folds l) (fun r hr => (List.mem_append.1 hr).elim (h.1.1 r) (folds_right l r))).2.2
  have h2 := folds_len l
  have h3 := h.2
  rw [List.length_append] at h1
  unfold foldS
  omega
theorem code_lim (fo : Bool) {G : Int} {nd : Nd} (hn : Wn G nd) : Lim (code fo nd) := by
  induction hn with
  | @mk k lo hi m r set kids hs h5 h6 _ ih =>
    have hk : ∀ x ∈ kids.map (code fo), Lim x := by
      intro x hx
      obtain ⟨y, hy, rfl⟩ := List.mem_map.1 hx
      exact ih y hy
    have hR := Lim.row hk
    rw [code_eq]
    unfold cF
    split
    · refine Lim.one ?_
      unfold unitI
      split
      · exact foldS_len hs
      · exact Nat.le_trans hs.2 (by decide)
    split
    · exact hR
    split
    · exact Lim.alt hk
    split
    · split
      · exact Lim.within rfl hR.times
      · exact hR.times
    split
    · exact (Lim.one (by simp [saveI, In.i])).app (hR.app (Lim.one (by simp [saveI, In.i])))
    split
    · exact Lim.one (by simp [backI, In.i])
    split
    · exact Lim.within rfl hR
    split
    · exact Lim.within rfl hR
    split
    · exact Lim.i
    · exact Lim.nil
theorem whole_lim (fo : Bool) {G : Int} {nd : Nd} (hn : Wn G nd) : Lim (whole fo nd) :=
  (Lim.one (by simp [saveI, In.i])).app ((code_lim fo hn).app ((Lim.one (by simp [saveI, In.i])).app Lim.i))

end Go.Proofs.YtdbddbelhgkelaaGreatDoor

/- The program of two patterns, one behind the other. Of no program. -/
namespace Go.Proofs.YtdbddbelhgkelaaGreatDoor
open Go.Proofs.YtdbddbelhgkelaaGreatDoor.Cl (Rg)

theorem cat_code (fo : Bool) (x y : Nd) : code fo (catN [x, y]) = app (code fo x) (code fo y) := by
  unfold catN
  rw [code_eq, cF2]
  simp [rowC, app_nil]
theorem like_len {fo : Bool} {x x' : Nd} (h : Lk x x') : (code fo x).length = (code fo x').length ∧ marks (code fo x) = marks (code fo x') := by
  have e := code_like fo h
  have h1 := congrArg List.length e
  have h2 := congrArg marks e
  rw [hom_nrm.marks_, hom_nrm.marks_] at h2
  rw [List.length_map, List.length_map] at h1
  exact ⟨h1, h2⟩
theorem like_get {fo : Bool} {x x' : Nd} (h : Lk x x') {k : Nat} {c : In} (hk : (code fo x)[k]? = some c) : ∃ c', (code fo x')[k]? = some c' ∧ nrm c' = nrm c := by
  have e := congrArg (fun l => l[k]?) (code_like fo h)
  simp only [List.getElem?_map, hk, Option.map_some] at e
  obtain ⟨c', h1, h2⟩ := Option.map_eq_some_iff.1 e.symm
  exact ⟨c', h1, h2⟩
theorem whole_marks (fo : Bool) (nd : Nd) : marks (whole fo nd) = marks (code fo nd) := by
  unfold whole
  rw [app_marks, app_marks, app_marks]
  simp [marks, saveI, In.i]
theorem whole_length (fo : Bool) (nd : Nd) : (whole fo nd).length = (code fo nd).length + 3 := by
  unfold whole
  rw [app_len, app_len, app_len]
  simp
  omega
theorem whole_code {fo : Bool} {nd : Nd} {k : Nat} {c : In} (h : (code fo nd)[k]? = some c) : (whole fo nd)[1 + k]? = some (sh 1 0 c) := by
  have := app_get_right (x := [saveI 0]) (app_get_left (y := app [saveI 1] [.i 0 0 0 0 0]) h)
  exact this
/-- What ProgRows asks of an instruction and the moved one. -/
structure Moved (n M : Int) (p q : In) : Prop where
  op : q.op = p.op
  c : q.c = p.c
  d : q.d = p.d
  set : q.set = p.set
  ja : p.op = 2 ∨ p.op = 3 → q.a = p.a + n
  jb : p.op = 3 → q.b = p.b + n
  lb : p.op = 7 ∨ p.op = 8 → q.b = p.b + n
  ma : p.op = 10 ∨ p.op = 11 → q.a = p.a + M
theorem moved_of {n M : Int} {c c' : In} (h : nrm c' = nrm c) : Moved n M (sh 1 0 c) (sh (n + 1) M c') := by
  obtain ⟨h1, h2, h3, h4, h5, h6⟩ := nrm_eq h
  obtain ⟨s2, s3, s4, s5, s7, s10, s11⟩ := sh_get 1 0 c
  obtain ⟨t2, t3, t4, t5, t7, t10, t11⟩ := sh_get (n + 1) M c'
  refine ⟨by rw [sh_op, sh_op, h1], by rw [sh_c, sh_c, h3], by rw [sh_d, sh_d, h4], by rw [sh_set, sh_set, h5], ?_, ?_, ?_, ?_⟩
  · rintro (h | h) <;> rw [sh_op] at h
    · have ha := h6 (by omega) (by omega) (by omega)
      rw [s2 h, t2 (by omega), ha]; omega
    · have ha := h6 (by omega) (by omega) (by omega)
      rw [(s3 h).1, (t3 (by omega)).1, ha]; omega
  · intro h; rw [sh_op] at h
    rw [(s3 h).2, (t3 (by omega)).2, h2]; omega
  · intro h; rw [sh_op] at h
    rw [s7 h, t7 (by omega), h2]; omega
  · rintro (h | h) <;> rw [sh_op] at h
    · have ha := h6 (by omega) (by omega) (by omega)
      rw [s10 h, t10 (by omega), ha]; omega
    · have ha := h6 (by omega) (by omega) (by omega)
      rw [s11 h, t11 (by omega), ha]; omega
theorem rows_prog {x y x' y' : Nd} (hx : Lk x x') (hy : Lk y y') :
    (whole false (catN [x', y'])).length + 3 = (whole false x).length + (whole false y).length ∧
    marks (whole false (catN [x', y'])) = marks (whole false x) + marks (whole false y) ∧
    ∀ k, k + 3 < (whole false y).length → ∃ p q, (whole false y)[1 + k]? = some p ∧ (whole false (catN [x', y']))[k + 1 + ((whole false x).length - 3)]? = some q ∧ Moved (((whole false x).length : Nat) - 3) (marks (whole false x) : Nat) p q := by
  obtain ⟨lx, mx⟩ := like_len (fo := false) hx
  obtain ⟨ly, my⟩ := like_len (fo := false) hy
  refine ⟨?_, ?_, fun k hk => ?_⟩
  · rw [whole_length, whole_length, whole_length, cat_code, app_len]; omega
  · rw [whole_marks, whole_marks, whole_marks, cat_code, app_marks]; omega
  · rw [whole_length] at hk
    have hc := List.getElem?_eq_getElem (l := code false y) (i := k) (by omega)
    generalize (code false y)[k] = c at hc
    obtain ⟨c', h1, h2⟩ := like_get hy hc
    refine ⟨_, _, whole_code hc, ?_, moved_of (n := (((whole false x).length : Nat) - 3)) (M := (marks (whole false x) : Nat)) h2⟩
    have h3 : (code false (catN [x', y']))[(code false x').length + k]? = some (sh ((code false x').length : Nat) (marks (code false x') : Nat) c') := by
      rw [cat_code]; exact app_get_right h1
    have h4 := whole_code h3
    rw [sh_sh] at h4
    rw [whole_length, whole_marks, ← lx, ← mx] at *
    rw [show k + 1 + ((code false x).length + 3 - 3) = 1 + ((code false x).length + k) by omega, h4]
    congr 2 <;> omega

end Go.Proofs.YtdbddbelhgkelaaGreatDoor

/- More fuel changes nothing of what is read. Two patterns, one behind the other. Of no program. -/
namespace Go.Proofs.YtdbddbelhgkelaaGreatDoor
open Go.Proofs.YtdbddbelhgkelaaGreatDoor.Cl (Rg)

theorem run_fuel : ∀ (n k d : Nat) (acc : List Nd) (σ : St) (x : Nd × St), k < 4 → run n k d acc σ = .ok x → run (n + 1) k d acc σ = .ok x := by
  intro n
  induction n with
  | zero => intro k d acc σ x _ h; simp [run] at h
  | succ n ih =>
    intro k d acc σ x hk h
    match k, hk with
    | 0, _ =>
      rw [run_alts] at h
      rw [run_alts]
      split at h
      · cases h
      · rename_i r σ1 hr
        rw [ih _ _ _ _ _ (by decide) hr]
        simp only
        split at h
        · rename_i c
          rw [if_pos c]
          exact ih _ _ _ _ _ (by decide) h
        · rename_i c
          rw [if_neg c]
          exact h
    | 1, _ =>
      rw [run_row] at h
      rw [run_row]
      split at h
      · rename_i c
        rw [if_pos c]
        exact h
      · rename_i c
        rw [if_neg c]
        split at h
        · cases h
        · rename_i r σ1 hr
          rw [ih _ _ _ _ _ (by decide) hr]
          exact ih _ _ _ _ _ (by decide) h
    | 2, _ =>
      rw [run_quant] at h
      rw [run_quant]
      by_cases c : at_ σ.t 0 = 40
      · rw [if_pos c] at h ⊢
        split at h
        · cases h
        · rename_i r σ1 hr
          rw [ih _ _ _ _ _ (by decide) hr]
          exact h
      · rw [if_neg c] at h ⊢
        exact h
    | 3, _ =>
      rw [run_paren] at h
      rw [run_paren]
      split at h
      · cases h
      · rename_i c
        rw [if_neg c]
        split at h
        · cases h
        · rename_i sh σ1 ho
          split at h
          · cases h
          · rename_i kid σ2 hr
            rw [ih _ _ _ _ _ (by decide) hr]
            exact h
theorem parse_fuel {N : Nat} {s : List UInt8} {x : Nd × Nat × Bool} (h : parse N s = .ok x) : parse (N + 1) s = .ok x := by
  unfold parse at h ⊢
  split at h
  · cases h
  · rename_i c
    rw [if_neg c]
    split at h
    · cases h
    · rename_i r σ hr
      rw [run_fuel _ _ _ _ _ _ (by decide) hr]
      exact h
theorem parse_fo {N : Nat} {s : List UInt8} {nd : Nd} {g : Nat} {fo : Bool} (h : parse N s = .ok (nd, g, fo)) : fo = foldAt s := by
  unfold parse at h
  split at h
  · cases h
  · split at h
    · cases h
    · exact (ended_root h).2.2
theorem cat_read {N : Nat} {a b : List UInt8} {x y r : Nd} {g1 g2 g' : Nat} {fo : Bool} (ha : parse N a = .ok (x, g1, false)) (hb : parse N b = .ok (y, g2, false)) (la : a.length ≤ 100) (lb : b.length ≤ 100)
    (hr : parse N (40 :: 63 :: 58 :: (a ++ 41 :: 40 :: 63 :: 58 :: (b ++ [41]))) = .ok (r, g', fo)) : fo = false ∧ ∃ x' y', r = catN [x', y'] ∧ Lk x x' ∧ Lk y y' :=
  ⟨by rw [parse_fo hr]; simp [foldAt, pre, List.isPrefixOf], cat_like (parse_fuel ha) hb la lb (parse_fuel (parse_fuel (parse_fuel (parse_fuel (parse_fuel hr)))))⟩

end Go.Proofs.YtdbddbelhgkelaaGreatDoor

/- How low the guard's loop may be in a code. Of no program. -/
namespace Go.Proofs.YtdbddbelhgkelaaGreatDoor
open Go.Proofs.YtdbddbelhgkelaaGreatDoor.Cl (Rg)

def Glo (l : List In) : Prop := ∀ x ∈ l, x.op = 11 → -(len l) ≤ x.a
theorem Glo.nil : Glo [] := fun _ h => by simp at h
theorem Glo.one {i : In} (h : i.op ≠ 11) : Glo [i] := fun x hx ho => by rw [List.mem_singleton.1 hx] at ho; exact absurd ho h
theorem Glo.app {x y : List In} (hx : Glo x) (hy : Glo y) : Glo (app x y) := by
  intro z hz ho
  rw [len_app]
  have hlx := len_nonneg x
  have hly := len_nonneg y
  unfold Go.Proofs.YtdbddbelhgkelaaGreatDoor.app at hz
  rcases List.mem_append.1 hz with h | h
  · have := hx z h ho
    omega
  · obtain ⟨u, hu, rfl⟩ := List.mem_map.1 h
    rw [sh_op] at ho
    have h1 := hy u hu ho
    have h2 := (sh_get (x.length : Nat) (marks x : Nat) u).2.2.2.2.2.2 ho
    rw [h2]
    omega
theorem Glo.row : ∀ {l : List (List In)}, (∀ x ∈ l, Glo x) → Glo (rowC l)
  | [], _ => Glo.nil
  | x :: l, h => (h x (by simp)).app (Glo.row fun y hy => h y (by simp [hy]))
theorem Glo.split {lz : Bool} {n : Int} : Glo [splitI lz n] := Glo.one (by unfold splitI; split <;> simp [In.i])
theorem Glo.alt : ∀ {l : List (List In)}, (∀ x ∈ l, Glo x) → Glo (altC l)
  | [], _ => Glo.nil
  | [x], h => h x (by simp)
  | x :: y :: l, h => by
    have := Glo.alt (l := y :: l) fun z hz => h z (by simp at hz ⊢; exact .inr hz)
    rw [altC]
    exact Glo.split.app ((h x (by simp)).app ((Glo.one (by simp [In.i])).app this))
theorem Glo.rep {x : List In} (h : Glo x) : ∀ (n : Nat), Glo (repC n x)
  | 0 => Glo.nil
  | n + 1 => h.app (Glo.rep h n)
theorem Glo.opt {lz : Bool} {x : List In} (h : Glo x) : ∀ (n : Nat), Glo (optC lz n x)
  | 0 => Glo.nil
  | n + 1 => Glo.split.app (h.app (Glo.opt h n))
theorem Glo.loop {lz : Bool} {x : List In} (h : Glo x) : Glo (loopC lz x) := by
  have hm := marks_le x
  have hT : Glo (Go.Proofs.YtdbddbelhgkelaaGreatDoor.app x (Go.Proofs.YtdbddbelhgkelaaGreatDoor.app [.i 11 (-(marks x : Int) - 1) 0 0 0] [.i 2 (-(x.length : Int) - 3) 0 0 0])) := by
    intro z hz ho
    rw [len_app, len_app]
    have hlx : len x = (x.length : Nat) := rfl
    have e1 : len [In.i 11 (-(marks x : Int) - 1) 0 0 0] = 1 := rfl
    have e2 : len [In.i 2 (-(x.length : Int) - 3) 0 0 0] = 1 := rfl
    rw [e1, e2]
    unfold Go.Proofs.YtdbddbelhgkelaaGreatDoor.app at hz
    rcases List.mem_append.1 hz with h1 | h1
    · have := h z h1 ho
      omega
    · obtain ⟨u, hu, rfl⟩ := List.mem_map.1 h1
      rw [sh_op] at ho
      have h2 := (sh_get (x.length : Nat) (marks x : Nat) u).2.2.2.2.2.2 ho
      rw [h2]
      simp [In.i] at hu
      rcases hu with rfl | rfl
      · simp only
        omega
      · exfalso
        rw [sh_op] at ho
        simp at ho
  unfold loopC
  exact Glo.split.app ((Glo.one (by simp [In.i])).app hT)
theorem Glo.times {lo hi m : Int} {x : List In} (h : Glo x) : Glo (timesC lo hi m x) := by
  unfold timesC
  refine (h.rep _).app ?_
  split
  · exact h.loop
  · exact h.opt _
theorem Glo.within {i : In} {x : List In} (hi : i.op ≠ 11) (h : Glo x) : Glo (withinC i x) := (Glo.one (i := { i with b := (x.length : Int) + 2 }) hi).app (h.app (Glo.one (i := doneI) (by simp [doneI, In.i])))
theorem code_glo (fo : Bool) {G : Int} {nd : Nd} (hn : Wn G nd) : Glo (code fo nd) := by
  induction hn with
  | @mk k lo hi m r set kids hs h5 h6 _ ih =>
    have hk : ∀ x ∈ kids.map (code fo), Glo x := by
      intro x hx
      obtain ⟨y, hy, rfl⟩ := List.mem_map.1 hx
      exact ih y hy
    have hR := Glo.row hk
    rw [code_eq]
    unfold cF
    split
    · exact Glo.one (by simp [unitI])
    split
    · exact hR
    split
    · exact Glo.alt hk
    split
    · split
      · exact Glo.within (by simp [In.i]) hR.times
      · exact hR.times
    split
    · exact (Glo.one (by simp [saveI, In.i])).app (hR.app (Glo.one (by simp [saveI, In.i])))
    split
    · exact Glo.one (by simp [backI, In.i])
    split
    · exact Glo.within (by simp [In.i, lookI]) hR
    split
    · exact Glo.within (by simp [In.i]) hR
    split
    · exact Glo.one (by simp [In.i])
    · exact Glo.nil
theorem whole_glo (fo : Bool) {G : Int} {nd : Nd} (hn : Wn G nd) : Glo (whole fo nd) :=
  (Glo.one (by simp [saveI, In.i])).app ((code_glo fo hn).app ((Glo.one (by simp [saveI, In.i])).app (Glo.one (by simp [In.i]))))

end Go.Proofs.YtdbddbelhgkelaaGreatDoor

/- One class: a text of ranges in escapes, and its program. Of no program. -/
namespace Go.Proofs.YtdbddbelhgkelaaGreatDoor
open Go.Proofs.YtdbddbelhgkelaaGreatDoor.Cl

def hx (n : Nat) : UInt8 := UInt8.ofNat (if n < 10 then 48 + n else 87 + n)
theorem hx_ok : ∀ n, n < 16 → isHex (hx n).toNat = true ∧ hexV (hx n).toNat = n := by decide
def xs (u : Nat) : List UInt8 := [92, 120, hx (u / 16), hx (u % 16)]
def enc1 (r : Rg) : List UInt8 := xs r.1.toNat ++ 45 :: xs r.2.toNat
def encs (l : List Rg) : List UInt8 := l.flatMap enc1
def negL (neg : Bool) : List UInt8 := if neg then [94] else []
def onesT (neg : Bool) (l : List Rg) : List UInt8 := 91 :: (negL neg ++ (encs l ++ [93]))
theorem encs_len (l : List Rg) : (encs l).length = 9 * l.length := by
  induction l with
  | nil => rfl
  | cons r l ih =>
    have : encs (r :: l) = enc1 r ++ encs l := rfl
    rw [this, List.length_append, ih]
    simp [enc1, xs]
    omega
theorem encs_snoc (l : List Rg) (r : Rg) : encs (l ++ [r]) = encs l ++ enc1 r := by simp [encs]

theorem esc_x {u : Nat} (hu : u < 256) (p : Nat) (r : List UInt8) (g : Nat) (bk : List (Nat × Nat)) : escUnit ⟨p, xs u ++ r, g, bk⟩ = .ok (u, ⟨p + 4, r, g, bk⟩) := by
  have h1 := hx_ok (u / 16) (by omega)
  have h2 := hx_ok (u % 16) (by omega)
  have e2 : at_ (xs u ++ r) 2 = (hx (u / 16)).toNat := rfl
  have e3 : at_ (xs u ++ r) 3 = (hx (u % 16)).toNat := rfl
  have es : sign (xs u ++ r) = 120 := rfl
  have el : ¬ (xs u ++ r).length < 4 := by simp [xs]
  unfold escUnit
  simp only [es, if_true, el, if_false, e2, e3, h1.1, h2.1, h1.2, h2.2, Bool.and_self]
  rw [show 16 * (u / 16) + u % 16 = u by omega]
  rfl
theorem m_x {u : Nat} (hu : u < 256) (p : Nat) (r : List UInt8) (g : Nat) (bk : List (Nat × Nat)) : mUnit ⟨p, xs u ++ r, g, bk⟩ = .ok (u, ⟨p + 4, r, g, bk⟩) := by
  have : at_ (xs u ++ r) 0 = 92 := rfl
  unfold mUnit
  simp only [this, if_true]
  exact esc_x hu p r g bk
theorem member_x {r : Rg} (h0 : 0 ≤ r.1) (h1 : r.1 ≤ r.2) (h2 : r.2 ≤ 255) (p : Nat) (t : List UInt8) (g : Nat) (bk : List (Nat × Nat)) : member ⟨p, enc1 r ++ t, g, bk⟩ = .ok ([r], ⟨p + 9, t, g, bk⟩) := by
  have e : enc1 r ++ t = xs r.1.toNat ++ (45 :: (xs r.2.toNat ++ t)) := by simp [enc1]
  have a0 : at_ (xs r.1.toNat ++ (45 :: (xs r.2.toNat ++ t))) 0 = 92 := rfl
  have as : sign (xs r.1.toNat ++ (45 :: (xs r.2.toNat ++ t))) = 120 := rfl
  have u0 : units 120 = none := by decide
  have b0 : at_ (45 :: (xs r.2.toNat ++ t)) 0 = 45 := rfl
  have c1 : seesUnit (xs r.2.toNat ++ t) = true := by
    have a0 : at_ (xs r.2.toNat ++ t) 0 = 92 := rfl
    have as : sign (xs r.2.toNat ++ t) = 120 := rfl
    have ae : (xs r.2.toNat ++ t).isEmpty = false := rfl
    unfold seesUnit
    rw [a0, as, ae, u0]
    rfl
  have lt : ¬ (r.2.toNat < r.1.toNat) := by omega
  unfold member
  rw [e]
  simp only [a0, as, u0]
  rw [if_neg (by decide), m_x (by omega)]
  simp only [b0, if_true]
  have ad : St.adv ⟨p + 4, 45 :: (xs r.2.toNat ++ t), g, bk⟩ 1 = ⟨p + 5, xs r.2.toNat ++ t, g, bk⟩ := rfl
  rw [ad]
  simp only [c1, if_true]
  rw [m_x (by omega)]
  simp only [lt, if_false]
  rw [show ((r.1.toNat : Nat) : Int) = r.1 by omega, show ((r.2.toNat : Nat) : Int) = r.2 by omega]

theorem members_x (op : Nat) (neg : Bool) (g : Nat) (bk : List (Nat × Nat)) : ∀ (l : List Rg) (k : Nat) (acc : List Rg) (p : Nat), (∀ r ∈ l, 0 ≤ r.1 ∧ r.1 ≤ r.2 ∧ r.2 ≤ 255) → l.length < k → acc ++ l ≠ [] →
    members op neg k acc ⟨p, encs l ++ [93], g, bk⟩ = .ok (if neg then gaps 0 (mkSet (acc ++ l)) else mkSet (acc ++ l), ⟨p + 9 * l.length + 1, [], g, bk⟩)
  | [], k + 1, acc, p, _, _, hn => by
    have a0 : at_ (encs [] ++ [93]) 0 = 93 := rfl
    rw [List.append_nil] at hn ⊢
    have he : acc.isEmpty = false := by cases acc with | nil => exact absurd rfl hn | cons _ _ => rfl
    unfold members
    simp only [a0, if_true, he]
    rfl
  | r :: l, k + 1, acc, p, hr, hk, hn => by
    have e : encs (r :: l) ++ [93] = enc1 r ++ (encs l ++ [93]) := by simp [encs]
    have a0 : ¬ at_ (enc1 r ++ (encs l ++ [93])) 0 = 93 := by have : at_ (enc1 r ++ (encs l ++ [93])) 0 = 92 := rfl; omega
    have ae : ((enc1 r ++ (encs l ++ [93])).isEmpty = true) = False := by simp [enc1, xs]
    obtain ⟨h0, h1, h2⟩ := hr r (by simp)
    unfold members
    rw [e]
    simp only [a0, if_false, ae]
    rw [member_x h0 h1 h2]
    simp only
    rw [members_x op neg g bk l k (acc ++ [r]) (p + 9) (fun x hx => hr x (by simp [hx])) (by simp at hk; omega) (by simp)]
    rw [List.append_assoc]
    simp
    omega
theorem mkSet_self {l : List Rg} (h : Norm l) : mkSet l = l := norm_ext (mkSet_nrm h.1).1 h (mkSet_nrm h.1).2.1

/-- What a class's text is read as. -/
theorem ones_parse (neg : Bool) {l : List Rg} (h : Norm l) (hr : ∀ r ∈ l, r.2 ≤ 255) (hn : l ≠ []) (h5 : l.length ≤ 5) : parse 1026 (onesT neg l) = .ok (setN (if neg then gaps 0 l else l), 0, false) := by
  have hR : ∀ r ∈ l, 0 ≤ r.1 ∧ r.1 ≤ r.2 ∧ r.2 ≤ 255 := fun r hm => ⟨(h.1 r hm).1, (h.1 r hm).2.1, hr r hm⟩
  have hlen : ¬ 256 < (onesT neg l).length := by
    have := encs_len l
    unfold onesT negL
    cases neg <;> simp <;> omega
  have hf : foldAt (onesT neg l) = false := rfl
  obtain ⟨r0, l0, rfl⟩ : ∃ r l', l = r :: l' := by cases l with | nil => exact absurd rfl hn | cons r l' => exact ⟨r, l', rfl⟩
  have hb : ∃ p, brackets ⟨0, onesT neg (r0 :: l0), 0, []⟩ = .ok (setN (if neg then gaps 0 (r0 :: l0) else r0 :: l0), ⟨p, [], 0, []⟩) := by
    have hm := fun p => members_x 0 neg 0 [] (r0 :: l0) 300 [] p hR (by omega) (by simp)
    rw [List.nil_append, mkSet_self h] at hm
    have hng : negAt ⟨0, onesT neg (r0 :: l0), 0, []⟩ = neg := by cases neg <;> rfl
    have hbh : ∃ p, behindNeg ⟨0, onesT neg (r0 :: l0), 0, []⟩ = ⟨p, encs (r0 :: l0) ++ [93], 0, []⟩ := by
      unfold behindNeg
      rw [hng]
      cases neg
      · exact ⟨1, rfl⟩
      · exact ⟨2, rfl⟩
    obtain ⟨p, hbh⟩ := hbh
    unfold brackets
    rw [hbh, hng]
    simp only [hm]
    exact ⟨_, rfl⟩
  obtain ⟨p, hb⟩ := hb
  have hrun : run 1026 0 0 [] ⟨0, onesT neg (r0 :: l0), 0, []⟩ = .ok (setN (if neg then gaps 0 (r0 :: l0) else r0 :: l0), ⟨p, [], 0, []⟩) := by
    have a0 : at_ (onesT neg (r0 :: l0)) 0 = 91 := rfl
    have ae : (onesT neg (r0 :: l0)).isEmpty = false := rfl
    have hat : atomP ⟨0, onesT neg (r0 :: l0), 0, []⟩ = .ok (setN (if neg then gaps 0 (r0 :: l0) else r0 :: l0), ⟨p, [], 0, []⟩) := by
      unfold atomP
      simp only [a0, if_true]
      exact hb
    have h2 : run 1024 2 0 [] ⟨0, onesT neg (r0 :: l0), 0, []⟩ = .ok (setN (if neg then gaps 0 (r0 :: l0) else r0 :: l0), ⟨p, [], 0, []⟩) := by
      rw [show (1024 : Nat) = 1023 + 1 from rfl, run_quant]
      simp only [a0]
      rw [if_neg (by decide), hat]
      simp only [quantRest]
      rw [show isQ (at_ [] 0) = false from rfl]
      rfl
    have h1 : ∀ a : Nd, run 1024 1 0 [a] ⟨p, [], 0, []⟩ = .ok (a, ⟨p, [], 0, []⟩) := fun a => by
      rw [show (1024 : Nat) = 1023 + 1 from rfl, run_row]
      rfl
    rw [show (1026 : Nat) = 1025 + 1 from rfl, run_alts, show (1025 : Nat) = 1024 + 1 from rfl, run_row]
    simp only [a0, ae]
    rw [if_neg (by decide), h2]
    simp only [List.nil_append, h1]
    rfl
  unfold parse begins
  rw [if_neg hlen, hf]
  simp only [Bool.false_eq_true, if_false]
  rw [hrun]
  rfl
theorem set_verdict (l : List Rg) : verdictN (setN l) = 0 := by
  rfl
theorem ones_whole (l : List Rg) : whole false (setN l) = [saveI 0, ⟨1, 0, 0, 0, 0, l⟩, saveI 1, .i 0 0 0 0 0] := rfl

end Go.Proofs.YtdbddbelhgkelaaGreatDoor

