/- Joined: Pm, PmSim, PmLen, PTop, PCode, PNine, PBr, PmWf, PmW, PmLk, PmCk, PmSh. -/
import Derived.Test.YtefgobmpleoafaaGreatDoorJMath
/- Patterns, read: the reader as a function of what is left of the text. Of no program. -/
namespace Go.Proofs.YtefgobmpleoafaaGreatDoor
open Go.Proofs.YtefgobmpleoafaaGreatDoor.Cl

/-- A node. -/
inductive Nd where
  | mk (kind lo hi mode ref : Int) (set : List Rg) (kids : List Nd)
def Nd.kind : Nd → Int
  | .mk k _ _ _ _ _ _ => k

/-- What is left of a text, and where it begins; how many groups were opened; the references so far. -/
structure St where
  pos : Nat
  t : List UInt8
  g : Nat
  bk : List (Nat × Nat)
abbrev Flt := Nat × Nat
abbrev R := Except Flt (Nd × St)

def St.adv (σ : St) (n : Nat) : St := { pos := σ.pos + n, t := σ.t.drop n, g := σ.g, bk := σ.bk }
def pre (w t : List UInt8) : Bool := w.isPrefixOf t
def sign (t : List UInt8) : Nat := if at_ t 0 = 92 then at_ t 1 else 0
def dig (c : Nat) : Bool := decide (48 ≤ c ∧ c ≤ 57)
def isMark (c : Nat) : Bool := decide (33 ≤ c ∧ c ≤ 126 ∧ ¬ (65 ≤ c ∧ c ≤ 90) ∧ ¬ (97 ≤ c ∧ c ≤ 122) ∧ ¬ (48 ≤ c ∧ c ≤ 57))
def isHex (c : Nat) : Bool := decide ((48 ≤ c ∧ c ≤ 57) ∨ (97 ≤ c ∧ c ≤ 102))
def hexV (c : Nat) : Nat := if c ≤ 57 then c - 48 else c - 87
def isQ (c : Nat) : Bool := decide (c = 42 ∨ c = 43 ∨ c = 63 ∨ c = 123)

def emptyN : Nd := .mk 0 0 0 0 0 [] []
def setN (l : List Rg) : Nd := .mk 1 0 0 0 0 l []
def catN (kids : List Nd) : Nd := .mk 2 0 0 0 0 [] kids
def altN (kids : List Nd) : Nd := .mk 3 0 0 0 0 [] kids
def repN (lo hi mode : Int) (kid : Nd) : Nd := .mk 4 lo hi mode 0 [] [kid]
def backN (g : Nat) : Nd := .mk 6 0 0 0 g [] []
def edgeN (r : Int) : Nd := .mk 9 0 0 0 r [] []
def joinA : List Nd → Nd
  | [x] => x
  | l => altN l
def joinR : List Nd → Nd
  | [] => emptyN
  | [x] => x
  | l => catN l

/-- The ranges that a letter behind a backslash stands for. -/
def lowOf (c : Nat) : Option (List Rg) :=
  if c = 100 ∨ c = 68 then some [(48, 57)]
  else if c = 119 ∨ c = 87 then some [(48, 57), (65, 90), (95, 95), (97, 122)]
  else if c = 115 ∨ c = 83 then some [(9, 13), (32, 32)]
  else none
def units (c : Nat) : Option (List Rg) := if 65 ≤ c ∧ c ≤ 90 then (lowOf c).map (gaps 0) else lowOf c
def mkSet (l : List Rg) : List Rg := together (l.mergeSort fun a b => decide (a.1 ≤ b.1))

def escUnit (σ : St) : Except Flt (Nat × St) :=
  if sign σ.t = 120 then
    if σ.t.length < 4 then .error (21, σ.pos)
    else if isHex (at_ σ.t 2) && isHex (at_ σ.t 3) then .ok (16 * hexV (at_ σ.t 2) + hexV (at_ σ.t 3), σ.adv 4)
    else .error (21, σ.pos)
  else if sign σ.t = 110 then .ok (10, σ.adv 2)
  else if sign σ.t = 116 then .ok (9, σ.adv 2)
  else if sign σ.t = 114 then .ok (13, σ.adv 2)
  else if isMark (sign σ.t) then .ok (sign σ.t, σ.adv 2)
  else .error (21, σ.pos)

def mUnit (σ : St) : Except Flt (Nat × St) := if at_ σ.t 0 = 92 then escUnit σ else .ok ((nx σ.t).1, σ.adv (nx σ.t).2)
def seesUnit (t : List UInt8) : Bool := !t.isEmpty && !decide (at_ t 0 = 91 ∨ at_ t 0 = 93 ∨ at_ t 0 = 45) && (units (sign t)).isNone
def member (σ : St) : Except Flt (List Rg × St) :=
  if at_ σ.t 0 = 91 ∨ at_ σ.t 0 = 45 then .error (22, σ.pos)
  else match units (sign σ.t) with
  | some l => .ok (l, σ.adv 2)
  | none => match mUnit σ with
    | .error e => .error e
    | .ok (lo, σ1) =>
      if at_ σ1.t 0 = 45 then
        if seesUnit (σ1.adv 1).t then
          match mUnit (σ1.adv 1) with
          | .error e => .error e
          | .ok (hi, σ3) => if hi < lo then .error (22, σ.pos) else .ok ([((lo : Int), (hi : Int))], σ3)
        else .error (22, σ.pos)
      else .ok ([((lo : Int), (lo : Int))], σ1)
def members (op : Nat) (neg : Bool) : Nat → List Rg → St → Except Flt (List Rg × St)
  | 0, _, σ => .error (0, σ.pos)
  | k + 1, acc, σ =>
    if at_ σ.t 0 = 93 then
      if acc.isEmpty then .error (22, op) else .ok (if neg then gaps 0 (mkSet acc) else mkSet acc, σ.adv 1)
    else if σ.t.isEmpty then .error (22, op)
    else match member σ with
    | .error e => .error e
    | .ok (l, σ1) => members op neg k (acc ++ l) σ1
def negAt (σ : St) : Bool := decide (at_ (σ.adv 1).t 0 = 94)
def behindNeg (σ : St) : St := if negAt σ then (σ.adv 1).adv 1 else σ.adv 1
def brackets (σ : St) : R :=
  match members σ.pos (negAt σ) 300 [] (behindNeg σ) with
  | .error e => .error e
  | .ok (l, σ1) => .ok (setN l, σ1)

def refAt (σ : St) : St := { pos := σ.pos + 2, t := σ.t.drop 2, g := σ.g, bk := σ.bk ++ [(sign σ.t - 48, σ.pos)] }
def escape (σ : St) : R :=
  if sign σ.t = 98 then .ok (edgeN 2, σ.adv 2)
  else if sign σ.t = 66 then .ok (edgeN 3, σ.adv 2)
  else if 49 ≤ sign σ.t ∧ sign σ.t ≤ 57 then .ok (backN (sign σ.t - 48), refAt σ)
  else match units (sign σ.t) with
  | some l => .ok (setN l, σ.adv 2)
  | none => match escUnit σ with
    | .error e => .error e
    | .ok (u, σ1) => .ok (setN [((u : Int), (u : Int))], σ1)

def atomP (σ : St) : R :=
  if at_ σ.t 0 = 91 then brackets σ
  else if at_ σ.t 0 = 92 then escape σ
  else if isQ (at_ σ.t 0) then .error (23, σ.pos)
  else if at_ σ.t 0 = 93 ∨ at_ σ.t 0 = 125 then .error (20, σ.pos)
  else if at_ σ.t 0 = 46 then .ok (setN [(0, 9), (11, 1114367)], σ.adv 1)
  else if at_ σ.t 0 = 94 then .ok (edgeN 0, σ.adv 1)
  else if at_ σ.t 0 = 36 then .ok (edgeN 1, σ.adv 1)
  else .ok (setN [(((nx σ.t).1 : Int), ((nx σ.t).1 : Int))], σ.adv (nx σ.t).2)

/-- A number of one or two digits: it, whether it is right, and how many bytes it takes. -/
def numOf (t : List UInt8) : Nat := if dig (at_ t 0) then (if dig (at_ t 1) then 10 * (at_ t 0 - 48) + (at_ t 1 - 48) else at_ t 0 - 48) else 0
def numLen (t : List UInt8) : Nat := if dig (at_ t 0) then (if dig (at_ t 1) then 2 else 1) else 0
def numOk (t : List UInt8) : Bool := dig (at_ t 0) && decide (numOf t ≤ 64)

def braces (σ : St) : Option ((Int × Int) × St) :=
  if numOk (σ.adv 1).t then
    if pre [44, 125] ((σ.adv 1).adv (numLen (σ.adv 1).t)).t then some ((numOf (σ.adv 1).t, -1), ((σ.adv 1).adv (numLen (σ.adv 1).t)).adv 2)
    else if at_ ((σ.adv 1).adv (numLen (σ.adv 1).t)).t 0 = 44 then
      if numOk (((σ.adv 1).adv (numLen (σ.adv 1).t)).adv 1).t && decide (numOf (σ.adv 1).t ≤ numOf (((σ.adv 1).adv (numLen (σ.adv 1).t)).adv 1).t)
          && decide (at_ ((((σ.adv 1).adv (numLen (σ.adv 1).t)).adv 1).adv (numLen (((σ.adv 1).adv (numLen (σ.adv 1).t)).adv 1).t)).t 0 = 125) then
        some ((numOf (σ.adv 1).t, numOf (((σ.adv 1).adv (numLen (σ.adv 1).t)).adv 1).t), ((((σ.adv 1).adv (numLen (σ.adv 1).t)).adv 1).adv (numLen (((σ.adv 1).adv (numLen (σ.adv 1).t)).adv 1).t)).adv 1)
      else none
    else if at_ ((σ.adv 1).adv (numLen (σ.adv 1).t)).t 0 = 125 then some ((numOf (σ.adv 1).t, numOf (σ.adv 1).t), ((σ.adv 1).adv (numLen (σ.adv 1).t)).adv 1)
    else none
  else none
def times (σ : St) : Option ((Int × Int) × St) :=
  if at_ σ.t 0 = 42 then some ((0, -1), σ.adv 1)
  else if at_ σ.t 0 = 43 then some ((1, -1), σ.adv 1)
  else if at_ σ.t 0 = 63 then some ((0, 1), σ.adv 1)
  else braces σ
def modeOf (t : List UInt8) : Nat := if at_ t 0 = 63 then 1 else if at_ t 0 = 43 then 2 else 0
def behindMode (σ : St) : St := if modeOf σ.t = 0 then σ else σ.adv 1
def quantRest (grouped : Bool) (a : Nd) (σ : St) : R :=
  if isQ (at_ σ.t 0) then
    if !grouped && (decide (a.kind = 9) || decide (a.kind = 7)) then .error (23, σ.pos)
    else match times σ with
    | none => .error (23, σ.pos)
    | some ((lo, hi), σ1) => .ok (repN lo hi (modeOf σ1.t) a, behindMode σ1)
  else .ok (a, σ)

def opened (σ : St) : St := { pos := σ.pos + 1, t := σ.t.drop 1, g := σ.g + 1, bk := σ.bk }
/-- An opening parenthesis: kind, mode and number of the node that it begins. -/
def opening (σ : St) : Except Flt ((Int × Int × Int) × St) :=
  if pre [40, 63, 58] σ.t then .ok ((0, 0, 0), σ.adv 3)
  else if pre [40, 63, 61] σ.t then .ok ((7, 0, 0), σ.adv 3)
  else if pre [40, 63, 33] σ.t then .ok ((7, 1, 0), σ.adv 3)
  else if pre [40, 63, 60, 61] σ.t then .ok ((7, 2, 0), σ.adv 4)
  else if pre [40, 63, 60, 33] σ.t then .ok ((7, 3, 0), σ.adv 4)
  else if pre [40, 63, 62] σ.t then .ok ((8, 0, 0), σ.adv 3)
  else if pre [40, 63] σ.t then .error (20, σ.pos)
  else if σ.g = 9 then .error (24, σ.pos)
  else .ok ((5, 0, ((σ.g + 1 : Nat) : Int)), opened σ)
def wrap (sh : Int × Int × Int) (kid : Nd) : Nd := if sh.1 = 0 then kid else .mk sh.1 0 0 sh.2.1 sh.2.2 [] [kid]

/-- The reader: 0 alternatives (behind those that are there), 1 a row, 2 an atom with its quantifier, 3 parentheses. -/
def run : Nat → Nat → Nat → List Nd → St → R
  | 0, _, _, _, σ => .error (0, σ.pos)
  | n + 1, 0, d, acc, σ =>
    match run n 1 d [] σ with
    | .error e => .error e
    | .ok (r, σ1) => if at_ σ1.t 0 = 124 then run n 0 d (acc ++ [r]) (σ1.adv 1) else .ok (joinA (acc ++ [r]), σ1)
  | n + 1, 1, d, acc, σ =>
    if σ.t.isEmpty || decide (at_ σ.t 0 = 124 ∨ at_ σ.t 0 = 41) then .ok (joinR acc, σ)
    else match run n 2 d [] σ with
    | .error e => .error e
    | .ok (a, σ1) => run n 1 d (acc ++ [a]) σ1
  | n + 1, 2, d, _, σ =>
    match (if at_ σ.t 0 = 40 then run n 3 d [] σ else atomP σ) with
    | .error e => .error e
    | .ok (a, σ1) => quantRest (pre [40, 63, 58] σ.t) a σ1
  | n + 1, _ + 3, d, _, σ =>
    if d = 32 then .error (25, σ.pos)
    else match opening σ with
    | .error e => .error e
    | .ok (sh, σ1) =>
      match run n 0 (d + 1) [] σ1 with
      | .error e => .error e
      | .ok (kid, σ2) => if at_ σ2.t 0 = 41 then .ok (wrap sh kid, σ2.adv 1) else .error (20, σ.pos)

def foldAt (s : List UInt8) : Bool := pre [40, 63, 105, 41] s
def begins (s : List UInt8) : St := if foldAt s then { pos := 4, t := s.drop 4, g := 0, bk := [] } else { pos := 0, t := s, g := 0, bk := [] }
def ended (fold : Bool) (r : Nd) (σ : St) : Except Flt (Nd × Nat × Bool) :=
  if !σ.t.isEmpty then .error (20, σ.pos)
  else match σ.bk.find? fun b => decide (σ.g < b.1) with
  | some b => .error (26, b.2)
  | none => .ok (r, σ.g, fold)
/-- A pattern: its root, how many groups, folded or not; or its first fault. -/
def parse (n : Nat) (s : List UInt8) : Except Flt (Nd × Nat × Bool) :=
  if 256 < s.length then .error (12, 0)
  else match run n 0 0 [] (begins s) with
  | .error e => .error e
  | .ok (r, σ) => ended (foldAt s) r σ

theorem run_alts (n d : Nat) (acc : List Nd) (σ : St) : run (n + 1) 0 d acc σ = match run n 1 d [] σ with
    | .error e => .error e
    | .ok (r, σ1) => if at_ σ1.t 0 = 124 then run n 0 d (acc ++ [r]) (σ1.adv 1) else .ok (joinA (acc ++ [r]), σ1) := rfl
theorem run_row (n d : Nat) (acc : List Nd) (σ : St) : run (n + 1) 1 d acc σ = if σ.t.isEmpty || decide (at_ σ.t 0 = 124 ∨ at_ σ.t 0 = 41) then .ok (joinR acc, σ)
    else match run n 2 d [] σ with
    | .error e => .error e
    | .ok (a, σ1) => run n 1 d (acc ++ [a]) σ1 := rfl
theorem run_quant (n d : Nat) (acc : List Nd) (σ : St) : run (n + 1) 2 d acc σ = match (if at_ σ.t 0 = 40 then run n 3 d [] σ else atomP σ) with
    | .error e => .error e
    | .ok (a, σ1) => quantRest (pre [40, 63, 58] σ.t) a σ1 := rfl
theorem run_paren (n d : Nat) (acc : List Nd) (σ : St) : run (n + 1) 3 d acc σ = if d = 32 then .error (25, σ.pos)
    else match opening σ with
    | .error e => .error e
    | .ok (sh, σ1) =>
      match run n 0 (d + 1) [] σ1 with
      | .error e => .error e
      | .ok (kid, σ2) => if at_ σ2.t 0 = 41 then .ok (wrap sh kid, σ2.adv 1) else .error (20, σ.pos) := rfl

end Go.Proofs.YtefgobmpleoafaaGreatDoor

/- Patterns, read: what stands behind a closing parenthesis, and where the text begins, play no part. -/
namespace Go.Proofs.YtefgobmpleoafaaGreatDoor
open Go.Proofs.YtefgobmpleoafaaGreatDoor.Cl

/-- What may stand behind: nothing, or a closing parenthesis and what you like. -/
def Tail (q : List UInt8) : Prop := q = [] ∨ ∃ p, q = 41 :: p
theorem at_nil (i : Nat) : at_ [] i = 0 := by simp [at_]
theorem at_tail0 {q : List UInt8} (h : Tail q) : at_ q 0 = 0 ∨ at_ q 0 = 41 := by
  rcases h with rfl | ⟨p, rfl⟩
  · exact .inl (at_nil 0)
  · exact .inr rfl
theorem at_app0 {t : List UInt8} (q : List UInt8) (h : t ≠ []) : at_ (t ++ q) 0 = at_ t 0 := at_app_l (by cases t <;> simp_all)
theorem at_sim {t q : List UInt8} (h : Tail q) {c : Nat} (h0 : c ≠ 0) (h1 : c ≠ 41) : at_ (t ++ q) 0 = c ↔ at_ t 0 = c := by
  by_cases ht : t = []
  · subst ht
    rw [List.nil_append, at_nil]
    rcases at_tail0 h with e | e <;> rw [e] <;> omega
  · rw [at_app0 q ht]
theorem at_ne {t : List UInt8} (h : at_ t 0 ≠ 0) : t ≠ [] := by
  rintro rfl
  exact h (at_nil 0)
theorem len_ne {t : List UInt8} (h : t ≠ []) : 1 ≤ t.length := by cases t <;> simp_all
theorem starts_tail {q : List UInt8} (h : Tail q) : starts q := by
  unfold starts
  rcases at_tail0 h with e | e <;> rw [e] <;> omega

theorem pre_nil (t : List UInt8) : pre [] t = true := by simp [pre]
theorem pre_len {w t : List UInt8} (h : pre w t = true) : w.length ≤ t.length := by
  unfold pre at h
  exact (List.isPrefixOf_iff_prefix.1 h).length_le
theorem pre_sim (w : List UInt8) {q : List UInt8} (h : Tail q) (hw : (41 : UInt8) ∉ w) : ∀ t, pre w (t ++ q) = pre w t := by
  induction w with
  | nil => intro t; simp [pre]
  | cons a w ih =>
    intro t
    cases t with
    | nil =>
      rcases h with rfl | ⟨p, rfl⟩
      · rfl
      · have : ¬ a = 41 := fun e => hw (by simp [e])
        simp [pre, List.isPrefixOf, this]
    | cons b t =>
      have := ih (fun e => hw (List.mem_cons_of_mem _ e)) t
      simp only [pre] at this
      simp only [pre, List.cons_append, List.isPrefixOf, this]

structure Sim (γ : Nat) (B : List Nat) (q : List UInt8) (σ σ' : St) : Prop where
  ht : σ'.t = σ.t ++ q
  hg : σ'.g = σ.g + γ
  hb : σ'.bk.map (·.1) = B ++ σ.bk.map (·.1)

variable {γ δ : Nat} {B : List Nat} {q : List UInt8} {σ σ' σ1 : St}
theorem Sim.adv (h : Sim γ B q σ σ') {n : Nat} (hn : n ≤ σ.t.length) : Sim γ B q (σ.adv n) (σ'.adv n) :=
  ⟨by simp only [St.adv]; rw [h.ht, List.drop_append_of_le_length hn], h.hg, h.hb⟩
theorem Sim.at_ (h : Sim γ B q σ σ') (hq : Tail q) {c : Nat} (h0 : c ≠ 0) (h1 : c ≠ 41) : at_ σ'.t 0 = c ↔ at_ σ.t 0 = c := by rw [h.ht]; exact at_sim hq h0 h1
theorem Sim.at0 (h : Sim γ B q σ σ') (hn : σ.t ≠ []) : Go.Proofs.YtefgobmpleoafaaGreatDoor.at_ σ'.t 0 = Go.Proofs.YtefgobmpleoafaaGreatDoor.at_ σ.t 0 := by rw [h.ht]; exact at_app0 q hn
theorem Sim.pre (h : Sim γ B q σ σ') (hq : Tail q) (w : List UInt8) (hw : (41 : UInt8) ∉ w) : pre w σ'.t = pre w σ.t := by rw [h.ht]; exact pre_sim w hq hw _

theorem sign_len {t : List UInt8} (h : sign t ≠ 0) : 2 ≤ t.length ∧ at_ t 0 = 92 := by
  unfold sign at h
  split at h
  · rename_i h0
    refine ⟨?_, h0⟩
    rcases Nat.lt_or_ge t.length 2 with hl | hl
    · exact absurd (at_out (by omega)) h
    · exact hl
  · exact absurd rfl h
theorem sign_app {t : List UInt8} (q : List UInt8) (h : sign t ≠ 0) : sign (t ++ q) = sign t := by
  obtain ⟨hl, h0⟩ := sign_len h
  unfold sign
  rw [at_app_l (by omega), at_app_l (by omega)]
theorem sign_else {t : List UInt8} (h : at_ t 0 ≠ 92) : sign t = 0 := by
  unfold sign
  rw [if_neg h]
theorem units_zero : units 0 = none := by simp [units, lowOf]

theorem escUnit_sign {u : Nat} (h : escUnit σ = .ok (u, σ1)) : sign σ.t ≠ 0 := by
  intro e
  unfold escUnit at h
  rw [e] at h
  simp [isMark] at h
theorem escUnit_sim {u : Nat} (h : escUnit σ = .ok (u, σ1)) (hs : Sim γ B q σ σ') : ∃ σ1', escUnit σ' = .ok (u, σ1') ∧ Sim γ B q σ1 σ1' := by
  have hz := escUnit_sign h
  obtain ⟨hl, _⟩ := sign_len hz
  have e : sign σ'.t = sign σ.t := by rw [hs.ht]; exact sign_app q hz
  unfold escUnit at h ⊢
  rw [e]
  by_cases c1 : sign σ.t = 120
  · rw [if_pos c1] at h ⊢
    by_cases c2 : σ.t.length < 4
    · rw [if_pos c2] at h; cases h
    · rw [if_neg c2] at h
      rw [if_neg (by rw [hs.ht, List.length_append]; omega)]
      have e2 : at_ σ'.t 2 = at_ σ.t 2 := by rw [hs.ht]; exact at_app_l (by omega)
      have e3 : at_ σ'.t 3 = at_ σ.t 3 := by rw [hs.ht]; exact at_app_l (by omega)
      rw [e2, e3]
      split at h
      · rename_i c3
        rw [if_pos c3]
        injection h with h
        injection h with h1 h2
        subst h1 h2
        exact ⟨_, rfl, hs.adv (by omega)⟩
      · cases h
  · rw [if_neg c1] at h ⊢
    by_cases c2 : sign σ.t = 110
    · rw [if_pos c2] at h ⊢
      injection h with h; injection h with h1 h2; subst h1 h2
      exact ⟨_, rfl, hs.adv hl⟩
    · rw [if_neg c2] at h ⊢
      by_cases c3 : sign σ.t = 116
      · rw [if_pos c3] at h ⊢
        injection h with h; injection h with h1 h2; subst h1 h2
        exact ⟨_, rfl, hs.adv hl⟩
      · rw [if_neg c3] at h ⊢
        by_cases c4 : sign σ.t = 114
        · rw [if_pos c4] at h ⊢
          injection h with h; injection h with h1 h2; subst h1 h2
          exact ⟨_, rfl, hs.adv hl⟩
        · rw [if_neg c4] at h ⊢
          by_cases c5 : isMark (sign σ.t) = true
          · rw [if_pos c5] at h ⊢
            injection h with h; injection h with h1 h2; subst h1 h2
            exact ⟨_, rfl, hs.adv hl⟩
          · rw [if_neg c5] at h; cases h
theorem mUnit_sim {u : Nat} (h : mUnit σ = .ok (u, σ1)) (hq : Tail q) (hs : Sim γ B q σ σ') (hn : σ.t ≠ []) : ∃ σ1', mUnit σ' = .ok (u, σ1') ∧ Sim γ B q σ1 σ1' := by
  unfold mUnit at h ⊢
  rw [hs.at0 hn]
  by_cases c : at_ σ.t 0 = 92
  · rw [if_pos c] at h ⊢
    exact escUnit_sim h hs
  · rw [if_neg c] at h ⊢
    injection h with h; injection h with h1 h2; subst h1 h2
    have e : nx σ'.t = nx σ.t := by rw [hs.ht]; exact nx_app _ _ hn (starts_tail hq)
    rw [e]
    exact ⟨_, rfl, hs.adv (nx_le _ hn).2.2⟩
theorem units_some {c : Nat} {l : List Rg} (h : units c = some l) : c ≠ 0 := by
  rintro rfl
  rw [units_zero] at h
  cases h
theorem units_sim {t : List UInt8} (hq : Tail q) (h : at_ t 0 = 92 → sign t ≠ 0) : units (sign (t ++ q)) = units (sign t) := by
  by_cases c : at_ t 0 = 92
  · rw [sign_app q (h c)]
  · rw [sign_else c, sign_else (fun e => c ((at_sim hq (by omega) (by omega)).1 e))]
theorem mUnit_sign {u : Nat} (h : mUnit σ = .ok (u, σ1)) : at_ σ.t 0 = 92 → sign σ.t ≠ 0 := by
  intro c
  unfold mUnit at h
  rw [if_pos c] at h
  exact escUnit_sign h
theorem seesUnit_sim {t : List UInt8} (hq : Tail q) (h : at_ t 0 = 92 → sign t ≠ 0) (hu : seesUnit t = true) : seesUnit (t ++ q) = true := by
  have hn : t ≠ [] := by rintro rfl; simp [seesUnit] at hu
  unfold seesUnit at hu ⊢
  rw [units_sim hq h, at_app0 q hn]
  simp only [Bool.and_eq_true, Bool.not_eq_true'] at hu ⊢
  exact ⟨⟨by cases t <;> simp_all, hu.1.2⟩, hu.2⟩
theorem seesUnit_ne {t : List UInt8} (hu : seesUnit t = true) : t ≠ [] := by rintro rfl; simp [seesUnit] at hu

theorem member_sim {l : List Rg} (h : member σ = .ok (l, σ1)) (hq : Tail q) (hs : Sim γ B q σ σ') (hn : σ.t ≠ []) : ∃ σ1', member σ' = .ok (l, σ1') ∧ Sim γ B q σ1 σ1' := by
  unfold member at h ⊢
  rw [hs.at0 hn]
  split at h
  · cases h
  · rename_i c
    rw [if_neg c]
    split at h
    · rename_i l' hu
      injection h with h; injection h with h1 h2; subst h1 h2
      have hz := units_some hu
      have e : sign σ'.t = sign σ.t := by rw [hs.ht]; exact sign_app q hz
      rw [e, hu]
      exact ⟨_, rfl, hs.adv (sign_len hz).1⟩
    · rename_i hu
      split at h
      · cases h
      · rename_i lo σa hm
        have e : units (sign σ'.t) = none := by rw [hs.ht, units_sim hq (mUnit_sign hm), hu]
        rw [e]
        obtain ⟨σa', hm', hs1⟩ := mUnit_sim hm hq hs hn
        simp only [hm']
        have ei := hs1.at_ hq (c := 45) (by omega) (by omega)
        by_cases c2 : at_ σa.t 0 = 45
        · rw [if_pos c2] at h
          rw [if_pos (ei.2 c2)]
          have hs2 := hs1.adv (n := 1) (len_ne (at_ne (by omega)))
          split at h
          · rename_i hu2
            split at h
            · cases h
            · rename_i hi σb hm2
              have hu2' : seesUnit (σa'.adv 1).t = true := by rw [hs2.ht]; exact seesUnit_sim hq (mUnit_sign hm2) hu2
              rw [if_pos hu2']
              obtain ⟨σb', hm2', hs3⟩ := mUnit_sim hm2 hq hs2 (seesUnit_ne hu2)
              simp only [hm2']
              split at h
              · cases h
              · rename_i c3
                rw [if_neg c3]
                injection h with h; injection h with h1 h2; subst h1 h2
                exact ⟨_, rfl, hs3⟩
          · cases h
        · rw [if_neg c2] at h
          rw [if_neg (fun x => c2 (ei.1 x))]
          injection h with h; injection h with h1 h2; subst h1 h2
          exact ⟨_, rfl, hs1⟩
theorem members_sim {op op' : Nat} {neg : Bool} : ∀ {k : Nat} {acc l : List Rg} {σ σ' σ1 : St}, members op neg k acc σ = .ok (l, σ1) → Tail q → Sim γ B q σ σ' → ∃ σ1', members op' neg k acc σ' = .ok (l, σ1') ∧ Sim γ B q σ1 σ1'
  | 0, _, _, _, _, _, h, _, _ => by simp [members] at h
  | k + 1, acc, l, σ, σ', σ1, h, hq, hs => by
    have ei := hs.at_ hq (c := 93) (by omega) (by omega)
    unfold members at h ⊢
    by_cases c : at_ σ.t 0 = 93
    · rw [if_pos c] at h
      rw [if_pos (ei.2 c)]
      split at h
      · cases h
      · rename_i c2
        rw [if_neg c2]
        injection h with h; injection h with h1 h2; subst h1 h2
        exact ⟨_, rfl, hs.adv (len_ne (at_ne (by omega)))⟩
    · rw [if_neg c] at h
      rw [if_neg (fun x => c (ei.1 x))]
      split at h
      · cases h
      · rename_i c2
        have hn : σ.t ≠ [] := by intro e; rw [e] at c2; simp at c2
        have hn' : ¬ σ'.t.isEmpty = true := by rw [hs.ht]; cases ht : σ.t <;> simp_all
        rw [if_neg hn']
        split at h
        · cases h
        · rename_i l1 σa hm
          obtain ⟨σa', hm', hs1⟩ := member_sim hm hq hs hn
          simp only [hm']
          exact members_sim h hq hs1
theorem brackets_sim {r : Nd} (h : brackets σ = .ok (r, σ1)) (hc : at_ σ.t 0 = 91) (hq : Tail q) (hs : Sim γ B q σ σ') : ∃ σ1', brackets σ' = .ok (r, σ1') ∧ Sim γ B q σ1 σ1' := by
  have hs1 := hs.adv (n := 1) (len_ne (at_ne (by omega)))
  have ei := hs1.at_ hq (c := 94) (by omega) (by omega)
  have en : negAt σ' = negAt σ := by unfold negAt; simp only [ei]
  have hs2 : Sim γ B q (behindNeg σ) (behindNeg σ') := by
    unfold behindNeg
    rw [en]
    split
    · rename_i c
      have : at_ (σ.adv 1).t 0 = 94 := by simpa [negAt] using c
      exact hs1.adv (len_ne (at_ne (by omega)))
    · exact hs1
  unfold brackets at h ⊢
  rw [en]
  split at h
  · cases h
  · rename_i l σa hm
    obtain ⟨σa', hm', hs3⟩ := members_sim (op' := σ'.pos) hm hq hs2
    rw [hm']
    injection h with h; injection h with h1 h2; subst h1 h2
    exact ⟨_, rfl, hs3⟩

theorem escape_sim {r : Nd} (h : escape σ = .ok (r, σ1)) (hs : Sim γ B q σ σ') : ∃ σ1', escape σ' = .ok (r, σ1') ∧ Sim γ B q σ1 σ1' := by
  have hz : sign σ.t ≠ 0 := by
    intro e
    unfold escape at h
    rw [e, units_zero] at h
    simp only [show ¬ (0 : Nat) = 98 by omega, show ¬ (0 : Nat) = 66 by omega, show ¬ (49 ≤ (0 : Nat) ∧ (0 : Nat) ≤ 57) by omega, if_false] at h
    split at h
    · cases h
    · rename_i hm
      exact absurd e (escUnit_sign hm)
  obtain ⟨hl, _⟩ := sign_len hz
  have e : sign σ'.t = sign σ.t := by rw [hs.ht]; exact sign_app q hz
  have hr : Sim γ B q (refAt σ) (refAt σ') := by
    have := hs.adv hl
    refine ⟨this.ht, hs.hg, ?_⟩
    simp only [refAt, List.map_append, hs.hb, e, List.map_cons, List.map_nil, List.append_assoc]
  unfold escape at h ⊢
  rw [e]
  split at h
  · rename_i c
    rw [if_pos c]
    injection h with h; injection h with h1 h2; subst h1 h2
    exact ⟨_, rfl, hs.adv hl⟩
  · rename_i c
    rw [if_neg c]
    split at h
    · rename_i c2
      rw [if_pos c2]
      injection h with h; injection h with h1 h2; subst h1 h2
      exact ⟨_, rfl, hs.adv hl⟩
    · rename_i c2
      rw [if_neg c2]
      split at h
      · rename_i c3
        rw [if_pos c3]
        injection h with h; injection h with h1 h2; subst h1 h2
        exact ⟨_, rfl, hr⟩
      · rename_i c3
        rw [if_neg c3]
        split at h
        · rename_i l hu
          injection h with h; injection h with h1 h2; subst h1 h2
          exact ⟨_, rfl, hs.adv hl⟩
        · split at h
          · cases h
          · rename_i u σa hm
            obtain ⟨σa', hm', hs1⟩ := escUnit_sim hm hs
            rw [hm']
            injection h with h; injection h with h1 h2; subst h1 h2
            exact ⟨_, rfl, hs1⟩

theorem atomP_sim {r : Nd} (h : atomP σ = .ok (r, σ1)) (hq : Tail q) (hs : Sim γ B q σ σ') (hn : σ.t ≠ []) : ∃ σ1', atomP σ' = .ok (r, σ1') ∧ Sim γ B q σ1 σ1' := by
  have h1l := len_ne hn
  unfold atomP at h ⊢
  rw [hs.at0 hn]
  split at h
  · rename_i c
    rw [if_pos c]
    exact brackets_sim h c hq hs
  · rename_i c
    rw [if_neg c]
    split at h
    · rename_i c2
      rw [if_pos c2]
      exact escape_sim h hs
    · rename_i c2
      rw [if_neg c2]
      split at h
      · cases h
      · rename_i c3
        rw [if_neg c3]
        split at h
        · cases h
        · rename_i c4
          rw [if_neg c4]
          have e : nx σ'.t = nx σ.t := by rw [hs.ht]; exact nx_app _ _ hn (starts_tail hq)
          rw [e]
          split at h
          · rename_i c5
            rw [if_pos c5]
            injection h with h; injection h with h1 h2; subst h1 h2
            exact ⟨_, rfl, hs.adv h1l⟩
          · rename_i c5
            rw [if_neg c5]
            split at h
            · rename_i c6
              rw [if_pos c6]
              injection h with h; injection h with h1 h2; subst h1 h2
              exact ⟨_, rfl, hs.adv h1l⟩
            · rename_i c6
              rw [if_neg c6]
              split at h
              · rename_i c7
                rw [if_pos c7]
                injection h with h; injection h with h1 h2; subst h1 h2
                exact ⟨_, rfl, hs.adv h1l⟩
              · rename_i c7
                rw [if_neg c7]
                injection h with h; injection h with h1 h2; subst h1 h2
                exact ⟨_, rfl, hs.adv (nx_le _ hn).2.2⟩

theorem dig_iff (c : Nat) : dig c = true ↔ 48 ≤ c ∧ c ≤ 57 := by simp [dig]
theorem dig_no {c : Nat} (h : c < 48) : dig c = false := by simp [dig]; omega
theorem num_sim (hq : Tail q) (t : List UInt8) : numOf (t ++ q) = numOf t ∧ numLen (t ++ q) = numLen t ∧ numOk (t ++ q) = numOk t ∧ numLen t ≤ t.length := by
  have hq0 : dig (at_ q 0) = false := dig_no (by rcases at_tail0 hq with e | e <;> omega)
  match t with
  | [] =>
    have e0 : dig (at_ ([] : List UInt8) 0) = false := dig_no (by rw [at_nil]; omega)
    simp only [List.nil_append, numOk, numOf, numLen, hq0, e0, Bool.false_and]
    simp
  | [a] =>
    have e0 : at_ ([a] ++ q) 0 = at_ [a] 0 := rfl
    have e1 : at_ ([a] ++ q) 1 = at_ q 0 := by rw [at_app_r (by simp)]; rfl
    have e2 : dig (at_ [a] 1) = false := dig_no (by rw [at_out (by simp)]; omega)
    unfold numOk numOf numLen
    rw [e0, e1, hq0, e2]
    refine ⟨rfl, rfl, rfl, ?_⟩
    split <;> simp
  | a :: b :: r =>
    have e0 : at_ (a :: b :: r ++ q) 0 = at_ (a :: b :: r) 0 := rfl
    have e1 : at_ (a :: b :: r ++ q) 1 = at_ (a :: b :: r) 1 := rfl
    unfold numOk numOf numLen
    rw [e0, e1]
    refine ⟨rfl, rfl, rfl, ?_⟩
    split
    · split <;> simp
    · simp
theorem numLen_le (t : List UInt8) : numLen t ≤ t.length := (num_sim (.inl rfl) t).2.2.2
theorem Sim.num (hs : Sim γ B q σ σ') (hq : Tail q) : numOf σ'.t = numOf σ.t ∧ numLen σ'.t = numLen σ.t ∧ numOk σ'.t = numOk σ.t := by
  obtain ⟨a, b, c, _⟩ := num_sim hq σ.t
  rw [hs.ht]
  exact ⟨a, b, c⟩

theorem braces_sim {x : Int × Int} (h : braces σ = some (x, σ1)) (hc : at_ σ.t 0 ≠ 0) (hq : Tail q) (hs : Sim γ B q σ σ') : ∃ σ1', braces σ' = some (x, σ1') ∧ Sim γ B q σ1 σ1' := by
  have hs1 := hs.adv (n := 1) (len_ne (at_ne hc))
  obtain ⟨n1, n2, n3⟩ := hs1.num hq
  have hs2 := hs1.adv (numLen_le (σ.adv 1).t)
  unfold braces at h ⊢
  simp only [n1, n2, n3]
  have hs2' : Sim γ B q ((σ.adv 1).adv (numLen (σ.adv 1).t)) ((σ'.adv 1).adv (numLen (σ.adv 1).t)) := hs2
  have hp := hs2'.pre hq [44, 125] (by decide)
  have e44 := hs2'.at_ hq (c := 44) (by omega) (by omega)
  have e125 := hs2'.at_ hq (c := 125) (by omega) (by omega)
  rw [hp]
  split at h
  · rename_i c1
    rw [if_pos c1]
    split at h
    · rename_i c2
      rw [if_pos c2]
      injection h with h; injection h with h1 h2; subst h1 h2
      exact ⟨_, rfl, hs2'.adv (pre_len c2)⟩
    · rename_i c2
      rw [if_neg c2]
      split at h
      · rename_i c3
        rw [if_pos (e44.2 c3)]
        have hs3 := hs2'.adv (n := 1) (len_ne (at_ne (by omega)))
        obtain ⟨m1, m2, m3⟩ := hs3.num hq
        have hs4 := hs3.adv (numLen_le _)
        have e4 := hs4.at_ hq (c := 125) (by omega) (by omega)
        simp only [m1, m2, m3, e4]
        split at h
        · rename_i c4
          rw [if_pos c4]
          simp only [Bool.and_eq_true, decide_eq_true_eq] at c4
          injection h with h; injection h with h1 h2; subst h1 h2
          exact ⟨_, rfl, hs4.adv (len_ne (at_ne (by omega)))⟩
        · cases h
      · rename_i c3
        rw [if_neg (fun x => c3 (e44.1 x))]
        split at h
        · rename_i c4
          rw [if_pos (e125.2 c4)]
          injection h with h; injection h with h1 h2; subst h1 h2
          exact ⟨_, rfl, hs2'.adv (len_ne (at_ne (by omega)))⟩
        · cases h
  · cases h
theorem times_sim {x : Int × Int} (h : times σ = some (x, σ1)) (hn : σ.t ≠ []) (hc : at_ σ.t 0 ≠ 0) (hq : Tail q) (hs : Sim γ B q σ σ') : ∃ σ1', times σ' = some (x, σ1') ∧ Sim γ B q σ1 σ1' := by
  have h1l := len_ne hn
  unfold times at h ⊢
  rw [hs.at0 hn]
  split at h
  · rename_i c
    rw [if_pos c]
    injection h with h; injection h with h1 h2; subst h1 h2
    exact ⟨_, rfl, hs.adv h1l⟩
  · rename_i c
    rw [if_neg c]
    split at h
    · rename_i c
      rw [if_pos c]
      injection h with h; injection h with h1 h2; subst h1 h2
      exact ⟨_, rfl, hs.adv h1l⟩
    · rename_i c
      rw [if_neg c]
      split at h
      · rename_i c
        rw [if_pos c]
        injection h with h; injection h with h1 h2; subst h1 h2
        exact ⟨_, rfl, hs.adv h1l⟩
      · rename_i c
        rw [if_neg c]
        exact braces_sim h hc hq hs
theorem isQ_zero : isQ 0 = false := by decide
theorem isQ_sim (hs : Sim γ B q σ σ') (hq : Tail q) : isQ (at_ σ'.t 0) = isQ (at_ σ.t 0) := by
  by_cases hn : σ.t = []
  · rw [hs.ht, hn, List.nil_append, at_nil, isQ_zero]
    rcases at_tail0 hq with e | e <;> rw [e] <;> decide
  · rw [hs.at0 hn]
theorem mode_sim (hs : Sim γ B q σ σ') (hq : Tail q) : modeOf σ'.t = modeOf σ.t ∧ Sim γ B q (behindMode σ) (behindMode σ') := by
  have e1 := hs.at_ hq (c := 63) (by omega) (by omega)
  have e2 := hs.at_ hq (c := 43) (by omega) (by omega)
  have e : modeOf σ'.t = modeOf σ.t := by unfold modeOf; simp only [e1, e2]
  refine ⟨e, ?_⟩
  unfold behindMode
  rw [e]
  split
  · exact hs
  · rename_i c
    refine hs.adv (len_ne ?_)
    intro h0
    rw [h0] at c
    exact c (by simp [modeOf, at_nil])
theorem quantRest_sim {gr : Bool} {a r : Nd} (h : quantRest gr a σ = .ok (r, σ1)) (hq : Tail q) (hs : Sim γ B q σ σ') : ∃ σ1', quantRest gr a σ' = .ok (r, σ1') ∧ Sim γ B q σ1 σ1' := by
  unfold quantRest at h ⊢
  rw [isQ_sim hs hq]
  split at h
  · rename_i c
    rw [if_pos c]
    have hc : at_ σ.t 0 ≠ 0 := by intro e; rw [e, isQ_zero] at c; cases c
    split at h
    · cases h
    · rename_i c2
      rw [if_neg c2]
      split at h
      · cases h
      · rename_i lo hi σa ht
        obtain ⟨σa', ht', hs1⟩ := times_sim ht (at_ne hc) hc hq hs
        simp only [ht']
        obtain ⟨e, hs2⟩ := mode_sim hs1 hq
        rw [e]
        injection h with h; injection h with h1 h2; subst h1 h2
        exact ⟨_, rfl, hs2⟩
  · rename_i c
    rw [if_neg c]
    injection h with h; injection h with h1 h2; subst h1 h2
    exact ⟨_, rfl, hs⟩

theorem opening_sim {sh : Int × Int × Int} (h : opening σ = .ok (sh, σ1)) (hc : at_ σ.t 0 = 40) (hq : Tail q) (hγ : γ = 0 ∨ σ1.g = σ.g) (hs : Sim γ B q σ σ') : ∃ σ1', opening σ' = .ok (sh, σ1') ∧ Sim γ B q σ1 σ1' := by
  have h1l := len_ne (at_ne (t := σ.t) (by omega))
  unfold opening at h ⊢
  rw [hs.pre hq [40, 63, 58] (by decide), hs.pre hq [40, 63, 61] (by decide), hs.pre hq [40, 63, 33] (by decide), hs.pre hq [40, 63, 60, 61] (by decide), hs.pre hq [40, 63, 60, 33] (by decide), hs.pre hq [40, 63, 62] (by decide), hs.pre hq [40, 63] (by decide)]
  split at h
  · rename_i c
    rw [if_pos c]
    injection h with h; injection h with h1 h2; subst h1 h2
    exact ⟨_, rfl, hs.adv (pre_len c)⟩
  rename_i c
  rw [if_neg c]
  split at h
  · rename_i c
    rw [if_pos c]
    injection h with h; injection h with h1 h2; subst h1 h2
    exact ⟨_, rfl, hs.adv (pre_len c)⟩
  rename_i c
  rw [if_neg c]
  split at h
  · rename_i c
    rw [if_pos c]
    injection h with h; injection h with h1 h2; subst h1 h2
    exact ⟨_, rfl, hs.adv (pre_len c)⟩
  rename_i c
  rw [if_neg c]
  split at h
  · rename_i c
    rw [if_pos c]
    injection h with h; injection h with h1 h2; subst h1 h2
    exact ⟨_, rfl, hs.adv (pre_len c)⟩
  rename_i c
  rw [if_neg c]
  split at h
  · rename_i c
    rw [if_pos c]
    injection h with h; injection h with h1 h2; subst h1 h2
    exact ⟨_, rfl, hs.adv (pre_len c)⟩
  rename_i c
  rw [if_neg c]
  split at h
  · rename_i c
    rw [if_pos c]
    injection h with h; injection h with h1 h2; subst h1 h2
    exact ⟨_, rfl, hs.adv (pre_len c)⟩
  rename_i c
  rw [if_neg c]
  split at h
  · cases h
  rename_i c
  rw [if_neg c]
  split at h
  · cases h
  rename_i c
  injection h with h; injection h with h1 h2; subst h1 h2
  have hγ0 : γ = 0 := by
    rcases hγ with h | h
    · exact h
    · simp [opened] at h
  subst hγ0
  have eg : σ'.g = σ.g := hs.hg
  rw [eg, if_neg c]
  refine ⟨_, rfl, ?_, ?_, hs.hb⟩
  · simp only [opened]
    rw [hs.ht, List.drop_append_of_le_length h1l]
  · simp only [opened, eg, Nat.add_zero]

end Go.Proofs.YtefgobmpleoafaaGreatDoor

/- Patterns, read: the reader goes on; what it reads is right. -/
namespace Go.Proofs.YtefgobmpleoafaaGreatDoor
open Go.Proofs.YtefgobmpleoafaaGreatDoor.Cl
variable {σ σ1 : St}

theorem adv_len (σ : St) (n : Nat) : (σ.adv n).t.length = σ.t.length - n := by simp [St.adv]
theorem adv_g (σ : St) (n : Nat) : (σ.adv n).g = σ.g := rfl
theorem sign_lt (t : List UInt8) : sign t < 256 := by
  unfold sign
  split
  · exact at_lt t 1
  · omega
theorem isHex_le {c : Nat} (h : isHex c = true) : hexV c ≤ 15 := by
  simp [isHex] at h
  unfold hexV
  split <;> omega
theorem escUnit_len {u : Nat} (h : escUnit σ = .ok (u, σ1)) : σ1.t.length + 1 ≤ σ.t.length ∧ u ≤ 255 ∧ σ1.g = σ.g := by
  have hz := sign_len (escUnit_sign h)
  have hl := sign_lt σ.t
  unfold escUnit at h
  repeat' split at h
  all_goals first
    | (injection h with h; injection h with h1 h2; subst h1 h2
       simp only [adv_len, adv_g, and_true]
       first
         | omega
         | (rename_i c
            simp only [Bool.and_eq_true] at c
            have a := isHex_le c.1
            have b := isHex_le c.2
            omega))
    | cases h
theorem nx_max (t : List UInt8) (h : t ≠ []) : (nx t).1 ≤ 1114367 := by
  rcases nx_right t h with h1 | h1
  · have := h1.1
    omega
  · exact h1.2
theorem mUnit_len {u : Nat} (h : mUnit σ = .ok (u, σ1)) (hn : σ.t ≠ []) : σ1.t.length + 1 ≤ σ.t.length ∧ u ≤ 1114367 ∧ σ1.g = σ.g := by
  unfold mUnit at h
  split at h
  · have := escUnit_len h
    omega
  · injection h with h; injection h with h1 h2; subst h1 h2
    have := nx_le σ.t hn
    have := nx_max σ.t hn
    simp only [adv_len, adv_g, and_true]
    omega
theorem lowOf_ok {c : Nat} {l : List Rg} (h : lowOf c = some l) : Norm l ∧ l.length ≤ 4 := by
  unfold lowOf at h
  repeat' split at h
  all_goals first
    | (injection h with h; subst h; simp [Norm, Rt])
    | cases h
theorem units_ok {c : Nat} {l : List Rg} (h : units c = some l) : (∀ r ∈ l, Rt r) ∧ l.length ≤ 5 := by
  unfold units at h
  split at h
  · obtain ⟨l', hl, rfl⟩ := Option.map_eq_some_iff.1 h
    obtain ⟨h1, h2⟩ := lowOf_ok hl
    have h3 := gaps_len l' 0
    exact ⟨(gaps_ok l' 0 (by omega) h1 (fun r hr => (h1.1 r hr).1)).1.1, by omega⟩
  · obtain ⟨h1, h2⟩ := lowOf_ok h
    exact ⟨h1.1, by omega⟩
theorem member_len {l : List Rg} (h : member σ = .ok (l, σ1)) (hn : σ.t ≠ []) : σ1.t.length + 1 ≤ σ.t.length ∧ (∀ r ∈ l, Rt r) ∧ l.length ≤ 5 ∧ σ1.g = σ.g := by
  unfold member at h
  split at h
  · cases h
  split at h
  · rename_i l' hu
    injection h with h; injection h with h1 h2; subst h1 h2
    have := (sign_len (units_some hu)).1
    obtain ⟨a, b⟩ := units_ok hu
    exact ⟨by rw [adv_len]; omega, a, b, rfl⟩
  · split at h
    · cases h
    · rename_i lo σa hm
      obtain ⟨a1, a2, a3⟩ := mUnit_len hm hn
      split at h
      · rename_i c
        split at h
        · rename_i hs
          split at h
          · cases h
          · rename_i hi σb hm2
            obtain ⟨b1, b2, b3⟩ := mUnit_len hm2 (seesUnit_ne hs)
            rw [adv_len] at b1
            rw [adv_g] at b3
            split at h
            · cases h
            · injection h with h; injection h with h1 h2; subst h1 h2
              refine ⟨by omega, ?_, by simp, by omega⟩
              intro r hr
              obtain rfl := List.mem_singleton.1 hr
              unfold Rt
              simp only
              omega
        · cases h
      · injection h with h; injection h with h1 h2; subst h1 h2
        refine ⟨by omega, ?_, by simp, a3⟩
        intro r hr
        obtain rfl := List.mem_singleton.1 hr
        unfold Rt
        simp only
        omega
theorem members_len {op : Nat} {neg : Bool} : ∀ {k : Nat} {acc l : List Rg} {σ σ1 : St}, members op neg k acc σ = .ok (l, σ1) → σ1.t.length + 1 ≤ σ.t.length ∧ σ1.g = σ.g
  | 0, _, _, _, _, h => by simp [members] at h
  | k + 1, acc, l, σ, σ1, h => by
    unfold members at h
    split at h
    · rename_i c
      have := len_ne (at_ne (t := σ.t) (by omega))
      split at h
      · cases h
      · injection h with h; injection h with h1 h2; subst h1 h2
        exact ⟨by rw [adv_len]; omega, rfl⟩
    · split at h
      · cases h
      · rename_i c2
        have hn : σ.t ≠ [] := by intro e; rw [e] at c2; simp at c2
        split at h
        · cases h
        · rename_i l1 σa hm
          have h1 := member_len hm hn
          have h2 := members_len h
          omega
theorem brackets_len {r : Nd} (h : brackets σ = .ok (r, σ1)) (hc : at_ σ.t 0 = 91) : σ1.t.length + 1 ≤ σ.t.length ∧ σ1.g = σ.g := by
  have h0 := len_ne (at_ne (t := σ.t) (by omega))
  unfold brackets at h
  split at h
  · cases h
  · rename_i l σa hm
    injection h with h; injection h with h1 h2; subst h1 h2
    have := members_len hm
    have hb : (behindNeg σ).t.length ≤ σ.t.length - 1 ∧ (behindNeg σ).g = σ.g := by
      unfold behindNeg
      split
      · exact ⟨by rw [adv_len, adv_len]; omega, rfl⟩
      · exact ⟨by rw [adv_len]; omega, rfl⟩
    omega
theorem escape_len {r : Nd} (h : escape σ = .ok (r, σ1)) : σ1.t.length + 1 ≤ σ.t.length ∧ σ1.g = σ.g := by
  unfold escape at h
  split at h
  · have := (sign_len (t := σ.t) (by omega)).1
    injection h with h; injection h with h1 h2; subst h1 h2
    exact ⟨by rw [adv_len]; omega, rfl⟩
  split at h
  · have := (sign_len (t := σ.t) (by omega)).1
    injection h with h; injection h with h1 h2; subst h1 h2
    exact ⟨by rw [adv_len]; omega, rfl⟩
  split at h
  · have := (sign_len (t := σ.t) (by omega)).1
    injection h with h; injection h with h1 h2; subst h1 h2
    refine ⟨?_, rfl⟩
    simp only [refAt, List.length_drop]
    omega
  split at h
  · rename_i hu
    have := (sign_len (units_some hu)).1
    injection h with h; injection h with h1 h2; subst h1 h2
    exact ⟨by rw [adv_len]; omega, rfl⟩
  · split at h
    · cases h
    · rename_i hm
      injection h with h; injection h with h1 h2; subst h1 h2
      have := escUnit_len hm
      omega
theorem atomP_len {r : Nd} (h : atomP σ = .ok (r, σ1)) (hn : σ.t ≠ []) : σ1.t.length + 1 ≤ σ.t.length ∧ σ1.g = σ.g := by
  have h1l := len_ne hn
  unfold atomP at h
  split at h
  · rename_i c
    exact brackets_len h c
  split at h
  · exact escape_len h
  split at h
  · cases h
  split at h
  · cases h
  have hnx := nx_le σ.t hn
  repeat' split at h
  all_goals
    injection h with h; injection h with h1 h2; subst h1 h2
    exact ⟨by rw [adv_len]; omega, rfl⟩
theorem braces_len {x : Int × Int} (h : braces σ = some (x, σ1)) : σ1.t.length ≤ σ.t.length ∧ σ1.g = σ.g := by
  unfold braces at h
  repeat' split at h
  all_goals first
    | (injection h with h; injection h with h1 h2; subst h1 h2
       simp only [adv_len, adv_g, and_true]
       omega)
    | cases h
theorem times_len {x : Int × Int} (h : times σ = some (x, σ1)) : σ1.t.length ≤ σ.t.length ∧ σ1.g = σ.g := by
  unfold times at h
  split at h
  · injection h with h; injection h with h1 h2; subst h1 h2
    exact ⟨by rw [adv_len]; omega, rfl⟩
  split at h
  · injection h with h; injection h with h1 h2; subst h1 h2
    exact ⟨by rw [adv_len]; omega, rfl⟩
  split at h
  · injection h with h; injection h with h1 h2; subst h1 h2
    exact ⟨by rw [adv_len]; omega, rfl⟩
  exact braces_len h
theorem behindMode_len (σ : St) : (behindMode σ).t.length ≤ σ.t.length ∧ (behindMode σ).g = σ.g := by
  unfold behindMode
  split
  · exact ⟨Nat.le_refl _, rfl⟩
  · exact ⟨by rw [adv_len]; omega, rfl⟩
theorem quantRest_len {gr : Bool} {a r : Nd} (h : quantRest gr a σ = .ok (r, σ1)) : σ1.t.length ≤ σ.t.length ∧ σ1.g = σ.g := by
  unfold quantRest at h
  split at h
  · split at h
    · cases h
    · split at h
      · cases h
      · rename_i lo hi σa ht
        injection h with h; injection h with h1 h2; subst h1 h2
        have a := times_len ht
        have b := behindMode_len σa
        omega
  · injection h with h; injection h with h1 h2; subst h1 h2
    exact ⟨Nat.le_refl _, rfl⟩
theorem opening_len {sh : Int × Int × Int} (h : opening σ = .ok (sh, σ1)) (hc : at_ σ.t 0 = 40) : σ1.t.length + 1 ≤ σ.t.length ∧ σ.g ≤ σ1.g := by
  have h0 := len_ne (at_ne (t := σ.t) (by omega))
  unfold opening at h
  repeat' split at h
  all_goals first
    | (injection h with h; injection h with h1 h2; subst h1 h2
       first
         | exact ⟨by rw [adv_len]; omega, Nat.le_refl _⟩
         | exact ⟨by simp only [opened, List.length_drop]; omega, by simp only [opened]; omega⟩)
    | cases h

/-- What is left gets less; groups get more. -/
theorem run_len : ∀ (n : Nat), (∀ d acc σ r σ1, run n 0 d acc σ = .ok (r, σ1) → σ1.t.length ≤ σ.t.length ∧ σ.g ≤ σ1.g) ∧
    (∀ d acc σ r σ1, run n 1 d acc σ = .ok (r, σ1) → σ1.t.length ≤ σ.t.length ∧ σ.g ≤ σ1.g) ∧
    (∀ d acc σ r σ1, σ.t ≠ [] → run n 2 d acc σ = .ok (r, σ1) → σ1.t.length + 1 ≤ σ.t.length ∧ σ.g ≤ σ1.g) ∧
    (∀ d acc σ r σ1, at_ σ.t 0 = 40 → run n 3 d acc σ = .ok (r, σ1) → σ1.t.length + 1 ≤ σ.t.length ∧ σ.g ≤ σ1.g) := by
  intro n
  induction n with
  | zero => refine ⟨?_, ?_, ?_, ?_⟩ <;> intros <;> simp [run] at *
  | succ n ih =>
    obtain ⟨i0, i1, i2, i3⟩ := ih
    refine ⟨?_, ?_, ?_, ?_⟩
    · intro d acc σ r σ1 h
      rw [run_alts] at h
      split at h
      · cases h
      · rename_i r1 σa ha
        have a := i1 _ _ _ _ _ ha
        split at h
        · have b := i0 _ _ _ _ _ h
          rw [adv_len, adv_g] at b
          omega
        · injection h with h; injection h with h1 h2; subst h1 h2
          exact a
    · intro d acc σ r σ1 h
      rw [run_row] at h
      split at h
      · injection h with h; injection h with h1 h2; subst h1 h2
        exact ⟨Nat.le_refl _, Nat.le_refl _⟩
      · rename_i c
        have hn : σ.t ≠ [] := by intro e; rw [e] at c; simp at c
        split at h
        · cases h
        · rename_i r1 σa ha
          have a := i2 _ _ _ _ _ hn ha
          have b := i1 _ _ _ _ _ h
          omega
    · intro d acc σ r σ1 hn h
      rw [run_quant] at h
      split at h
      · cases h
      · rename_i r1 σa ha
        have b := quantRest_len h
        split at ha
        · rename_i c
          have a := i3 _ _ _ _ _ c ha
          omega
        · have a := atomP_len ha hn
          omega
    · intro d acc σ r σ1 hc h
      rw [run_paren] at h
      split at h
      · cases h
      · split at h
        · cases h
        · rename_i sh σa ho
          have a := opening_len ho hc
          split at h
          · cases h
          · rename_i kid σb hb
            have b := i0 _ _ _ _ _ hb
            split at h
            · injection h with h; injection h with h1 h2; subst h1 h2
              rw [adv_len, adv_g]
              omega
            · cases h

end Go.Proofs.YtefgobmpleoafaaGreatDoor

/- Patterns, read: what stands behind, and how deep, plays no part, but that it may be too deep. -/
namespace Go.Proofs.YtefgobmpleoafaaGreatDoor
open Go.Proofs.YtefgobmpleoafaaGreatDoor.Cl
variable {γ δ : Nat} {B : List Nat} {q : List UInt8} {σ σ' σ1 : St}

def Got (γ δ : Nat) (B : List Nat) (q : List UInt8) (x : R) (r : Nd) (σ1 : St) : Prop := (∃ σ1', x = .ok (r, σ1') ∧ Sim γ B q σ1 σ1') ∨ (δ ≠ 0 ∧ ∃ p, x = .error (25, p))

theorem ends_sim (hs : Sim γ B q σ σ') (hq : Tail q) : (σ'.t.isEmpty || decide (at_ σ'.t 0 = 124 ∨ at_ σ'.t 0 = 41)) = (σ.t.isEmpty || decide (at_ σ.t 0 = 124 ∨ at_ σ.t 0 = 41)) := by
  by_cases hn : σ.t = []
  · have e : σ'.t = q := by rw [hs.ht, hn]; rfl
    rw [e, hn]
    rcases hq with rfl | ⟨p, rfl⟩
    · simp
    · have : at_ (41 :: p) 0 = 41 := rfl
      simp [this]
  · rw [hs.at0 hn]
    have e1 : σ'.t.isEmpty = false := by rw [hs.ht]; simp [hn]
    have e2 : σ.t.isEmpty = false := by simp [hn]
    rw [e1, e2]

theorem run_sim (hq : Tail q) (δ : Nat) : ∀ (n : Nat), (∀ d acc σ σ' r σ1, run n 0 d acc σ = .ok (r, σ1) → (γ = 0 ∨ σ1.g = σ.g) → Sim γ B q σ σ' → Got γ δ B q (run n 0 (d + δ) acc σ') r σ1) ∧
    (∀ d acc σ σ' r σ1, run n 1 d acc σ = .ok (r, σ1) → (γ = 0 ∨ σ1.g = σ.g) → Sim γ B q σ σ' → Got γ δ B q (run n 1 (d + δ) acc σ') r σ1) ∧
    (∀ d acc σ σ' r σ1, σ.t ≠ [] → run n 2 d acc σ = .ok (r, σ1) → (γ = 0 ∨ σ1.g = σ.g) → Sim γ B q σ σ' → Got γ δ B q (run n 2 (d + δ) acc σ') r σ1) ∧
    (∀ d acc σ σ' r σ1, at_ σ.t 0 = 40 → run n 3 d acc σ = .ok (r, σ1) → (γ = 0 ∨ σ1.g = σ.g) → Sim γ B q σ σ' → Got γ δ B q (run n 3 (d + δ) acc σ') r σ1) := by
  intro n
  induction n with
  | zero => refine ⟨?_, ?_, ?_, ?_⟩ <;> intros <;> simp [run] at *
  | succ n ih =>
    obtain ⟨ih0, ih1, ih2, ih3⟩ := ih
    obtain ⟨l0, l1, l2, l3⟩ := run_len n
    refine ⟨?_, ?_, ?_, ?_⟩
    · intro d acc σ σ' r σ1 h hg hs
      rw [run_alts] at h ⊢
      split at h
      · cases h
      · rename_i ra σa ha
        have ga := (l1 _ _ _ _ _ ha).2
        split at h
        · rename_i c
          have gb := (l0 _ _ _ _ _ h).2
          rw [adv_g] at gb
          rcases ih1 d [] σ σ' ra σa ha (by omega) hs with ⟨σa', ha', hs'⟩ | ⟨hd, p, ha'⟩
          · rw [ha']
            simp only
            rw [if_pos ((hs'.at_ hq (by decide) (by decide)).2 c)]
            exact ih0 d _ _ _ r σ1 h (by rw [adv_g]; omega) (hs'.adv (len_ne (at_ne (t := σa.t) (by omega))))
          · exact .inr ⟨hd, p, by rw [ha']⟩
        · rename_i c
          injection h with h; injection h with h1 h2; subst h1 h2
          rcases ih1 d [] σ σ' ra σa ha (by omega) hs with ⟨σa', ha', hs'⟩ | ⟨hd, p, ha'⟩
          · rw [ha']
            simp only
            rw [if_neg (fun e => c ((hs'.at_ hq (by decide) (by decide)).1 e))]
            exact .inl ⟨σa', rfl, hs'⟩
          · exact .inr ⟨hd, p, by rw [ha']⟩
    · intro d acc σ σ' r σ1 h hg hs
      rw [run_row] at h ⊢
      rw [ends_sim hs hq]
      split at h
      · rename_i c
        rw [if_pos c]
        injection h with h; injection h with h1 h2; subst h1 h2
        exact .inl ⟨σ', rfl, hs⟩
      · rename_i c
        rw [if_neg c]
        have hn : σ.t ≠ [] := by
          intro e
          rw [e] at c
          exact c rfl
        split at h
        · cases h
        · rename_i a σa ha
          have ga := (l2 _ _ _ _ _ hn ha).2
          have gb := (l1 _ _ _ _ _ h).2
          rcases ih2 d [] σ σ' a σa hn ha (by omega) hs with ⟨σa', ha', hs'⟩ | ⟨hd, p, ha'⟩
          · rw [ha']
            exact ih1 d _ _ _ r σ1 h (by omega) hs'
          · exact .inr ⟨hd, p, by rw [ha']⟩
    · intro d acc σ σ' r σ1 hn h hg hs
      rw [run_quant] at h ⊢
      rw [hs.at0 hn, hs.pre hq [40, 63, 58] (by decide)]
      split at h
      · cases h
      · rename_i a σa ha
        have gq := (quantRest_len h).2
        split at ha
        · rename_i c
          rw [if_pos c]
          have ga := (l3 _ _ _ _ _ c ha).2
          rcases ih3 d [] σ σ' a σa c ha (by omega) hs with ⟨σa', ha', hs'⟩ | ⟨hd, p, ha'⟩
          · rw [ha']
            exact .inl (quantRest_sim h hq hs')
          · exact .inr ⟨hd, p, by rw [ha']⟩
        · rename_i c
          rw [if_neg c]
          obtain ⟨σa', ha', hs'⟩ := atomP_sim ha hq hs hn
          rw [ha']
          exact .inl (quantRest_sim h hq hs')
    · intro d acc σ σ' r σ1 hc h hg hs
      rw [run_paren] at h ⊢
      split at h
      · cases h
      · split
        · exact .inr ⟨by omega, _, rfl⟩
        · split at h
          · cases h
          · rename_i sh σa ho
            split at h
            · cases h
            · rename_i kid σb hk
              split at h
              · rename_i c
                injection h with h; injection h with h1 h2; subst h1 h2
                have ga := (opening_len ho hc).2
                have gb := (l0 _ _ _ _ _ hk).2
                rw [adv_g] at hg
                obtain ⟨σa', ho', hsa⟩ := opening_sim ho hc hq (by omega) hs
                rw [ho']
                simp only
                have e : d + δ + 1 = d + 1 + δ := by omega
                rw [e]
                rcases ih0 (d + 1) [] σa σa' kid σb hk (by omega) hsa with ⟨σb', hk', hsb⟩ | ⟨hd, p, hk'⟩
                · rw [hk']
                  simp only
                  have hnb : σb.t ≠ [] := at_ne (by omega)
                  rw [hsb.at0 hnb, if_pos c]
                  exact .inl ⟨_, rfl, hsb.adv (len_ne hnb)⟩
                · exact .inr ⟨hd, p, by rw [hk']⟩
              · cases h

/-- What was read of a text that is a pattern. -/
structure Read (N : Nat) (s : List UInt8) (nd : Nd) (g : Nat) (bk : List (Nat × Nat)) : Prop where
  go : ∃ p, run N 0 0 [] { pos := 0, t := s, g := 0, bk := [] } = .ok (nd, { pos := p, t := [], g := g, bk := bk })
  len : s.length ≤ 256
  fold : foldAt s = false
  refs : bk.find? (fun b => decide (g < b.1)) = none
theorem read_of {N : Nat} {s : List UInt8} {nd : Nd} {g : Nat} (h : parse N s = .ok (nd, g, false)) : ∃ bk, Read N s nd g bk := by
  unfold parse at h
  split at h
  · cases h
  · rename_i hl
    split at h
    · cases h
    · rename_i r σ hr
      unfold ended at h
      split at h
      · cases h
      · rename_i ht
        split at h
        · cases h
        · rename_i hf
          injection h with h; injection h with h1 h2; injection h2 with h2 h3; subst h1 h2
          have e : begins s = { pos := 0, t := s, g := 0, bk := [] } := by unfold begins; rw [h3]; rfl
          rw [e] at hr
          have ht' : σ.t = [] := by simpa using ht
          refine ⟨σ.bk, ⟨σ.pos, ?_⟩, by omega, h3, hf⟩
          rw [hr, ← ht']
theorem find_none {l : List (Nat × Nat)} {g : Nat} : l.find? (fun b => decide (g < b.1)) = none ↔ ∀ x ∈ l.map (·.1), x ≤ g := by
  simp [List.find?_eq_none]
theorem Read.ended {N : Nat} {s : List UInt8} {nd : Nd} {g : Nat} {bk : List (Nat × Nat)} (h : Read N s nd g bk) : parse N s = .ok (nd, g, false) := by
  obtain ⟨p, hp⟩ := h.go
  have e : begins s = { pos := 0, t := s, g := 0, bk := [] } := by unfold begins; rw [h.fold]; rfl
  unfold parse
  rw [if_neg (by have := h.len; omega), e, hp]
  simp [Go.Proofs.YtefgobmpleoafaaGreatDoor.ended, h.refs, h.fold]

/-- A pattern in parentheses that only group. -/
theorem paren_run {N : Nat} {s rest : List UInt8} {nd : Nd} {g : Nat} {bk : List (Nat × Nat)} (h : Read N s nd g bk) (hr : isQ (at_ rest 0) = false) (acc : List Nd) (σ' : St) (ht : σ'.t = 40 :: 63 :: 58 :: (s ++ 41 :: rest)) (hg : σ'.g = 0) :
    (∃ σ3, run (N + 2) 2 0 acc σ' = .ok (nd, σ3) ∧ σ3.t = rest ∧ σ3.g = g ∧ σ3.bk.map (·.1) = σ'.bk.map (·.1) ++ bk.map (·.1)) ∨ ∃ p, run (N + 2) 2 0 acc σ' = .error (25, p) := by
  obtain ⟨p, hp⟩ := h.go
  have h0 : at_ σ'.t 0 = 40 := by rw [ht]; rfl
  have h3 : Go.Proofs.YtefgobmpleoafaaGreatDoor.pre [40, 63, 58] σ'.t = true := by rw [ht]; rfl
  have ho : opening σ' = .ok ((0, 0, 0), σ'.adv 3) := by unfold opening; rw [if_pos h3]
  rw [run_quant, if_pos h0, run_paren, if_neg (by decide), ho]
  simp only
  have hs : Sim 0 (σ'.bk.map (·.1)) (41 :: rest) { pos := 0, t := s, g := 0, bk := [] } (σ'.adv 3) := ⟨by simp [St.adv, ht], by simp [St.adv, hg], by simp [St.adv]⟩
  rcases (run_sim (.inr ⟨rest, rfl⟩) 1 N).1 0 [] _ _ _ _ hp (.inl rfl) hs with ⟨σb, hb, hsb⟩ | ⟨_, p', hb⟩
  · rw [hb]
    have htb : σb.t = 41 :: rest := hsb.ht
    have h41 : at_ σb.t 0 = 41 := by rw [htb]; rfl
    simp only
    rw [if_pos h41]
    have htr : (σb.adv 1).t = rest := by simp [St.adv, htb]
    simp only [wrap, if_true]
    unfold quantRest
    rw [htr, hr]
    exact .inl ⟨_, rfl, htr, hsb.hg, hsb.hb⟩
  · rw [hb]
    exact .inr ⟨p', rfl⟩
theorem row_ends {n d : Nat} {acc : List Nd} {σ : St} (h : σ.t = [] ∨ at_ σ.t 0 = 124) : run (n + 1) 1 d acc σ = .ok (joinR acc, σ) := by
  rw [run_row, if_pos]
  rcases h with h | h
  · rw [h]; rfl
  · simp [h]
theorem row_goes {n d : Nat} {acc : List Nd} {σ : St} (h : at_ σ.t 0 = 40) : run (n + 1) 1 d acc σ = match run n 2 d [] σ with
    | .error e => .error e
    | .ok (a, σ1) => run n 1 d (acc ++ [a]) σ1 := by
  rw [run_row]
  have := at_ne (t := σ.t) (by omega)
  exact if_neg (by simp [h, this])
theorem ended_ok {fold : Bool} {r : Nd} {σ : St} {g : Nat} (ht : σ.t = []) (hg : σ.g = g) (hn : ∀ x ∈ σ.bk.map (·.1), x ≤ g) : Go.Proofs.YtefgobmpleoafaaGreatDoor.ended fold r σ = .ok (r, g, fold) := by
  subst hg
  have h := find_none.2 hn
  unfold Go.Proofs.YtefgobmpleoafaaGreatDoor.ended
  rw [ht, h]
  rfl

theorem parse_wrap {N : Nat} {s : List UInt8} {nd : Nd} {g : Nat} (h : parse N s = .ok (nd, g, false)) :
    parse (N + 4) (40 :: 63 :: 58 :: (s ++ [41])) = .ok (nd, g, false) ∨ (252 < s.length ∧ parse (N + 4) (40 :: 63 :: 58 :: (s ++ [41])) = .error (12, 0)) ∨ ∃ p, parse (N + 4) (40 :: 63 :: 58 :: (s ++ [41])) = .error (25, p) := by
  obtain ⟨bk, hR⟩ := read_of h
  by_cases hl : 252 < s.length
  · refine .inr (.inl ⟨hl, ?_⟩)
    unfold parse
    rw [if_pos (by simp; omega)]
  have hf : foldAt (40 :: 63 :: 58 :: (s ++ [41])) = false := by simp [foldAt, pre, List.isPrefixOf]
  have hb : begins (40 :: 63 :: 58 :: (s ++ [41])) = { pos := 0, t := 40 :: 63 :: 58 :: (s ++ [41]), g := 0, bk := [] } := by unfold begins; rw [hf]; rfl
  unfold parse
  rw [if_neg (by simp; omega), hb, run_alts, row_goes rfl]
  rcases paren_run hR (rest := []) rfl [] { pos := 0, t := 40 :: 63 :: 58 :: (s ++ [41]), g := 0, bk := [] } rfl rfl with ⟨σ3, h3, ht, hg, hk⟩ | ⟨p, h3⟩
  · left
    rw [h3]
    simp only
    rw [row_ends (.inl ht)]
    simp only
    rw [if_neg (by rw [ht]; decide), hf]
    exact ended_ok ht hg (by rw [hk]; simpa using find_none.1 hR.refs)
  · right; right
    rw [h3]
    exact ⟨p, rfl⟩

/-- A pattern without groups, behind (?i). -/
theorem parse_fold {N : Nat} {s : List UInt8} {nd : Nd} {g : Nat} (h : parse N s = .ok (nd, g, false)) (hl : s.length ≤ 252) : parse N (40 :: 63 :: 105 :: 41 :: s) = .ok (nd, g, true) := by
  obtain ⟨bk, hR⟩ := read_of h
  obtain ⟨p, hp⟩ := hR.go
  have hf : foldAt (40 :: 63 :: 105 :: 41 :: s) = true := by simp [foldAt, pre, List.isPrefixOf]
  have hb : begins (40 :: 63 :: 105 :: 41 :: s) = { pos := 4, t := s, g := 0, bk := [] } := by unfold begins; rw [hf]; rfl
  unfold parse
  rw [if_neg (by simp; omega), hb, hf]
  rcases (run_sim (γ := 0) (B := []) (q := []) (.inl rfl) 0 N).1 0 [] _ { pos := 4, t := s, g := 0, bk := [] } _ _ hp (.inl rfl) ⟨by simp, rfl, rfl⟩ with ⟨σb, hb, hsb⟩ | ⟨hd, _⟩
  · simp only [Nat.add_zero] at hb
    rw [hb]
    exact ended_ok (by simpa using hsb.ht) (by simpa using hsb.hg) (by rw [hsb.hb]; simpa using find_none.1 hR.refs)
  · exact absurd rfl hd

theorem not_mark {N : Nat} {s : List UInt8} {nd : Nd} {σ : St} (h : run N 0 0 [] { pos := 0, t := s, g := 0, bk := [] } = .ok (nd, σ)) : at_ s 0 ≠ 63 := by
  intro e
  match N with
  | 0 => simp [run] at h
  | 1 => simp [run] at h
  | 2 =>
    rw [run_alts, run_row, if_neg (by simp [e, at_ne (t := s) (by omega)])] at h
    simp [run] at h
  | N + 3 =>
    have e2 : run (N + 1) 2 0 [] { pos := 0, t := s, g := 0, bk := [] } = .error (23, 0) := by
      rw [run_quant, if_neg (by simp [e])]
      unfold atomP
      simp [e, isQ]
    rw [run_alts, run_row, if_neg (by simp [e, at_ne (t := s) (by omega)]), e2] at h
    cases h

def grpN (kid : Nd) : Nd := .mk 5 0 0 0 1 [] [kid]
/-- A pattern without groups, in parentheses. -/
theorem parse_group {N : Nat} {s : List UInt8} {nd : Nd} (h : parse N s = .ok (nd, 0, false)) (hl : s.length ≤ 252) :
    parse (N + 4) (40 :: (s ++ [41])) = .ok (grpN nd, 1, false) ∨ ∃ p, parse (N + 4) (40 :: (s ++ [41])) = .error (25, p) := by
  obtain ⟨bk, hR⟩ := read_of h
  obtain ⟨p, hp⟩ := hR.go
  have hm := not_mark hp
  have hq : ∀ w : List UInt8, pre (40 :: 63 :: w) (40 :: (s ++ [41])) = false := by
    intro w
    cases s with
    | nil => simp [pre, List.isPrefixOf]
    | cons a s =>
      have : ¬ (63 : UInt8) = a := by
        rintro rfl
        exact hm rfl
      simp [pre, List.isPrefixOf, this]
  have hf : foldAt (40 :: (s ++ [41])) = false := hq _
  have hb : begins (40 :: (s ++ [41])) = { pos := 0, t := 40 :: (s ++ [41]), g := 0, bk := [] } := by unfold begins; rw [hf]; rfl
  have ho : opening { pos := 0, t := 40 :: (s ++ [41]), g := 0, bk := [] } = .ok ((5, 0, 1), { pos := 1, t := s ++ [41], g := 1, bk := [] }) := by
    unfold opening
    simp [hq, opened]
  unfold parse
  rw [if_neg (by simp; omega), hb, run_alts, row_goes rfl, run_quant, if_pos (show at_ (St.mk 0 (40 :: (s ++ [41])) 0 []).t 0 = 40 from rfl), run_paren, if_neg (by decide), ho]
  simp only
  rcases (run_sim (γ := 1) (B := []) (q := [41]) (.inr ⟨[], rfl⟩) 1 N).1 0 [] _ { pos := 1, t := s ++ [41], g := 1, bk := [] } _ _ hp (.inr rfl) ⟨rfl, rfl, rfl⟩ with ⟨σb, hb, hsb⟩ | ⟨_, p', hb⟩
  · left
    have htb : σb.t = [41] := hsb.ht
    rw [show run N 0 (0 + 1) [] { pos := 1, t := s ++ [41], g := 1, bk := [] } = _ from hb]
    simp only
    rw [if_pos (by rw [htb]; rfl)]
    have htr : (σb.adv 1).t = [] := by simp [St.adv, htb]
    simp only [wrap]
    unfold quantRest
    rw [htr, at_nil, isQ_zero]
    simp only [Bool.false_eq_true, if_false]
    rw [row_ends (.inl htr)]
    simp only
    rw [if_neg (by rw [htr]; decide), hf]
    exact ended_ok htr hsb.hg (by
      show ∀ x ∈ σb.bk.map (·.1), x ≤ 1
      rw [hsb.hb]
      intro x hx
      have := find_none.1 hR.refs x (by simpa using hx)
      omega)
  · right
    rw [show run N 0 (0 + 1) [] { pos := 1, t := s ++ [41], g := 1, bk := [] } = _ from hb]
    exact ⟨p', rfl⟩

theorem parse_cat {N : Nat} {a b : List UInt8} {x y : Nd} (ha : parse (N + 1) a = .ok (x, 0, false)) (hb : parse N b = .ok (y, 0, false)) (la : a.length ≤ 100) (lb : b.length ≤ 100) :
    parse (N + 5) (40 :: 63 :: 58 :: (a ++ 41 :: 40 :: 63 :: 58 :: (b ++ [41]))) = .ok (catN [x, y], 0, false) ∨ ∃ p, parse (N + 5) (40 :: 63 :: 58 :: (a ++ 41 :: 40 :: 63 :: 58 :: (b ++ [41]))) = .error (25, p) := by
  obtain ⟨bk, hR⟩ := read_of ha
  obtain ⟨bk', hR'⟩ := read_of hb
  obtain ⟨t, htt⟩ : ∃ t, t = (40 :: 63 :: 58 :: (a ++ 41 :: 40 :: 63 :: 58 :: (b ++ [41]))) := ⟨_, rfl⟩
  have hf : foldAt t = false := by rw [htt]; simp [foldAt, pre, List.isPrefixOf]
  have hbg : begins t = { pos := 0, t := t, g := 0, bk := [] } := by unfold begins; rw [hf]; rfl
  have h40 : at_ (St.mk 0 t 0 []).t 0 = 40 := by rw [htt]; rfl
  have hlt : ¬ 256 < t.length := by rw [htt]; simp; omega
  rw [← htt]
  unfold parse
  rw [if_neg hlt, hbg, run_alts, row_goes h40]
  rcases paren_run hR (rest := (40 :: 63 :: 58 :: (b ++ [41]))) rfl [] { pos := 0, t := t, g := 0, bk := [] } htt rfl with ⟨σ3, h3, ht, hg, hk⟩ | ⟨p, h3⟩
  · rw [h3]
    simp only
    rw [row_goes (by rw [ht]; rfl)]
    rcases paren_run hR' (rest := []) rfl [] σ3 ht hg with ⟨σ4, h4, ht4, hg4, hk4⟩ | ⟨p, h4⟩
    · left
      rw [h4]
      simp only
      rw [row_ends (.inl ht4)]
      simp only
      rw [if_neg (by rw [ht4]; decide), hf]
      exact ended_ok ht4 hg4 (by
        rw [hk4, hk]
        intro z hz
        rcases List.mem_append.1 hz with hz | hz
        · exact find_none.1 hR.refs z (by simpa using hz)
        · exact find_none.1 hR'.refs z hz)
    · right
      rw [h4]
      exact ⟨p, rfl⟩
  · right
    rw [h3]
    exact ⟨p, rfl⟩

theorem parse_alt {N : Nat} {a b : List UInt8} {x y : Nd} (ha : parse (N + 1) a = .ok (x, 0, false)) (hb : parse N b = .ok (y, 0, false)) (la : a.length ≤ 100) (lb : b.length ≤ 100) :
    parse (N + 5) (40 :: 63 :: 58 :: (a ++ 41 :: 124 :: 40 :: 63 :: 58 :: (b ++ [41]))) = .ok (altN [x, y], 0, false) ∨ ∃ p, parse (N + 5) (40 :: 63 :: 58 :: (a ++ 41 :: 124 :: 40 :: 63 :: 58 :: (b ++ [41]))) = .error (25, p) := by
  obtain ⟨bk, hR⟩ := read_of ha
  obtain ⟨bk', hR'⟩ := read_of hb
  obtain ⟨t, htt⟩ : ∃ t, t = (40 :: 63 :: 58 :: (a ++ 41 :: 124 :: 40 :: 63 :: 58 :: (b ++ [41]))) := ⟨_, rfl⟩
  have hf : foldAt t = false := by rw [htt]; simp [foldAt, pre, List.isPrefixOf]
  have hbg : begins t = { pos := 0, t := t, g := 0, bk := [] } := by unfold begins; rw [hf]; rfl
  have h40 : at_ (St.mk 0 t 0 []).t 0 = 40 := by rw [htt]; rfl
  have hlt : ¬ 256 < t.length := by rw [htt]; simp; omega
  rw [← htt]
  unfold parse
  rw [if_neg hlt, hbg, run_alts, row_goes h40]
  rcases paren_run hR (rest := (124 :: 40 :: 63 :: 58 :: (b ++ [41]))) rfl [] { pos := 0, t := t, g := 0, bk := [] } htt rfl with ⟨σ3, h3, ht, hg, hk⟩ | ⟨p, h3⟩
  · rw [h3]
    simp only
    rw [row_ends (.inr (by rw [ht]; rfl))]
    simp only
    rw [if_pos (by rw [ht]; rfl)]
    have h1 : (σ3.adv 1).t = 40 :: 63 :: 58 :: (b ++ [41]) := by simp [St.adv, ht]
    rw [run_alts, row_goes (by rw [h1]; rfl)]
    rcases paren_run hR' (rest := []) rfl [] (σ3.adv 1) h1 hg with ⟨σ4, h4, ht4, hg4, hk4⟩ | ⟨p, h4⟩
    · left
      rw [h4]
      simp only
      rw [row_ends (.inl ht4)]
      simp only
      rw [if_neg (by rw [ht4]; decide), hf]
      exact ended_ok ht4 hg4 (by
        rw [hk4]
        intro z hz
        rcases List.mem_append.1 hz with hz | hz
        · have hz' : z ∈ σ3.bk.map (·.1) := hz
          rw [hk] at hz'
          exact find_none.1 hR.refs z (by simpa using hz')
        · exact find_none.1 hR'.refs z hz)
    · right
      rw [h4]
      exact ⟨p, rfl⟩
  · right
    rw [h3]
    exact ⟨p, rfl⟩

end Go.Proofs.YtefgobmpleoafaaGreatDoor

/- Patterns, read: a fault has a code. -/
namespace Go.Proofs.YtefgobmpleoafaaGreatDoor
open Go.Proofs.YtefgobmpleoafaaGreatDoor.Cl
variable {σ σ1 : St} {f : Flt}

theorem escUnit_code (h : escUnit σ = .error f) : f.1 ≠ 0 := by
  unfold escUnit at h
  repeat' split at h
  all_goals first
    | (injection h with h; subst h; simp)
    | cases h
theorem mUnit_code (h : mUnit σ = .error f) : f.1 ≠ 0 := by
  unfold mUnit at h
  split at h
  · exact escUnit_code h
  · cases h
theorem member_code (h : member σ = .error f) : f.1 ≠ 0 := by
  unfold member at h
  split at h
  · injection h with h; subst h; simp
  split at h
  · cases h
  · split at h
    · rename_i e he
      injection h with h; subst h
      exact mUnit_code he
    · split at h
      · split at h
        · split at h
          · rename_i e he
            injection h with h; subst h
            exact mUnit_code he
          · split at h
            · injection h with h; subst h; simp
            · cases h
        · injection h with h; subst h; simp
      · cases h
theorem members_code {op : Nat} {neg : Bool} : ∀ {k : Nat} {acc : List Rg} {σ : St}, σ.t.length < k → members op neg k acc σ = .error f → f.1 ≠ 0
  | 0, _, _, hk, _ => by omega
  | k + 1, acc, σ, hk, h => by
    unfold members at h
    split at h
    · split at h
      · injection h with h; subst h; simp
      · cases h
    · split at h
      · injection h with h; subst h; simp
      · rename_i c2
        have hn : σ.t ≠ [] := by intro e; rw [e] at c2; simp at c2
        split at h
        · rename_i e he
          injection h with h; subst h
          exact member_code he
        · rename_i l1 σa hm
          have h1 := member_len hm hn
          exact members_code (by omega) h
theorem brackets_code (hl : σ.t.length ≤ 256) (h : brackets σ = .error f) : f.1 ≠ 0 := by
  unfold brackets at h
  split at h
  · rename_i e he
    injection h with h; subst h
    refine members_code ?_ he
    unfold behindNeg
    split <;> simp only [adv_len] <;> omega
  · cases h
theorem escape_code (h : escape σ = .error f) : f.1 ≠ 0 := by
  unfold escape at h
  split at h
  · cases h
  split at h
  · cases h
  split at h
  · cases h
  split at h
  · cases h
  · split at h
    · rename_i e he
      injection h with h; subst h
      exact escUnit_code he
    · cases h
theorem atomP_code (hl : σ.t.length ≤ 256) (h : atomP σ = .error f) : f.1 ≠ 0 := by
  unfold atomP at h
  split at h
  · exact brackets_code hl h
  split at h
  · exact escape_code h
  repeat' split at h
  all_goals first
    | (injection h with h; subst h; simp)
    | cases h
theorem quantRest_code {gr : Bool} {a : Nd} (h : quantRest gr a σ = .error f) : f.1 ≠ 0 := by
  unfold quantRest at h
  repeat' split at h
  all_goals first
    | (injection h with h; subst h; simp)
    | cases h
theorem opening_code (h : opening σ = .error f) : f.1 ≠ 0 := by
  unfold opening at h
  repeat' split at h
  all_goals first
    | (injection h with h; subst h; simp)
    | cases h

theorem run_code : ∀ (n : Nat), (∀ d acc σ, σ.t.length ≤ 256 → 4 * σ.t.length + 2 ≤ n → run n 0 d acc σ = .error f → f.1 ≠ 0) ∧
    (∀ d acc σ, σ.t.length ≤ 256 → 4 * σ.t.length + 1 ≤ n → run n 1 d acc σ = .error f → f.1 ≠ 0) ∧
    (∀ d acc σ, σ.t ≠ [] → σ.t.length ≤ 256 → 4 * σ.t.length ≤ n → run n 2 d acc σ = .error f → f.1 ≠ 0) ∧
    (∀ d acc σ, at_ σ.t 0 = 40 → σ.t.length ≤ 256 → 4 * σ.t.length ≤ n + 1 → run n 3 d acc σ = .error f → f.1 ≠ 0) := by
  intro n
  induction n with
  | zero =>
    refine ⟨fun _ _ _ _ h => by omega, fun _ _ _ _ h => by omega, fun _ _ σ hn _ h => ?_, fun _ _ σ hc _ h => ?_⟩
    · have := len_ne hn
      omega
    · have := len_ne (at_ne (t := σ.t) (by omega))
      omega
  | succ n ih =>
    obtain ⟨ih0, ih1, ih2, ih3⟩ := ih
    obtain ⟨l0, l1, l2, l3⟩ := run_len n
    refine ⟨?_, ?_, ?_, ?_⟩
    · intro d acc σ h256 hN h
      rw [run_alts] at h
      split at h
      · rename_i e he
        injection h with h; subst h
        exact ih1 _ _ _ h256 (by omega) he
      · rename_i ra σa ha
        have ga := (l1 _ _ _ _ _ ha).1
        split at h
        · rename_i c
          have := len_ne (at_ne (t := σa.t) (by omega))
          exact ih0 _ _ _ (by rw [adv_len]; omega) (by rw [adv_len]; omega) h
        · cases h
    · intro d acc σ h256 hN h
      rw [run_row] at h
      split at h
      · cases h
      · rename_i c
        have hn : σ.t ≠ [] := by
          intro e
          rw [e] at c
          exact c rfl
        split at h
        · rename_i e he
          injection h with h; subst h
          exact ih2 _ _ _ hn h256 (by omega) he
        · rename_i a σa ha
          have ga := (l2 _ _ _ _ _ hn ha).1
          exact ih1 _ _ _ (by omega) (by omega) h
    · intro d acc σ hn h256 hN h
      rw [run_quant] at h
      split at h
      · rename_i e he
        injection h with h; subst h
        split at he
        · rename_i c
          exact ih3 _ _ _ c h256 (by omega) he
        · exact atomP_code h256 he
      · exact quantRest_code h
    · intro d acc σ hc h256 hN h
      rw [run_paren] at h
      split at h
      · injection h with h; subst h; simp
      · split at h
        · rename_i e he
          injection h with h; subst h
          exact opening_code he
        · rename_i sh σa ho
          have ga := (opening_len ho hc).1
          split at h
          · rename_i e he
            injection h with h; subst h
            exact ih0 _ _ _ (by omega) (by omega) he
          · split at h
            · cases h
            · injection h with h; subst h; simp
theorem begins_le (s : List UInt8) : (begins s).t.length ≤ s.length := by
  unfold begins
  split <;> simp
theorem parse_code {N : Nat} {s : List UInt8} (hN : 1026 ≤ N) (h : parse N s = .error f) : f.1 ≠ 0 := by
  unfold parse at h
  split at h
  · injection h with h; subst h; simp
  · have hb := begins_le s
    split at h
    · rename_i e he
      injection h with h; subst h
      exact (run_code N).1 _ _ _ (by omega) (by omega) he
    · unfold ended at h
      repeat' split at h
      all_goals first
        | (injection h with h; subst h; simp)
        | cases h

end Go.Proofs.YtefgobmpleoafaaGreatDoor

/- Patterns, read: no more than nine groups. -/
namespace Go.Proofs.YtefgobmpleoafaaGreatDoor
open Go.Proofs.YtefgobmpleoafaaGreatDoor.Cl
variable {σ σ1 : St}

theorem opening_nine {sh : Int × Int × Int} (h : opening σ = .ok (sh, σ1)) (hg : σ.g ≤ 9) : σ1.g ≤ 9 := by
  unfold opening at h
  repeat' split at h
  all_goals first
    | (injection h with h; injection h with h1 h2; subst h1 h2
       simp only [adv_g, opened]
       omega)
    | cases h
theorem run_nine : ∀ (n : Nat), (∀ d acc σ r σ1, run n 0 d acc σ = .ok (r, σ1) → σ.g ≤ 9 → σ1.g ≤ 9) ∧
    (∀ d acc σ r σ1, run n 1 d acc σ = .ok (r, σ1) → σ.g ≤ 9 → σ1.g ≤ 9) ∧
    (∀ d acc σ r σ1, σ.t ≠ [] → run n 2 d acc σ = .ok (r, σ1) → σ.g ≤ 9 → σ1.g ≤ 9) ∧
    (∀ d acc σ r σ1, run n 3 d acc σ = .ok (r, σ1) → σ.g ≤ 9 → σ1.g ≤ 9) := by
  intro n
  induction n with
  | zero => refine ⟨?_, ?_, ?_, ?_⟩ <;> intros <;> simp [run] at *
  | succ n ih =>
    obtain ⟨ih0, ih1, ih2, ih3⟩ := ih
    refine ⟨?_, ?_, ?_, ?_⟩
    · intro d acc σ r σ1 h hg
      rw [run_alts] at h
      split at h
      · cases h
      · rename_i ra σa ha
        have ga := ih1 _ _ _ _ _ ha hg
        split at h
        · exact ih0 _ _ _ _ _ h (by rw [adv_g]; exact ga)
        · injection h with h; injection h with h1 h2; subst h1 h2
          exact ga
    · intro d acc σ r σ1 h hg
      rw [run_row] at h
      split at h
      · injection h with h; injection h with h1 h2; subst h1 h2
        exact hg
      · rename_i c
        have hn : σ.t ≠ [] := by
          intro e
          rw [e] at c
          exact c rfl
        split at h
        · cases h
        · rename_i a σa ha
          exact ih1 _ _ _ _ _ h (ih2 _ _ _ _ _ hn ha hg)
    · intro d acc σ r σ1 hn h hg
      rw [run_quant] at h
      split at h
      · cases h
      · rename_i a σa ha
        have gq := (quantRest_len h).2
        rw [gq]
        split at ha
        · exact ih3 _ _ _ _ _ ha hg
        · have := (atomP_len ha hn).2
          omega
    · intro d acc σ r σ1 h hg
      rw [run_paren] at h
      split at h
      · cases h
      · split at h
        · cases h
        · rename_i sh σa ho
          have ga := opening_nine ho hg
          split at h
          · cases h
          · rename_i kid σb hk
            have gb := ih0 _ _ _ _ _ hk ga
            split at h
            · injection h with h; injection h with h1 h2; subst h1 h2
              rw [adv_g]
              exact gb
            · cases h
theorem parse_nine {N : Nat} {s : List UInt8} {nd : Nd} {g : Nat} {fo : Bool} (h : parse N s = .ok (nd, g, fo)) : g ≤ 9 := by
  unfold parse at h
  split at h
  · cases h
  · split at h
    · cases h
    · rename_i r σ hr
      have hg := (run_nine N).1 _ _ _ _ _ hr (by unfold begins; split <;> simp)
      unfold ended at h
      split at h
      · cases h
      · split at h
        · cases h
        · injection h with h; injection h with h1 h2; injection h2 with h2 h3; subst h2
          exact hg

end Go.Proofs.YtefgobmpleoafaaGreatDoor

/- Patterns, read: a character alone, one behind a backslash, one with a quantifier in braces behind it. Of no program. -/
namespace Go.Proofs.YtefgobmpleoafaaGreatDoor
open Go.Proofs.YtefgobmpleoafaaGreatDoor.Cl

/-- Signs of patterns. -/
def isSign (c : Int) : Bool := decide (c = 46 ∨ c = 94 ∨ c = 36 ∨ c = 92 ∨ c = 91 ∨ c = 93 ∨ c = 40 ∨ c = 41 ∨ c = 124 ∨ c = 42 ∨ c = 43 ∨ c = 63 ∨ c = 123 ∨ c = 125)

theorem enc_first (c : Nat) (hc : isCh c) (r : List UInt8) : (at_ (toB (encN c) ++ r) 0 = c ∧ c < 128) ∨ 192 ≤ at_ (toB (encN c) ++ r) 0 := by
  rw [at_toB (encN c) _ r 0 (by have := (encN_len c).1; omega) (encN_byte c hc.1) rfl]
  by_cases h1 : c < 128
  · simp [encN, h1]
  · by_cases h2 : c < 2048
    · simp [encN, h1, h2]
    · by_cases h3 : c < 65536
      · right; simp [encN, h1, h2, h3]; omega
      · right; simp [encN, h1, h2, h3]; omega
theorem enc_ne (c : Nat) (r : List UInt8) : toB (encN c) ++ r ≠ [] := by
  intro e
  have h := congrArg List.length e
  have := (encN_len c).1
  rw [List.length_append, toB_len, List.length_nil] at h
  omega

theorem atomP_plain (σ : St) (c : Nat) (hc : isCh c) (hp : isSign c = false) (r : List UInt8) (ht : σ.t = toB (encN c) ++ r) : atomP σ = .ok (setN [((c : Int), (c : Int))], σ.adv (encN c).length) := by
  have h := enc_first c hc r
  rw [← ht] at h
  have hn : nx σ.t = (c, (encN c).length) := by rw [ht]; exact nx_enc c hc r
  simp [isSign] at hp
  have hq : isQ (at_ σ.t 0) = false := by simp [isQ]; omega
  unfold atomP
  rw [if_neg (by omega), if_neg (by omega), hq, if_neg (by decide), if_neg (by omega), if_neg (by omega), if_neg (by omega), if_neg (by omega), hn]

def unitSt (c : Nat) (q : List UInt8) : St := { pos := (encN c).length, t := q, g := 0, bk := [] }
theorem unit_pre (c : Nat) (hc : isCh c) (hp : isSign c = false) (q : List UInt8) : at_ (toB (encN c) ++ q) 0 ≠ 40 ∧ at_ (toB (encN c) ++ q) 0 ≠ 41 ∧ at_ (toB (encN c) ++ q) 0 ≠ 124 := by
  have h := enc_first c hc q
  simp [isSign] at hp
  omega
theorem pre40 {w t : List UInt8} (h : at_ t 0 ≠ 40) : pre (40 :: w) t = false := by
  cases t with
  | nil => simp [pre, List.isPrefixOf]
  | cons a t =>
    have : ¬ (40 : UInt8) = a := by
      rintro rfl
      exact h rfl
    simp [pre, List.isPrefixOf, this]
theorem unit_run (n : Nat) (c : Nat) (hc : isCh c) (hp : isSign c = false) (q : List UInt8) : run (n + 1) 2 0 [] { pos := 0, t := toB (encN c) ++ q, g := 0, bk := [] } = quantRest false (setN [((c : Int), (c : Int))]) (unitSt c q) := by
  obtain ⟨h1, h2, h3⟩ := unit_pre c hc hp q
  rw [run_quant, if_neg h1, atomP_plain _ c hc hp q rfl, pre40 h1]
  have e : (St.adv { pos := 0, t := toB (encN c) ++ q, g := 0, bk := [] } (encN c).length) = unitSt c q := by
    simp [St.adv, unitSt, ← toB_len (encN c)]
  rw [e]
theorem unit_row (n : Nat) (c : Nat) (hc : isCh c) (hp : isSign c = false) (q : List UInt8) : run (n + 2) 1 0 [] { pos := 0, t := toB (encN c) ++ q, g := 0, bk := [] } = match quantRest false (setN [((c : Int), (c : Int))]) (unitSt c q) with
    | .error e => .error e
    | .ok (a, σ1) => run (n + 1) 1 0 [a] σ1 := by
  obtain ⟨h1, h2, h3⟩ := unit_pre c hc hp q
  have hne := enc_ne c q
  rw [run_row, if_neg (by simp only [Bool.or_eq_true, List.isEmpty_iff, decide_eq_true_eq]; rintro (h | h | h) <;> contradiction), unit_run n c hc hp q]
  rfl
theorem parse_unit {n : Nat} {c : Nat} (hc : isCh c) (hp : isSign c = false) {q : List UInt8} (hl : q.length ≤ 200) {r : Nd} {σ1 : St} (h : quantRest false (setN [((c : Int), (c : Int))]) (unitSt c q) = .ok (r, σ1)) (ht : σ1.t = []) (hg : σ1.g = 0) (hb : σ1.bk = []) :
    parse (n + 4) (toB (encN c) ++ q) = .ok (r, 0, false) := by
  have hle := (encN_len c).2
  have hf : foldAt (toB (encN c) ++ q) = false := pre40 (unit_pre c hc hp q).1
  have hbg : begins (toB (encN c) ++ q) = { pos := 0, t := toB (encN c) ++ q, g := 0, bk := [] } := by unfold begins; rw [hf]; rfl
  unfold parse
  rw [if_neg (by rw [List.length_append, toB_len]; omega), hbg, run_alts, unit_row _ c hc hp q, h]
  simp only
  rw [row_ends (.inl ht)]
  simp only
  rw [if_neg (by rw [ht]; decide), hf]
  exact ended_ok ht hg (by rw [hb]; simp)
theorem parse_unit_err {n : Nat} {c : Nat} (hc : isCh c) (hp : isSign c = false) {q : List UInt8} (hl : q.length ≤ 200) {f : Flt} (h : quantRest false (setN [((c : Int), (c : Int))]) (unitSt c q) = .error f) :
    parse (n + 4) (toB (encN c) ++ q) = .error f := by
  have hle := (encN_len c).2
  have hf : foldAt (toB (encN c) ++ q) = false := pre40 (unit_pre c hc hp q).1
  have hbg : begins (toB (encN c) ++ q) = { pos := 0, t := toB (encN c) ++ q, g := 0, bk := [] } := by unfold begins; rw [hf]; rfl
  unfold parse
  rw [if_neg (by rw [List.length_append, toB_len]; omega), hbg, run_alts, unit_row _ c hc hp q, h]

/-- A character alone. -/
theorem parse_alone (n : Nat) {c : Nat} (hc : isCh c) (hp : isSign c = false) : parse (n + 4) (toB (encN c)) = .ok (setN [((c : Int), (c : Int))], 0, false) := by
  have h := parse_unit (n := n) hc hp (q := []) (by simp) (r := setN [((c : Int), (c : Int))]) (σ1 := unitSt c []) (by unfold quantRest unitSt; simp [at_nil, isQ_zero]) rfl rfl rfl
  rwa [List.append_nil] at h

/-! ### A number of two digits -/
def dd (n : Nat) : List UInt8 := [(48 + n / 10).toUInt8, (48 + n % 10).toUInt8]
theorem dd_at (n : Nat) (hn : n ≤ 99) (r : List UInt8) : at_ (dd n ++ r) 0 = 48 + n / 10 ∧ at_ (dd n ++ r) 1 = 48 + n % 10 := by
  constructor <;> simp [dd, at_] <;> omega
theorem dd_num (n : Nat) (hn : n ≤ 99) (r : List UInt8) : numOf (dd n ++ r) = n ∧ numLen (dd n ++ r) = 2 ∧ numOk (dd n ++ r) = decide (n ≤ 64) := by
  obtain ⟨h0, h1⟩ := dd_at n hn r
  have d0 : dig (48 + n / 10) = true := by rw [dig_iff]; omega
  have d1 : dig (48 + n % 10) = true := by rw [dig_iff]; omega
  have e : numOf (dd n ++ r) = n := by
    unfold numOf
    rw [h0, h1, d0, d1]
    simp
    omega
  refine ⟨e, ?_, ?_⟩
  · unfold numLen
    rw [h0, h1, d0, d1]
    rfl
  · unfold numOk
    rw [e, h0, d0]
    rfl

/-- What stands behind a quantifier: nothing, or the sign of its mode. -/
def modeB (m : Nat) : List UInt8 := if m = 0 then [] else if m = 1 then [63] else [43]
theorem mode_of (m : Nat) (hm : m ≤ 2) : modeOf (modeB m) = m := by
  obtain rfl | rfl | rfl : m = 0 ∨ m = 1 ∨ m = 2 := by omega
  all_goals rfl
def hiB (hi : Int) : List UInt8 := if hi < 0 then [] else dd hi.toNat
/-- The text of a quantifier in braces. -/
def braceT (lo : Nat) (hi : Int) (m : Nat) : List UInt8 := 123 :: (dd lo ++ 44 :: (hiB hi ++ 125 :: modeB m))
theorem drop_dd (n : Nat) (r : List UInt8) : (dd n ++ r).drop 2 = r := rfl
theorem mode_len (m : Nat) : (modeB m).length ≤ 1 := by unfold modeB; split <;> (try split) <;> simp
theorem brace_len (lo : Nat) (hi : Int) (m : Nat) : (braceT lo hi m).length ≤ 200 := by
  have := mode_len m
  have h2 : (hiB hi).length ≤ 2 := by unfold hiB; split <;> simp [dd]
  simp [braceT, dd]
  omega

theorem pre_dd (k : Nat) (hk : k ≤ 99) (r : List UInt8) : pre [44, 125] (44 :: (dd k ++ r)) = false := by
  have : ¬ (125 : UInt8) = 48 + UInt8.ofNat (k / 10) := by
    intro e
    have := congrArg UInt8.toNat e
    simp at this
    omega
  simp [pre, List.isPrefixOf, dd, this]
def rightQ (lo : Nat) (hi : Int) : Prop := lo ≤ 64 ∧ (0 ≤ hi → hi ≤ 64 ∧ (lo : Int) ≤ hi)
theorem adv_dd {σ : St} {n : Nat} {r : List UInt8} (h : σ.t = dd n ++ r) : (σ.adv 2).t = r := by simp [St.adv, h, dd]
theorem braces_ok {σ : St} {lo : Nat} {hi : Int} {m : Nat} (hlo : lo ≤ 99) (hhi : -1 ≤ hi) (hh : hi ≤ 99) (hr : rightQ lo hi) (ht : σ.t = braceT lo hi m) :
    ∃ σ1, braces σ = some (((lo : Int), hi), σ1) ∧ σ1.t = modeB m ∧ σ1.g = σ.g ∧ σ1.bk = σ.bk := by
  have h1 : (σ.adv 1).t = dd lo ++ 44 :: (hiB hi ++ 125 :: modeB m) := by simp [St.adv, ht, braceT]
  obtain ⟨n1, n2, n3⟩ := dd_num lo hlo (44 :: (hiB hi ++ 125 :: modeB m))
  have h2 : ((σ.adv 1).adv 2).t = 44 :: (hiB hi ++ 125 :: modeB m) := adv_dd h1
  unfold braces
  rw [h1, n1, n2, n3, if_pos (by simpa using hr.1), h2]
  by_cases hn : hi < 0
  · obtain rfl : hi = -1 := by omega
    have e : hiB (-1) = [] := rfl
    rw [e] at h2 ⊢
    rw [if_pos (by rfl)]
    have h3 : (((σ.adv 1).adv 2).adv 2).t = modeB m := by
      have : (((σ.adv 1).adv 2).adv 2).t = ((σ.adv 1).adv 2).t.drop 2 := rfl
      rw [this, h2]; rfl
    exact ⟨_, rfl, h3, rfl, rfl⟩
  · obtain ⟨k, rfl⟩ : ∃ k : Nat, hi = (k : Int) := ⟨hi.toNat, by omega⟩
    have e : hiB (k : Int) = dd k := by unfold hiB; rw [if_neg hn]; rfl
    rw [e] at h2 ⊢
    have hk : k ≤ 99 := by omega
    obtain ⟨m1, m2, m3⟩ := dd_num k hk (125 :: modeB m)
    obtain ⟨a0, a1⟩ := dd_at k hk (125 :: modeB m)
    have hpre : pre [44, 125] (44 :: (dd k ++ 125 :: modeB m)) = false := by
      exact pre_dd k hk _
    have h3 : (((σ.adv 1).adv 2).adv 1).t = dd k ++ 125 :: modeB m := by
      have : (((σ.adv 1).adv 2).adv 1).t = ((σ.adv 1).adv 2).t.drop 1 := rfl
      rw [this, h2]; rfl
    have h4 : ((((σ.adv 1).adv 2).adv 1).adv 2).t = 125 :: modeB m := adv_dd h3
    obtain ⟨r1, r2⟩ := hr.2 (by omega)
    rw [hpre, if_neg (by decide), if_pos (by rfl), h3, m1, m2, m3, h4, if_pos]
    · refine ⟨_, rfl, ?_, rfl, rfl⟩
      have : (((((σ.adv 1).adv 2).adv 1).adv 2).adv 1).t = ((((σ.adv 1).adv 2).adv 1).adv 2).t.drop 1 := rfl
      rw [this, h4]; rfl
    · simp [at_cons]
      omega
theorem braces_no {σ : St} {lo : Nat} {hi : Int} {m : Nat} (hlo : lo ≤ 99) (hhi : -1 ≤ hi) (hh : hi ≤ 99) (hr : ¬ rightQ lo hi) (ht : σ.t = braceT lo hi m) : braces σ = none := by
  have h1 : (σ.adv 1).t = dd lo ++ 44 :: (hiB hi ++ 125 :: modeB m) := by simp [St.adv, ht, braceT]
  obtain ⟨n1, n2, n3⟩ := dd_num lo hlo (44 :: (hiB hi ++ 125 :: modeB m))
  have h2 : ((σ.adv 1).adv 2).t = 44 :: (hiB hi ++ 125 :: modeB m) := adv_dd h1
  unfold braces
  rw [h1, n1, n2, n3, h2]
  by_cases hl : lo ≤ 64
  · rw [if_pos (by simpa using hl)]
    have hn : ¬ hi < 0 := fun h => hr ⟨hl, fun h' => absurd h (by omega)⟩
    obtain ⟨k, rfl⟩ : ∃ k : Nat, hi = (k : Int) := ⟨hi.toNat, by omega⟩
    have e : hiB (k : Int) = dd k := by unfold hiB; rw [if_neg hn]; rfl
    rw [e] at h2 ⊢
    have hk : k ≤ 99 := by omega
    obtain ⟨m1, m2, m3⟩ := dd_num k hk (125 :: modeB m)
    have hpre : pre [44, 125] (44 :: (dd k ++ 125 :: modeB m)) = false := by
      exact pre_dd k hk _
    have h3 : (((σ.adv 1).adv 2).adv 1).t = dd k ++ 125 :: modeB m := by
      have : (((σ.adv 1).adv 2).adv 1).t = ((σ.adv 1).adv 2).t.drop 1 := rfl
      rw [this, h2]; rfl
    rw [hpre, if_neg (by decide), if_pos (by rfl), h3, m1, m2, m3, if_neg]
    intro hc
    simp at hc
    exact hr ⟨hl, fun _ => ⟨by omega, by omega⟩⟩
  · rw [if_neg (by simpa using hl)]

/-- A character with a quantifier in braces. -/
theorem parse_rep (n : Nat) {c : Nat} (hc : isCh c) (hp : isSign c = false) {lo : Nat} {hi : Int} {m : Nat} (hlo : lo ≤ 99) (hhi : -1 ≤ hi) (hh : hi ≤ 99) (hm : m ≤ 2) (hr : rightQ lo hi) :
    parse (n + 4) (toB (encN c) ++ braceT lo hi m) = .ok (repN lo hi m (setN [((c : Int), (c : Int))]), 0, false) := by
  obtain ⟨σ1, hb, ht, hg, hbk⟩ := braces_ok (σ := unitSt c (braceT lo hi m)) hlo hhi hh hr rfl
  have h0 : at_ (unitSt c (braceT lo hi m)).t 0 = 123 := rfl
  have hq : quantRest false (setN [((c : Int), (c : Int))]) (unitSt c (braceT lo hi m)) = .ok (repN lo hi m (setN [((c : Int), (c : Int))]), behindMode σ1) := by
    unfold quantRest times
    rw [h0, hb]
    simp [isQ, ht, mode_of m hm, setN, Nd.kind]
  refine parse_unit hc hp (brace_len _ _ _) hq ?_ ?_ ?_
  · unfold behindMode
    rw [ht, mode_of m hm]
    by_cases h : m = 0
    · rw [if_pos h, ht, h]; rfl
    · rw [if_neg h]
      have : (σ1.adv 1).t = σ1.t.drop 1 := rfl
      rw [this, ht]
      unfold modeB
      rw [if_neg h]
      split <;> rfl
  · unfold behindMode; split
    · exact hg
    · exact hg
  · unfold behindMode; split
    · exact hbk
    · exact hbk
theorem parse_rep_no (n : Nat) {c : Nat} (hc : isCh c) (hp : isSign c = false) {lo : Nat} {hi : Int} {m : Nat} (hlo : lo ≤ 99) (hhi : -1 ≤ hi) (hh : hi ≤ 99) (hr : ¬ rightQ lo hi) :
    parse (n + 4) (toB (encN c) ++ braceT lo hi m) = .error (23, (encN c).length) := by
  have hb := braces_no (σ := unitSt c (braceT lo hi m)) hlo hhi hh hr rfl
  have h0 : at_ (unitSt c (braceT lo hi m)).t 0 = 123 := rfl
  refine parse_unit_err hc hp (brace_len _ _ _) ?_
  unfold quantRest times
  rw [h0, hb]
  simp [isQ, setN, Nd.kind, unitSt]

/-- A sign, or another mark, behind a backslash. -/
theorem parse_escaped (n : Nat) {c : Nat} (hm : isMark c = true) : parse (n + 4) [92, c.toUInt8] = .ok (setN [((c : Int), (c : Int))], 0, false) := by
  simp [isMark] at hm
  have ht : (c.toUInt8).toNat = c := by simp; omega
  obtain ⟨t, htt⟩ : ∃ t, t = [92, c.toUInt8] := ⟨_, rfl⟩
  have h0 : at_ t 0 = 92 := by rw [htt]; rfl
  have h1 : at_ t 1 = c := by rw [htt]; exact ht
  have hs : sign t = c := by unfold sign; rw [if_pos h0, h1]
  have hd : t.drop 2 = [] := by rw [htt]; rfl
  have hlen : ¬ 256 < t.length := by rw [htt]; simp
  have hf : foldAt t = false := pre40 (by omega)
  have hbg : begins t = { pos := 0, t := t, g := 0, bk := [] } := by unfold begins; rw [hf]; rfl
  have hmk : isMark c = true := by simp [isMark]; omega
  have hun : units c = none := by
    unfold units lowOf
    rw [if_neg (by omega), if_neg (by omega), if_neg (by omega), if_neg (by omega)]
  have he : escUnit { pos := 0, t := t, g := 0, bk := [] } = .ok (c, { pos := 2, t := [], g := 0, bk := [] }) := by
    unfold escUnit
    simp only [hs]
    rw [if_neg (by omega), if_neg (by omega), if_neg (by omega), if_neg (by omega), if_pos hmk]
    simp [St.adv, hd]
  have hes : escape { pos := 0, t := t, g := 0, bk := [] } = .ok (setN [((c : Int), (c : Int))], { pos := 2, t := [], g := 0, bk := [] }) := by
    unfold escape
    simp only [hs]
    rw [if_neg (by omega), if_neg (by omega), if_neg (by omega), hun, he]
  have hat : atomP { pos := 0, t := t, g := 0, bk := [] } = .ok (setN [((c : Int), (c : Int))], { pos := 2, t := [], g := 0, bk := [] }) := by
    unfold atomP
    show (if at_ t 0 = 91 then _ else if at_ t 0 = 92 then _ else _) = _
    rw [if_neg (by omega), if_pos h0, hes]
  have hrow : run (n + 3) 1 0 [] { pos := 0, t := t, g := 0, bk := [] } = .ok (setN [((c : Int), (c : Int))], { pos := 2, t := [], g := 0, bk := [] }) := by
    rw [run_row, if_neg (by
      simp only [Bool.or_eq_true, List.isEmpty_iff, decide_eq_true_eq]
      rintro (h | h | h)
      · rw [htt] at h; cases h
      · omega
      · omega), run_quant, if_neg (by show ¬ at_ t 0 = 40; omega), hat]
    simp only [quantRest, at_nil, isQ_zero]
    rw [if_neg (by decide)]
    simp only
    rw [row_ends (.inl rfl)]
    rfl
  rw [← htt]
  unfold parse
  rw [if_neg hlen, hbg, run_alts, hrow]
  simp only
  rw [if_neg (by simp [at_nil]), hf]
  exact ended_ok rfl rfl (by simp)

end Go.Proofs.YtefgobmpleoafaaGreatDoor

/- Patterns, read: what the nodes of patterns are like: how many kids, which numbers. Of no program. -/
namespace Go.Proofs.YtefgobmpleoafaaGreatDoor
open Go.Proofs.YtefgobmpleoafaaGreatDoor.Cl

/-- A node by itself: its kind, its numbers, how many kids it has. -/
def shapeOk (k lo hi m : Int) (n : Nat) : Prop :=
  (k = 0 ∧ n = 0) ∨ (k = 1 ∧ n = 0) ∨ (k = 2 ∧ 2 ≤ n) ∨ (k = 3 ∧ 2 ≤ n) ∨
  (k = 4 ∧ n = 1 ∧ 0 ≤ lo ∧ lo ≤ 64 ∧ -1 ≤ hi ∧ hi ≤ 64 ∧ (0 ≤ hi → lo ≤ hi) ∧ 0 ≤ m ∧ m ≤ 2) ∨
  (k = 5 ∧ n = 1) ∨ (k = 6 ∧ n = 0) ∨ (k = 7 ∧ n = 1 ∧ 0 ≤ m ∧ m ≤ 3) ∨ (k = 8 ∧ n = 1) ∨ (k = 9 ∧ n = 0)
/-- A node of a pattern. -/
inductive Wf : Nd → Prop
  | mk {k lo hi m r : Int} {set : List Rg} {kids : List Nd} (hs : shapeOk k lo hi m kids.length) (hk : ∀ x ∈ kids, Wf x) : Wf (.mk k lo hi m r set kids)
theorem Wf.leaf {k lo hi m r : Int} {set : List Rg} (h : shapeOk k lo hi m 0) : Wf (.mk k lo hi m r set []) := ⟨h, fun _ h => by cases h⟩
theorem Wf.one {k lo hi m r : Int} {set : List Rg} {x : Nd} (h : shapeOk k lo hi m 1) (hx : Wf x) : Wf (.mk k lo hi m r set [x]) :=
  ⟨h, fun y hy => by rw [List.mem_singleton] at hy; subst hy; exact hx⟩
theorem Wf.empty : Wf emptyN := .leaf (.inl ⟨rfl, rfl⟩)
theorem Wf.set (l : List Rg) : Wf (setN l) := .leaf (.inr (.inl ⟨rfl, rfl⟩))
theorem Wf.edge (r : Int) : Wf (edgeN r) := .leaf (by unfold shapeOk; omega)
theorem Wf.back (g : Nat) : Wf (backN g) := .leaf (by unfold shapeOk; omega)
theorem Wf.joinA {l : List Nd} (hne : l ≠ []) (h : ∀ x ∈ l, Wf x) : Wf (joinA l) := by
  match l, hne with
  | [x], _ => exact h x (by simp)
  | x :: y :: l, _ => exact ⟨by unfold shapeOk; simp, h⟩
theorem Wf.joinR {l : List Nd} (h : ∀ x ∈ l, Wf x) : Wf (joinR l) := by
  match l with
  | [] => exact .empty
  | [x] => exact h x (by simp)
  | x :: y :: l => exact ⟨by unfold shapeOk; simp, h⟩
theorem escape_wf {σ σ1 : St} {r : Nd} (h : escape σ = .ok (r, σ1)) : Wf r := by
  unfold escape at h
  split at h
  · cases h; exact .edge _
  split at h
  · cases h; exact .edge _
  split at h
  · cases h; exact .back _
  split at h
  · cases h; exact .set _
  split at h
  · cases h
  · cases h; exact .set _
theorem atomP_wf {σ σ1 : St} {r : Nd} (h : atomP σ = .ok (r, σ1)) : Wf r := by
  unfold atomP at h
  split at h
  · unfold brackets at h
    split at h
    · cases h
    · cases h; exact .set _
  split at h
  · exact escape_wf h
  split at h
  · cases h
  split at h
  · cases h
  split at h
  · cases h; exact .set _
  split at h
  · cases h; exact .edge _
  split at h
  · cases h; exact .edge _
  · cases h; exact .set _
theorem numOk_le {t : List UInt8} (h : numOk t = true) : numOf t ≤ 64 := by
  unfold numOk at h
  simp at h
  exact h.2
theorem times_ok {σ σ1 : St} {lo hi : Int} (h : times σ = some ((lo, hi), σ1)) : 0 ≤ lo ∧ lo ≤ 64 ∧ -1 ≤ hi ∧ hi ≤ 64 ∧ (0 ≤ hi → lo ≤ hi) := by
  unfold times at h
  split at h
  · cases h; omega
  split at h
  · cases h; omega
  split at h
  · cases h; omega
  unfold braces at h
  split at h
  · rename_i h1
    have h1 := numOk_le h1
    split at h
    · cases h; omega
    split at h
    · split at h
      · rename_i h2
        simp only [Bool.and_eq_true, decide_eq_true_eq] at h2
        have h3 := numOk_le h2.1.1
        have h4 := h2.1.2
        cases h; omega
      · cases h
    split at h
    · cases h; omega
    · cases h
  · cases h
theorem mode_le (t : List UInt8) : modeOf t ≤ 2 := by unfold modeOf; split <;> (try split) <;> omega
theorem quantRest_wf {gr : Bool} {a r : Nd} {σ σ1 : St} (ha : Wf a) (h : quantRest gr a σ = .ok (r, σ1)) : Wf r := by
  unfold quantRest at h
  split at h
  · split at h
    · cases h
    split at h
    · cases h
    · rename_i lo hi σ2 ht
      have := times_ok ht
      have := mode_le σ2.t
      cases h
      exact .one (by unfold shapeOk; omega) ha
  · cases h; exact ha
theorem opening_shape {σ σ1 : St} {a b c : Int} (h : opening σ = .ok ((a, b, c), σ1)) : a = 0 ∨ shapeOk a 0 0 b 1 := by
  unfold opening at h
  unfold shapeOk
  repeat' split at h
  all_goals first
    | (cases h; omega)
    | cases h
theorem wrap_wf {sh : Int × Int × Int} {kid : Nd} (hs : sh.1 = 0 ∨ shapeOk sh.1 0 0 sh.2.1 1) (hk : Wf kid) : Wf (wrap sh kid) := by
  unfold wrap
  split
  · exact hk
  · exact .one (by rcases hs with h | h; exact absurd h (by assumption); exact h) hk
theorem run_wf : ∀ (n : Nat), ∀ k d acc σ r σ1, (∀ x ∈ acc, Wf x) → run n k d acc σ = .ok (r, σ1) → Wf r := by
  intro n
  induction n with
  | zero => intro k d acc σ r σ1 _ h; simp [run] at h
  | succ n ih =>
    intro k d acc σ r σ1 ha h
    match k with
    | 0 =>
      rw [run_alts] at h
      split at h
      · cases h
      · rename_i ra σa hra
        have hw := ih _ _ _ _ _ _ (by simp) hra
        have ha' : ∀ x ∈ acc ++ [ra], Wf x := by
          intro x hx
          rcases List.mem_append.1 hx with hx | hx
          · exact ha x hx
          · rw [List.mem_singleton] at hx; subst hx; exact hw
        split at h
        · exact ih _ _ _ _ _ _ ha' h
        · cases h; exact Wf.joinA (by simp) ha'
    | 1 =>
      rw [run_row] at h
      split at h
      · cases h; exact Wf.joinR ha
      · split at h
        · cases h
        · rename_i ra σa hra
          have hw := ih _ _ _ _ _ _ (by simp) hra
          exact ih _ _ _ _ _ _ (by
            intro x hx
            rcases List.mem_append.1 hx with hx | hx
            · exact ha x hx
            · rw [List.mem_singleton] at hx; subst hx; exact hw) h
    | 2 =>
      rw [run_quant] at h
      split at h
      · cases h
      · rename_i ra σa hra
        refine quantRest_wf ?_ h
        split at hra
        · exact ih _ _ _ _ _ _ (by simp) hra
        · exact atomP_wf hra
    | k + 3 =>
      have h' : run (n + 1) 3 d acc σ = .ok (r, σ1) := h
      rw [run_paren] at h'
      split at h'
      · cases h'
      · split at h'
        · cases h'
        · rename_i sh σa ho
          split at h'
          · cases h'
          · rename_i kid σb hk
            split at h'
            · cases h'
              obtain ⟨a, b, c⟩ := sh
              exact wrap_wf (opening_shape ho) (ih _ _ _ _ _ _ (by simp) hk)
            · cases h'
/-- The root of a pattern. -/
theorem parse_wf {N : Nat} {s : List UInt8} {nd : Nd} {g : Nat} {fo : Bool} (h : parse N s = .ok (nd, g, fo)) : Wf nd := by
  unfold parse at h
  split at h
  · cases h
  · split at h
    · cases h
    · rename_i r σ hr
      unfold ended at h
      split at h
      · cases h
      · split at h
        · cases h
        · cases h
          exact run_wf _ _ _ _ _ _ _ (by simp) hr

end Go.Proofs.YtefgobmpleoafaaGreatDoor

/- Widths and sizes of nodes, as the document has them. Of no program. -/
namespace Go.Proofs.YtefgobmpleoafaaGreatDoor
open Go.Proofs.YtefgobmpleoafaaGreatDoor.Cl

/-- Above it a least width and a size are it, a greatest width is without an end. -/
def far : Int := 1048576
def capF (x : Int) : Int := if far < x then far else x
def capE (x : Int) : Int := if far < x then -1 else x
def hd (l : List Int) : Int := l.headD 0
/-- The least of some numbers; far of none. -/
def lowest : List Int → Int
  | [] => far
  | x :: l => min x (lowest l)
/-- The greatest of some numbers; 0 of none. -/
def highest : List Int → Int
  | [] => 0
  | x :: l => max x (highest l)
def endless (l : List Int) : Bool := l.any fun x => decide (x < 0)

/-- Of a node by itself, and its kids' widths. -/
def leastF (k lo : Int) (l : List Int) : Int :=
  capF (if k = 1 then 1 else if k = 2 then l.sum else if k = 3 then lowest l else if k = 4 then lo * hd l else if k = 5 ∨ k = 8 then hd l else 0)
def mostF (k hi : Int) (l : List Int) : Int :=
  if k = 1 then 1
  else if k = 2 then (if endless l then -1 else capE l.sum)
  else if k = 3 then (if endless l then -1 else capE (highest l))
  else if k = 4 then (if hd l = 0 ∨ hi = 0 then 0 else if hd l < 0 ∨ hi < 0 then -1 else capE (hi * hd l))
  else if k = 5 ∨ k = 8 then hd l
  else if k = 6 then -1
  else 0
def sizeF (k lo hi m : Int) (l : List Int) : Int :=
  capF (if k = 1 ∨ k = 6 ∨ k = 9 then 1
    else if k = 2 then l.sum
    else if k = 3 then l.sum + 2 * ((l.length : Int) - 1)
    else if k = 4 then lo * hd l + (if hi < 0 then hd l + 4 else (hi - lo) * (hd l + 1)) + (if m = 2 then 2 else 0)
    else if k = 5 ∨ k = 7 ∨ k = 8 then hd l + 2
    else 0)

mutual
def least : Nd → Int
  | .mk k lo _ _ _ _ kids => leastF k lo (leasts kids)
def leasts : List Nd → List Int
  | [] => []
  | x :: l => least x :: leasts l
end
mutual
def most : Nd → Int
  | .mk k _ hi _ _ _ kids => mostF k hi (mosts kids)
def mosts : List Nd → List Int
  | [] => []
  | x :: l => most x :: mosts l
end
mutual
def ndSize : Nd → Int
  | .mk k lo hi m _ _ kids => sizeF k lo hi m (sizes kids)
def sizes : List Nd → List Int
  | [] => []
  | x :: l => ndSize x :: sizes l
end
theorem leasts_map (l : List Nd) : leasts l = l.map least := by induction l with | nil => rfl | cons x l ih => simp [leasts, ih]
theorem mosts_map (l : List Nd) : mosts l = l.map most := by induction l with | nil => rfl | cons x l ih => simp [mosts, ih]
theorem sizes_map (l : List Nd) : sizes l = l.map ndSize := by induction l with | nil => rfl | cons x l ih => simp [sizes, ih]
theorem least_eq (k lo hi m r : Int) (s : List Rg) (l : List Nd) : least (.mk k lo hi m r s l) = leastF k lo (l.map least) := by rw [least, leasts_map]
theorem most_eq (k lo hi m r : Int) (s : List Rg) (l : List Nd) : most (.mk k lo hi m r s l) = mostF k hi (l.map most) := by rw [most, mosts_map]
theorem ndSize_eq (k lo hi m r : Int) (s : List Rg) (l : List Nd) : ndSize (.mk k lo hi m r s l) = sizeF k lo hi m (l.map ndSize) := by rw [ndSize, sizes_map]

/-- What comes of a node, by its kids. -/
theorem Wf.ind {P : Nd → Prop} (h : ∀ (k lo hi m r : Int) (s : List Rg) (l : List Nd), shapeOk k lo hi m l.length → (∀ x ∈ l, Wf x) → (∀ x ∈ l, P x) → P (.mk k lo hi m r s l)) {nd : Nd} (hw : Wf nd) : P nd := by
  induction hw with
  | mk hs hk ih => exact h _ _ _ _ _ _ _ hs hk ih

theorem sum_nonneg : ∀ {l : List Int}, (∀ x ∈ l, 0 ≤ x) → 0 ≤ l.sum
  | [], _ => by simp
  | x :: l, h => by
    have h1 := h x (by simp)
    have h2 := sum_nonneg (l := l) (fun y hy => h y (by simp [hy]))
    simp only [List.sum_cons]
    omega
theorem lowest_range : ∀ {l : List Int}, (∀ x ∈ l, 0 ≤ x) → 0 ≤ lowest l ∧ lowest l ≤ far ∧ ∀ x ∈ l, lowest l ≤ x
  | [], _ => by simp [lowest, far]
  | x :: l, h => by
    have h1 := h x (by simp)
    obtain ⟨a, b, c⟩ := lowest_range (l := l) (fun y hy => h y (by simp [hy]))
    simp only [lowest]
    refine ⟨by omega, by omega, fun y hy => ?_⟩
    rcases List.mem_cons.1 hy with rfl | hy
    · omega
    · have := c y hy; omega
theorem highest_range : ∀ {l : List Int}, 0 ≤ highest l ∧ ∀ x ∈ l, x ≤ highest l
  | [] => by simp [highest]
  | x :: l => by
    obtain ⟨a, c⟩ := highest_range (l := l)
    simp only [highest]
    refine ⟨by omega, fun y hy => ?_⟩
    rcases List.mem_cons.1 hy with rfl | hy
    · omega
    · have := c y hy; omega
theorem highest_le : ∀ {l : List Int} {b : Int}, 0 ≤ b → (∀ x ∈ l, x ≤ b) → highest l ≤ b
  | [], b, h0, _ => h0
  | x :: l, b, h0, h => by
    have h1 := h x (by simp)
    have h2 := highest_le (l := l) h0 (fun y hy => h y (by simp [hy]))
    simp only [highest]
    omega
theorem not_endless {l : List Int} (h : endless l = false) : ∀ x ∈ l, 0 ≤ x := by
  intro x hx
  unfold endless at h
  rw [List.any_eq_false] at h
  have := h x hx
  simpa using this
theorem hd_one {α : Type} {l : List α} (h : l.length = 1) : ∃ x, l = [x] := by
  match l, h with
  | [x], _ => exact ⟨x, rfl⟩

theorem cap_range {x : Int} (h : 0 ≤ x) : 0 ≤ capF x ∧ capF x ≤ far ∧ capF x ≤ x := by unfold capF far; split <;> omega
theorem capE_range {x : Int} (h : 0 ≤ x) : -1 ≤ capE x ∧ capE x ≤ far := by unfold capE far; split <;> omega

theorem least_range {nd : Nd} (h : Wf nd) : 0 ≤ least nd ∧ least nd ≤ far := by
  refine Wf.ind (P := fun nd => 0 ≤ least nd ∧ least nd ≤ far) (fun k lo hi m r s l hs _ ih => ?_) h
  rw [least_eq]
  have hl : ∀ x ∈ l.map least, 0 ≤ x := by
    intro x hx
    obtain ⟨y, hy, rfl⟩ := List.mem_map.1 hx
    exact (ih y hy).1
  have hh : 0 ≤ hd (l.map least) := by
    unfold hd
    cases l with
    | nil => simp
    | cons y l => exact hl _ (by simp)
  have key : ∀ x : Int, 0 ≤ x → 0 ≤ capF x ∧ capF x ≤ far := fun x hx => ⟨(cap_range hx).1, (cap_range hx).2.1⟩
  unfold leastF
  split
  · exact key _ (by omega)
  split
  · exact key _ (sum_nonneg hl)
  split
  · exact key _ (lowest_range hl).1
  split
  · rename_i h4
    refine key _ (Int.mul_nonneg ?_ hh)
    unfold shapeOk at hs; omega
  split
  · exact key _ hh
  · exact key _ (by omega)
theorem most_range {nd : Nd} (h : Wf nd) : -1 ≤ most nd ∧ most nd ≤ far := by
  refine Wf.ind (P := fun nd => -1 ≤ most nd ∧ most nd ≤ far) (fun k lo hi m r s l hs _ ih => ?_) h
  rw [most_eq]
  have hh : -1 ≤ hd (l.map most) ∧ hd (l.map most) ≤ far := by
    unfold hd
    cases l with
    | nil => simp [far]
    | cons y l => exact ih y (by simp)
  unfold mostF
  split
  · simp [far]
  split
  · split
    · simp [far]
    · rename_i he
      exact capE_range (sum_nonneg (not_endless (by simpa using he)))
  split
  · split
    · simp [far]
    · exact capE_range highest_range.1
  split
  · rename_i h4
    split
    · simp [far]
    split
    · simp [far]
    · rename_i c1 c2
      exact capE_range (Int.mul_nonneg (by omega) (by omega))
  split
  · exact hh
  split
  · simp [far]
  · simp [far]
theorem ndSize_range {nd : Nd} (h : Wf nd) : 0 ≤ ndSize nd ∧ ndSize nd ≤ far := by
  refine Wf.ind (P := fun nd => 0 ≤ ndSize nd ∧ ndSize nd ≤ far) (fun k lo hi m r s l hs _ ih => ?_) h
  rw [ndSize_eq]
  have hl : ∀ x ∈ l.map ndSize, 0 ≤ x := by
    intro x hx
    obtain ⟨y, hy, rfl⟩ := List.mem_map.1 hx
    exact (ih y hy).1
  have hh : 0 ≤ hd (l.map ndSize) := by
    unfold hd
    cases l with
    | nil => simp
    | cons y l => exact hl _ (by simp)
  have key : ∀ x : Int, 0 ≤ x → 0 ≤ capF x ∧ capF x ≤ far := fun x hx => ⟨(cap_range hx).1, (cap_range hx).2.1⟩
  unfold sizeF
  split
  · exact key _ (by omega)
  split
  · exact key _ (sum_nonneg hl)
  split
  · refine key _ ?_
    have := sum_nonneg hl
    have : (l.map ndSize).length = l.length := List.length_map _
    unfold shapeOk at hs
    omega
  split
  · refine key _ ?_
    have h0 : 0 ≤ lo * hd (l.map ndSize) := Int.mul_nonneg (by unfold shapeOk at hs; omega) hh
    have h1 : 0 ≤ hi → 0 ≤ (hi - lo) * (hd (l.map ndSize) + 1) := fun _ => Int.mul_nonneg (by unfold shapeOk at hs; omega) (by omega)
    split <;> split <;> omega
  split
  · exact key _ (by omega)
  · exact key _ (by omega)

theorem sum_le : ∀ {l : List Nd}, (∀ x ∈ l, least x ≤ most x) → (l.map least).sum ≤ (l.map most).sum
  | [], _ => by simp
  | x :: l, h => by
    have h1 := h x (by simp)
    have h2 := sum_le (l := l) (fun y hy => h y (by simp [hy]))
    simp only [List.map_cons, List.sum_cons]
    omega
/-- The least width is never above the greatest. -/
theorem least_le {nd : Nd} (h : Wf nd) : most nd < 0 ∨ least nd ≤ most nd := by
  refine Wf.ind (P := fun nd => most nd < 0 ∨ least nd ≤ most nd) (fun k lo hi m r s l hs hw ih => ?_) h
  rw [least_eq, most_eq]
  by_cases h1 : k = 1
  · subst h1; right; simp [leastF, mostF, capF, far]
  by_cases h2 : k = 2
  · subst h2
    simp only [leastF, mostF, if_neg h1, if_true]
    cases he : endless (l.map most) with
    | true => left; simp
    | false =>
      have hp := not_endless he
      have hx : ∀ x ∈ l, least x ≤ most x := fun x hx => by
        have := hp (most x) (List.mem_map.2 ⟨x, hx, rfl⟩)
        rcases ih x hx with h | h
        · omega
        · exact h
      have hs := sum_le hx
      have h0 : 0 ≤ (l.map least).sum := sum_nonneg (by
        intro y hy
        obtain ⟨z, hz, rfl⟩ := List.mem_map.1 hy
        exact (least_range (hw z hz)).1)
      have := (cap_range h0).2.2
      simp only [Bool.false_eq_true, if_false]
      unfold capE
      split
      · left; omega
      · right; omega
  by_cases h3 : k = 3
  · subst h3
    simp only [leastF, mostF, if_neg h1, if_neg h2, if_true]
    cases he : endless (l.map most) with
    | true => left; simp
    | false =>
      simp only [Bool.false_eq_true, if_false]
      have hp := not_endless he
      obtain ⟨y, hy⟩ : ∃ y, y ∈ l := by
        unfold shapeOk at hs
        cases l with
        | nil => simp at hs
        | cons y l => exact ⟨y, by simp⟩
      have hl0 : ∀ x ∈ l.map least, 0 ≤ x := by
        intro x hx
        obtain ⟨z, hz, rfl⟩ := List.mem_map.1 hx
        exact (least_range (hw z hz)).1
      have a1 := (lowest_range hl0).2.2 (least y) (List.mem_map.2 ⟨y, hy, rfl⟩)
      have a2 := (highest_range (l := l.map most)).2 (most y) (List.mem_map.2 ⟨y, hy, rfl⟩)
      have a3 := hp (most y) (List.mem_map.2 ⟨y, hy, rfl⟩)
      have a4 := (cap_range (lowest_range hl0).1).2.2
      have a5 := ih y hy
      unfold capE
      split
      · left; omega
      · right; omega
  by_cases h4 : k = 4
  · subst h4
    have hs' : l.length = 1 ∧ 0 ≤ lo ∧ lo ≤ 64 ∧ (0 ≤ hi → lo ≤ hi) := by unfold shapeOk at hs; omega
    obtain ⟨x, rfl⟩ := hd_one hs'.1
    have hx := ih x (by simp)
    have hr := least_range (hw x (by simp))
    have hq := most_range (hw x (by simp))
    simp only [leastF, mostF, if_neg h1, if_neg h2, if_neg h3, if_true, List.map_cons, List.map_nil, hd, List.headD_cons]
    by_cases c1 : most x = 0 ∨ hi = 0
    · rw [if_pos c1]
      right
      have : lo * least x = 0 := by
        rcases c1 with c | c
        · have : least x = 0 := by omega
          rw [this, Int.mul_zero]
        · have : lo = 0 := by omega
          rw [this, Int.zero_mul]
      rw [this]
      simp [capF, far]
    · rw [if_neg c1]
      by_cases c2 : most x < 0 ∨ hi < 0
      · rw [if_pos c2]; left; omega
      · rw [if_neg c2]
        have hm : lo * least x ≤ hi * most x := Int.mul_le_mul (by omega) (by omega) (by omega) (by omega)
        have h0 : 0 ≤ lo * least x := Int.mul_nonneg (by omega) (by omega)
        have := (cap_range h0).2.2
        unfold capE
        split
        · left; omega
        · right; omega
  by_cases h5 : k = 5 ∨ k = 8
  · have hs' : l.length = 1 := by unfold shapeOk at hs; omega
    obtain ⟨x, rfl⟩ := hd_one hs'
    have hx := ih x (by simp)
    have hr := least_range (hw x (by simp))
    simp only [leastF, mostF, if_neg h1, if_neg h2, if_neg h3, if_neg h4, if_pos h5, List.map_cons, List.map_nil, hd, List.headD_cons]
    have := (cap_range hr.1).2.2
    omega
  by_cases h6 : k = 6
  · left; simp [mostF, h6]
  · right; simp [leastF, mostF, if_neg h1, if_neg h2, if_neg h3, if_neg h4, if_neg h5, if_neg h6, capF, far]

/-! ### Of some nodes -/
theorem cap_min (x : Int) : capF x = min x far := by unfold capF; omega
theorem least_cat (x y : Nd) : least (catN [x, y]) = min (least x + least y) far := by
  unfold catN; rw [least_eq]; simp [leastF, cap_min]
theorem most_cat (x y : Nd) : most (catN [x, y]) = if most x < 0 ∨ most y < 0 then -1 else capE (most x + most y) := by
  unfold catN; rw [most_eq]; simp [mostF, endless]
theorem size_cat (x y : Nd) : ndSize (catN [x, y]) = min (ndSize x + ndSize y) far := by
  unfold catN; rw [ndSize_eq]; simp [sizeF, cap_min]
theorem least_alt {x y : Nd} (hx : Wf x) (hy : Wf y) : least (altN [x, y]) = min (least x) (least y) := by
  unfold altN; rw [least_eq]
  have := least_range hx
  have := least_range hy
  simp [leastF, cap_min, lowest]
  omega
theorem most_alt {x y : Nd} (hx : Wf x) (hy : Wf y) : most (altN [x, y]) = if most x < 0 ∨ most y < 0 then -1 else max (most x) (most y) := by
  unfold altN; rw [most_eq]
  have := most_range hx
  have := most_range hy
  simp [mostF, endless, highest, capE]
  split
  · rfl
  · omega
theorem size_alt (x y : Nd) : ndSize (altN [x, y]) = min (ndSize x + ndSize y + 2) far := by
  unfold altN; rw [ndSize_eq]; simp [sizeF, cap_min]

end Go.Proofs.YtefgobmpleoafaaGreatDoor

/- Patterns, read: nodes that are alike but for the numbers of groups; a pattern within a longer one, with groups ahead of it. Of no program. -/
namespace Go.Proofs.YtefgobmpleoafaaGreatDoor
open Go.Proofs.YtefgobmpleoafaaGreatDoor.Cl

inductive Lk : Nd → Nd → Prop
  | mk {k lo hi m r r' : Int} {set : List Rg} {kids kids' : List Nd} (hl : kids.length = kids'.length) (hk : ∀ (i : Nat) (x y : Nd), kids[i]? = some x → kids'[i]? = some y → Lk x y) : Lk (.mk k lo hi m r set kids) (.mk k lo hi m r' set kids')
def LkL (l l' : List Nd) : Prop := l.length = l'.length ∧ ∀ (i : Nat) (x y : Nd), l[i]? = some x → l'[i]? = some y → Lk x y
theorem LkL.nil : LkL [] [] := ⟨rfl, fun i x y h => by simp at h⟩
theorem LkL.snoc {l l' : List Nd} {x x' : Nd} (h : LkL l l') (hx : Lk x x') : LkL (l ++ [x]) (l' ++ [x']) := by
  refine ⟨by simp [h.1], fun i a b ha hb => ?_⟩
  rw [List.getElem?_append] at ha hb
  rw [← h.1] at hb
  split at ha
  · rename_i c
    rw [if_pos c] at hb
    exact h.2 i a b ha hb
  · rename_i c
    rw [if_neg c] at hb
    rcases hi : i - l.length with _ | j
    · rw [hi] at ha hb
      simp at ha hb
      subst ha hb
      exact hx
    · rw [hi] at ha
      simp at ha
theorem Lk.leaf {k lo hi m r r' : Int} {set : List Rg} : Lk (.mk k lo hi m r set []) (.mk k lo hi m r' set []) := .mk rfl (fun i x y h => by simp at h)
theorem Lk.of_list {k lo hi m r r' : Int} {set : List Rg} {l l' : List Nd} (h : LkL l l') : Lk (.mk k lo hi m r set l) (.mk k lo hi m r' set l') := .mk h.1 h.2
theorem Lk.one {k lo hi m r r' : Int} {set : List Rg} {x x' : Nd} (h : Lk x x') : Lk (.mk k lo hi m r set [x]) (.mk k lo hi m r' set [x']) := .of_list (LkL.nil.snoc h)
theorem Lk.kind {x x' : Nd} (h : Lk x x') : x'.kind = x.kind := by cases h; rfl
theorem Lk.joinA {l l' : List Nd} (h : LkL l l') : Lk (joinA l) (joinA l') := by
  match l, l', h with
  | [], [], _ => exact .leaf
  | [x], [x'], h => exact h.2 0 x x' rfl rfl
  | x :: y :: l, x' :: y' :: l', h => exact .of_list h
  | [], x :: l, h => exact absurd h.1 (by simp)
  | x :: l, [], h => exact absurd h.1 (by simp)
  | [x], x' :: y' :: l', h => exact absurd h.1 (by simp)
  | x :: y :: l, [x'], h => exact absurd h.1 (by simp)
theorem Lk.joinR {l l' : List Nd} (h : LkL l l') : Lk (joinR l) (joinR l') := by
  match l, l', h with
  | [], [], _ => exact .leaf
  | [x], [x'], h => exact h.2 0 x x' rfl rfl
  | x :: y :: l, x' :: y' :: l', h => exact .of_list h
  | [], x :: l, h => exact absurd h.1 (by simp)
  | x :: l, [], h => exact absurd h.1 (by simp)
  | [x], x' :: y' :: l', h => exact absurd h.1 (by simp)
  | x :: y :: l, [x'], h => exact absurd h.1 (by simp)
theorem atomP_leaf {σ σ1 : St} {r : Nd} (h : atomP σ = .ok (r, σ1)) : Lk r r := by
  unfold atomP at h
  split at h
  · unfold brackets at h
    split at h
    · cases h
    · cases h; exact .leaf
  split at h
  · unfold escape at h
    split at h
    · cases h; exact .leaf
    split at h
    · cases h; exact .leaf
    split at h
    · cases h; exact .leaf
    split at h
    · cases h; exact .leaf
    split at h
    · cases h
    · cases h; exact .leaf
  split at h
  · cases h
  split at h
  · cases h
  split at h
  · cases h; exact .leaf
  split at h
  · cases h; exact .leaf
  split at h
  · cases h; exact .leaf
  · cases h; exact .leaf

variable {γ δ : Nat} {B : List Nat} {q : List UInt8} {σ σ' σ1 : St}
def GotL (γ : Nat) (B : List Nat) (q : List UInt8) (x : R) (r : Nd) (σ1 : St) : Prop := (∃ r' σ1', x = .ok (r', σ1') ∧ Lk r r' ∧ Sim γ B q σ1 σ1') ∨ ∃ e, x = .error e

theorem quantRest_like {gr : Bool} {a a' r : Nd} (hl : Lk a a') (h : quantRest gr a σ = .ok (r, σ1)) (hq : Tail q) (hs : Sim γ B q σ σ') : GotL γ B q (quantRest gr a' σ') r σ1 := by
  unfold quantRest at h ⊢
  rw [isQ_sim hs hq, hl.kind]
  split at h
  · rename_i c
    rw [if_pos c]
    have hc : at_ σ.t 0 ≠ 0 := by intro e; rw [e, isQ_zero] at c; cases c
    split at h
    · cases h
    · rename_i c2
      rw [if_neg c2]
      split at h
      · cases h
      · rename_i lo hi σa ht
        obtain ⟨σa', ht', hs1⟩ := times_sim ht (at_ne hc) hc hq hs
        simp only [ht']
        obtain ⟨e, hs2⟩ := mode_sim hs1 hq
        rw [e]
        cases h
        exact .inl ⟨_, _, rfl, .one hl, hs2⟩
  · rename_i c
    rw [if_neg c]
    cases h
    exact .inl ⟨_, _, rfl, hl, hs⟩

theorem opening_like {sh : Int × Int × Int} (h : opening σ = .ok (sh, σ1)) (hc : at_ σ.t 0 = 40) (hq : Tail q) (hs : Sim γ B q σ σ') : (∃ sh' σ1', opening σ' = .ok (sh', σ1') ∧ sh'.1 = sh.1 ∧ sh'.2.1 = sh.2.1 ∧ Sim γ B q σ1 σ1') ∨ ∃ e, opening σ' = .error e := by
  have h1l := len_ne (at_ne (t := σ.t) (by omega))
  unfold opening at h ⊢
  rw [hs.pre hq [40, 63, 58] (by decide), hs.pre hq [40, 63, 61] (by decide), hs.pre hq [40, 63, 33] (by decide), hs.pre hq [40, 63, 60, 61] (by decide), hs.pre hq [40, 63, 60, 33] (by decide), hs.pre hq [40, 63, 62] (by decide), hs.pre hq [40, 63] (by decide)]
  split at h
  · rename_i c
    rw [if_pos c]
    cases h
    exact .inl ⟨_, _, rfl, rfl, rfl, hs.adv (pre_len c)⟩
  rename_i c
  rw [if_neg c]
  split at h
  · rename_i c
    rw [if_pos c]
    cases h
    exact .inl ⟨_, _, rfl, rfl, rfl, hs.adv (pre_len c)⟩
  rename_i c
  rw [if_neg c]
  split at h
  · rename_i c
    rw [if_pos c]
    cases h
    exact .inl ⟨_, _, rfl, rfl, rfl, hs.adv (pre_len c)⟩
  rename_i c
  rw [if_neg c]
  split at h
  · rename_i c
    rw [if_pos c]
    cases h
    exact .inl ⟨_, _, rfl, rfl, rfl, hs.adv (pre_len c)⟩
  rename_i c
  rw [if_neg c]
  split at h
  · rename_i c
    rw [if_pos c]
    cases h
    exact .inl ⟨_, _, rfl, rfl, rfl, hs.adv (pre_len c)⟩
  rename_i c
  rw [if_neg c]
  split at h
  · rename_i c
    rw [if_pos c]
    cases h
    exact .inl ⟨_, _, rfl, rfl, rfl, hs.adv (pre_len c)⟩
  rename_i c
  rw [if_neg c]
  split at h
  · cases h
  rename_i c
  rw [if_neg c]
  split at h
  · cases h
  rename_i c
  cases h
  by_cases c9 : σ'.g = 9
  · rw [if_pos c9]
    exact .inr ⟨_, rfl⟩
  · rw [if_neg c9]
    refine .inl ⟨_, _, rfl, rfl, rfl, ?_, ?_, hs.hb⟩
    · simp only [opened]
      rw [hs.ht, List.drop_append_of_le_length h1l]
    · simp only [opened, hs.hg]
      omega
theorem wrap_like {sh sh' : Int × Int × Int} {x x' : Nd} (h1 : sh'.1 = sh.1) (h2 : sh'.2.1 = sh.2.1) (hx : Lk x x') : Lk (wrap sh x) (wrap sh' x') := by
  unfold wrap
  rw [h1, h2]
  split
  · exact hx
  · exact .one hx

theorem run_like (hq : Tail q) (δ : Nat) : ∀ (n : Nat), (∀ d acc acc' σ σ' r σ1, LkL acc acc' → run n 0 d acc σ = .ok (r, σ1) → Sim γ B q σ σ' → GotL γ B q (run n 0 (d + δ) acc' σ') r σ1) ∧
    (∀ d acc acc' σ σ' r σ1, LkL acc acc' → run n 1 d acc σ = .ok (r, σ1) → Sim γ B q σ σ' → GotL γ B q (run n 1 (d + δ) acc' σ') r σ1) ∧
    (∀ d acc acc' σ σ' r σ1, σ.t ≠ [] → run n 2 d acc σ = .ok (r, σ1) → Sim γ B q σ σ' → GotL γ B q (run n 2 (d + δ) acc' σ') r σ1) ∧
    (∀ d acc acc' σ σ' r σ1, at_ σ.t 0 = 40 → run n 3 d acc σ = .ok (r, σ1) → Sim γ B q σ σ' → GotL γ B q (run n 3 (d + δ) acc' σ') r σ1) := by
  intro n
  induction n with
  | zero => refine ⟨?_, ?_, ?_, ?_⟩ <;> intros <;> simp [run] at *
  | succ n ih =>
    obtain ⟨ih0, ih1, ih2, ih3⟩ := ih
    refine ⟨?_, ?_, ?_, ?_⟩
    · intro d acc acc' σ σ' r σ1 hl h hs
      rw [run_alts] at h ⊢
      split at h
      · cases h
      · rename_i ra σa ha
        rcases ih1 d [] [] σ σ' ra σa .nil ha hs with ⟨ra', σa', ha', hla, hs'⟩ | ⟨e, ha'⟩
        · rw [ha']
          simp only
          split at h
          · rename_i c
            rw [if_pos ((hs'.at_ hq (by decide) (by decide)).2 c)]
            exact ih0 d _ _ _ _ r σ1 (hl.snoc hla) h (hs'.adv (len_ne (at_ne (t := σa.t) (by omega))))
          · rename_i c
            cases h
            rw [if_neg (fun e => c ((hs'.at_ hq (by decide) (by decide)).1 e))]
            exact .inl ⟨_, _, rfl, .joinA (hl.snoc hla), hs'⟩
        · exact .inr ⟨e, by rw [ha']⟩
    · intro d acc acc' σ σ' r σ1 hl h hs
      rw [run_row] at h ⊢
      rw [ends_sim hs hq]
      split at h
      · rename_i c
        rw [if_pos c]
        cases h
        exact .inl ⟨_, _, rfl, .joinR hl, hs⟩
      · rename_i c
        rw [if_neg c]
        have hn : σ.t ≠ [] := by
          intro e
          rw [e] at c
          exact c rfl
        split at h
        · cases h
        · rename_i a σa ha
          rcases ih2 d [] [] σ σ' a σa hn ha hs with ⟨a', σa', ha', hla, hs'⟩ | ⟨e, ha'⟩
          · rw [ha']
            exact ih1 d _ _ _ _ r σ1 (hl.snoc hla) h hs'
          · exact .inr ⟨e, by rw [ha']⟩
    · intro d acc acc' σ σ' r σ1 hn h hs
      rw [run_quant] at h ⊢
      rw [hs.at0 hn, hs.pre hq [40, 63, 58] (by decide)]
      split at h
      · cases h
      · rename_i a σa ha
        split at ha
        · rename_i c
          rw [if_pos c]
          rcases ih3 d [] [] σ σ' a σa c ha hs with ⟨a', σa', ha', hla, hs'⟩ | ⟨e, ha'⟩
          · rw [ha']
            exact quantRest_like hla h hq hs'
          · exact .inr ⟨e, by rw [ha']⟩
        · rename_i c
          rw [if_neg c]
          obtain ⟨σa', ha', hs'⟩ := atomP_sim ha hq hs hn
          rw [ha']
          exact quantRest_like (atomP_leaf ha) h hq hs'
    · intro d acc acc' σ σ' r σ1 hc h hs
      rw [run_paren] at h ⊢
      split at h
      · cases h
      · split
        · exact .inr ⟨_, rfl⟩
        · split at h
          · cases h
          · rename_i sh σa ho
            split at h
            · cases h
            · rename_i kid σb hk
              split at h
              · rename_i c
                cases h
                rcases opening_like ho hc hq hs with ⟨sh', σa', ho', e1, e2, hsa⟩ | ⟨e, ho'⟩
                · rw [ho']
                  simp only
                  have e : d + δ + 1 = d + 1 + δ := by omega
                  rw [e]
                  rcases ih0 (d + 1) [] [] σa σa' kid σb .nil hk hsa with ⟨kid', σb', hk', hlk, hsb⟩ | ⟨e, hk'⟩
                  · rw [hk']
                    simp only
                    have h41 : at_ σb'.t 0 = 41 := by
                      rw [hsb.at0 (at_ne (t := σb.t) (by omega))]
                      exact c
                    rw [if_pos h41]
                    exact .inl ⟨_, _, rfl, wrap_like e1 e2 hlk, hsb.adv (len_ne (at_ne (t := σb.t) (by omega)))⟩
                  · exact .inr ⟨e, by rw [hk']⟩
                · exact .inr ⟨e, by rw [ho']⟩
              · cases h

/-- A pattern in parentheses, whichever, with groups ahead and more behind. -/
theorem paren_like {N : Nat} {s rest : List UInt8} {nd : Nd} {g : Nat} {bk : List (Nat × Nat)} {sh : Int × Int × Int} (h : Read N s nd g bk) (hr : isQ (at_ rest 0) = false) (d : Nat) (acc : List Nd) (σ' σ2 : St) (h0 : at_ σ'.t 0 = 40)
    (ho : opening σ' = .ok (sh, σ2)) (ht : σ2.t = s ++ 41 :: rest) : (∃ nd' σ3, run (N + 2) 2 d acc σ' = .ok (wrap sh nd', σ3) ∧ Lk nd nd' ∧ σ3.t = rest) ∨ ∃ e, run (N + 2) 2 d acc σ' = .error e := by
  obtain ⟨p, hp⟩ := h.go
  rw [run_quant, if_pos h0, run_paren]
  by_cases hd : d = 32
  · rw [if_pos hd]
    exact .inr ⟨_, rfl⟩
  rw [if_neg hd, ho]
  simp only
  have hs : Sim σ2.g (σ2.bk.map (·.1)) (41 :: rest) { pos := 0, t := s, g := 0, bk := [] } σ2 := ⟨ht, by simp, by simp⟩
  have := (run_like (.inr ⟨rest, rfl⟩) (d + 1) N).1 0 [] [] _ _ _ _ .nil hp hs
  rw [Nat.zero_add] at this
  rcases this with ⟨nd', σb, hb, hl, hsb⟩ | ⟨e, hb⟩
  · rw [hb]
    have htb : σb.t = 41 :: rest := hsb.ht
    have h41 : at_ σb.t 0 = 41 := by rw [htb]; rfl
    simp only
    rw [if_pos h41]
    have htr : (σb.adv 1).t = rest := by simp [St.adv, htb]
    unfold quantRest
    simp only [htr, hr]
    exact .inl ⟨nd', _, rfl, hl, htr⟩
  · rw [hb]
    exact .inr ⟨e, rfl⟩

/-! ### Widths and sizes of nodes that are alike -/
theorem map_like {α : Type} {f : Nd → α} {l l' : List Nd} (hl : l.length = l'.length) (h : ∀ (i : Nat) (x y : Nd), l[i]? = some x → l'[i]? = some y → f x = f y) : l.map f = l'.map f := by
  apply List.ext_getElem?
  intro i
  rw [List.getElem?_map, List.getElem?_map]
  rcases Nat.lt_or_ge i l.length with hi | hi
  · have hi' : i < l'.length := by omega
    rw [List.getElem?_eq_getElem hi, List.getElem?_eq_getElem hi']
    simp only [Option.map_some]
    rw [h i _ _ (List.getElem?_eq_getElem hi) (List.getElem?_eq_getElem hi')]
  · rw [List.getElem?_eq_none hi, List.getElem?_eq_none (by omega)]
theorem like_same {x x' : Nd} (h : Lk x x') : least x = least x' ∧ most x = most x' ∧ ndSize x = ndSize x' := by
  induction h with
  | mk hl _ ih =>
    rw [least_eq, least_eq, most_eq, most_eq, ndSize_eq, ndSize_eq]
    rw [map_like hl (fun i x y hx hy => (ih i x y hx hy).1), map_like hl (fun i x y hx hy => (ih i x y hx hy).2.1), map_like hl (fun i x y hx hy => (ih i x y hx hy).2.2)]
    exact ⟨rfl, rfl, rfl⟩

/-! ### Texts made of patterns -/
theorem ended_root {fold : Bool} {r nd : Nd} {σ : St} {g : Nat} {fo : Bool} (h : Go.Proofs.YtefgobmpleoafaaGreatDoor.ended fold r σ = .ok (nd, g, fo)) : nd = r ∧ σ.t = [] ∧ fo = fold := by
  unfold Go.Proofs.YtefgobmpleoafaaGreatDoor.ended at h
  split at h
  · cases h
  · rename_i c
    split at h
    · cases h
    · cases h
      exact ⟨rfl, by simpa using c, rfl⟩
/-- One pattern in parentheses. -/
theorem one_like {N : Nat} {s t : List UInt8} {nd : Nd} {g : Nat} {sh : Int × Int × Int} {σ2 : St} (h : parse N s = .ok (nd, g, false)) (hf : foldAt t = false) (h0 : at_ t 0 = 40) (hl : t.length ≤ 256) (ho : opening { pos := 0, t := t, g := 0, bk := [] } = .ok (sh, σ2)) (ht : σ2.t = s ++ [41])
    {r : Nd} {g' : Nat} {fo : Bool} (hr : parse (N + 4) t = .ok (r, g', fo)) : fo = false ∧ ∃ nd', r = wrap sh nd' ∧ Lk nd nd' := by
  obtain ⟨bk, hR⟩ := read_of h
  have hb : begins t = { pos := 0, t := t, g := 0, bk := [] } := by unfold begins; rw [hf]; rfl
  unfold parse at hr
  rw [if_neg (by omega), hb, run_alts, row_goes h0] at hr
  rcases paren_like hR (rest := []) rfl 0 [] _ _ h0 ho ht with ⟨nd', σ3, h3, hl, ht3⟩ | ⟨e, h3⟩
  · rw [h3] at hr
    simp only at hr
    rw [row_ends (.inl ht3)] at hr
    simp only at hr
    rw [if_neg (by rw [ht3]; decide)] at hr
    have := (ended_root hr).1
    exact ⟨(ended_root hr).2.2.trans hf, nd', this, hl⟩
  · rw [h3] at hr
    cases hr
theorem opens_group (σ : St) (u : List UInt8) (ht : σ.t = 40 :: 63 :: 58 :: u) : opening σ = .ok ((0, 0, 0), σ.adv 3) := by
  unfold opening; rw [if_pos (by rw [ht]; rfl)]
/-- Two patterns, one behind the other. -/
theorem cat_like {N : Nat} {a b : List UInt8} {x y : Nd} {g1 g2 : Nat} (ha : parse (N + 1) a = .ok (x, g1, false)) (hb : parse N b = .ok (y, g2, false)) (la : a.length ≤ 100) (lb : b.length ≤ 100)
    {r : Nd} {g' : Nat} {fo : Bool} (hr : parse (N + 5) (40 :: 63 :: 58 :: (a ++ 41 :: 40 :: 63 :: 58 :: (b ++ [41]))) = .ok (r, g', fo)) : ∃ x' y', r = catN [x', y'] ∧ Lk x x' ∧ Lk y y' := by
  obtain ⟨bk, hR⟩ := read_of ha
  obtain ⟨bk', hR'⟩ := read_of hb
  obtain ⟨t, htt⟩ : ∃ t, t = (40 :: 63 :: 58 :: (a ++ 41 :: 40 :: 63 :: 58 :: (b ++ [41]))) := ⟨_, rfl⟩
  have hf : foldAt t = false := by rw [htt]; simp [foldAt, pre, List.isPrefixOf]
  have hbg : begins t = { pos := 0, t := t, g := 0, bk := [] } := by unfold begins; rw [hf]; rfl
  have h40 : at_ (St.mk 0 t 0 []).t 0 = 40 := by rw [htt]; rfl
  have hlt : ¬ 256 < t.length := by rw [htt]; simp; omega
  rw [← htt] at hr
  unfold parse at hr
  rw [if_neg hlt, hbg, run_alts, row_goes h40] at hr
  rcases paren_like hR (rest := (40 :: 63 :: 58 :: (b ++ [41]))) rfl 0 [] { pos := 0, t := t, g := 0, bk := [] } _ h40 (opens_group _ _ htt) (by simp [St.adv, htt]) with ⟨x', σ3, h3, hx, ht⟩ | ⟨e, h3⟩
  · rw [h3] at hr
    simp only at hr
    rw [row_goes (by rw [ht]; rfl)] at hr
    rcases paren_like hR' (rest := []) rfl 0 [] σ3 _ (by rw [ht]; rfl) (opens_group _ _ ht) (by simp [St.adv, ht]) with ⟨y', σ4, h4, hy, ht4⟩ | ⟨e, h4⟩
    · rw [h4] at hr
      simp only at hr
      rw [row_ends (.inl ht4)] at hr
      simp only at hr
      rw [if_neg (by rw [ht4]; decide)] at hr
      exact ⟨x', y', (ended_root hr).1, hx, hy⟩
    · rw [h4] at hr
      cases hr
  · rw [h3] at hr
    cases hr
/-- Two patterns with a bar between. -/
theorem alt_like {N : Nat} {a b : List UInt8} {x y : Nd} {g1 g2 : Nat} (ha : parse (N + 1) a = .ok (x, g1, false)) (hb : parse N b = .ok (y, g2, false)) (la : a.length ≤ 100) (lb : b.length ≤ 100)
    {r : Nd} {g' : Nat} {fo : Bool} (hr : parse (N + 5) (40 :: 63 :: 58 :: (a ++ 41 :: 124 :: 40 :: 63 :: 58 :: (b ++ [41]))) = .ok (r, g', fo)) : ∃ x' y', r = altN [x', y'] ∧ Lk x x' ∧ Lk y y' := by
  obtain ⟨bk, hR⟩ := read_of ha
  obtain ⟨bk', hR'⟩ := read_of hb
  obtain ⟨t, htt⟩ : ∃ t, t = (40 :: 63 :: 58 :: (a ++ 41 :: 124 :: 40 :: 63 :: 58 :: (b ++ [41]))) := ⟨_, rfl⟩
  have hf : foldAt t = false := by rw [htt]; simp [foldAt, pre, List.isPrefixOf]
  have hbg : begins t = { pos := 0, t := t, g := 0, bk := [] } := by unfold begins; rw [hf]; rfl
  have h40 : at_ (St.mk 0 t 0 []).t 0 = 40 := by rw [htt]; rfl
  have hlt : ¬ 256 < t.length := by rw [htt]; simp; omega
  rw [← htt] at hr
  unfold parse at hr
  rw [if_neg hlt, hbg, run_alts, row_goes h40] at hr
  rcases paren_like hR (rest := (124 :: 40 :: 63 :: 58 :: (b ++ [41]))) rfl 0 [] { pos := 0, t := t, g := 0, bk := [] } _ h40 (opens_group _ _ htt) (by simp [St.adv, htt]) with ⟨x', σ3, h3, hx, ht⟩ | ⟨e, h3⟩
  · rw [h3] at hr
    simp only at hr
    rw [row_ends (.inr (by rw [ht]; rfl))] at hr
    simp only at hr
    have h1 : (σ3.adv 1).t = 40 :: 63 :: 58 :: (b ++ [41]) := by simp [St.adv, ht]
    rw [if_pos (by rw [ht]; rfl), run_alts, row_goes (by rw [h1]; rfl)] at hr
    rcases paren_like hR' (rest := []) rfl 0 [] (σ3.adv 1) _ (by rw [h1]; rfl) (opens_group _ _ h1) (by simp [St.adv, ht]) with ⟨y', σ4, h4, hy, ht4⟩ | ⟨e, h4⟩
    · rw [h4] at hr
      simp only at hr
      rw [row_ends (.inl ht4)] at hr
      simp only at hr
      rw [if_neg (by rw [ht4]; decide)] at hr
      exact ⟨x', y', (ended_root hr).1, hx, hy⟩
    · rw [h4] at hr
      cases hr
  · rw [h3] at hr
    cases hr

end Go.Proofs.YtefgobmpleoafaaGreatDoor

/- Looks behind that are bounded; a pattern's verdict; repeats within repeats. Of no program. -/
namespace Go.Proofs.YtefgobmpleoafaaGreatDoor
open Go.Proofs.YtefgobmpleoafaaGreatDoor.Cl

/-- Whether a node, of kids with these greatest widths, is no look behind that is too wide. -/
def boundF (k m : Int) (l : List Int) : Bool := !(decide (k = 7 ∧ 2 ≤ m) && decide (hd l < 0 ∨ 32 < hd l))
mutual
def bounded : Nd → Bool
  | .mk k _ _ m _ _ kids => boundF k m (mosts kids) && boundeds kids
def boundeds : List Nd → Bool
  | [] => true
  | x :: l => bounded x && boundeds l
end
theorem boundeds_all (l : List Nd) : boundeds l = l.all bounded := by induction l with | nil => rfl | cons x l ih => simp [boundeds, ih]
theorem bounded_eq (k lo hi m r : Int) (s : List Rg) (l : List Nd) : bounded (.mk k lo hi m r s l) = (boundF k m (l.map most) && l.all bounded) := by rw [bounded, mosts_map, boundeds_all]
/-- A pattern's verdict. -/
def verdictN (nd : Nd) : Nat := if bounded nd then (if 2000 < ndSize nd + 3 then 28 else 0) else 27

theorem all_like {f : Nd → Bool} {l l' : List Nd} (hl : l.length = l'.length) (h : ∀ (i : Nat) (x y : Nd), l[i]? = some x → l'[i]? = some y → f x = f y) : l.all f = l'.all f := by
  have e := map_like hl h
  have := congrArg (fun z : List Bool => z.all id) e
  simpa [List.all_map] using this
theorem like_bounded {x x' : Nd} (h : Lk x x') : bounded x = bounded x' := by
  induction h with
  | mk hl hk ih =>
    rw [bounded_eq, bounded_eq, all_like hl ih, map_like hl (fun i x y hx hy => (like_same (hk i x y hx hy)).2.1)]
theorem like_verdict {x x' : Nd} (h : Lk x x') : verdictN x = verdictN x' := by
  unfold verdictN
  rw [like_bounded h, (like_same h).2.2]

/-- A node of one kid. -/
theorem one_widths {k m r : Int} {x : Nd} (hk : k = 5 ∨ k = 7 ∨ k = 8) : least (.mk k 0 0 m r [] [x]) = (if k = 7 then 0 else capF (least x)) ∧ most (.mk k 0 0 m r [] [x]) = (if k = 7 then 0 else most x) ∧ ndSize (.mk k 0 0 m r [] [x]) = min (ndSize x + 2) far := by
  rw [least_eq, most_eq, ndSize_eq]
  rcases hk with rfl | rfl | rfl
  · simp [leastF, mostF, sizeF, hd, cap_min, far]
  · simp [leastF, mostF, sizeF, hd, cap_min, far]
    omega
  · simp [leastF, mostF, sizeF, hd, cap_min, far]
theorem one_bounded {k m r : Int} {x : Nd} : bounded (.mk k 0 0 m r [] [x]) = (!(decide (k = 7 ∧ 2 ≤ m) && decide (most x < 0 ∨ 32 < most x)) && bounded x) := by
  rw [bounded_eq]; simp [boundF, hd]

/-! ### Repeats within repeats -/
/-- The text of repeats within repeats, the outermost number first. -/
def deepT : List Nat → List UInt8
  | [] => [97]
  | n :: l => 40 :: 63 :: 58 :: (deepT l ++ 41 :: 123 :: (dd n ++ [125]))
def deepN : List Nat → Nd
  | [] => setN [((97 : Int), (97 : Int))]
  | n :: l => repN (n : Int) (n : Int) 0 (deepN l)
theorem deep_len (l : List Nat) : (deepT l).length = 1 + 8 * l.length := by
  induction l with
  | nil => rfl
  | cons n l ih => simp [deepT, ih, dd]; omega
theorem braces_one {σ : St} {n : Nat} {r : List UInt8} (hn : n ≤ 64) (ht : σ.t = 123 :: (dd n ++ 125 :: r)) : ∃ σ1, braces σ = some (((n : Int), (n : Int)), σ1) ∧ σ1.t = r ∧ σ1.g = σ.g ∧ σ1.bk = σ.bk := by
  have h1 : (σ.adv 1).t = dd n ++ 125 :: r := by simp [St.adv, ht]
  obtain ⟨n1, n2, n3⟩ := dd_num n (by omega) (125 :: r)
  have h2 : ((σ.adv 1).adv 2).t = 125 :: r := adv_dd h1
  unfold braces
  rw [h1, n1, n2, n3, h2, if_pos (by simpa using hn), if_neg (by simp [pre, List.isPrefixOf]), if_neg (by show ¬ (125 : Nat) = 44; decide), if_pos (by rfl)]
  refine ⟨_, rfl, ?_, rfl, rfl⟩
  have : (((σ.adv 1).adv 2).adv 1).t = ((σ.adv 1).adv 2).t.drop 1 := rfl
  rw [this, h2]; rfl
theorem deep_first (l : List Nat) (r : List UInt8) : at_ (deepT l ++ r) 0 = 97 ∨ at_ (deepT l ++ r) 0 = 40 := by
  cases l with
  | nil => left; rfl
  | cons n l => right; rfl
theorem deep_run : ∀ (l : List Nat) (n d : Nat) (acc : List Nd) (σ : St) (rest : List UInt8), (∀ x ∈ l, x ≤ 64) → d + l.length ≤ 32 → isQ (at_ rest 0) = false → at_ rest 0 ≠ 63 → at_ rest 0 ≠ 43 → σ.t = deepT l ++ rest →
    ∃ σ1, run (n + 4 * l.length + 2) 2 d acc σ = .ok (deepN l, σ1) ∧ σ1.t = rest ∧ σ1.g = σ.g ∧ σ1.bk = σ.bk
  | [], n, d, acc, σ, rest, _, _, hq, _, _, ht => by
    have h0 : at_ σ.t 0 = 97 := by rw [ht]; rfl
    have ha := atomP_plain σ 97 ⟨by omega, by omega⟩ (by decide) rest (by rw [ht]; rfl)
    have hl : (encN 97).length = 1 := by decide
    rw [hl] at ha
    refine ⟨σ.adv 1, ?_, by simp [St.adv, ht, deepT], rfl, rfl⟩
    have e : n + 4 * ([] : List Nat).length + 2 = (n + 1) + 1 := by simp
    rw [e, run_quant, if_neg (by omega), ha]
    have hr : (σ.adv 1).t = rest := by simp [St.adv, ht, deepT]
    unfold quantRest
    simp only [hr, hq]
    rfl
  | k :: l, n, d, acc, σ, rest, hk, hd, hq, hm1, hm2, ht => by
    have hk0 := hk k (by simp)
    simp only [List.length_cons] at hd
    have h0 : at_ σ.t 0 = 40 := by rw [ht]; rfl
    have ht' : σ.t = 40 :: 63 :: 58 :: (deepT l ++ 41 :: 123 :: (dd k ++ 125 :: rest)) := by rw [ht]; simp [deepT]
    have hp : pre [40, 63, 58] σ.t = true := by rw [ht']; rfl
    have ha : (σ.adv 3).t = deepT l ++ 41 :: 123 :: (dd k ++ 125 :: rest) := by simp [St.adv, ht']
    have hr41 : at_ (41 :: 123 :: (dd k ++ 125 :: rest)) 0 = 41 := rfl
    obtain ⟨σ1, h1, t1, g1, b1⟩ := deep_run l n (d + 1) [] (σ.adv 3) (41 :: 123 :: (dd k ++ 125 :: rest)) (fun x hx => hk x (by simp [hx])) (by omega) (by rw [hr41]; decide) (by omega) (by omega) ha
    have e : n + 4 * (k :: l).length + 2 = (n + 4 * l.length + 2) + 1 + 1 + 1 + 1 := by simp; omega
    have hne : ¬ ((σ.adv 3).t.isEmpty || decide (at_ (σ.adv 3).t 0 = 124 ∨ at_ (σ.adv 3).t 0 = 41)) = true := by
      rw [ha]
      have hf := deep_first l (41 :: 123 :: (dd k ++ 125 :: rest))
      simp only [Bool.or_eq_true, List.isEmpty_iff, decide_eq_true_eq]
      rintro (h | h | h)
      · have := at_ne (t := deepT l ++ 41 :: 123 :: (dd k ++ 125 :: rest)) (by omega)
        exact this h
      · omega
      · omega
    have h41 : at_ σ1.t 0 = 41 := by rw [t1]; rfl
    have hrow : run (n + 4 * l.length + 2 + 1) 1 (d + 1) [] (σ.adv 3) = .ok (deepN l, σ1) := by
      rw [run_row, if_neg hne, h1]
      simp only
      have e2 : n + 4 * l.length + 2 = (n + 4 * l.length + 1) + 1 := by omega
      rw [e2, run_row, if_pos (by simp [h41])]
      rfl
    have halt : run (n + 4 * l.length + 2 + 1 + 1) 0 (d + 1) [] (σ.adv 3) = .ok (deepN l, σ1) := by
      rw [run_alts, hrow]
      simp only
      rw [if_neg (by omega)]
      rfl
    have hpar : run (n + 4 * l.length + 2 + 1 + 1 + 1) 3 d [] σ = .ok (deepN l, σ1.adv 1) := by
      rw [run_paren, if_neg (by omega), opens_group _ _ ht']
      simp only
      rw [halt]
      simp only
      rw [if_pos h41]
      rfl
    have t2 : (σ1.adv 1).t = 123 :: (dd k ++ 125 :: rest) := by simp [St.adv, t1]
    obtain ⟨σ2, hb, tb, gb, bb⟩ := braces_one (σ := σ1.adv 1) hk0 t2
    refine ⟨σ2, ?_, tb, gb.trans g1, bb.trans b1⟩
    rw [e, run_quant, if_pos h0, hpar, hp]
    have h123 : at_ (σ1.adv 1).t 0 = 123 := by rw [t2]; rfl
    have hmode : modeOf σ2.t = 0 := by
      unfold modeOf
      rw [tb, if_neg hm1, if_neg hm2]
    have htimes : times (σ1.adv 1) = some (((k : Int), (k : Int)), σ2) := by
      unfold times
      rw [h123, if_neg (by decide), if_neg (by decide), if_neg (by decide), hb]
    simp only [quantRest, h123, htimes, behindMode, hmode]
    rfl
/-- Repeats within repeats are read. -/
theorem parse_deep (n : Nat) (l : List Nat) (hl : l.length ≤ 25) (hk : ∀ x ∈ l, x ≤ 64) : parse (n + 4 * l.length + 4) (deepT l) = .ok (deepN l, 0, false) := by
  have hlen := deep_len l
  have hf : foldAt (deepT l) = false := by
    cases l with
    | nil => rfl
    | cons n l => simp [deepT, foldAt, pre, List.isPrefixOf]
  have hb : begins (deepT l) = { pos := 0, t := deepT l, g := 0, bk := [] } := by unfold begins; rw [hf]; rfl
  obtain ⟨σ1, h1, t1, g1, b1⟩ := deep_run l n 0 [] { pos := 0, t := deepT l, g := 0, bk := [] } [] hk (by omega) (by decide) (by decide) (by decide) (by simp)
  have hfirst := deep_first l []
  rw [List.append_nil] at hfirst
  have hrow : run (n + 4 * l.length + 3) 1 0 [] { pos := 0, t := deepT l, g := 0, bk := [] } = .ok (deepN l, σ1) := by
    rw [run_row, if_neg (by
      simp only [Bool.or_eq_true, List.isEmpty_iff, decide_eq_true_eq]
      rintro (h | h | h)
      · exact at_ne (t := deepT l) (by omega) h
      · omega
      · omega), h1]
    simp only
    rw [row_ends (.inl t1)]
    rfl
  unfold parse
  rw [if_neg (by omega), hb, run_alts, hrow]
  simp only
  rw [if_neg (by rw [t1]; decide), hf]
  exact ended_ok t1 g1 (by rw [b1]; simp)

/-- The number of units that repeats within repeats come to, at most far. -/
def deepW : List Nat → Int
  | [] => 1
  | n :: l => min (deepW l * (n : Int)) far
theorem deepW_range (l : List Nat) : 0 ≤ deepW l ∧ deepW l ≤ far := by
  induction l with
  | nil => simp [deepW, far]
  | cons n l ih =>
    simp only [deepW]
    have : 0 ≤ deepW l * (n : Int) := Int.mul_nonneg ih.1 (by omega)
    omega
theorem deep_widths (l : List Nat) : least (deepN l) = deepW l ∧ ndSize (deepN l) = deepW l ∧ (most (deepN l) = deepW l ∨ most (deepN l) < 0) ∧ bounded (deepN l) = true := by
  induction l with
  | nil => simp [deepN, setN, deepW, least_eq, ndSize_eq, most_eq, bounded_eq, leastF, mostF, sizeF, boundF, capF, far]
  | cons n l ih =>
    obtain ⟨h1, h2, h3, h4⟩ := ih
    have hr := deepW_range l
    have hc : (n : Int) * deepW l = deepW l * (n : Int) := Int.mul_comm _ _
    have hp : 0 ≤ deepW l * (n : Int) := Int.mul_nonneg hr.1 (by omega)
    refine ⟨?_, ?_, ?_, ?_⟩
    · unfold deepN repN
      rw [least_eq]
      simp [leastF, hd, h1, cap_min, deepW, hc]
    · unfold deepN repN
      rw [ndSize_eq]
      simp [sizeF, hd, h2, cap_min, deepW, hc]
      omega
    · unfold deepN repN
      rw [most_eq]
      simp only [mostF, hd, List.map_cons, List.map_nil, List.headD_cons, deepW]
      rw [if_neg (by decide), if_neg (by decide), if_neg (by decide), if_pos trivial]
      rcases h3 with h3 | h3
      · rw [h3]
        by_cases c1 : deepW l = 0 ∨ (n : Int) = 0
        · rw [if_pos c1]
          left
          have : deepW l * (n : Int) = 0 := by
            rcases c1 with c | c
            · rw [c, Int.zero_mul]
            · rw [c, Int.mul_zero]
          rw [this]
          simp only [far]
          omega
        · rw [if_neg c1, if_neg (by omega), hc]
          unfold capE
          split
          · right; omega
          · left; omega
      · by_cases c1 : most (deepN l) = 0 ∨ (n : Int) = 0
        · rw [if_pos c1]
          left
          have : (n : Int) = 0 := by omega
          rw [this, Int.mul_zero]
          simp only [far]
          omega
        · rw [if_neg c1, if_pos (by omega)]
          right; omega
    · unfold deepN repN
      rw [bounded_eq]
      simp [boundF, h4]

end Go.Proofs.YtefgobmpleoafaaGreatDoor

/- Widths and sizes of rows and of alternatives, kid by kid. Of no program. -/
namespace Go.Proofs.YtefgobmpleoafaaGreatDoor
open Go.Proofs.YtefgobmpleoafaaGreatDoor.Cl

def loSum (l : List Nd) : Int := capF (l.map least).sum
def hiSum (l : List Nd) : Int := if endless (l.map most) then -1 else capE (l.map most).sum
def szSum (l : List Nd) : Int := capF (l.map ndSize).sum
def loMin (l : List Nd) : Int := lowest (l.map least)
def hiMax (l : List Nd) : Int := if endless (l.map most) then -1 else highest (l.map most)
def addE (a b : Int) : Int := if a = -1 ∨ b = -1 then -1 else capE (a + b)
def maxE (a b : Int) : Int := if a = -1 ∨ b = -1 then -1 else max a b
def mulE (m x : Int) : Int := if m = 0 ∨ x = 0 then 0 else if m = -1 ∨ x = -1 then -1 else capE (m * x)

theorem capF_id {x : Int} (h : x ≤ far) : capF x = x := by unfold capF; rw [if_neg (by omega)]
theorem endless_one {x : Int} (h : -1 ≤ x) : endless [x] = decide (x = -1) := by
  unfold endless
  simp only [List.any_cons, List.any_nil, Bool.or_false, decide_eq_decide]
  omega
theorem endless_app (a b : List Int) : endless (a ++ b) = (endless a || endless b) := by simp [endless]

theorem loSum_nil : loSum [] = 0 := rfl
theorem hiSum_nil : hiSum [] = 0 := rfl
theorem szSum_nil : szSum [] = 0 := rfl
theorem sum_snoc (f : Nd → Int) (l : List Nd) (x : Nd) : ((l ++ [x]).map f).sum = (l.map f).sum + f x := by simp
theorem leasts_nonneg {l : List Nd} (h : ∀ x ∈ l, Wf x) : 0 ≤ (l.map least).sum := sum_nonneg (by
  intro y hy
  obtain ⟨z, hz, rfl⟩ := List.mem_map.1 hy
  exact (least_range (h z hz)).1)
theorem sizes_nonneg {l : List Nd} (h : ∀ x ∈ l, Wf x) : 0 ≤ (l.map ndSize).sum := sum_nonneg (by
  intro y hy
  obtain ⟨z, hz, rfl⟩ := List.mem_map.1 hy
  exact (ndSize_range (h z hz)).1)
theorem loSum_range {l : List Nd} (h : ∀ x ∈ l, Wf x) : 0 ≤ loSum l ∧ loSum l ≤ far := ⟨(cap_range (leasts_nonneg h)).1, (cap_range (leasts_nonneg h)).2.1⟩
theorem szSum_range {l : List Nd} (h : ∀ x ∈ l, Wf x) : 0 ≤ szSum l ∧ szSum l ≤ far := ⟨(cap_range (sizes_nonneg h)).1, (cap_range (sizes_nonneg h)).2.1⟩
theorem loSum_snoc {l : List Nd} {x : Nd} (h : ∀ y ∈ l, Wf y) (hx : Wf x) : loSum (l ++ [x]) = capF (loSum l + least x) := by
  have h0 := leasts_nonneg h
  have h1 := (least_range hx).1
  unfold loSum
  rw [sum_snoc]
  unfold capF far
  split <;> split <;> (try split) <;> omega
theorem szSum_snoc {l : List Nd} {x : Nd} (h : ∀ y ∈ l, Wf y) (hx : Wf x) : szSum (l ++ [x]) = capF (szSum l + ndSize x) := by
  have h0 := sizes_nonneg h
  have h1 := (ndSize_range hx).1
  unfold szSum
  rw [sum_snoc]
  unfold capF far
  split <;> split <;> (try split) <;> omega
theorem mosts_nonneg {l : List Nd} (h : endless (l.map most) = false) : 0 ≤ (l.map most).sum := sum_nonneg (not_endless h)
theorem hiSum_range {l : List Nd} : -1 ≤ hiSum l ∧ hiSum l ≤ far := by
  unfold hiSum
  split
  · simp [far]
  · rename_i h
    exact capE_range (mosts_nonneg (by simpa using h))
theorem hiSum_snoc {l : List Nd} {x : Nd} (hx : Wf x) : hiSum (l ++ [x]) = addE (hiSum l) (most x) := by
  have h1 := most_range hx
  unfold hiSum addE
  rw [sum_snoc]
  have e : endless ((l ++ [x]).map most) = (endless (l.map most) || decide (most x = -1)) := by
    rw [List.map_append, endless_app]
    congr 1
    exact endless_one h1.1
  rw [e]
  cases h : endless (l.map most) with
  | true => simp
  | false =>
    have h0 := mosts_nonneg h
    by_cases hm : most x = -1
    · simp [hm]
    · simp only [Bool.false_or, hm, decide_false, Bool.false_eq_true, if_false, or_false]
      unfold capE far
      split <;> split <;> (try split) <;> omega
theorem loMin_one {x : Nd} (hx : Wf x) : loMin [x] = least x := by
  have := (least_range hx).2
  simp [loMin, lowest]
  omega
theorem lowest_app (a b : List Int) : lowest (a ++ b) = min (lowest a) (lowest b) := by
  induction a with
  | nil =>
    simp only [List.nil_append, lowest]
    have : lowest b ≤ far := by
      induction b with
      | nil => exact Int.le_refl _
      | cons x b ih => simp only [lowest]; omega
    omega
  | cons x a ih => simp only [List.cons_append, lowest, ih]; omega
theorem loMin_snoc {l : List Nd} {x : Nd} (hx : Wf x) : loMin (l ++ [x]) = min (loMin l) (least x) := by
  have := loMin_one hx
  unfold loMin at this ⊢
  rw [List.map_append, lowest_app, this]
theorem highest_app (a b : List Int) : highest (a ++ b) = max (highest a) (highest b) := by
  induction a with
  | nil =>
    simp only [List.nil_append, highest]
    have := (highest_range (l := b)).1
    omega
  | cons x a ih => simp only [List.cons_append, highest, ih]; omega
theorem hiMax_one {x : Nd} (hx : Wf x) : hiMax [x] = most x := by
  have := most_range hx
  have e : endless ([x].map most) = decide (most x = -1) := endless_one this.1
  unfold hiMax
  rw [e]
  by_cases hm : most x = -1
  · simp [hm]
  · simp [hm, highest]
    omega
theorem hiMax_snoc {l : List Nd} {x : Nd} (hx : Wf x) : hiMax (l ++ [x]) = maxE (hiMax l) (most x) := by
  have h1 := most_range hx
  unfold hiMax maxE
  have e : endless ((l ++ [x]).map most) = (endless (l.map most) || decide (most x = -1)) := by
    rw [List.map_append, endless_app]
    congr 1
    exact endless_one h1.1
  rw [e, List.map_append, highest_app]
  cases h : endless (l.map most) with
  | true => simp
  | false =>
    have h0 := (highest_range (l := l.map most)).1
    by_cases hm : most x = -1
    · simp [hm]
    · simp only [Bool.false_or, hm, decide_false, Bool.false_eq_true, if_false, or_false]
      rw [if_neg (by omega)]
      simp [highest]
      omega
theorem loSum_one {x : Nd} (hx : Wf x) : loSum [x] = least x := by
  have := (least_range hx).2
  simp [loSum]
  exact capF_id this
theorem szSum_one {x : Nd} (hx : Wf x) : szSum [x] = ndSize x := by
  have := (ndSize_range hx).2
  simp [szSum]
  exact capF_id this
theorem hiSum_one {x : Nd} (hx : Wf x) : hiSum [x] = most x := by
  have := most_range hx
  have e : endless ([x].map most) = decide (most x = -1) := endless_one this.1
  unfold hiSum
  rw [e]
  by_cases hm : most x = -1
  · simp [hm]
  · simp [hm, capE]
    omega
theorem loMin_range {l : List Nd} (h : ∀ x ∈ l, Wf x) : 0 ≤ loMin l ∧ loMin l ≤ far := by
  have := lowest_range (l := l.map least) (by
    intro y hy
    obtain ⟨z, hz, rfl⟩ := List.mem_map.1 hy
    exact (least_range (h z hz)).1)
  exact ⟨this.1, this.2.1⟩
theorem hiMax_range {l : List Nd} (h : ∀ x ∈ l, Wf x) : -1 ≤ hiMax l ∧ hiMax l ≤ far := by
  unfold hiMax
  split
  · simp [far]
  · have := (highest_range (l := l.map most)).1
    have := highest_le (l := l.map most) (b := far) (by simp [far]) (by
      intro y hy
      obtain ⟨z, hz, rfl⟩ := List.mem_map.1 hy
      exact (most_range (h z hz)).2)
    omega

end Go.Proofs.YtefgobmpleoafaaGreatDoor

