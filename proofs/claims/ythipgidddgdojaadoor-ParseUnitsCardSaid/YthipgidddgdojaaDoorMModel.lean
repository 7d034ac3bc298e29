/- Joined: Pm, PmSim, PmLen, PTop, PCode, PNine, PBr. -/
import Derived.Test.YthipgidddgdojaaDoorMMath
/- Patterns, read: the reader as a function of what is left of the text. Of no program. -/
namespace Go.Proofs.YthipgidddgdojaaDoor
open Go.Proofs.YthipgidddgdojaaDoor.Cl

/-- A node. -/
inductive Nd where
  | mk (kind lo hi mode ref : Int) (set : List Rg) (kids : List Nd)
def Nd.kind : Nd → Int
  | .mk k _ _ _ _ _ _ => k

/-- What is left of a text, and where it begins; how many groups were opened; the references so far. -/
structure St where
  pos : Nat
  t : List UInt8
  g : Nat
  bk : List (Nat × Nat)
abbrev Flt := Nat × Nat
abbrev R := Except Flt (Nd × St)

def St.adv (σ : St) (n : Nat) : St := { pos := σ.pos + n, t := σ.t.drop n, g := σ.g, bk := σ.bk }
def pre (w t : List UInt8) : Bool := w.isPrefixOf t
def sign (t : List UInt8) : Nat := if at_ t 0 = 92 then at_ t 1 else 0
def dig (c : Nat) : Bool := decide (48 ≤ c ∧ c ≤ 57)
def isMark (c : Nat) : Bool := decide (33 ≤ c ∧ c ≤ 126 ∧ ¬ (65 ≤ c ∧ c ≤ 90) ∧ ¬ (97 ≤ c ∧ c ≤ 122) ∧ ¬ (48 ≤ c ∧ c ≤ 57))
def isHex (c : Nat) : Bool := decide ((48 ≤ c ∧ c ≤ 57) ∨ (97 ≤ c ∧ c ≤ 102))
def hexV (c : Nat) : Nat := if c ≤ 57 then c - 48 else c - 87
def isQ (c : Nat) : Bool := decide (c = 42 ∨ c = 43 ∨ c = 63 ∨ c = 123)

def emptyN : Nd := .mk 0 0 0 0 0 [] []
def setN (l : List Rg) : Nd := .mk 1 0 0 0 0 l []
def catN (kids : List Nd) : Nd := .mk 2 0 0 0 0 [] kids
def altN (kids : List Nd) : Nd := .mk 3 0 0 0 0 [] kids
def repN (lo hi mode : Int) (kid : Nd) : Nd := .mk 4 lo hi mode 0 [] [kid]
def backN (g : Nat) : Nd := .mk 6 0 0 0 g [] []
def edgeN (r : Int) : Nd := .mk 9 0 0 0 r [] []
def joinA : List Nd → Nd
  | [x] => x
  | l => altN l
def joinR : List Nd → Nd
  | [] => emptyN
  | [x] => x
  | l => catN l

/-- The ranges that a letter behind a backslash stands for. -/
def lowOf (c : Nat) : Option (List Rg) :=
  if c = 100 ∨ c = 68 then some [(48, 57)]
  else if c = 119 ∨ c = 87 then some [(48, 57), (65, 90), (95, 95), (97, 122)]
  else if c = 115 ∨ c = 83 then some [(9, 13), (32, 32)]
  else none
def units (c : Nat) : Option (List Rg) := if 65 ≤ c ∧ c ≤ 90 then (lowOf c).map (gaps 0) else lowOf c
def mkSet (l : List Rg) : List Rg := together (l.mergeSort fun a b => decide (a.1 ≤ b.1))

def escUnit (σ : St) : Except Flt (Nat × St) :=
  if sign σ.t = 120 then
    if σ.t.length < 4 then .error (21, σ.pos)
    else if isHex (at_ σ.t 2) && isHex (at_ σ.t 3) then .ok (16 * hexV (at_ σ.t 2) + hexV (at_ σ.t 3), σ.adv 4)
    else .error (21, σ.pos)
  else if sign σ.t = 110 then .ok (10, σ.adv 2)
  else if sign σ.t = 116 then .ok (9, σ.adv 2)
  else if sign σ.t = 114 then .ok (13, σ.adv 2)
  else if isMark (sign σ.t) then .ok (sign σ.t, σ.adv 2)
  else .error (21, σ.pos)

def mUnit (σ : St) : Except Flt (Nat × St) := if at_ σ.t 0 = 92 then escUnit σ else .ok ((nx σ.t).1, σ.adv (nx σ.t).2)
def seesUnit (t : List UInt8) : Bool := !t.isEmpty && !decide (at_ t 0 = 91 ∨ at_ t 0 = 93 ∨ at_ t 0 = 45) && (units (sign t)).isNone
def member (σ : St) : Except Flt (List Rg × St) :=
  if at_ σ.t 0 = 91 ∨ at_ σ.t 0 = 45 then .error (22, σ.pos)
  else match units (sign σ.t) with
  | some l => .ok (l, σ.adv 2)
  | none => match mUnit σ with
    | .error e => .error e
    | .ok (lo, σ1) =>
      if at_ σ1.t 0 = 45 then
        if seesUnit (σ1.adv 1).t then
          match mUnit (σ1.adv 1) with
          | .error e => .error e
          | .ok (hi, σ3) => if hi < lo then .error (22, σ.pos) else .ok ([((lo : Int), (hi : Int))], σ3)
        else .error (22, σ.pos)
      else .ok ([((lo : Int), (lo : Int))], σ1)
def members (op : Nat) (neg : Bool) : Nat → List Rg → St → Except Flt (List Rg × St)
  | 0, _, σ => .error (0, σ.pos)
  | k + 1, acc, σ =>
    if at_ σ.t 0 = 93 then
      if acc.isEmpty then .error (22, op) else .ok (if neg then gaps 0 (mkSet acc) else mkSet acc, σ.adv 1)
    else if σ.t.isEmpty then .error (22, op)
    else match member σ with
    | .error e => .error e
    | .ok (l, σ1) => members op neg k (acc ++ l) σ1
def negAt (σ : St) : Bool := decide (at_ (σ.adv 1).t 0 = 94)
def behindNeg (σ : St) : St := if negAt σ then (σ.adv 1).adv 1 else σ.adv 1
def brackets (σ : St) : R :=
  match members σ.pos (negAt σ) 300 [] (behindNeg σ) with
  | .error e => .error e
  | .ok (l, σ1) => .ok (setN l, σ1)

def refAt (σ : St) : St := { pos := σ.pos + 2, t := σ.t.drop 2, g := σ.g, bk := σ.bk ++ [(sign σ.t - 48, σ.pos)] }
def escape (σ : St) : R :=
  if sign σ.t = 98 then .ok (edgeN 2, σ.adv 2)
  else if sign σ.t = 66 then .ok (edgeN 3, σ.adv 2)
  else if 49 ≤ sign σ.t ∧ sign σ.t ≤ 57 then .ok (backN (sign σ.t - 48), refAt σ)
  else match units (sign σ.t) with
  | some l => .ok (setN l, σ.adv 2)
  | none => match escUnit σ with
    | .error e => .error e
    | .ok (u, σ1) => .ok (setN [((u : Int), (u : Int))], σ1)

def atomP (σ : St) : R :=
  if at_ σ.t 0 = 91 then brackets σ
  else if at_ σ.t 0 = 92 then escape σ
  else if isQ (at_ σ.t 0) then .error (23, σ.pos)
  else if at_ σ.t 0 = 93 ∨ at_ σ.t 0 = 125 then .error (20, σ.pos)
  else if at_ σ.t 0 = 46 then .ok (setN [(0, 9), (11, 1114367)], σ.adv 1)
  else if at_ σ.t 0 = 94 then .ok (edgeN 0, σ.adv 1)
  else if at_ σ.t 0 = 36 then .ok (edgeN 1, σ.adv 1)
  else .ok (setN [(((nx σ.t).1 : Int), ((nx σ.t).1 : Int))], σ.adv (nx σ.t).2)

/-- A number of one or two digits: it, whether it is right, and how many bytes it takes. -/
def numOf (t : List UInt8) : Nat := if dig (at_ t 0) then (if dig (at_ t 1) then 10 * (at_ t 0 - 48) + (at_ t 1 - 48) else at_ t 0 - 48) else 0
def numLen (t : List UInt8) : Nat := if dig (at_ t 0) then (if dig (at_ t 1) then 2 else 1) else 0
def numOk (t : List UInt8) : Bool := dig (at_ t 0) && decide (numOf t ≤ 64)

def braces (σ : St) : Option ((Int × Int) × St) :=
  if numOk (σ.adv 1).t then
    if pre [44, 125] ((σ.adv 1).adv (numLen (σ.adv 1).t)).t then some ((numOf (σ.adv 1).t, -1), ((σ.adv 1).adv (numLen (σ.adv 1).t)).adv 2)
    else if at_ ((σ.adv 1).adv (numLen (σ.adv 1).t)).t 0 = 44 then
      if numOk (((σ.adv 1).adv (numLen (σ.adv 1).t)).adv 1).t && decide (numOf (σ.adv 1).t ≤ numOf (((σ.adv 1).adv (numLen (σ.adv 1).t)).adv 1).t)
          && decide (at_ ((((σ.adv 1).adv (numLen (σ.adv 1).t)).adv 1).adv (numLen (((σ.adv 1).adv (numLen (σ.adv 1).t)).adv 1).t)).t 0 = 125) then
        some ((numOf (σ.adv 1).t, numOf (((σ.adv 1).adv (numLen (σ.adv 1).t)).adv 1).t), ((((σ.adv 1).adv (numLen (σ.adv 1).t)).adv 1).adv (numLen (((σ.adv 1).adv (numLen (σ.adv 1).t)).adv 1).t)).adv 1)
      else none
    else if at_ ((σ.adv 1).adv (numLen (σ.adv 1).t)).t 0 = 125 then some ((numOf (σ.adv 1).t, numOf (σ.adv 1).t), ((σ.adv 1).adv (numLen (σ.adv 1).t)).adv 1)
    else none
  else none
def times (σ : St) : Option ((Int × Int) × St) :=
  if at_ σ.t 0 = 42 then some ((0, -1), σ.adv 1)
  else if at_ σ.t 0 = 43 then some ((1, -1), σ.adv 1)
  else if at_ σ.t 0 = 63 then some ((0, 1), σ.adv 1)
  else braces σ
def modeOf (t : List UInt8) : Nat := if at_ t 0 = 63 then 1 else if at_ t 0 = 43 then 2 else 0
def behindMode (σ : St) : St := if modeOf σ.t = 0 then σ else σ.adv 1
def quantRest (grouped : Bool) (a : Nd) (σ : St) : R :=
  if isQ (at_ σ.t 0) then
    if !grouped && (decide (a.kind = 9) || decide (a.kind = 7)) then .error (23, σ.pos)
    else match times σ with
    | none => .error (23, σ.pos)
    | some ((lo, hi), σ1) => .ok (repN lo hi (modeOf σ1.t) a, behindMode σ1)
  else .ok (a, σ)

def opened (σ : St) : St := { pos := σ.pos + 1, t := σ.t.drop 1, g := σ.g + 1, bk := σ.bk }
/-- An opening parenthesis: kind, mode and number of the node that it begins. -/
def opening (σ : St) : Except Flt ((Int × Int × Int) × St) :=
  if pre [40, 63, 58] σ.t then .ok ((0, 0, 0), σ.adv 3)
  else if pre [40, 63, 61] σ.t then .ok ((7, 0, 0), σ.adv 3)
  else if pre [40, 63, 33] σ.t then .ok ((7, 1, 0), σ.adv 3)
  else if pre [40, 63, 60, 61] σ.t then .ok ((7, 2, 0), σ.adv 4)
  else if pre [40, 63, 60, 33] σ.t then .ok ((7, 3, 0), σ.adv 4)
  else if pre [40, 63, 62] σ.t then .ok ((8, 0, 0), σ.adv 3)
  else if pre [40, 63] σ.t then .error (20, σ.pos)
  else if σ.g = 9 then .error (24, σ.pos)
  else .ok ((5, 0, ((σ.g + 1 : Nat) : Int)), opened σ)
def wrap (sh : Int × Int × Int) (kid : Nd) : Nd := if sh.1 = 0 then kid else .mk sh.1 0 0 sh.2.1 sh.2.2 [] [kid]

/-- The reader: 0 alternatives (behind those that are there), 1 a row, 2 an atom with its quantifier, 3 parentheses. -/
def run : Nat → Nat → Nat → List Nd → St → R
  | 0, _, _, _, σ => .error (0, σ.pos)
  | n + 1, 0, d, acc, σ =>
    match run n 1 d [] σ with
    | .error e => .error e
    | .ok (r, σ1) => if at_ σ1.t 0 = 124 then run n 0 d (acc ++ [r]) (σ1.adv 1) else .ok (joinA (acc ++ [r]), σ1)
  | n + 1, 1, d, acc, σ =>
    if σ.t.isEmpty || decide (at_ σ.t 0 = 124 ∨ at_ σ.t 0 = 41) then .ok (joinR acc, σ)
    else match run n 2 d [] σ with
    | .error e => .error e
    | .ok (a, σ1) => run n 1 d (acc ++ [a]) σ1
  | n + 1, 2, d, _, σ =>
    match (if at_ σ.t 0 = 40 then run n 3 d [] σ else atomP σ) with
    | .error e => .error e
    | .ok (a, σ1) => quantRest (pre [40, 63, 58] σ.t) a σ1
  | n + 1, _ + 3, d, _, σ =>
    if d = 32 then .error (25, σ.pos)
    else match opening σ with
    | .error e => .error e
    | .ok (sh, σ1) =>
      match run n 0 (d + 1) [] σ1 with
      | .error e => .error e
      | .ok (kid, σ2) => if at_ σ2.t 0 = 41 then .ok (wrap sh kid, σ2.adv 1) else .error (20, σ.pos)

def foldAt (s : List UInt8) : Bool := pre [40, 63, 105, 41] s
def begins (s : List UInt8) : St := if foldAt s then { pos := 4, t := s.drop 4, g := 0, bk := [] } else { pos := 0, t := s, g := 0, bk := [] }
def ended (fold : Bool) (r : Nd) (σ : St) : Except Flt (Nd × Nat × Bool) :=
  if !σ.t.isEmpty then .error (20, σ.pos)
  else match σ.bk.find? fun b => decide (σ.g < b.1) with
  | some b => .error (26, b.2)
  | none => .ok (r, σ.g, fold)
/-- A pattern: its root, how many groups, folded or not; or its first fault. -/
def parse (n : Nat) (s : List UInt8) : Except Flt (Nd × Nat × Bool) :=
  if 256 < s.length then .error (12, 0)
  else match run n 0 0 [] (begins s) with
  | .error e => .error e
  | .ok (r, σ) => ended (foldAt s) r σ

theorem run_alts (n d : Nat) (acc : List Nd) (σ : St) : run (n + 1) 0 d acc σ = match run n 1 d [] σ with
    | .error e => .error e
    | .ok (r, σ1) => if at_ σ1.t 0 = 124 then run n 0 d (acc ++ [r]) (σ1.adv 1) else .ok (joinA (acc ++ [r]), σ1) := rfl
theorem run_row (n d : Nat) (acc : List Nd) (σ : St) : run (n + 1) 1 d acc σ = if σ.t.isEmpty || decide (at_ σ.t 0 = 124 ∨ at_ σ.t 0 = 41) then .ok (joinR acc, σ)
    else match run n 2 d [] σ with
    | .error e => .error e
    | .ok (a, σ1) => run n 1 d (acc ++ [a]) σ1 := rfl
theorem run_quant (n d : Nat) (acc : List Nd) (σ : St) : run (n + 1) 2 d acc σ = match (if at_ σ.t 0 = 40 then run n 3 d [] σ else atomP σ) with
    | .error e => .error e
    | .ok (a, σ1) => quantRest (pre [40, 63, 58] σ.t) a σ1 := rfl
theorem run_paren (n d : Nat) (acc : List Nd) (σ : St) : run (n + 1) 3 d acc σ = if d = 32 then .error (25, σ.pos)
    else match opening σ with
    | .error e => .error e
    | .ok (sh, σ1) =>
      match run n 0 (d + 1) [] σ1 with
      | .error e => .error e
      | .ok (kid, σ2) => if at_ σ2.t 0 = 41 then .ok (wrap sh kid, σ2.adv 1) else .error (20, σ.pos) := rfl

end Go.Proofs.YthipgidddgdojaaDoor

/- Patterns, read: what stands behind a closing parenthesis, and where the text begins, play no part. -/
namespace Go.Proofs.YthipgidddgdojaaDoor
open Go.Proofs.YthipgidddgdojaaDoor.Cl

/-- What may stand behind: nothing, or a closing parenthesis and what you like. -/
def Tail (q : List UInt8) : Prop := q = [] ∨ ∃ p, q = 41 :: p
theorem at_nil (i : Nat) : at_ [] i = 0 := by simp [at_]
theorem at_tail0 {q : List UInt8} (h : Tail q) : at_ q 0 = 0 ∨ at_ q 0 = 41 := by
  rcases h with rfl | ⟨p, rfl⟩
  · exact .inl (at_nil 0)
  · exact .inr rfl
theorem at_app0 {t : List UInt8} (q : List UInt8) (h : t ≠ []) : at_ (t ++ q) 0 = at_ t 0 := at_app_l (by cases t <;> simp_all)
theorem at_sim {t q : List UInt8} (h : Tail q) {c : Nat} (h0 : c ≠ 0) (h1 : c ≠ 41) : at_ (t ++ q) 0 = c ↔ at_ t 0 = c := by
  by_cases ht : t = []
  · subst ht
    rw [List.nil_append, at_nil]
    rcases at_tail0 h with e | e <;> rw [e] <;> omega
  · rw [at_app0 q ht]
theorem at_ne {t : List UInt8} (h : at_ t 0 ≠ 0) : t ≠ [] := by
  rintro rfl
  exact h (at_nil 0)
theorem len_ne {t : List UInt8} (h : t ≠ []) : 1 ≤ t.length := by cases t <;> simp_all
theorem starts_tail {q : List UInt8} (h : Tail q) : starts q := by
  unfold starts
  rcases at_tail0 h with e | e <;> rw [e] <;> omega

theorem pre_nil (t : List UInt8) : pre [] t = true := by simp [pre]
theorem pre_len {w t : List UInt8} (h : pre w t = true) : w.length ≤ t.length := by
  unfold pre at h
  exact (List.isPrefixOf_iff_prefix.1 h).length_le
theorem pre_sim (w : List UInt8) {q : List UInt8} (h : Tail q) (hw : (41 : UInt8) ∉ w) : ∀ t, pre w (t ++ q) = pre w t := by
  induction w with
  | nil => intro t; simp [pre]
  | cons a w ih =>
    intro t
    cases t with
    | nil =>
      rcases h with rfl | ⟨p, rfl⟩
      · rfl
      · have : ¬ a = 41 := fun e => hw (by simp [e])
        simp [pre, List.isPrefixOf, this]
    | cons b t =>
      have := ih (fun e => hw (List.mem_cons_of_mem _ e)) t
      simp only [pre] at this
      simp only [pre, List.cons_append, List.isPrefixOf, this]

structure Sim (γ : Nat) (B : List Nat) (q : List UInt8) (σ σ' : St) : Prop where
  ht : σ'.t = σ.t ++ q
  hg : σ'.g = σ.g + γ
  hb : σ'.bk.map (·.1) = B ++ σ.bk.map (·.1)

variable {γ δ : Nat} {B : List Nat} {q : List UInt8} {σ σ' σ1 : St}
theorem Sim.adv (h : Sim γ B q σ σ') {n : Nat} (hn : n ≤ σ.t.length) : Sim γ B q (σ.adv n) (σ'.adv n) :=
  ⟨by simp only [St.adv]; rw [h.ht, List.drop_append_of_le_length hn], h.hg, h.hb⟩
theorem Sim.at_ (h : Sim γ B q σ σ') (hq : Tail q) {c : Nat} (h0 : c ≠ 0) (h1 : c ≠ 41) : at_ σ'.t 0 = c ↔ at_ σ.t 0 = c := by rw [h.ht]; exact at_sim hq h0 h1
theorem Sim.at0 (h : Sim γ B q σ σ') (hn : σ.t ≠ []) : Go.Proofs.YthipgidddgdojaaDoor.at_ σ'.t 0 = Go.Proofs.YthipgidddgdojaaDoor.at_ σ.t 0 := by rw [h.ht]; exact at_app0 q hn
theorem Sim.pre (h : Sim γ B q σ σ') (hq : Tail q) (w : List UInt8) (hw : (41 : UInt8) ∉ w) : pre w σ'.t = pre w σ.t := by rw [h.ht]; exact pre_sim w hq hw _

theorem sign_len {t : List UInt8} (h : sign t ≠ 0) : 2 ≤ t.length ∧ at_ t 0 = 92 := by
  unfold sign at h
  split at h
  · rename_i h0
    refine ⟨?_, h0⟩
    rcases Nat.lt_or_ge t.length 2 with hl | hl
    · exact absurd (at_out (by omega)) h
    · exact hl
  · exact absurd rfl h
theorem sign_app {t : List UInt8} (q : List UInt8) (h : sign t ≠ 0) : sign (t ++ q) = sign t := by
  obtain ⟨hl, h0⟩ := sign_len h
  unfold sign
  rw [at_app_l (by omega), at_app_l (by omega)]
theorem sign_else {t : List UInt8} (h : at_ t 0 ≠ 92) : sign t = 0 := by
  unfold sign
  rw [if_neg h]
theorem units_zero : units 0 = none := by simp [units, lowOf]

theorem escUnit_sign {u : Nat} (h : escUnit σ = .ok (u, σ1)) : sign σ.t ≠ 0 := by
  intro e
  unfold escUnit at h
  rw [e] at h
  simp [isMark] at h
theorem escUnit_sim {u : Nat} (h : escUnit σ = .ok (u, σ1)) (hs : Sim γ B q σ σ') : ∃ σ1', escUnit σ' = .ok (u, σ1') ∧ Sim γ B q σ1 σ1' := by
  have hz := escUnit_sign h
  obtain ⟨hl, _⟩ := sign_len hz
  have e : sign σ'.t = sign σ.t := by rw [hs.ht]; exact sign_app q hz
  unfold escUnit at h ⊢
  rw [e]
  by_cases c1 : sign σ.t = 120
  · rw [if_pos c1] at h ⊢
    by_cases c2 : σ.t.length < 4
    · rw [if_pos c2] at h; cases h
    · rw [if_neg c2] at h
      rw [if_neg (by rw [hs.ht, List.length_append]; omega)]
      have e2 : at_ σ'.t 2 = at_ σ.t 2 := by rw [hs.ht]; exact at_app_l (by omega)
      have e3 : at_ σ'.t 3 = at_ σ.t 3 := by rw [hs.ht]; exact at_app_l (by omega)
      rw [e2, e3]
      split at h
      · rename_i c3
        rw [if_pos c3]
        injection h with h
        injection h with h1 h2
        subst h1 h2
        exact ⟨_, rfl, hs.adv (by omega)⟩
      · cases h
  · rw [if_neg c1] at h ⊢
    by_cases c2 : sign σ.t = 110
    · rw [if_pos c2] at h ⊢
      injection h with h; injection h with h1 h2; subst h1 h2
      exact ⟨_, rfl, hs.adv hl⟩
    · rw [if_neg c2] at h ⊢
      by_cases c3 : sign σ.t = 116
      · rw [if_pos c3] at h ⊢
        injection h with h; injection h with h1 h2; subst h1 h2
        exact ⟨_, rfl, hs.adv hl⟩
      · rw [if_neg c3] at h ⊢
        by_cases c4 : sign σ.t = 114
        · rw [if_pos c4] at h ⊢
          injection h with h; injection h with h1 h2; subst h1 h2
          exact ⟨_, rfl, hs.adv hl⟩
        · rw [if_neg c4] at h ⊢
          by_cases c5 : isMark (sign σ.t) = true
          · rw [if_pos c5] at h ⊢
            injection h with h; injection h with h1 h2; subst h1 h2
            exact ⟨_, rfl, hs.adv hl⟩
          · rw [if_neg c5] at h; cases h
theorem mUnit_sim {u : Nat} (h : mUnit σ = .ok (u, σ1)) (hq : Tail q) (hs : Sim γ B q σ σ') (hn : σ.t ≠ []) : ∃ σ1', mUnit σ' = .ok (u, σ1') ∧ Sim γ B q σ1 σ1' := by
  unfold mUnit at h ⊢
  rw [hs.at0 hn]
  by_cases c : at_ σ.t 0 = 92
  · rw [if_pos c] at h ⊢
    exact escUnit_sim h hs
  · rw [if_neg c] at h ⊢
    injection h with h; injection h with h1 h2; subst h1 h2
    have e : nx σ'.t = nx σ.t := by rw [hs.ht]; exact nx_app _ _ hn (starts_tail hq)
    rw [e]
    exact ⟨_, rfl, hs.adv (nx_le _ hn).2.2⟩
theorem units_some {c : Nat} {l : List Rg} (h : units c = some l) : c ≠ 0 := by
  rintro rfl
  rw [units_zero] at h
  cases h
theorem units_sim {t : List UInt8} (hq : Tail q) (h : at_ t 0 = 92 → sign t ≠ 0) : units (sign (t ++ q)) = units (sign t) := by
  by_cases c : at_ t 0 = 92
  · rw [sign_app q (h c)]
  · rw [sign_else c, sign_else (fun e => c ((at_sim hq (by omega) (by omega)).1 e))]
theorem mUnit_sign {u : Nat} (h : mUnit σ = .ok (u, σ1)) : at_ σ.t 0 = 92 → sign σ.t ≠ 0 := by
  intro c
  unfold mUnit at h
  rw [if_pos c] at h
  exact escUnit_sign h
theorem seesUnit_sim {t : List UInt8} (hq : Tail q) (h : at_ t 0 = 92 → sign t ≠ 0) (hu : seesUnit t = true) : seesUnit (t ++ q) = true := by
  have hn : t ≠ [] := by rintro rfl; simp [seesUnit] at hu
  unfold seesUnit at hu ⊢
  rw [units_sim hq h, at_app0 q hn]
  simp only [Bool.and_eq_true, Bool.not_eq_true'] at hu ⊢
  exact ⟨⟨by cases t <;> simp_all, hu.1.2⟩, hu.2⟩
theorem seesUnit_ne {t : List UInt8} (hu : seesUnit t = true) : t ≠ [] := by rintro rfl; simp [seesUnit] at hu

theorem member_sim {l : List Rg} (h : member σ = .ok (l, σ1)) (hq : Tail q) (hs : Sim γ B q σ σ') (hn : σ.t ≠ []) : ∃ σ1', member σ' = .ok (l, σ1') ∧ Sim γ B q σ1 σ1' := by
  unfold member at h ⊢
  rw [hs.at0 hn]
  split at h
  · cases h
  · rename_i c
    rw [if_neg c]
    split at h
    · rename_i l' hu
      injection h with h; injection h with h1 h2; subst h1 h2
      have hz := units_some hu
      have e : sign σ'.t = sign σ.t := by rw [hs.ht]; exact sign_app q hz
      rw [e, hu]
      exact ⟨_, rfl, hs.adv (sign_len hz).1⟩
    · rename_i hu
      split at h
      · cases h
      · rename_i lo σa hm
        have e : units (sign σ'.t) = none := by rw [hs.ht, units_sim hq (mUnit_sign hm), hu]
        rw [e]
        obtain ⟨σa', hm', hs1⟩ := mUnit_sim hm hq hs hn
        simp only [hm']
        have ei := hs1.at_ hq (c := 45) (by omega) (by omega)
        by_cases c2 : at_ σa.t 0 = 45
        · rw [if_pos c2] at h
          rw [if_pos (ei.2 c2)]
          have hs2 := hs1.adv (n := 1) (len_ne (at_ne (by omega)))
          split at h
          · rename_i hu2
            split at h
            · cases h
            · rename_i hi σb hm2
              have hu2' : seesUnit (σa'.adv 1).t = true := by rw [hs2.ht]; exact seesUnit_sim hq (mUnit_sign hm2) hu2
              rw [if_pos hu2']
              obtain ⟨σb', hm2', hs3⟩ := mUnit_sim hm2 hq hs2 (seesUnit_ne hu2)
              simp only [hm2']
              split at h
              · cases h
              · rename_i c3
                rw [if_neg c3]
                injection h with h; injection h with h1 h2; subst h1 h2
                exact ⟨_, rfl, hs3⟩
          · cases h
        · rw [if_neg c2] at h
          rw [if_neg (fun x => c2 (ei.1 x))]
          injection h with h; injection h with h1 h2; subst h1 h2
          exact ⟨_, rfl, hs1⟩
theorem members_sim {op op' : Nat} {neg : Bool} : ∀ {k : Nat} {acc l : List Rg} {σ σ' σ1 : St}, members op neg k acc σ = .ok (l, σ1) → Tail q → Sim γ B q σ σ' → ∃ σ1', members op' neg k acc σ' = .ok (l, σ1') ∧ Sim γ B q σ1 σ1'
  | 0, _, _, _, _, _, h, _, _ => by simp [members] at h
  | k + 1, acc, l, σ, σ', σ1, h, hq, hs => by
    have ei := hs.at_ hq (c := 93) (by omega) (by omega)
    unfold members at h ⊢
    by_cases c : at_ σ.t 0 = 93
    · rw [if_pos c] at h
      rw [if_pos (ei.2 c)]
      split at h
      · cases h
      · rename_i c2
        rw [if_neg c2]
        injection h with h; injection h with h1 h2; subst h1 h2
        exact ⟨_, rfl, hs.adv (len_ne (at_ne (by omega)))⟩
    · rw [if_neg c] at h
      rw [if_neg (fun x => c (ei.1 x))]
      split at h
      · cases h
      · rename_i c2
        have hn : σ.t ≠ [] := by intro e; rw [e] at c2; simp at c2
        have hn' : ¬ σ'.t.isEmpty = true := by rw [hs.ht]; cases ht : σ.t <;> simp_all
        rw [if_neg hn']
        split at h
        · cases h
        · rename_i l1 σa hm
          obtain ⟨σa', hm', hs1⟩ := member_sim hm hq hs hn
          simp only [hm']
          exact members_sim h hq hs1
theorem brackets_sim {r : Nd} (h : brackets σ = .ok (r, σ1)) (hc : at_ σ.t 0 = 91) (hq : Tail q) (hs : Sim γ B q σ σ') : ∃ σ1', brackets σ' = .ok (r, σ1') ∧ Sim γ B q σ1 σ1' := by
  have hs1 := hs.adv (n := 1) (len_ne (at_ne (by omega)))
  have ei := hs1.at_ hq (c := 94) (by omega) (by omega)
  have en : negAt σ' = negAt σ := by unfold negAt; simp only [ei]
  have hs2 : Sim γ B q (behindNeg σ) (behindNeg σ') := by
    unfold behindNeg
    rw [en]
    split
    · rename_i c
      have : at_ (σ.adv 1).t 0 = 94 := by simpa [negAt] using c
      exact hs1.adv (len_ne (at_ne (by omega)))
    · exact hs1
  unfold brackets at h ⊢
  rw [en]
  split at h
  · cases h
  · rename_i l σa hm
    obtain ⟨σa', hm', hs3⟩ := members_sim (op' := σ'.pos) hm hq hs2
    rw [hm']
    injection h with h; injection h with h1 h2; subst h1 h2
    exact ⟨_, rfl, hs3⟩

theorem escape_sim {r : Nd} (h : escape σ = .ok (r, σ1)) (hs : Sim γ B q σ σ') : ∃ σ1', escape σ' = .ok (r, σ1') ∧ Sim γ B q σ1 σ1' := by
  have hz : sign σ.t ≠ 0 := by
    intro e
    unfold escape at h
    rw [e, units_zero] at h
    simp only [show ¬ (0 : Nat) = 98 by omega, show ¬ (0 : Nat) = 66 by omega, show ¬ (49 ≤ (0 : Nat) ∧ (0 : Nat) ≤ 57) by omega, if_false] at h
    split at h
    · cases h
    · rename_i hm
      exact absurd e (escUnit_sign hm)
  obtain ⟨hl, _⟩ := sign_len hz
  have e : sign σ'.t = sign σ.t := by rw [hs.ht]; exact sign_app q hz
  have hr : Sim γ B q (refAt σ) (refAt σ') := by
    have := hs.adv hl
    refine ⟨this.ht, hs.hg, ?_⟩
    simp only [refAt, List.map_append, hs.hb, e, List.map_cons, List.map_nil, List.append_assoc]
  unfold escape at h ⊢
  rw [e]
  split at h
  · rename_i c
    rw [if_pos c]
    injection h with h; injection h with h1 h2; subst h1 h2
    exact ⟨_, rfl, hs.adv hl⟩
  · rename_i c
    rw [if_neg c]
    split at h
    · rename_i c2
      rw [if_pos c2]
      injection h with h; injection h with h1 h2; subst h1 h2
      exact ⟨_, rfl, hs.adv hl⟩
    · rename_i c2
      rw [if_neg c2]
      split at h
      · rename_i c3
        rw [if_pos c3]
        injection h with h; injection h with h1 h2; subst h1 h2
        exact ⟨_, rfl, hr⟩
      · rename_i c3
        rw [if_neg c3]
        split at h
        · rename_i l hu
          injection h with h; injection h with h1 h2; subst h1 h2
          exact ⟨_, rfl, hs.adv hl⟩
        · split at h
          · cases h
          · rename_i u σa hm
            obtain ⟨σa', hm', hs1⟩ := escUnit_sim hm hs
            rw [hm']
            injection h with h; injection h with h1 h2; subst h1 h2
            exact ⟨_, rfl, hs1⟩

theorem atomP_sim {r : Nd} (h : atomP σ = .ok (r, σ1)) (hq : Tail q) (hs : Sim γ B q σ σ') (hn : σ.t ≠ []) : ∃ σ1', atomP σ' = .ok (r, σ1') ∧ Sim γ B q σ1 σ1' := by
  have h1l := len_ne hn
  unfold atomP at h ⊢
  rw [hs.at0 hn]
  split at h
  · rename_i c
    rw [if_pos c]
    exact brackets_sim h c hq hs
  · rename_i c
    rw [if_neg c]
    split at h
    · rename_i c2
      rw [if_pos c2]
      exact escape_sim h hs
    · rename_i c2
      rw [if_neg c2]
      split at h
      · cases h
      · rename_i c3
        rw [if_neg c3]
        split at h
        · cases h
        · rename_i c4
          rw [if_neg c4]
          have e : nx σ'.t = nx σ.t := by rw [hs.ht]; exact nx_app _ _ hn (starts_tail hq)
          rw [e]
          split at h
          · rename_i c5
            rw [if_pos c5]
            injection h with h; injection h with h1 h2; subst h1 h2
            exact ⟨_, rfl, hs.adv h1l⟩
          · rename_i c5
            rw [if_neg c5]
            split at h
            · rename_i c6
              rw [if_pos c6]
              injection h with h; injection h with h1 h2; subst h1 h2
              exact ⟨_, rfl, hs.adv h1l⟩
            · rename_i c6
              rw [if_neg c6]
              split at h
              · rename_i c7
                rw [if_pos c7]
                injection h with h; injection h with h1 h2; subst h1 h2
                exact ⟨_, rfl, hs.adv h1l⟩
              · rename_i c7
                rw [if_neg c7]
                injection h with h; injection h with h1 h2; subst h1 h2
                exact ⟨_, rfl, hs.adv (nx_le _ hn).2.2⟩

theorem dig_iff (c : Nat) : dig c = true ↔ 48 ≤ c ∧ c ≤ 57 := by simp [dig]
theorem dig_no {c : Nat} (h : c < 48) : dig c = false := by simp [dig]; omega
theorem num_sim (hq : Tail q) (t : List UInt8) : numOf (t ++ q) = numOf t ∧ numLen (t ++ q) = numLen t ∧ numOk (t ++ q) = numOk t ∧ numLen t ≤ t.length := by
  have hq0 : dig (at_ q 0) = false := dig_no (by rcases at_tail0 hq with e | e <;> omega)
  match t with
  | [] =>
    have e0 : dig (at_ ([] : List UInt8) 0) = false := dig_no (by rw [at_nil]; omega)
    simp only [List.nil_append, numOk, numOf, numLen, hq0, e0, Bool.false_and]
    simp
  | [a] =>
    have e0 : at_ ([a] ++ q) 0 = at_ [a] 0 := rfl
    have e1 : at_ ([a] ++ q) 1 = at_ q 0 := by rw [at_app_r (by simp)]; rfl
    have e2 : dig (at_ [a] 1) = false := dig_no (by rw [at_out (by simp)]; omega)
    unfold numOk numOf numLen
    rw [e0, e1, hq0, e2]
    refine ⟨rfl, rfl, rfl, ?_⟩
    split <;> simp
  | a :: b :: r =>
    have e0 : at_ (a :: b :: r ++ q) 0 = at_ (a :: b :: r) 0 := rfl
    have e1 : at_ (a :: b :: r ++ q) 1 = at_ (a :: b :: r) 1 := rfl
    unfold numOk numOf numLen
    rw [e0, e1]
    refine ⟨rfl, rfl, rfl, ?_⟩
    split
    · split <;> simp
    · simp
theorem numLen_le (t : List UInt8) : numLen t ≤ t.length := (num_sim (.inl rfl) t).2.2.2
theorem Sim.num (hs : Sim γ B q σ σ') (hq : Tail q) : numOf σ'.t = numOf σ.t ∧ numLen σ'.t = numLen σ.t ∧ numOk σ'.t = numOk σ.t := by
  obtain ⟨a, b, c, _⟩ := num_sim hq σ.t
  rw [hs.ht]
  exact ⟨a, b, c⟩

theorem braces_sim {x : Int × Int} (h : braces σ = some (x, σ1)) (hc : at_ σ.t 0 ≠ 0) (hq : Tail q) (hs : Sim γ B q σ σ') : ∃ σ1', braces σ' = some (x, σ1') ∧ Sim γ B q σ1 σ1' := by
  have hs1 := hs.adv (n := 1) (len_ne (at_ne hc))
  obtain ⟨n1, n2, n3⟩ := hs1.num hq
  have hs2 := hs1.adv (numLen_le (σ.adv 1).t)
  unfold braces at h ⊢
  simp only [n1, n2, n3]
  have hs2' : Sim γ B q ((σ.adv 1).adv (numLen (σ.adv 1).t)) ((σ'.adv 1).adv (numLen (σ.adv 1).t)) := hs2
  have hp := hs2'.pre hq [44, 125] (by decide)
  have e44 := hs2'.at_ hq (c := 44) (by omega) (by omega)
  have e125 := hs2'.at_ hq (c := 125) (by omega) (by omega)
  rw [hp]
  split at h
  · rename_i c1
    rw [if_pos c1]
    split at h
    · rename_i c2
      rw [if_pos c2]
      injection h with h; injection h with h1 h2; subst h1 h2
      exact ⟨_, rfl, hs2'.adv (pre_len c2)⟩
    · rename_i c2
      rw [if_neg c2]
      split at h
      · rename_i c3
        rw [if_pos (e44.2 c3)]
        have hs3 := hs2'.adv (n := 1) (len_ne (at_ne (by omega)))
        obtain ⟨m1, m2, m3⟩ := hs3.num hq
        have hs4 := hs3.adv (numLen_le _)
        have e4 := hs4.at_ hq (c := 125) (by omega) (by omega)
        simp only [m1, m2, m3, e4]
        split at h
        · rename_i c4
          rw [if_pos c4]
          simp only [Bool.and_eq_true, decide_eq_true_eq] at c4
          injection h with h; injection h with h1 h2; subst h1 h2
          exact ⟨_, rfl, hs4.adv (len_ne (at_ne (by omega)))⟩
        · cases h
      · rename_i c3
        rw [if_neg (fun x => c3 (e44.1 x))]
        split at h
        · rename_i c4
          rw [if_pos (e125.2 c4)]
          injection h with h; injection h with h1 h2; subst h1 h2
          exact ⟨_, rfl, hs2'.adv (len_ne (at_ne (by omega)))⟩
        · cases h
  · cases h
theorem times_sim {x : Int × Int} (h : times σ = some (x, σ1)) (hn : σ.t ≠ []) (hc : at_ σ.t 0 ≠ 0) (hq : Tail q) (hs : Sim γ B q σ σ') : ∃ σ1', times σ' = some (x, σ1') ∧ Sim γ B q σ1 σ1' := by
  have h1l := len_ne hn
  unfold times at h ⊢
  rw [hs.at0 hn]
  split at h
  · rename_i c
    rw [if_pos c]
    injection h with h; injection h with h1 h2; subst h1 h2
    exact ⟨_, rfl, hs.adv h1l⟩
  · rename_i c
    rw [if_neg c]
    split at h
    · rename_i c
      rw [if_pos c]
      injection h with h; injection h with h1 h2; subst h1 h2
      exact ⟨_, rfl, hs.adv h1l⟩
    · rename_i c
      rw [if_neg c]
      split at h
      · rename_i c
        rw [if_pos c]
        injection h with h; injection h with h1 h2; subst h1 h2
        exact ⟨_, rfl, hs.adv h1l⟩
      · rename_i c
        rw [if_neg c]
        exact braces_sim h hc hq hs
theorem isQ_zero : isQ 0 = false := by decide
theorem isQ_sim (hs : Sim γ B q σ σ') (hq : Tail q) : isQ (at_ σ'.t 0) = isQ (at_ σ.t 0) := by
  by_cases hn : σ.t = []
  · rw [hs.ht, hn, List.nil_append, at_nil, isQ_zero]
    rcases at_tail0 hq with e | e <;> rw [e] <;> decide
  · rw [hs.at0 hn]
theorem mode_sim (hs : Sim γ B q σ σ') (hq : Tail q) : modeOf σ'.t = modeOf σ.t ∧ Sim γ B q (behindMode σ) (behindMode σ') := by
  have e1 := hs.at_ hq (c := 63) (by omega) (by omega)
  have e2 := hs.at_ hq (c := 43) (by omega) (by omega)
  have e : modeOf σ'.t = modeOf σ.t := by unfold modeOf; simp only [e1, e2]
  refine ⟨e, ?_⟩
  unfold behindMode
  rw [e]
  split
  · exact hs
  · rename_i c
    refine hs.adv (len_ne ?_)
    intro h0
    rw [h0] at c
    exact c (by simp [modeOf, at_nil])
theorem quantRest_sim {gr : Bool} {a r : Nd} (h : quantRest gr a σ = .ok (r, σ1)) (hq : Tail q) (hs : Sim γ B q σ σ') : ∃ σ1', quantRest gr a σ' = .ok (r, σ1') ∧ Sim γ B q σ1 σ1' := by
  unfold quantRest at h ⊢
  rw [isQ_sim hs hq]
  split at h
  · rename_i c
    rw [if_pos c]
    have hc : at_ σ.t 0 ≠ 0 := by intro e; rw [e, isQ_zero] at c; cases c
    split at h
    · cases h
    · rename_i c2
      rw [if_neg c2]
      split at h
      · cases h
      · rename_i lo hi σa ht
        obtain ⟨σa', ht', hs1⟩ := times_sim ht (at_ne hc) hc hq hs
        simp only [ht']
        obtain ⟨e, hs2⟩ := mode_sim hs1 hq
        rw [e]
        injection h with h; injection h with h1 h2; subst h1 h2
        exact ⟨_, rfl, hs2⟩
  · rename_i c
    rw [if_neg c]
    injection h with h; injection h with h1 h2; subst h1 h2
    exact ⟨_, rfl, hs⟩

theorem opening_sim {sh : Int × Int × Int} (h : opening σ = .ok (sh, σ1)) (hc : at_ σ.t 0 = 40) (hq : Tail q) (hγ : γ = 0 ∨ σ1.g = σ.g) (hs : Sim γ B q σ σ') : ∃ σ1', opening σ' = .ok (sh, σ1') ∧ Sim γ B q σ1 σ1' := by
  have h1l := len_ne (at_ne (t := σ.t) (by omega))
  unfold opening at h ⊢
  rw [hs.pre hq [40, 63, 58] (by decide), hs.pre hq [40, 63, 61] (by decide), hs.pre hq [40, 63, 33] (by decide), hs.pre hq [40, 63, 60, 61] (by decide), hs.pre hq [40, 63, 60, 33] (by decide), hs.pre hq [40, 63, 62] (by decide), hs.pre hq [40, 63] (by decide)]
  split at h
  · rename_i c
    rw [if_pos c]
    injection h with h; injection h with h1 h2; subst h1 h2
    exact ⟨_, rfl, hs.adv (pre_len c)⟩
  rename_i c
  rw [if_neg c]
  split at h
  · rename_i c
    rw [if_pos c]
    injection h with h; injection h with h1 h2; subst h1 h2
    exact ⟨_, rfl, hs.adv (pre_len c)⟩
  rename_i c
  rw [if_neg c]
  split at h
  · rename_i c
    rw [if_pos c]
    injection h with h; injection h with h1 h2; subst h1 h2
    exact ⟨_, rfl, hs.adv (pre_len c)⟩
  rename_i c
  rw [if_neg c]
  split at h
  · rename_i c
    rw [if_pos c]
    injection h with h; injection h with h1 h2; subst h1 h2
    exact ⟨_, rfl, hs.adv (pre_len c)⟩
  rename_i c
  rw [if_neg c]
  split at h
  · rename_i c
    rw [if_pos c]
    injection h with h; injection h with h1 h2; subst h1 h2
    exact ⟨_, rfl, hs.adv (pre_len c)⟩
  rename_i c
  rw [if_neg c]
  split at h
  · rename_i c
    rw [if_pos c]
    injection h with h; injection h with h1 h2; subst h1 h2
    exact ⟨_, rfl, hs.adv (pre_len c)⟩
  rename_i c
  rw [if_neg c]
  split at h
  · cases h
  rename_i c
  rw [if_neg c]
  split at h
  · cases h
  rename_i c
  injection h with h; injection h with h1 h2; subst h1 h2
  have hγ0 : γ = 0 := by
    rcases hγ with h | h
    · exact h
    · simp [opened] at h
  subst hγ0
  have eg : σ'.g = σ.g := hs.hg
  rw [eg, if_neg c]
  refine ⟨_, rfl, ?_, ?_, hs.hb⟩
  · simp only [opened]
    rw [hs.ht, List.drop_append_of_le_length h1l]
  · simp only [opened, eg, Nat.add_zero]

end Go.Proofs.YthipgidddgdojaaDoor

/- Patterns, read: the reader goes on; what it reads is right. -/
namespace Go.Proofs.YthipgidddgdojaaDoor
open Go.Proofs.YthipgidddgdojaaDoor.Cl
variable {σ σ1 : St}

theorem adv_len (σ : St) (n : Nat) : (σ.adv n).t.length = σ.t.length - n := by simp [St.adv]
theorem adv_g (σ : St) (n : Nat) : (σ.adv n).g = σ.g := rfl
theorem sign_lt (t : List UInt8) : sign t < 256 := by
  unfold sign
  split
  · exact at_lt t 1
  · omega
theorem isHex_le {c : Nat} (h : isHex c = true) : hexV c ≤ 15 := by
  simp [isHex] at h
  unfold hexV
  split <;> omega
theorem escUnit_len {u : Nat} (h : escUnit σ = .ok (u, σ1)) : σ1.t.length + 1 ≤ σ.t.length ∧ u ≤ 255 ∧ σ1.g = σ.g := by
  have hz := sign_len (escUnit_sign h)
  have hl := sign_lt σ.t
  unfold escUnit at h
  repeat' split at h
  all_goals first
    | (injection h with h; injection h with h1 h2; subst h1 h2
       simp only [adv_len, adv_g, and_true]
       first
         | omega
         | (rename_i c
            simp only [Bool.and_eq_true] at c
            have a := isHex_le c.1
            have b := isHex_le c.2
            omega))
    | cases h
theorem nx_max (t : List UInt8) (h : t ≠ []) : (nx t).1 ≤ 1114367 := by
  rcases nx_right t h with h1 | h1
  · have := h1.1
    omega
  · exact h1.2
theorem mUnit_len {u : Nat} (h : mUnit σ = .ok (u, σ1)) (hn : σ.t ≠ []) : σ1.t.length + 1 ≤ σ.t.length ∧ u ≤ 1114367 ∧ σ1.g = σ.g := by
  unfold mUnit at h
  split at h
  · have := escUnit_len h
    omega
  · injection h with h; injection h with h1 h2; subst h1 h2
    have := nx_le σ.t hn
    have := nx_max σ.t hn
    simp only [adv_len, adv_g, and_true]
    omega
theorem lowOf_ok {c : Nat} {l : List Rg} (h : lowOf c = some l) : Norm l ∧ l.length ≤ 4 := by
  unfold lowOf at h
  repeat' split at h
  all_goals first
    | (injection h with h; subst h; simp [Norm, Rt])
    | cases h
theorem units_ok {c : Nat} {l : List Rg} (h : units c = some l) : (∀ r ∈ l, Rt r) ∧ l.length ≤ 5 := by
  unfold units at h
  split at h
  · obtain ⟨l', hl, rfl⟩ := Option.map_eq_some_iff.1 h
    obtain ⟨h1, h2⟩ := lowOf_ok hl
    have h3 := gaps_len l' 0
    exact ⟨(gaps_ok l' 0 (by omega) h1 (fun r hr => (h1.1 r hr).1)).1.1, by omega⟩
  · obtain ⟨h1, h2⟩ := lowOf_ok h
    exact ⟨h1.1, by omega⟩
theorem member_len {l : List Rg} (h : member σ = .ok (l, σ1)) (hn : σ.t ≠ []) : σ1.t.length + 1 ≤ σ.t.length ∧ (∀ r ∈ l, Rt r) ∧ l.length ≤ 5 ∧ σ1.g = σ.g := by
  unfold member at h
  split at h
  · cases h
  split at h
  · rename_i l' hu
    injection h with h; injection h with h1 h2; subst h1 h2
    have := (sign_len (units_some hu)).1
    obtain ⟨a, b⟩ := units_ok hu
    exact ⟨by rw [adv_len]; omega, a, b, rfl⟩
  · split at h
    · cases h
    · rename_i lo σa hm
      obtain ⟨a1, a2, a3⟩ := mUnit_len hm hn
      split at h
      · rename_i c
        split at h
        · rename_i hs
          split at h
          · cases h
          · rename_i hi σb hm2
            obtain ⟨b1, b2, b3⟩ := mUnit_len hm2 (seesUnit_ne hs)
            rw [adv_len] at b1
            rw [adv_g] at b3
            split at h
            · cases h
            · injection h with h; injection h with h1 h2; subst h1 h2
              refine ⟨by omega, ?_, by simp, by omega⟩
              intro r hr
              obtain rfl := List.mem_singleton.1 hr
              unfold Rt
              simp only
              omega
        · cases h
      · injection h with h; injection h with h1 h2; subst h1 h2
        refine ⟨by omega, ?_, by simp, a3⟩
        intro r hr
        obtain rfl := List.mem_singleton.1 hr
        unfold Rt
        simp only
        omega
theorem members_len {op : Nat} {neg : Bool} : ∀ {k : Nat} {acc l : List Rg} {σ σ1 : St}, members op neg k acc σ = .ok (l, σ1) → σ1.t.length + 1 ≤ σ.t.length ∧ σ1.g = σ.g
  | 0, _, _, _, _, h => by simp [members] at h
  | k + 1, acc, l, σ, σ1, h => by
    unfold members at h
    split at h
    · rename_i c
      have := len_ne (at_ne (t := σ.t) (by omega))
      split at h
      · cases h
      · injection h with h; injection h with h1 h2; subst h1 h2
        exact ⟨by rw [adv_len]; omega, rfl⟩
    · split at h
      · cases h
      · rename_i c2
        have hn : σ.t ≠ [] := by intro e; rw [e] at c2; simp at c2
        split at h
        · cases h
        · rename_i l1 σa hm
          have h1 := member_len hm hn
          have h2 := members_len h
          omega
theorem brackets_len {r : Nd} (h : brackets σ = .ok (r, σ1)) (hc : at_ σ.t 0 = 91) : σ1.t.length + 1 ≤ σ.t.length ∧ σ1.g = σ.g := by
  have h0 := len_ne (at_ne (t := σ.t) (by omega))
  unfold brackets at h
  split at h
  · cases h
  · rename_i l σa hm
    injection h with h; injection h with h1 h2; subst h1 h2
    have := members_len hm
    have hb : (behindNeg σ).t.length ≤ σ.t.length - 1 ∧ (behindNeg σ).g = σ.g := by
      unfold behindNeg
      split
      · exact ⟨by rw [adv_len, adv_len]; omega, rfl⟩
      · exact ⟨by rw [adv_len]; omega, rfl⟩
    omega
theorem escape_len {r : Nd} (h : escape σ = .ok (r, σ1)) : σ1.t.length + 1 ≤ σ.t.length ∧ σ1.g = σ.g := by
  unfold escape at h
  split at h
  · have := (sign_len (t := σ.t) (by omega)).1
    injection h with h; injection h with h1 h2; subst h1 h2
    exact ⟨by rw [adv_len]; omega, rfl⟩
  split at h
  · have := (sign_len (t := σ.t) (by omega)).1
    injection h with h; injection h with h1 h2; subst h1 h2
    exact ⟨by rw [adv_len]; omega, rfl⟩
  split at h
  · have := (sign_len (t := σ.t) (by omega)).1
    injection h with h; injection h with h1 h2; subst h1 h2
    refine ⟨?_, rfl⟩
    simp only [refAt, List.length_drop]
    omega
  split at h
  · rename_i hu
    have := (sign_len (units_some hu)).1
    injection h with h; injection h with h1 h2; subst h1 h2
    exact ⟨by rw [adv_len]; omega, rfl⟩
  · split at h
    · cases h
    · rename_i hm
      injection h with h; injection h with h1 h2; subst h1 h2
      have := escUnit_len hm
      omega
theorem atomP_len {r : Nd} (h : atomP σ = .ok (r, σ1)) (hn : σ.t ≠ []) : σ1.t.length + 1 ≤ σ.t.length ∧ σ1.g = σ.g := by
  have h1l := len_ne hn
  unfold atomP at h
  split at h
  · rename_i c
    exact brackets_len h c
  split at h
  · exact escape_len h
  split at h
  · cases h
  split at h
  · cases h
  have hnx := nx_le σ.t hn
  repeat' split at h
  all_goals
    injection h with h; injection h with h1 h2; subst h1 h2
    exact ⟨by rw [adv_len]; omega, rfl⟩
theorem braces_len {x : Int × Int} (h : braces σ = some (x, σ1)) : σ1.t.length ≤ σ.t.length ∧ σ1.g = σ.g := by
  unfold braces at h
  repeat' split at h
  all_goals first
    | (injection h with h; injection h with h1 h2; subst h1 h2
       simp only [adv_len, adv_g, and_true]
       omega)
    | cases h
theorem times_len {x : Int × Int} (h : times σ = some (x, σ1)) : σ1.t.length ≤ σ.t.length ∧ σ1.g = σ.g := by
  unfold times at h
  split at h
  · injection h with h; injection h with h1 h2; subst h1 h2
    exact ⟨by rw [adv_len]; omega, rfl⟩
  split at h
  · injection h with h; injection h with h1 h2; subst h1 h2
    exact ⟨by rw [adv_len]; omega, rfl⟩
  split at h
  · injection h with h; injection h with h1 h2; subst h1 h2
    exact ⟨by rw [adv_len]; omega, rfl⟩
  exact braces_len h
theorem behindMode_len (σ : St) : (behindMode σ).t.length ≤ σ.t.length ∧ (behindMode σ).g = σ.g := by
  unfold behindMode
  split
  · exact ⟨Nat.le_refl _, rfl⟩
  · exact ⟨by rw [adv_len]; omega, rfl⟩
theorem quantRest_len {gr : Bool} {a r : Nd} (h : quantRest gr a σ = .ok (r, σ1)) : σ1.t.length ≤ σ.t.length ∧ σ1.g = σ.g := by
  unfold quantRest at h
  split at h
  · split at h
    · cases h
    · split at h
      · cases h
      · rename_i lo hi σa ht
        injection h with h; injection h with h1 h2; subst h1 h2
        have a := times_len ht
        have b := behindMode_len σa
        omega
  · injection h with h; injection h with h1 h2; subst h1 h2
    exact ⟨Nat.le_refl _, rfl⟩
theorem opening_len {sh : Int × Int × Int} (h : opening σ = .ok (sh, σ1)) (hc : at_ σ.t 0 = 40) : σ1.t.length + 1 ≤ σ.t.length ∧ σ.g ≤ σ1.g := by
  have h0 := len_ne (at_ne (t := σ.t) (by omega))
  unfold opening at h
  repeat' split at h
  all_goals first
    | (injection h with h; injection h with h1 h2; subst h1 h2
       first
         | exact ⟨by rw [adv_len]; omega, Nat.le_refl _⟩
         | exact ⟨by simp only [opened, List.length_drop]; omega, by simp only [opened]; omega⟩)
    | cases h

/-- What is left gets less; groups get more. -/
theorem run_len : ∀ (n : Nat), (∀ d acc σ r σ1, run n 0 d acc σ = .ok (r, σ1) → σ1.t.length ≤ σ.t.length ∧ σ.g ≤ σ1.g) ∧
    (∀ d acc σ r σ1, run n 1 d acc σ = .ok (r, σ1) → σ1.t.length ≤ σ.t.length ∧ σ.g ≤ σ1.g) ∧
    (∀ d acc σ r σ1, σ.t ≠ [] → run n 2 d acc σ = .ok (r, σ1) → σ1.t.length + 1 ≤ σ.t.length ∧ σ.g ≤ σ1.g) ∧
    (∀ d acc σ r σ1, at_ σ.t 0 = 40 → run n 3 d acc σ = .ok (r, σ1) → σ1.t.length + 1 ≤ σ.t.length ∧ σ.g ≤ σ1.g) := by
  intro n
  induction n with
  | zero => refine ⟨?_, ?_, ?_, ?_⟩ <;> intros <;> simp [run] at *
  | succ n ih =>
    obtain ⟨i0, i1, i2, i3⟩ := ih
    refine ⟨?_, ?_, ?_, ?_⟩
    · intro d acc σ r σ1 h
      rw [run_alts] at h
      split at h
      · cases h
      · rename_i r1 σa ha
        have a := i1 _ _ _ _ _ ha
        split at h
        · have b := i0 _ _ _ _ _ h
          rw [adv_len, adv_g] at b
          omega
        · injection h with h; injection h with h1 h2; subst h1 h2
          exact a
    · intro d acc σ r σ1 h
      rw [run_row] at h
      split at h
      · injection h with h; injection h with h1 h2; subst h1 h2
        exact ⟨Nat.le_refl _, Nat.le_refl _⟩
      · rename_i c
        have hn : σ.t ≠ [] := by intro e; rw [e] at c; simp at c
        split at h
        · cases h
        · rename_i r1 σa ha
          have a := i2 _ _ _ _ _ hn ha
          have b := i1 _ _ _ _ _ h
          omega
    · intro d acc σ r σ1 hn h
      rw [run_quant] at h
      split at h
      · cases h
      · rename_i r1 σa ha
        have b := quantRest_len h
        split at ha
        · rename_i c
          have a := i3 _ _ _ _ _ c ha
          omega
        · have a := atomP_len ha hn
          omega
    · intro d acc σ r σ1 hc h
      rw [run_paren] at h
      split at h
      · cases h
      · split at h
        · cases h
        · rename_i sh σa ho
          have a := opening_len ho hc
          split at h
          · cases h
          · rename_i kid σb hb
            have b := i0 _ _ _ _ _ hb
            split at h
            · injection h with h; injection h with h1 h2; subst h1 h2
              rw [adv_len, adv_g]
              omega
            · cases h

end Go.Proofs.YthipgidddgdojaaDoor

/- Patterns, read: what stands behind, and how deep, plays no part, but that it may be too deep. -/
namespace Go.Proofs.YthipgidddgdojaaDoor
open Go.Proofs.YthipgidddgdojaaDoor.Cl
variable {γ δ : Nat} {B : List Nat} {q : List UInt8} {σ σ' σ1 : St}

def Got (γ δ : Nat) (B : List Nat) (q : List UInt8) (x : R) (r : Nd) (σ1 : St) : Prop := (∃ σ1', x = .ok (r, σ1') ∧ Sim γ B q σ1 σ1') ∨ (δ ≠ 0 ∧ ∃ p, x = .error (25, p))

theorem ends_sim (hs : Sim γ B q σ σ') (hq : Tail q) : (σ'.t.isEmpty || decide (at_ σ'.t 0 = 124 ∨ at_ σ'.t 0 = 41)) = (σ.t.isEmpty || decide (at_ σ.t 0 = 124 ∨ at_ σ.t 0 = 41)) := by
  by_cases hn : σ.t = []
  · have e : σ'.t = q := by rw [hs.ht, hn]; rfl
    rw [e, hn]
    rcases hq with rfl | ⟨p, rfl⟩
    · simp
    · have : at_ (41 :: p) 0 = 41 := rfl
      simp [this]
  · rw [hs.at0 hn]
    have e1 : σ'.t.isEmpty = false := by rw [hs.ht]; simp [hn]
    have e2 : σ.t.isEmpty = false := by simp [hn]
    rw [e1, e2]

theorem run_sim (hq : Tail q) (δ : Nat) : ∀ (n : Nat), (∀ d acc σ σ' r σ1, run n 0 d acc σ = .ok (r, σ1) → (γ = 0 ∨ σ1.g = σ.g) → Sim γ B q σ σ' → Got γ δ B q (run n 0 (d + δ) acc σ') r σ1) ∧
    (∀ d acc σ σ' r σ1, run n 1 d acc σ = .ok (r, σ1) → (γ = 0 ∨ σ1.g = σ.g) → Sim γ B q σ σ' → Got γ δ B q (run n 1 (d + δ) acc σ') r σ1) ∧
    (∀ d acc σ σ' r σ1, σ.t ≠ [] → run n 2 d acc σ = .ok (r, σ1) → (γ = 0 ∨ σ1.g = σ.g) → Sim γ B q σ σ' → Got γ δ B q (run n 2 (d + δ) acc σ') r σ1) ∧
    (∀ d acc σ σ' r σ1, at_ σ.t 0 = 40 → run n 3 d acc σ = .ok (r, σ1) → (γ = 0 ∨ σ1.g = σ.g) → Sim γ B q σ σ' → Got γ δ B q (run n 3 (d + δ) acc σ') r σ1) := by
  intro n
  induction n with
  | zero => refine ⟨?_, ?_, ?_, ?_⟩ <;> intros <;> simp [run] at *
  | succ n ih =>
    obtain ⟨ih0, ih1, ih2, ih3⟩ := ih
    obtain ⟨l0, l1, l2, l3⟩ := run_len n
    refine ⟨?_, ?_, ?_, ?_⟩
    · intro d acc σ σ' r σ1 h hg hs
      rw [run_alts] at h ⊢
      split at h
      · cases h
      · rename_i ra σa ha
        have ga := (l1 _ _ _ _ _ ha).2
        split at h
        · rename_i c
          have gb := (l0 _ _ _ _ _ h).2
          rw [adv_g] at gb
          rcases ih1 d [] σ σ' ra σa ha (by omega) hs with ⟨σa', ha', hs'⟩ | ⟨hd, p, ha'⟩
          · rw [ha']
            simp only
            rw [if_pos ((hs'.at_ hq (by decide) (by decide)).2 c)]
            exact ih0 d _ _ _ r σ1 h (by rw [adv_g]; omega) (hs'.adv (len_ne (at_ne (t := σa.t) (by omega))))
          · exact .inr ⟨hd, p, by rw [ha']⟩
        · rename_i c
          injection h with h; injection h with h1 h2; subst h1 h2
          rcases ih1 d [] σ σ' ra σa ha (by omega) hs with ⟨σa', ha', hs'⟩ | ⟨hd, p, ha'⟩
          · rw [ha']
            simp only
            rw [if_neg (fun e => c ((hs'.at_ hq (by decide) (by decide)).1 e))]
            exact .inl ⟨σa', rfl, hs'⟩
          · exact .inr ⟨hd, p, by rw [ha']⟩
    · intro d acc σ σ' r σ1 h hg hs
      rw [run_row] at h ⊢
      rw [ends_sim hs hq]
      split at h
      · rename_i c
        rw [if_pos c]
        injection h with h; injection h with h1 h2; subst h1 h2
        exact .inl ⟨σ', rfl, hs⟩
      · rename_i c
        rw [if_neg c]
        have hn : σ.t ≠ [] := by
          intro e
          rw [e] at c
          exact c rfl
        split at h
        · cases h
        · rename_i a σa ha
          have ga := (l2 _ _ _ _ _ hn ha).2
          have gb := (l1 _ _ _ _ _ h).2
          rcases ih2 d [] σ σ' a σa hn ha (by omega) hs with ⟨σa', ha', hs'⟩ | ⟨hd, p, ha'⟩
          · rw [ha']
            exact ih1 d _ _ _ r σ1 h (by omega) hs'
          · exact .inr ⟨hd, p, by rw [ha']⟩
    · intro d acc σ σ' r σ1 hn h hg hs
      rw [run_quant] at h ⊢
      rw [hs.at0 hn, hs.pre hq [40, 63, 58] (by decide)]
      split at h
      · cases h
      · rename_i a σa ha
        have gq := (quantRest_len h).2
        split at ha
        · rename_i c
          rw [if_pos c]
          have ga := (l3 _ _ _ _ _ c ha).2
          rcases ih3 d [] σ σ' a σa c ha (by omega) hs with ⟨σa', ha', hs'⟩ | ⟨hd, p, ha'⟩
          · rw [ha']
            exact .inl (quantRest_sim h hq hs')
          · exact .inr ⟨hd, p, by rw [ha']⟩
        · rename_i c
          rw [if_neg c]
          obtain ⟨σa', ha', hs'⟩ := atomP_sim ha hq hs hn
          rw [ha']
          exact .inl (quantRest_sim h hq hs')
    · intro d acc σ σ' r σ1 hc h hg hs
      rw [run_paren] at h ⊢
      split at h
      · cases h
      · split
        · exact .inr ⟨by omega, _, rfl⟩
        · split at h
          · cases h
          · rename_i sh σa ho
            split at h
            · cases h
            · rename_i kid σb hk
              split at h
              · rename_i c
                injection h with h; injection h with h1 h2; subst h1 h2
                have ga := (opening_len ho hc).2
                have gb := (l0 _ _ _ _ _ hk).2
                rw [adv_g] at hg
                obtain ⟨σa', ho', hsa⟩ := opening_sim ho hc hq (by omega) hs
                rw [ho']
                simp only
                have e : d + δ + 1 = d + 1 + δ := by omega
                rw [e]
                rcases ih0 (d + 1) [] σa σa' kid σb hk (by omega) hsa with ⟨σb', hk', hsb⟩ | ⟨hd, p, hk'⟩
                · rw [hk']
                  simp only
                  have hnb : σb.t ≠ [] := at_ne (by omega)
                  rw [hsb.at0 hnb, if_pos c]
                  exact .inl ⟨_, rfl, hsb.adv (len_ne hnb)⟩
                · exact .inr ⟨hd, p, by rw [hk']⟩
              · cases h

/-- What was read of a text that is a pattern. -/
structure Read (N : Nat) (s : List UInt8) (nd : Nd) (g : Nat) (bk : List (Nat × Nat)) : Prop where
  go : ∃ p, run N 0 0 [] { pos := 0, t := s, g := 0, bk := [] } = .ok (nd, { pos := p, t := [], g := g, bk := bk })
  len : s.length ≤ 256
  fold : foldAt s = false
  refs : bk.find? (fun b => decide (g < b.1)) = none
theorem read_of {N : Nat} {s : List UInt8} {nd : Nd} {g : Nat} (h : parse N s = .ok (nd, g, false)) : ∃ bk, Read N s nd g bk := by
  unfold parse at h
  split at h
  · cases h
  · rename_i hl
    split at h
    · cases h
    · rename_i r σ hr
      unfold ended at h
      split at h
      · cases h
      · rename_i ht
        split at h
        · cases h
        · rename_i hf
          injection h with h; injection h with h1 h2; injection h2 with h2 h3; subst h1 h2
          have e : begins s = { pos := 0, t := s, g := 0, bk := [] } := by unfold begins; rw [h3]; rfl
          rw [e] at hr
          have ht' : σ.t = [] := by simpa using ht
          refine ⟨σ.bk, ⟨σ.pos, ?_⟩, by omega, h3, hf⟩
          rw [hr, ← ht']
theorem find_none {l : List (Nat × Nat)} {g : Nat} : l.find? (fun b => decide (g < b.1)) = none ↔ ∀ x ∈ l.map (·.1), x ≤ g := by
  simp [List.find?_eq_none]
theorem Read.ended {N : Nat} {s : List UInt8} {nd : Nd} {g : Nat} {bk : List (Nat × Nat)} (h : Read N s nd g bk) : parse N s = .ok (nd, g, false) := by
  obtain ⟨p, hp⟩ := h.go
  have e : begins s = { pos := 0, t := s, g := 0, bk := [] } := by unfold begins; rw [h.fold]; rfl
  unfold parse
  rw [if_neg (by have := h.len; omega), e, hp]
  simp [Go.Proofs.YthipgidddgdojaaDoor.ended, h.refs, h.fold]

/-- A pattern in parentheses that only group. -/
theorem paren_run {N : Nat} {s rest : List UInt8} {nd : Nd} {g : Nat} {bk : List (Nat × Nat)} (h : Read N s nd g bk) (hr : isQ (at_ rest 0) = false) (acc : List Nd) (σ' : St) (ht : σ'.t = 40 :: 63 :: 58 :: (s ++ 41 :: rest)) (hg : σ'.g = 0) :
    (∃ σ3, run (N + 2) 2 0 acc σ' = .ok (nd, σ3) ∧ σ3.t = rest ∧ σ3.g = g ∧ σ3.bk.map (·.1) = σ'.bk.map (·.1) ++ bk.map (·.1)) ∨ ∃ p, run (N + 2) 2 0 acc σ' = .error (25, p) := by
  obtain ⟨p, hp⟩ := h.go
  have h0 : at_ σ'.t 0 = 40 := by rw [ht]; rfl
  have h3 : Go.Proofs.YthipgidddgdojaaDoor.pre [40, 63, 58] σ'.t = true := by rw [ht]; rfl
  have ho : opening σ' = .ok ((0, 0, 0), σ'.adv 3) := by unfold opening; rw [if_pos h3]
  rw [run_quant, if_pos h0, run_paren, if_neg (by decide), ho]
  simp only
  have hs : Sim 0 (σ'.bk.map (·.1)) (41 :: rest) { pos := 0, t := s, g := 0, bk := [] } (σ'.adv 3) := ⟨by simp [St.adv, ht], by simp [St.adv, hg], by simp [St.adv]⟩
  rcases (run_sim (.inr ⟨rest, rfl⟩) 1 N).1 0 [] _ _ _ _ hp (.inl rfl) hs with ⟨σb, hb, hsb⟩ | ⟨_, p', hb⟩
  · rw [hb]
    have htb : σb.t = 41 :: rest := hsb.ht
    have h41 : at_ σb.t 0 = 41 := by rw [htb]; rfl
    simp only
    rw [if_pos h41]
    have htr : (σb.adv 1).t = rest := by simp [St.adv, htb]
    simp only [wrap, if_true]
    unfold quantRest
    rw [htr, hr]
    exact .inl ⟨_, rfl, htr, hsb.hg, hsb.hb⟩
  · rw [hb]
    exact .inr ⟨p', rfl⟩
theorem row_ends {n d : Nat} {acc : List Nd} {σ : St} (h : σ.t = [] ∨ at_ σ.t 0 = 124) : run (n + 1) 1 d acc σ = .ok (joinR acc, σ) := by
  rw [run_row, if_pos]
  rcases h with h | h
  · rw [h]; rfl
  · simp [h]
theorem row_goes {n d : Nat} {acc : List Nd} {σ : St} (h : at_ σ.t 0 = 40) : run (n + 1) 1 d acc σ = match run n 2 d [] σ with
    | .error e => .error e
    | .ok (a, σ1) => run n 1 d (acc ++ [a]) σ1 := by
  rw [run_row]
  have := at_ne (t := σ.t) (by omega)
  exact if_neg (by simp [h, this])
theorem ended_ok {fold : Bool} {r : Nd} {σ : St} {g : Nat} (ht : σ.t = []) (hg : σ.g = g) (hn : ∀ x ∈ σ.bk.map (·.1), x ≤ g) : Go.Proofs.YthipgidddgdojaaDoor.ended fold r σ = .ok (r, g, fold) := by
  subst hg
  have h := find_none.2 hn
  unfold Go.Proofs.YthipgidddgdojaaDoor.ended
  rw [ht, h]
  rfl

theorem parse_wrap {N : Nat} {s : List UInt8} {nd : Nd} {g : Nat} (h : parse N s = .ok (nd, g, false)) :
    parse (N + 4) (40 :: 63 :: 58 :: (s ++ [41])) = .ok (nd, g, false) ∨ (252 < s.length ∧ parse (N + 4) (40 :: 63 :: 58 :: (s ++ [41])) = .error (12, 0)) ∨ ∃ p, parse (N + 4) (40 :: 63 :: 58 :: (s ++ [41])) = .error (25, p) := by
  obtain ⟨bk, hR⟩ := read_of h
  by_cases hl : 252 < s.length
  · refine .inr (.inl ⟨hl, ?_⟩)
    unfold parse
    rw [if_pos (by simp; omega)]
  have hf : foldAt (40 :: 63 :: 58 :: (s ++ [41])) = false := by simp [foldAt, pre, List.isPrefixOf]
  have hb : begins (40 :: 63 :: 58 :: (s ++ [41])) = { pos := 0, t := 40 :: 63 :: 58 :: (s ++ [41]), g := 0, bk := [] } := by unfold begins; rw [hf]; rfl
  unfold parse
  rw [if_neg (by simp; omega), hb, run_alts, row_goes rfl]
  rcases paren_run hR (rest := []) rfl [] { pos := 0, t := 40 :: 63 :: 58 :: (s ++ [41]), g := 0, bk := [] } rfl rfl with ⟨σ3, h3, ht, hg, hk⟩ | ⟨p, h3⟩
  · left
    rw [h3]
    simp only
    rw [row_ends (.inl ht)]
    simp only
    rw [if_neg (by rw [ht]; decide), hf]
    exact ended_ok ht hg (by rw [hk]; simpa using find_none.1 hR.refs)
  · right; right
    rw [h3]
    exact ⟨p, rfl⟩

/-- A pattern without groups, behind (?i). -/
theorem parse_fold {N : Nat} {s : List UInt8} {nd : Nd} {g : Nat} (h : parse N s = .ok (nd, g, false)) (hl : s.length ≤ 252) : parse N (40 :: 63 :: 105 :: 41 :: s) = .ok (nd, g, true) := by
  obtain ⟨bk, hR⟩ := read_of h
  obtain ⟨p, hp⟩ := hR.go
  have hf : foldAt (40 :: 63 :: 105 :: 41 :: s) = true := by simp [foldAt, pre, List.isPrefixOf]
  have hb : begins (40 :: 63 :: 105 :: 41 :: s) = { pos := 4, t := s, g := 0, bk := [] } := by unfold begins; rw [hf]; rfl
  unfold parse
  rw [if_neg (by simp; omega), hb, hf]
  rcases (run_sim (γ := 0) (B := []) (q := []) (.inl rfl) 0 N).1 0 [] _ { pos := 4, t := s, g := 0, bk := [] } _ _ hp (.inl rfl) ⟨by simp, rfl, rfl⟩ with ⟨σb, hb, hsb⟩ | ⟨hd, _⟩
  · simp only [Nat.add_zero] at hb
    rw [hb]
    exact ended_ok (by simpa using hsb.ht) (by simpa using hsb.hg) (by rw [hsb.hb]; simpa using find_none.1 hR.refs)
  · exact absurd rfl hd

theorem not_mark {N : Nat} {s : List UInt8} {nd : Nd} {σ : St} (h : run N 0 0 [] { pos := 0, t := s, g := 0, bk := [] } = .ok (nd, σ)) : at_ s 0 ≠ 63 := by
  intro e
  match N with
  | 0 => simp [run] at h
  | 1 => simp [run] at h
  | 2 =>
    rw [run_alts, run_row, if_neg (by simp [e, at_ne (t := s) (by omega)])] at h
    simp [run] at h
  | N + 3 =>
    have e2 : run (N + 1) 2 0 [] { pos := 0, t := s, g := 0, bk := [] } = .error (23, 0) := by
      rw [run_quant, if_neg (by simp [e])]
      unfold atomP
      simp [e, isQ]
    rw [run_alts, run_row, if_neg (by simp [e, at_ne (t := s) (by omega)]), e2] at h
    cases h

def grpN (kid : Nd) : Nd := .mk 5 0 0 0 1 [] [kid]
/-- A pattern without groups, in parentheses. -/
theorem parse_group {N : Nat} {s : List UInt8} {nd : Nd} (h : parse N s = .ok (nd, 0, false)) (hl : s.length ≤ 252) :
    parse (N + 4) (40 :: (s ++ [41])) = .ok (grpN nd, 1, false) ∨ ∃ p, parse (N + 4) (40 :: (s ++ [41])) = .error (25, p) := by
  obtain ⟨bk, hR⟩ := read_of h
  obtain ⟨p, hp⟩ := hR.go
  have hm := not_mark hp
  have hq : ∀ w : List UInt8, pre (40 :: 63 :: w) (40 :: (s ++ [41])) = false := by
    intro w
    cases s with
    | nil => simp [pre, List.isPrefixOf]
    | cons a s =>
      have : ¬ (63 : UInt8) = a := by
        rintro rfl
        exact hm rfl
      simp [pre, List.isPrefixOf, this]
  have hf : foldAt (40 :: (s ++ [41])) = false := hq _
  have hb : begins (40 :: (s ++ [41])) = { pos := 0, t := 40 :: (s ++ [41]), g := 0, bk := [] } := by unfold begins; rw [hf]; rfl
  have ho : opening { pos := 0, t := 40 :: (s ++ [41]), g := 0, bk := [] } = .ok ((5, 0, 1), { pos := 1, t := s ++ [41], g := 1, bk := [] }) := by
    unfold opening
    simp [hq, opened]
  unfold parse
  rw [if_neg (by simp; omega), hb, run_alts, row_goes rfl, run_quant, if_pos (show at_ (St.mk 0 (40 :: (s ++ [41])) 0 []).t 0 = 40 from rfl), run_paren, if_neg (by decide), ho]
  simp only
  rcases (run_sim (γ := 1) (B := []) (q := [41]) (.inr ⟨[], rfl⟩) 1 N).1 0 [] _ { pos := 1, t := s ++ [41], g := 1, bk := [] } _ _ hp (.inr rfl) ⟨rfl, rfl, rfl⟩ with ⟨σb, hb, hsb⟩ | ⟨_, p', hb⟩
  · left
    have htb : σb.t = [41] := hsb.ht
    rw [show run N 0 (0 + 1) [] { pos := 1, t := s ++ [41], g := 1, bk := [] } = _ from hb]
    simp only
    rw [if_pos (by rw [htb]; rfl)]
    have htr : (σb.adv 1).t = [] := by simp [St.adv, htb]
    simp only [wrap]
    unfold quantRest
    rw [htr, at_nil, isQ_zero]
    simp only [Bool.false_eq_true, if_false]
    rw [row_ends (.inl htr)]
    simp only
    rw [if_neg (by rw [htr]; decide), hf]
    exact ended_ok htr hsb.hg (by
      show ∀ x ∈ σb.bk.map (·.1), x ≤ 1
      rw [hsb.hb]
      intro x hx
      have := find_none.1 hR.refs x (by simpa using hx)
      omega)
  · right
    rw [show run N 0 (0 + 1) [] { pos := 1, t := s ++ [41], g := 1, bk := [] } = _ from hb]
    exact ⟨p', rfl⟩

theorem parse_cat {N : Nat} {a b : List UInt8} {x y : Nd} (ha : parse (N + 1) a = .ok (x, 0, false)) (hb : parse N b = .ok (y, 0, false)) (la : a.length ≤ 100) (lb : b.length ≤ 100) :
    parse (N + 5) (40 :: 63 :: 58 :: (a ++ 41 :: 40 :: 63 :: 58 :: (b ++ [41]))) = .ok (catN [x, y], 0, false) ∨ ∃ p, parse (N + 5) (40 :: 63 :: 58 :: (a ++ 41 :: 40 :: 63 :: 58 :: (b ++ [41]))) = .error (25, p) := by
  obtain ⟨bk, hR⟩ := read_of ha
  obtain ⟨bk', hR'⟩ := read_of hb
  obtain ⟨t, htt⟩ : ∃ t, t = (40 :: 63 :: 58 :: (a ++ 41 :: 40 :: 63 :: 58 :: (b ++ [41]))) := ⟨_, rfl⟩
  have hf : foldAt t = false := by rw [htt]; simp [foldAt, pre, List.isPrefixOf]
  have hbg : begins t = { pos := 0, t := t, g := 0, bk := [] } := by unfold begins; rw [hf]; rfl
  have h40 : at_ (St.mk 0 t 0 []).t 0 = 40 := by rw [htt]; rfl
  have hlt : ¬ 256 < t.length := by rw [htt]; simp; omega
  rw [← htt]
  unfold parse
  rw [if_neg hlt, hbg, run_alts, row_goes h40]
  rcases paren_run hR (rest := (40 :: 63 :: 58 :: (b ++ [41]))) rfl [] { pos := 0, t := t, g := 0, bk := [] } htt rfl with ⟨σ3, h3, ht, hg, hk⟩ | ⟨p, h3⟩
  · rw [h3]
    simp only
    rw [row_goes (by rw [ht]; rfl)]
    rcases paren_run hR' (rest := []) rfl [] σ3 ht hg with ⟨σ4, h4, ht4, hg4, hk4⟩ | ⟨p, h4⟩
    · left
      rw [h4]
      simp only
      rw [row_ends (.inl ht4)]
      simp only
      rw [if_neg (by rw [ht4]; decide), hf]
      exact ended_ok ht4 hg4 (by
        rw [hk4, hk]
        intro z hz
        rcases List.mem_append.1 hz with hz | hz
        · exact find_none.1 hR.refs z (by simpa using hz)
        · exact find_none.1 hR'.refs z hz)
    · right
      rw [h4]
      exact ⟨p, rfl⟩
  · right
    rw [h3]
    exact ⟨p, rfl⟩

theorem parse_alt {N : Nat} {a b : List UInt8} {x y : Nd} (ha : parse (N + 1) a = .ok (x, 0, false)) (hb : parse N b = .ok (y, 0, false)) (la : a.length ≤ 100) (lb : b.length ≤ 100) :
    parse (N + 5) (40 :: 63 :: 58 :: (a ++ 41 :: 124 :: 40 :: 63 :: 58 :: (b ++ [41]))) = .ok (altN [x, y], 0, false) ∨ ∃ p, parse (N + 5) (40 :: 63 :: 58 :: (a ++ 41 :: 124 :: 40 :: 63 :: 58 :: (b ++ [41]))) = .error (25, p) := by
  obtain ⟨bk, hR⟩ := read_of ha
  obtain ⟨bk', hR'⟩ := read_of hb
  obtain ⟨t, htt⟩ : ∃ t, t = (40 :: 63 :: 58 :: (a ++ 41 :: 124 :: 40 :: 63 :: 58 :: (b ++ [41]))) := ⟨_, rfl⟩
  have hf : foldAt t = false := by rw [htt]; simp [foldAt, pre, List.isPrefixOf]
  have hbg : begins t = { pos := 0, t := t, g := 0, bk := [] } := by unfold begins; rw [hf]; rfl
  have h40 : at_ (St.mk 0 t 0 []).t 0 = 40 := by rw [htt]; rfl
  have hlt : ¬ 256 < t.length := by rw [htt]; simp; omega
  rw [← htt]
  unfold parse
  rw [if_neg hlt, hbg, run_alts, row_goes h40]
  rcases paren_run hR (rest := (124 :: 40 :: 63 :: 58 :: (b ++ [41]))) rfl [] { pos := 0, t := t, g := 0, bk := [] } htt rfl with ⟨σ3, h3, ht, hg, hk⟩ | ⟨p, h3⟩
  · rw [h3]
    simp only
    rw [row_ends (.inr (by rw [ht]; rfl))]
    simp only
    rw [if_pos (by rw [ht]; rfl)]
    have h1 : (σ3.adv 1).t = 40 :: 63 :: 58 :: (b ++ [41]) := by simp [St.adv, ht]
    rw [run_alts, row_goes (by rw [h1]; rfl)]
    rcases paren_run hR' (rest := []) rfl [] (σ3.adv 1) h1 hg with ⟨σ4, h4, ht4, hg4, hk4⟩ | ⟨p, h4⟩
    · left
      rw [h4]
      simp only
      rw [row_ends (.inl ht4)]
      simp only
      rw [if_neg (by rw [ht4]; decide), hf]
      exact ended_ok ht4 hg4 (by
        rw [hk4]
        intro z hz
        rcases List.mem_append.1 hz with hz | hz
        · have hz' : z ∈ σ3.bk.map (·.1) := hz
          rw [hk] at hz'
          exact find_none.1 hR.refs z (by simpa using hz')
        · exact find_none.1 hR'.refs z hz)
    · right
      rw [h4]
      exact ⟨p, rfl⟩
  · right
    rw [h3]
    exact ⟨p, rfl⟩

end Go.Proofs.YthipgidddgdojaaDoor

/- Patterns, read: a fault has a code. -/
namespace Go.Proofs.YthipgidddgdojaaDoor
open Go.Proofs.YthipgidddgdojaaDoor.Cl
variable {σ σ1 : St} {f : Flt}

theorem escUnit_code (h : escUnit σ = .error f) : f.1 ≠ 0 := by
  unfold escUnit at h
  repeat' split at h
  all_goals first
    | (injection h with h; subst h; simp)
    | cases h
theorem mUnit_code (h : mUnit σ = .error f) : f.1 ≠ 0 := by
  unfold mUnit at h
  split at h
  · exact escUnit_code h
  · cases h
theorem member_code (h : member σ = .error f) : f.1 ≠ 0 := by
  unfold member at h
  split at h
  · injection h with h; subst h; simp
  split at h
  · cases h
  · split at h
    · rename_i e he
      injection h with h; subst h
      exact mUnit_code he
    · split at h
      · split at h
        · split at h
          · rename_i e he
            injection h with h; subst h
            exact mUnit_code he
          · split at h
            · injection h with h; subst h; simp
            · cases h
        · injection h with h; subst h; simp
      · cases h
theorem members_code {op : Nat} {neg : Bool} : ∀ {k : Nat} {acc : List Rg} {σ : St}, σ.t.length < k → members op neg k acc σ = .error f → f.1 ≠ 0
  | 0, _, _, hk, _ => by omega
  | k + 1, acc, σ, hk, h => by
    unfold members at h
    split at h
    · split at h
      · injection h with h; subst h; simp
      · cases h
    · split at h
      · injection h with h; subst h; simp
      · rename_i c2
        have hn : σ.t ≠ [] := by intro e; rw [e] at c2; simp at c2
        split at h
        · rename_i e he
          injection h with h; subst h
          exact member_code he
        · rename_i l1 σa hm
          have h1 := member_len hm hn
          exact members_code (by omega) h
theorem brackets_code (hl : σ.t.length ≤ 256) (h : brackets σ = .error f) : f.1 ≠ 0 := by
  unfold brackets at h
  split at h
  · rename_i e he
    injection h with h; subst h
    refine members_code ?_ he
    unfold behindNeg
    split <;> simp only [adv_len] <;> omega
  · cases h
theorem escape_code (h : escape σ = .error f) : f.1 ≠ 0 := by
  unfold escape at h
  split at h
  · cases h
  split at h
  · cases h
  split at h
  · cases h
  split at h
  · cases h
  · split at h
    · rename_i e he
      injection h with h; subst h
      exact escUnit_code he
    · cases h
theorem atomP_code (hl : σ.t.length ≤ 256) (h : atomP σ = .error f) : f.1 ≠ 0 := by
  unfold atomP at h
  split at h
  · exact brackets_code hl h
  split at h
  · exact escape_code h
  repeat' split at h
  all_goals first
    | (injection h with h; subst h; simp)
    | cases h
theorem quantRest_code {gr : Bool} {a : Nd} (h : quantRest gr a σ = .error f) : f.1 ≠ 0 := by
  unfold quantRest at h
  repeat' split at h
  all_goals first
    | (injection h with h; subst h; simp)
    | cases h
theorem opening_code (h : opening σ = .error f) : f.1 ≠ 0 := by
  unfold opening at h
  repeat' split at h
  all_goals first
    | (injection h with h; subst h; simp)
    | cases h

theorem run_code : ∀ (n : Nat), (∀ d acc σ, σ.t.length ≤ 256 → 4 * σ.t.length + 2 ≤ n → run n 0 d acc σ = .error f → f.1 ≠ 0) ∧
    (∀ d acc σ, σ.t.length ≤ 256 → 4 * σ.t.length + 1 ≤ n → run n 1 d acc σ = .error f → f.1 ≠ 0) ∧
    (∀ d acc σ, σ.t ≠ [] → σ.t.length ≤ 256 → 4 * σ.t.length ≤ n → run n 2 d acc σ = .error f → f.1 ≠ 0) ∧
    (∀ d acc σ, at_ σ.t 0 = 40 → σ.t.length ≤ 256 → 4 * σ.t.length ≤ n + 1 → run n 3 d acc σ = .error f → f.1 ≠ 0) := by
  intro n
  induction n with
  | zero =>
    refine ⟨fun _ _ _ _ h => by omega, fun _ _ _ _ h => by omega, fun _ _ σ hn _ h => ?_, fun _ _ σ hc _ h => ?_⟩
    · have := len_ne hn
      omega
    · have := len_ne (at_ne (t := σ.t) (by omega))
      omega
  | succ n ih =>
    obtain ⟨ih0, ih1, ih2, ih3⟩ := ih
    obtain ⟨l0, l1, l2, l3⟩ := run_len n
    refine ⟨?_, ?_, ?_, ?_⟩
    · intro d acc σ h256 hN h
      rw [run_alts] at h
      split at h
      · rename_i e he
        injection h with h; subst h
        exact ih1 _ _ _ h256 (by omega) he
      · rename_i ra σa ha
        have ga := (l1 _ _ _ _ _ ha).1
        split at h
        · rename_i c
          have := len_ne (at_ne (t := σa.t) (by omega))
          exact ih0 _ _ _ (by rw [adv_len]; omega) (by rw [adv_len]; omega) h
        · cases h
    · intro d acc σ h256 hN h
      rw [run_row] at h
      split at h
      · cases h
      · rename_i c
        have hn : σ.t ≠ [] := by
          intro e
          rw [e] at c
          exact c rfl
        split at h
        · rename_i e he
          injection h with h; subst h
          exact ih2 _ _ _ hn h256 (by omega) he
        · rename_i a σa ha
          have ga := (l2 _ _ _ _ _ hn ha).1
          exact ih1 _ _ _ (by omega) (by omega) h
    · intro d acc σ hn h256 hN h
      rw [run_quant] at h
      split at h
      · rename_i e he
        injection h with h; subst h
        split at he
        · rename_i c
          exact ih3 _ _ _ c h256 (by omega) he
        · exact atomP_code h256 he
      · exact quantRest_code h
    · intro d acc σ hc h256 hN h
      rw [run_paren] at h
      split at h
      · injection h with h; subst h; simp
      · split at h
        · rename_i e he
          injection h with h; subst h
          exact opening_code he
        · rename_i sh σa ho
          have ga := (opening_len ho hc).1
          split at h
          · rename_i e he
            injection h with h; subst h
            exact ih0 _ _ _ (by omega) (by omega) he
          · split at h
            · cases h
            · injection h with h; subst h; simp
theorem begins_le (s : List UInt8) : (begins s).t.length ≤ s.length := by
  unfold begins
  split <;> simp
theorem parse_code {N : Nat} {s : List UInt8} (hN : 1026 ≤ N) (h : parse N s = .error f) : f.1 ≠ 0 := by
  unfold parse at h
  split at h
  · injection h with h; subst h; simp
  · have hb := begins_le s
    split at h
    · rename_i e he
      injection h with h; subst h
      exact (run_code N).1 _ _ _ (by omega) (by omega) he
    · unfold ended at h
      repeat' split at h
      all_goals first
        | (injection h with h; subst h; simp)
        | cases h

end Go.Proofs.YthipgidddgdojaaDoor

/- Patterns, read: no more than nine groups. -/
namespace Go.Proofs.YthipgidddgdojaaDoor
open Go.Proofs.YthipgidddgdojaaDoor.Cl
variable {σ σ1 : St}

theorem opening_nine {sh : Int × Int × Int} (h : opening σ = .ok (sh, σ1)) (hg : σ.g ≤ 9) : σ1.g ≤ 9 := by
  unfold opening at h
  repeat' split at h
  all_goals first
    | (injection h with h; injection h with h1 h2; subst h1 h2
       simp only [adv_g, opened]
       omega)
    | cases h
theorem run_nine : ∀ (n : Nat), (∀ d acc σ r σ1, run n 0 d acc σ = .ok (r, σ1) → σ.g ≤ 9 → σ1.g ≤ 9) ∧
    (∀ d acc σ r σ1, run n 1 d acc σ = .ok (r, σ1) → σ.g ≤ 9 → σ1.g ≤ 9) ∧
    (∀ d acc σ r σ1, σ.t ≠ [] → run n 2 d acc σ = .ok (r, σ1) → σ.g ≤ 9 → σ1.g ≤ 9) ∧
    (∀ d acc σ r σ1, run n 3 d acc σ = .ok (r, σ1) → σ.g ≤ 9 → σ1.g ≤ 9) := by
  intro n
  induction n with
  | zero => refine ⟨?_, ?_, ?_, ?_⟩ <;> intros <;> simp [run] at *
  | succ n ih =>
    obtain ⟨ih0, ih1, ih2, ih3⟩ := ih
    refine ⟨?_, ?_, ?_, ?_⟩
    · intro d acc σ r σ1 h hg
      rw [run_alts] at h
      split at h
      · cases h
      · rename_i ra σa ha
        have ga := ih1 _ _ _ _ _ ha hg
        split at h
        · exact ih0 _ _ _ _ _ h (by rw [adv_g]; exact ga)
        · injection h with h; injection h with h1 h2; subst h1 h2
          exact ga
    · intro d acc σ r σ1 h hg
      rw [run_row] at h
      split at h
      · injection h with h; injection h with h1 h2; subst h1 h2
        exact hg
      · rename_i c
        have hn : σ.t ≠ [] := by
          intro e
          rw [e] at c
          exact c rfl
        split at h
        · cases h
        · rename_i a σa ha
          exact ih1 _ _ _ _ _ h (ih2 _ _ _ _ _ hn ha hg)
    · intro d acc σ r σ1 hn h hg
      rw [run_quant] at h
      split at h
      · cases h
      · rename_i a σa ha
        have gq := (quantRest_len h).2
        rw [gq]
        split at ha
        · exact ih3 _ _ _ _ _ ha hg
        · have := (atomP_len ha hn).2
          omega
    · intro d acc σ r σ1 h hg
      rw [run_paren] at h
      split at h
      · cases h
      · split at h
        · cases h
        · rename_i sh σa ho
          have ga := opening_nine ho hg
          split at h
          · cases h
          · rename_i kid σb hk
            have gb := ih0 _ _ _ _ _ hk ga
            split at h
            · injection h with h; injection h with h1 h2; subst h1 h2
              rw [adv_g]
              exact gb
            · cases h
theorem parse_nine {N : Nat} {s : List UInt8} {nd : Nd} {g : Nat} {fo : Bool} (h : parse N s = .ok (nd, g, fo)) : g ≤ 9 := by
  unfold parse at h
  split at h
  · cases h
  · split at h
    · cases h
    · rename_i r σ hr
      have hg := (run_nine N).1 _ _ _ _ _ hr (by unfold begins; split <;> simp)
      unfold ended at h
      split at h
      · cases h
      · split at h
        · cases h
        · injection h with h; injection h with h1 h2; injection h2 with h2 h3; subst h2
          exact hg

end Go.Proofs.YthipgidddgdojaaDoor

/- Patterns, read: a character alone, one behind a backslash, one with a quantifier in braces behind it. Of no program. -/
namespace Go.Proofs.YthipgidddgdojaaDoor
open Go.Proofs.YthipgidddgdojaaDoor.Cl

/-- Signs of patterns. -/
def isSign (c : Int) : Bool := decide (c = 46 ∨ c = 94 ∨ c = 36 ∨ c = 92 ∨ c = 91 ∨ c = 93 ∨ c = 40 ∨ c = 41 ∨ c = 124 ∨ c = 42 ∨ c = 43 ∨ c = 63 ∨ c = 123 ∨ c = 125)

theorem enc_first (c : Nat) (hc : isCh c) (r : List UInt8) : (at_ (toB (encN c) ++ r) 0 = c ∧ c < 128) ∨ 192 ≤ at_ (toB (encN c) ++ r) 0 := by
  rw [at_toB (encN c) _ r 0 (by have := (encN_len c).1; omega) (encN_byte c hc.1) rfl]
  by_cases h1 : c < 128
  · simp [encN, h1]
  · by_cases h2 : c < 2048
    · simp [encN, h1, h2]
    · by_cases h3 : c < 65536
      · right; simp [encN, h1, h2, h3]; omega
      · right; simp [encN, h1, h2, h3]; omega
theorem enc_ne (c : Nat) (r : List UInt8) : toB (encN c) ++ r ≠ [] := by
  intro e
  have h := congrArg List.length e
  have := (encN_len c).1
  rw [List.length_append, toB_len, List.length_nil] at h
  omega

theorem atomP_plain (σ : St) (c : Nat) (hc : isCh c) (hp : isSign c = false) (r : List UInt8) (ht : σ.t = toB (encN c) ++ r) : atomP σ = .ok (setN [((c : Int), (c : Int))], σ.adv (encN c).length) := by
  have h := enc_first c hc r
  rw [← ht] at h
  have hn : nx σ.t = (c, (encN c).length) := by rw [ht]; exact nx_enc c hc r
  simp [isSign] at hp
  have hq : isQ (at_ σ.t 0) = false := by simp [isQ]; omega
  unfold atomP
  rw [if_neg (by omega), if_neg (by omega), hq, if_neg (by decide), if_neg (by omega), if_neg (by omega), if_neg (by omega), if_neg (by omega), hn]

def unitSt (c : Nat) (q : List UInt8) : St := { pos := (encN c).length, t := q, g := 0, bk := [] }
theorem unit_pre (c : Nat) (hc : isCh c) (hp : isSign c = false) (q : List UInt8) : at_ (toB (encN c) ++ q) 0 ≠ 40 ∧ at_ (toB (encN c) ++ q) 0 ≠ 41 ∧ at_ (toB (encN c) ++ q) 0 ≠ 124 := by
  have h := enc_first c hc q
  simp [isSign] at hp
  omega
theorem pre40 {w t : List UInt8} (h : at_ t 0 ≠ 40) : pre (40 :: w) t = false := by
  cases t with
  | nil => simp [pre, List.isPrefixOf]
  | cons a t =>
    have : ¬ (40 : UInt8) = a := by
      rintro rfl
      exact h rfl
    simp [pre, List.isPrefixOf, this]
theorem unit_run (n : Nat) (c : Nat) (hc : isCh c) (hp : isSign c = false) (q : List UInt8) : run (n + 1) 2 0 [] { pos := 0, t := toB (encN c) ++ q, g := 0, bk := [] } = quantRest false (setN [((c : Int), (c : Int))]) (unitSt c q) := by
  obtain ⟨h1, h2, h3⟩ := unit_pre c hc hp q
  rw [run_quant, if_neg h1, atomP_plain _ c hc hp q rfl, pre40 h1]
  have e : (St.adv { pos := 0, t := toB (encN c) ++ q, g := 0, bk := [] } (encN c).length) = unitSt c q := by
    simp [St.adv, unitSt, ← toB_len (encN c)]
  rw [e]
theorem unit_row (n : Nat) (c : Nat) (hc : isCh c) (hp : isSign c = false) (q : List UInt8) : run (n + 2) 1 0 [] { pos := 0, t := toB (encN c) ++ q, g := 0, bk := [] } = match quantRest false (setN [((c : Int), (c : Int))]) (unitSt c q) with
    | .error e => .error e
    | .ok (a, σ1) => run (n + 1) 1 0 [a] σ1 := by
  obtain ⟨h1, h2, h3⟩ := unit_pre c hc hp q
  have hne := enc_ne c q
  rw [run_row, if_neg (by simp only [Bool.or_eq_true, List.isEmpty_iff, decide_eq_true_eq]; rintro (h | h | h) <;> contradiction), unit_run n c hc hp q]
  rfl
theorem parse_unit {n : Nat} {c : Nat} (hc : isCh c) (hp : isSign c = false) {q : List UInt8} (hl : q.length ≤ 200) {r : Nd} {σ1 : St} (h : quantRest false (setN [((c : Int), (c : Int))]) (unitSt c q) = .ok (r, σ1)) (ht : σ1.t = []) (hg : σ1.g = 0) (hb : σ1.bk = []) :
    parse (n + 4) (toB (encN c) ++ q) = .ok (r, 0, false) := by
  have hle := (encN_len c).2
  have hf : foldAt (toB (encN c) ++ q) = false := pre40 (unit_pre c hc hp q).1
  have hbg : begins (toB (encN c) ++ q) = { pos := 0, t := toB (encN c) ++ q, g := 0, bk := [] } := by unfold begins; rw [hf]; rfl
  unfold parse
  rw [if_neg (by rw [List.length_append, toB_len]; omega), hbg, run_alts, unit_row _ c hc hp q, h]
  simp only
  rw [row_ends (.inl ht)]
  simp only
  rw [if_neg (by rw [ht]; decide), hf]
  exact ended_ok ht hg (by rw [hb]; simp)
theorem parse_unit_err {n : Nat} {c : Nat} (hc : isCh c) (hp : isSign c = false) {q : List UInt8} (hl : q.length ≤ 200) {f : Flt} (h : quantRest false (setN [((c : Int), (c : Int))]) (unitSt c q) = .error f) :
    parse (n + 4) (toB (encN c) ++ q) = .error f := by
  have hle := (encN_len c).2
  have hf : foldAt (toB (encN c) ++ q) = false := pre40 (unit_pre c hc hp q).1
  have hbg : begins (toB (encN c) ++ q) = { pos := 0, t := toB (encN c) ++ q, g := 0, bk := [] } := by unfold begins; rw [hf]; rfl
  unfold parse
  rw [if_neg (by rw [List.length_append, toB_len]; omega), hbg, run_alts, unit_row _ c hc hp q, h]

/-- A character alone. -/
theorem parse_alone (n : Nat) {c : Nat} (hc : isCh c) (hp : isSign c = false) : parse (n + 4) (toB (encN c)) = .ok (setN [((c : Int), (c : Int))], 0, false) := by
  have h := parse_unit (n := n) hc hp (q := []) (by simp) (r := setN [((c : Int), (c : Int))]) (σ1 := unitSt c []) (by unfold quantRest unitSt; simp [at_nil, isQ_zero]) rfl rfl rfl
  rwa [List.append_nil] at h

/-! ### A number of two digits -/
def dd (n : Nat) : List UInt8 := [(48 + n / 10).toUInt8, (48 + n % 10).toUInt8]
theorem dd_at (n : Nat) (hn : n ≤ 99) (r : List UInt8) : at_ (dd n ++ r) 0 = 48 + n / 10 ∧ at_ (dd n ++ r) 1 = 48 + n % 10 := by
  constructor <;> simp [dd, at_] <;> omega
theorem dd_num (n : Nat) (hn : n ≤ 99) (r : List UInt8) : numOf (dd n ++ r) = n ∧ numLen (dd n ++ r) = 2 ∧ numOk (dd n ++ r) = decide (n ≤ 64) := by
  obtain ⟨h0, h1⟩ := dd_at n hn r
  have d0 : dig (48 + n / 10) = true := by rw [dig_iff]; omega
  have d1 : dig (48 + n % 10) = true := by rw [dig_iff]; omega
  have e : numOf (dd n ++ r) = n := by
    unfold numOf
    rw [h0, h1, d0, d1]
    simp
    omega
  refine ⟨e, ?_, ?_⟩
  · unfold numLen
    rw [h0, h1, d0, d1]
    rfl
  · unfold numOk
    rw [e, h0, d0]
    rfl

/-- What stands behind a quantifier: nothing, or the sign of its mode. -/
def modeB (m : Nat) : List UInt8 := if m = 0 then [] else if m = 1 then [63] else [43]
theorem mode_of (m : Nat) (hm : m ≤ 2) : modeOf (modeB m) = m := by
  obtain rfl | rfl | rfl : m = 0 ∨ m = 1 ∨ m = 2 := by omega
  all_goals rfl
def hiB (hi : Int) : List UInt8 := if hi < 0 then [] else dd hi.toNat
/-- The text of a quantifier in braces. -/
def braceT (lo : Nat) (hi : Int) (m : Nat) : List UInt8 := 123 :: (dd lo ++ 44 :: (hiB hi ++ 125 :: modeB m))
theorem drop_dd (n : Nat) (r : List UInt8) : (dd n ++ r).drop 2 = r := rfl
theorem mode_len (m : Nat) : (modeB m).length ≤ 1 := by unfold modeB; split <;> (try split) <;> simp
theorem brace_len (lo : Nat) (hi : Int) (m : Nat) : (braceT lo hi m).length ≤ 200 := by
  have := mode_len m
  have h2 : (hiB hi).length ≤ 2 := by unfold hiB; split <;> simp [dd]
  simp [braceT, dd]
  omega

theorem pre_dd (k : Nat) (hk : k ≤ 99) (r : List UInt8) : pre [44, 125] (44 :: (dd k ++ r)) = false := by
  have : ¬ (125 : UInt8) = 48 + UInt8.ofNat (k / 10) := by
    intro e
    have := congrArg UInt8.toNat e
    simp at this
    omega
  simp [pre, List.isPrefixOf, dd, this]
def rightQ (lo : Nat) (hi : Int) : Prop := lo ≤ 64 ∧ (0 ≤ hi → hi ≤ 64 ∧ (lo : Int) ≤ hi)
theorem adv_dd {σ : St} {n : Nat} {r : List UInt8} (h : σ.t = dd n ++ r) : (σ.adv 2).t = r := by simp [St.adv, h, dd]
theorem braces_ok {σ : St} {lo : Nat} {hi : Int} {m : Nat} (hlo : lo ≤ 99) (hhi : -1 ≤ hi) (hh : hi ≤ 99) (hr : rightQ lo hi) (ht : σ.t = braceT lo hi m) :
    ∃ σ1, braces σ = some (((lo : Int), hi), σ1) ∧ σ1.t = modeB m ∧ σ1.g = σ.g ∧ σ1.bk = σ.bk := by
  have h1 : (σ.adv 1).t = dd lo ++ 44 :: (hiB hi ++ 125 :: modeB m) := by simp [St.adv, ht, braceT]
  obtain ⟨n1, n2, n3⟩ := dd_num lo hlo (44 :: (hiB hi ++ 125 :: modeB m))
  have h2 : ((σ.adv 1).adv 2).t = 44 :: (hiB hi ++ 125 :: modeB m) := adv_dd h1
  unfold braces
  rw [h1, n1, n2, n3, if_pos (by simpa using hr.1), h2]
  by_cases hn : hi < 0
  · obtain rfl : hi = -1 := by omega
    have e : hiB (-1) = [] := rfl
    rw [e] at h2 ⊢
    rw [if_pos (by rfl)]
    have h3 : (((σ.adv 1).adv 2).adv 2).t = modeB m := by
      have : (((σ.adv 1).adv 2).adv 2).t = ((σ.adv 1).adv 2).t.drop 2 := rfl
      rw [this, h2]; rfl
    exact ⟨_, rfl, h3, rfl, rfl⟩
  · obtain ⟨k, rfl⟩ : ∃ k : Nat, hi = (k : Int) := ⟨hi.toNat, by omega⟩
    have e : hiB (k : Int) = dd k := by unfold hiB; rw [if_neg hn]; rfl
    rw [e] at h2 ⊢
    have hk : k ≤ 99 := by omega
    obtain ⟨m1, m2, m3⟩ := dd_num k hk (125 :: modeB m)
    obtain ⟨a0, a1⟩ := dd_at k hk (125 :: modeB m)
    have hpre : pre [44, 125] (44 :: (dd k ++ 125 :: modeB m)) = false := by
      exact pre_dd k hk _
    have h3 : (((σ.adv 1).adv 2).adv 1).t = dd k ++ 125 :: modeB m := by
      have : (((σ.adv 1).adv 2).adv 1).t = ((σ.adv 1).adv 2).t.drop 1 := rfl
      rw [this, h2]; rfl
    have h4 : ((((σ.adv 1).adv 2).adv 1).adv 2).t = 125 :: modeB m := adv_dd h3
    obtain ⟨r1, r2⟩ := hr.2 (by omega)
    rw [hpre, if_neg (by decide), if_pos (by rfl), h3, m1, m2, m3, h4, if_pos]
    · refine ⟨_, rfl, ?_, rfl, rfl⟩
      have : (((((σ.adv 1).adv 2).adv 1).adv 2).adv 1).t = ((((σ.adv 1).adv 2).adv 1).adv 2).t.drop 1 := rfl
      rw [this, h4]; rfl
    · simp [at_cons]
      omega
theorem braces_no {σ : St} {lo : Nat} {hi : Int} {m : Nat} (hlo : lo ≤ 99) (hhi : -1 ≤ hi) (hh : hi ≤ 99) (hr : ¬ rightQ lo hi) (ht : σ.t = braceT lo hi m) : braces σ = none := by
  have h1 : (σ.adv 1).t = dd lo ++ 44 :: (hiB hi ++ 125 :: modeB m) := by simp [St.adv, ht, braceT]
  obtain ⟨n1, n2, n3⟩ := dd_num lo hlo (44 :: (hiB hi ++ 125 :: modeB m))
  have h2 : ((σ.adv 1).adv 2).t = 44 :: (hiB hi ++ 125 :: modeB m) := adv_dd h1
  unfold braces
  rw [h1, n1, n2, n3, h2]
  by_cases hl : lo ≤ 64
  · rw [if_pos (by simpa using hl)]
    have hn : ¬ hi < 0 := fun h => hr ⟨hl, fun h' => absurd h (by omega)⟩
    obtain ⟨k, rfl⟩ : ∃ k : Nat, hi = (k : Int) := ⟨hi.toNat, by omega⟩
    have e : hiB (k : Int) = dd k := by unfold hiB; rw [if_neg hn]; rfl
    rw [e] at h2 ⊢
    have hk : k ≤ 99 := by omega
    obtain ⟨m1, m2, m3⟩ := dd_num k hk (125 :: modeB m)
    have hpre : pre [44, 125] (44 :: (dd k ++ 125 :: modeB m)) = false := by
      exact pre_dd k hk _
    have h3 : (((σ.adv 1).adv 2).adv 1).t = dd k ++ 125 :: modeB m := by
      have : (((σ.adv 1).adv 2).adv 1).t = ((σ.adv 1).adv 2).t.drop 1 := rfl
      rw [this, h2]; rfl
    rw [hpre, if_neg (by decide), if_pos (by rfl), h3, m1, m2, m3, if_neg]
    intro hc
    simp at hc
    exact hr ⟨hl, fun _ => ⟨by omega, by omega⟩⟩
  · rw [if_neg (by simpa using hl)]

/-- A character with a quantifier in braces. -/
theorem parse_rep (n : Nat) {c : Nat} (hc : isCh c) (hp : isSign c = false) {lo : Nat} {hi : Int} {m : Nat} (hlo : lo ≤ 99) (hhi : -1 ≤ hi) (hh : hi ≤ 99) (hm : m ≤ 2) (hr : rightQ lo hi) :
    parse (n + 4) (toB (encN c) ++ braceT lo hi m) = .ok (repN lo hi m (setN [((c : Int), (c : Int))]), 0, false) := by
  obtain ⟨σ1, hb, ht, hg, hbk⟩ := braces_ok (σ := unitSt c (braceT lo hi m)) hlo hhi hh hr rfl
  have h0 : at_ (unitSt c (braceT lo hi m)).t 0 = 123 := rfl
  have hq : quantRest false (setN [((c : Int), (c : Int))]) (unitSt c (braceT lo hi m)) = .ok (repN lo hi m (setN [((c : Int), (c : Int))]), behindMode σ1) := by
    unfold quantRest times
    rw [h0, hb]
    simp [isQ, ht, mode_of m hm, setN, Nd.kind]
  refine parse_unit hc hp (brace_len _ _ _) hq ?_ ?_ ?_
  · unfold behindMode
    rw [ht, mode_of m hm]
    by_cases h : m = 0
    · rw [if_pos h, ht, h]; rfl
    · rw [if_neg h]
      have : (σ1.adv 1).t = σ1.t.drop 1 := rfl
      rw [this, ht]
      unfold modeB
      rw [if_neg h]
      split <;> rfl
  · unfold behindMode; split
    · exact hg
    · exact hg
  · unfold behindMode; split
    · exact hbk
    · exact hbk
theorem parse_rep_no (n : Nat) {c : Nat} (hc : isCh c) (hp : isSign c = false) {lo : Nat} {hi : Int} {m : Nat} (hlo : lo ≤ 99) (hhi : -1 ≤ hi) (hh : hi ≤ 99) (hr : ¬ rightQ lo hi) :
    parse (n + 4) (toB (encN c) ++ braceT lo hi m) = .error (23, (encN c).length) := by
  have hb := braces_no (σ := unitSt c (braceT lo hi m)) hlo hhi hh hr rfl
  have h0 : at_ (unitSt c (braceT lo hi m)).t 0 = 123 := rfl
  refine parse_unit_err hc hp (brace_len _ _ _) ?_
  unfold quantRest times
  rw [h0, hb]
  simp [isQ, setN, Nd.kind, unitSt]

/-- A sign, or another mark, behind a backslash. -/
theorem parse_escaped (n : Nat) {c : Nat} (hm : isMark c = true) : parse (n + 4) [92, c.toUInt8] = .ok (setN [((c : Int), (c : Int))], 0, false) := by
  simp [isMark] at hm
  have ht : (c.toUInt8).toNat = c := by simp; omega
  obtain ⟨t, htt⟩ : ∃ t, t = [92, c.toUInt8] := ⟨_, rfl⟩
  have h0 : at_ t 0 = 92 := by rw [htt]; rfl
  have h1 : at_ t 1 = c := by rw [htt]; exact ht
  have hs : sign t = c := by unfold sign; rw [if_pos h0, h1]
  have hd : t.drop 2 = [] := by rw [htt]; rfl
  have hlen : ¬ 256 < t.length := by rw [htt]; simp
  have hf : foldAt t = false := pre40 (by omega)
  have hbg : begins t = { pos := 0, t := t, g := 0, bk := [] } := by unfold begins; rw [hf]; rfl
  have hmk : isMark c = true := by simp [isMark]; omega
  have hun : units c = none := by
    unfold units lowOf
    rw [if_neg (by omega), if_neg (by omega), if_neg (by omega), if_neg (by omega)]
  have he : escUnit { pos := 0, t := t, g := 0, bk := [] } = .ok (c, { pos := 2, t := [], g := 0, bk := [] }) := by
    unfold escUnit
    simp only [hs]
    rw [if_neg (by omega), if_neg (by omega), if_neg (by omega), if_neg (by omega), if_pos hmk]
    simp [St.adv, hd]
  have hes : escape { pos := 0, t := t, g := 0, bk := [] } = .ok (setN [((c : Int), (c : Int))], { pos := 2, t := [], g := 0, bk := [] }) := by
    unfold escape
    simp only [hs]
    rw [if_neg (by omega), if_neg (by omega), if_neg (by omega), hun, he]
  have hat : atomP { pos := 0, t := t, g := 0, bk := [] } = .ok (setN [((c : Int), (c : Int))], { pos := 2, t := [], g := 0, bk := [] }) := by
    unfold atomP
    show (if at_ t 0 = 91 then _ else if at_ t 0 = 92 then _ else _) = _
    rw [if_neg (by omega), if_pos h0, hes]
  have hrow : run (n + 3) 1 0 [] { pos := 0, t := t, g := 0, bk := [] } = .ok (setN [((c : Int), (c : Int))], { pos := 2, t := [], g := 0, bk := [] }) := by
    rw [run_row, if_neg (by
      simp only [Bool.or_eq_true, List.isEmpty_iff, decide_eq_true_eq]
      rintro (h | h | h)
      · rw [htt] at h; cases h
      · omega
      · omega), run_quant, if_neg (by show ¬ at_ t 0 = 40; omega), hat]
    simp only [quantRest, at_nil, isQ_zero]
    rw [if_neg (by decide)]
    simp only
    rw [row_ends (.inl rfl)]
    rfl
  rw [← htt]
  unfold parse
  rw [if_neg hlen, hbg, run_alts, hrow]
  simp only
  rw [if_neg (by simp [at_nil]), hf]
  exact ended_ok rfl rfl (by simp)

end Go.Proofs.YthipgidddgdojaaDoor

