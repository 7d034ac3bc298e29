/- Patterns, read: the reader as a function of what is left of the text. Of no program. -/
import Derived.Test.YthipgidddgdojaaDoorMath
import Derived.Test.YthipgidddgdojaaDoorClMath
namespace Go.Proofs.YthipgidddgdojaaDoor
open Go.Proofs.YthipgidddgdojaaDoor.Cl

/-- A node. -/
inductive Nd where
  | mk (kind lo hi mode ref : Int) (set : List Rg) (kids : List Nd)
def Nd.kind : Nd → Int
  | .mk k _ _ _ _ _ _ => k

/-- What is left of a text, and where it begins; how many groups were opened; the references so far. -/
structure St where
  pos : Nat
  t : List UInt8
  g : Nat
  bk : List (Nat × Nat)
abbrev Flt := Nat × Nat
abbrev R := Except Flt (Nd × St)

def St.adv (σ : St) (n : Nat) : St := { pos := σ.pos + n, t := σ.t.drop n, g := σ.g, bk := σ.bk }
def pre (w t : List UInt8) : Bool := w.isPrefixOf t
def sign (t : List UInt8) : Nat := if at_ t 0 = 92 then at_ t 1 else 0
def dig (c : Nat) : Bool := decide (48 ≤ c ∧ c ≤ 57)
def isMark (c : Nat) : Bool := decide (33 ≤ c ∧ c ≤ 126 ∧ ¬ (65 ≤ c ∧ c ≤ 90) ∧ ¬ (97 ≤ c ∧ c ≤ 122) ∧ ¬ (48 ≤ c ∧ c ≤ 57))
def isHex (c : Nat) : Bool := decide ((48 ≤ c ∧ c ≤ 57) ∨ (97 ≤ c ∧ c ≤ 102))
def hexV (c : Nat) : Nat := if c ≤ 57 then c - 48 else c - 87
def isQ (c : Nat) : Bool := decide (c = 42 ∨ c = 43 ∨ c = 63 ∨ c = 123)

def emptyN : Nd := .mk 0 0 0 0 0 [] []
def setN (l : List Rg) : Nd := .mk 1 0 0 0 0 l []
def catN (kids : List Nd) : Nd := .mk 2 0 0 0 0 [] kids
def altN (kids : List Nd) : Nd := .mk 3 0 0 0 0 [] kids
def repN (lo hi mode : Int) (kid : Nd) : Nd := .mk 4 lo hi mode 0 [] [kid]
def backN (g : Nat) : Nd := .mk 6 0 0 0 g [] []
def edgeN (r : Int) : Nd := .mk 9 0 0 0 r [] []
def joinA : List Nd → Nd
  | [x] => x
  | l => altN l
def joinR : List Nd → Nd
  | [] => emptyN
  | [x] => x
  | l => catN l

/-- The ranges that a letter behind a backslash stands for. -/
def lowOf (c : Nat) : Option (List Rg) :=
  if c = 100 ∨ c = 68 then some [(48, 57)]
  else if c = 119 ∨ c = 87 then some [(48, 57), (65, 90), (95, 95), (97, 122)]
  else if c = 115 ∨ c = 83 then some [(9, 13), (32, 32)]
  else none
def units (c : Nat) : Option (List Rg) := if 65 ≤ c ∧ c ≤ 90 then (lowOf c).map (gaps 0) else lowOf c
def mkSet (l : List Rg) : List Rg := together (l.mergeSort fun a b => decide (a.1 ≤ b.1))

def escUnit (σ : St) : Except Flt (Nat × St) :=
  if sign σ.t = 120 then
    if σ.t.length < 4 then .error (21, σ.pos)
    else if isHex (at_ σ.t 2) && isHex (at_ σ.t 3) then .ok (16 * hexV (at_ σ.t 2) + hexV (at_ σ.t 3), σ.adv 4)
    else .error (21, σ.pos)
  else if sign σ.t = 110 then .ok (10, σ.adv 2)
  else if sign σ.t = 116 then .ok (9, σ.adv 2)
  else if sign σ.t = 114 then .ok (13, σ.adv 2)
  else if isMark (sign σ.t) then .ok (sign σ.t, σ.adv 2)
  else .error (21, σ.pos)

def mUnit (σ : St) : Except Flt (Nat × St) := if at_ σ.t 0 = 92 then escUnit σ else .ok ((nx σ.t).1, σ.adv (nx σ.t).2)
def seesUnit (t : List UInt8) : Bool := !t.isEmpty && !decide (at_ t 0 = 91 ∨ at_ t 0 = 93 ∨ at_ t 0 = 45) && (units (sign t)).isNone
def member (σ : St) : Except Flt (List Rg × St) :=
  if at_ σ.t 0 = 91 ∨ at_ σ.t 0 = 45 then .error (22, σ.pos)
  else match units (sign σ.t) with
  | some l => .ok (l, σ.adv 2)
  | none => match mUnit σ with
    | .error e => .error e
    | .ok (lo, σ1) =>
      if at_ σ1.t 0 = 45 then
        if seesUnit (σ1.adv 1).t then
          match mUnit (σ1.adv 1) with
          | .error e => .error e
          | .ok (hi, σ3) => if hi < lo then .error (22, σ.pos) else .ok ([((lo : Int), (hi : Int))], σ3)
        else .error (22, σ.pos)
      else .ok ([((lo : Int), (lo : Int))], σ1)
def members (op : Nat) (neg : Bool) : Nat → List Rg → St → Except Flt (List Rg × St)
  | 0, _, σ => .error (0, σ.pos)
  | k + 1, acc, σ =>
    if at_ σ.t 0 = 93 then
      if acc.isEmpty then .error (22, op) else .ok (if neg then gaps 0 (mkSet acc) else mkSet acc, σ.adv 1)
    else if σ.t.isEmpty then .error (22, op)
    else match member σ with
    | .error e => .error e
    | .ok (l, σ1) => members op neg k (acc ++ l) σ1
def negAt (σ : St) : Bool := decide (at_ (σ.adv 1).t 0 = 94)
def behindNeg (σ : St) : St := if negAt σ then (σ.adv 1).adv 1 else σ.adv 1
def brackets (σ : St) : R :=
  match members σ.pos (negAt σ) 300 [] (behindNeg σ) with
  | .error e => .error e
  | .ok (l, σ1) => .ok (setN l, σ1)

def refAt (σ : St) : St := { pos := σ.pos + 2, t := σ.t.drop 2, g := σ.g, bk := σ.bk ++ [(sign σ.t - 48, σ.pos)] }
def escape (σ : St) : R :=
  if sign σ.t = 98 then .ok (edgeN 2, σ.adv 2)
  else if sign σ.t = 66 then .ok (edgeN 3, σ.adv 2)
  else if 49 ≤ sign σ.t ∧ sign σ.t ≤ 57 then .ok (backN (sign σ.t - 48), refAt σ)
  else match units (sign σ.t) with
  | some l => .ok (setN l, σ.adv 2)
  | none => match escUnit σ with
    | .error e => .error e
    | .ok (u, σ1) => .ok (setN [((u : Int), (u : Int))], σ1)

def atomP (σ : St) : R :=
  if at_ σ.t 0 = 91 then brackets σ
  else if at_ σ.t 0 = 92 then escape σ
  else if isQ (at_ σ.t 0) then .error (23, σ.pos)
  else if at_ σ.t 0 = 93 ∨ at_ σ.t 0 = 125 then .error (20, σ.pos)
  else if at_ σ.t 0 = 46 then .ok (setN [(0, 9), (11, 1114367)], σ.adv 1)
  else if at_ σ.t 0 = 94 then .ok (edgeN 0, σ.adv 1)
  else if at_ σ.t 0 = 36 then .ok (edgeN 1, σ.adv 1)
  else .ok (setN [(((nx σ.t).1 : Int), ((nx σ.t).1 : Int))], σ.adv (nx σ.t).2)

/-- A number of one or two digits: it, whether it is right, and how many bytes it takes. -/
def numOf (t : List UInt8) : Nat := if dig (at_ t 0) then (if dig (at_ t 1) then 10 * (at_ t 0 - 48) + (at_ t 1 - 48) else at_ t 0 - 48) else 0
def numLen (t : List UInt8) : Nat := if dig (at_ t 0) then (if dig (at_ t 1) then 2 else 1) else 0
def numOk (t : List UInt8) : Bool := dig (at_ t 0) && decide (numOf t ≤ 64)

def braces (σ : St) : Option ((Int × Int) × St) :=
  if numOk (σ.adv 1).t then
    if pre [44, 125] ((σ.adv 1).adv (numLen (σ.adv 1).t)).t then some ((numOf (σ.adv 1).t, -1), ((σ.adv 1).adv (numLen (σ.adv 1).t)).adv 2)
    else if at_ ((σ.adv 1).adv (numLen (σ.adv 1).t)).t 0 = 44 then
      if numOk (((σ.adv 1).adv (numLen (σ.adv 1).t)).adv 1).t && decide (numOf (σ.adv 1).t ≤ numOf (((σ.adv 1).adv (numLen (σ.adv 1).t)).adv 1).t)
          && decide (at_ ((((σ.adv 1).adv (numLen (σ.adv 1).t)).adv 1).adv (numLen (((σ.adv 1).adv (numLen (σ.adv 1).t)).adv 1).t)).t 0 = 125) then
        some ((numOf (σ.adv 1).t, numOf (((σ.adv 1).adv (numLen (σ.adv 1).t)).adv 1).t), ((((σ.adv 1).adv (numLen (σ.adv 1).t)).adv 1).adv (numLen (((σ.adv 1).adv (numLen (σ.adv 1).t)).adv 1).t)).adv 1)
      else none
    else if at_ ((σ.adv 1).adv (numLen (σ.adv 1).t)).t 0 = 125 then some ((numOf (σ.adv 1).t, numOf (σ.adv 1).t), ((σ.adv 1).adv (numLen (σ.adv 1).t)).adv 1)
    else none
  else none
def times (σ : St) : Option ((Int × Int) × St) :=
  if at_ σ.t 0 = 42 then some ((0, -1), σ.adv 1)
  else if at_ σ.t 0 = 43 then some ((1, -1), σ.adv 1)
  else if at_ σ.t 0 = 63 then some ((0, 1), σ.adv 1)
  else braces σ
def modeOf (t : List UInt8) : Nat := if at_ t 0 = 63 then 1 else if at_ t 0 = 43 then 2 else 0
def behindMode (σ : St) : St := if modeOf σ.t = 0 then σ else σ.adv 1
def quantRest (grouped : Bool) (a : Nd) (σ : St) : R :=
  if isQ (at_ σ.t 0) then
    if !grouped && (decide (a.kind = 9) || decide (a.kind = 7)) then .error (23, σ.pos)
    else match times σ with
    | none => .error (23, σ.pos)
    | some ((lo, hi), σ1) => .ok (repN lo hi (modeOf σ1.t) a, behindMode σ1)
  else .ok (a, σ)

def opened (σ : St) : St := { pos := σ.pos + 1, t := σ.t.drop 1, g := σ.g + 1, bk := σ.bk }
/-- An opening parenthesis: kind, mode and number of the node that it begins. -/
def opening (σ : St) : Except Flt ((Int × Int × Int) × St) :=
  if pre [40, 63, 58] σ.t then .ok ((0, 0, 0), σ.adv 3)
  else if pre [40, 63, 61] σ.t then .ok ((7, 0, 0), σ.adv 3)
  else if pre [40, 63, 33] σ.t then .ok ((7, 1, 0), σ.adv 3)
  else if pre [40, 63, 60, 61] σ.t then .ok ((7, 2, 0), σ.adv 4)
  else if pre [40, 63, 60, 33] σ.t then .ok ((7, 3, 0), σ.adv 4)
  else if pre [40, 63, 62] σ.t then .ok ((8, 0, 0), σ.adv 3)
  else if pre [40, 63] σ.t then .error (20, σ.pos)
  else if σ.g = 9 then .error (24, σ.pos)
  else .ok ((5, 0, ((σ.g + 1 : Nat) : Int)), opened σ)
def wrap (sh : Int × Int × Int) (kid : Nd) : Nd := if sh.1 = 0 then kid else .mk sh.1 0 0 sh.2.1 sh.2.2 [] [kid]

/-- The reader: 0 alternatives (behind those that are there), 1 a row, 2 an atom with its quantifier, 3 parentheses. -/
def run : Nat → Nat → Nat → List Nd → St → R
  | 0, _, _, _, σ => .error (0, σ.pos)
  | n + 1, 0, d, acc, σ =>
    match run n 1 d [] σ with
    | .error e => .error e
    | .ok (r, σ1) => if at_ σ1.t 0 = 124 then run n 0 d (acc ++ [r]) (σ1.adv 1) else .ok (joinA (acc ++ [r]), σ1)
  | n + 1, 1, d, acc, σ =>
    if σ.t.isEmpty || decide (at_ σ.t 0 = 124 ∨ at_ σ.t 0 = 41) then .ok (joinR acc, σ)
    else match run n 2 d [] σ with
    | .error e => .error e
    | .ok (a, σ1) => run n 1 d (acc ++ [a]) σ1
  | n + 1, 2, d, _, σ =>
    match (if at_ σ.t 0 = 40 then run n 3 d [] σ else atomP σ) with
    | .error e => .error e
    | .ok (a, σ1) => quantRest (pre [40, 63, 58] σ.t) a σ1
  | n + 1, _ + 3, d, _, σ =>
    if d = 32 then .error (25, σ.pos)
    else match opening σ with
    | .error e => .error e
    | .ok (sh, σ1) =>
      match run n 0 (d + 1) [] σ1 with
      | .error e => .error e
      | .ok (kid, σ2) => if at_ σ2.t 0 = 41 then .ok (wrap sh kid, σ2.adv 1) else .error (20, σ.pos)

def foldAt (s : List UInt8) : Bool := pre [40, 63, 105, 41] s
def begins (s : List UInt8) : St := if foldAt s then { pos := 4, t := s.drop 4, g := 0, bk := [] } else { pos := 0, t := s, g := 0, bk := [] }
def ended (fold : Bool) (r : Nd) (σ : St) : Except Flt (Nd × Nat × Bool) :=
  if !σ.t.isEmpty then .error (20, σ.pos)
  else match σ.bk.find? fun b => decide (σ.g < b.1) with
  | some b => .error (26, b.2)
  | none => .ok (r, σ.g, fold)
/-- A pattern: its root, how many groups, folded or not; or its first fault. -/
def parse (n : Nat) (s : List UInt8) : Except Flt (Nd × Nat × Bool) :=
  if 256 < s.length then .error (12, 0)
  else match run n 0 0 [] (begins s) with
  | .error e => .error e
  | .ok (r, σ) => ended (foldAt s) r σ

theorem run_alts (n d : Nat) (acc : List Nd) (σ : St) : run (n + 1) 0 d acc σ = match run n 1 d [] σ with
    | .error e => .error e
    | .ok (r, σ1) => if at_ σ1.t 0 = 124 then run n 0 d (acc ++ [r]) (σ1.adv 1) else .ok (joinA (acc ++ [r]), σ1) := rfl
theorem run_row (n d : Nat) (acc : List Nd) (σ : St) : run (n + 1) 1 d acc σ = if σ.t.isEmpty || decide (at_ σ.t 0 = 124 ∨ at_ σ.t 0 = 41) then .ok (joinR acc, σ)
    else match run n 2 d [] σ with
    | .error e => .error e
    | .ok (a, σ1) => run n 1 d (acc ++ [a]) σ1 := rfl
theorem run_quant (n d : Nat) (acc : List Nd) (σ : St) : run (n + 1) 2 d acc σ = match (if at_ σ.t 0 = 40 then run n 3 d [] σ else atomP σ) with
    | .error e => .error e
    | .ok (a, σ1) => quantRest (pre [40, 63, 58] σ.t) a σ1 := rfl
theorem run_paren (n d : Nat) (acc : List Nd) (σ : St) : run (n + 1) 3 d acc σ = if d = 32 then .error (25, σ.pos)
    else match opening σ with
    | .error e => .error e
    | .ok (sh, σ1) =>
      match run n 0 (d + 1) [] σ1 with
      | .error e => .error e
      | .ok (kid, σ2) => if at_ σ2.t 0 = 41 then .ok (wrap sh kid, σ2.adv 1) else .error (20, σ.pos) := rfl

end Go.Proofs.YthipgidddgdojaaDoor
