/- Joined: Pm, PmSim, PmLen, PTop, PCode, PNine, PBr, PmWf, PmW, PmLk, PmCk, PmSh, PmUn. -/
import Derived.Test.YtpginkdkblmnbaaGreatDoorYMMath
/- Patterns, read: the reader as a function of what is left of the text. Of no program. -/
namespace Go.Proofs.YtpginkdkblmnbaaGreatDoor
open Go.Proofs.YtpginkdkblmnbaaGreatDoor.Cl

/-- A node. -/
inductive Nd where
  | mk (kind lo hi mode ref : Int) (set : List Rg) (kids : List Nd)
def Nd.kind : Nd → Int
  | .mk k _ _ _ _ _ _ => k

/-- What is left of a text, and where it begins; how many groups were opened; the references so far. -/
structure St where
  pos : Nat
  t : List UInt8
  g : Nat
  bk : List (Nat × Nat)
abbrev Flt := Nat × Nat
abbrev R := Except Flt (Nd × St)

def St.adv (σ : St) (n : Nat) : St := { pos := σ.pos + n, t := σ.t.drop n, g := σ.g, bk := σ.bk }
def pre (w t : List UInt8) : Bool := w.isPrefixOf t
def sign (t : List UInt8) : Nat := if at_ t 0 = 92 then at_ t 1 else 0
def dig (c : Nat) : Bool := decide (48 ≤ c ∧ c ≤ 57)
def isMark (c : Nat) : Bool := decide (33 ≤ c ∧ c ≤ 126 ∧ ¬ (65 ≤ c ∧ c ≤ 90) ∧ ¬ (97 ≤ c ∧ c ≤ 122) ∧ ¬ (48 ≤ c ∧ c ≤ 57))
def isHex (c : Nat) : Bool := decide ((48 ≤ c ∧ c ≤ 57) ∨ (97 ≤ c ∧ c ≤ 102))
def hexV (c : Nat) : Nat := if c ≤ 57 then c - 48 else c - 87
def isQ (c : Nat) : Bool := decide (c = 42 ∨ c = 43 ∨ c = 63 ∨ c = 123)

def emptyN : Nd := .mk 0 0 0 0 0 [] []
def setN (l : List Rg) : Nd := .mk 1 0 0 0 0 l []
def catN (kids : List Nd) : Nd := .mk 2 0 0 0 0 [] kids
def altN (kids : List Nd) : Nd := .mk 3 0 0 0 0 [] kids
def repN (lo hi mode : Int) (kid : Nd) : Nd := .mk 4 lo hi mode 0 [] [kid]
def backN (g : Nat) : Nd := .mk 6 0 0 0 g [] []
def edgeN (r : Int) : Nd := .mk 9 0 0 0 r [] []
def joinA : List Nd → Nd
  | [x] => x
  | l => altN l
def joinR : List Nd → Nd
  | [] => emptyN
  | [x] => x
  | l => catN l

/-- The ranges that a letter behind a backslash stands for. -/
def lowOf (c : Nat) : Option (List Rg) :=
  if c = 100 ∨ c = 68 then some [(48, 57)]
  else if c = 119 ∨ c = 87 then some [(48, 57), (65, 90), (95, 95), (97, 122)]
  else if c = 115 ∨ c = 83 then some [(9, 13), (32, 32)]
  else none
def units (c : Nat) : Option (List Rg) := if 65 ≤ c ∧ c ≤ 90 then (lowOf c).map (gaps 0) else lowOf c
def mkSet (l : List Rg) : List Rg := together (l.mergeSort fun a b => decide (a.1 ≤ b.1))

def escUnit (σ : St) : Except Flt (Nat × St) :=
  if sign σ.t = 120 then
    if σ.t.length < 4 then .error (21, σ.pos)
    else if isHex (at_ σ.t 2) && isHex (at_ σ.t 3) then .ok (16 * hexV (at_ σ.t 2) + hexV (at_ σ.t 3), σ.adv 4)
    else .error (21, σ.pos)
  else if sign σ.t = 110 then .ok (10, σ.adv 2)
  else if sign σ.t = 116 then .ok (9, σ.adv 2)
  else if sign σ.t = 114 then .ok (13, σ.adv 2)
  else if isMark (sign σ.t) then .ok (sign σ.t, σ.adv 2)
  else .error (21, σ.pos)

def mUnit (σ : St) : Except Flt (Nat × St) := if at_ σ.t 0 = 92 then escUnit σ else .ok ((nx σ.t).1, σ.adv (nx σ.t).2)
def seesUnit (t : List UInt8) : Bool := !t.isEmpty && !decide (at_ t 0 = 91 ∨ at_ t 0 = 93 ∨ at_ t 0 = 45) && (units (sign t)).isNone
def member (σ : St) : Except Flt (List Rg × St) :=
  if at_ σ.t 0 = 91 ∨ at_ σ.t 0 = 45 then .error (22, σ.pos)
  else match units (sign σ.t) with
  | some l => .ok (l, σ.adv 2)
  | none => match mUnit σ with
    | .error e => .error e
    | .ok (lo, σ1) =>
      if at_ σ1.t 0 = 45 then
        if seesUnit (σ1.adv 1).t then
          match mUnit (σ1.adv 1) with
          | .error e => .error e
          | .ok (hi, σ3) => if hi < lo then .error (22, σ.pos) else .ok ([((lo : Int), (hi : Int))], σ3)
        else .error (22, σ.pos)
      else .ok ([((lo : Int), (lo : Int))], σ1)
def members (op : Nat) (neg : Bool) : Nat → List Rg → St → Except Flt (List Rg × St)
  | 0, _, σ => .error (0, σ.pos)
  | k + 1, acc, σ =>
    if at_ σ.t 0 = 93 then
      if acc.isEmpty then .error (22, op) else .ok (if neg then gaps 0 (mkSet acc) else mkSet acc, σ.adv 1)
    else if σ.t.isEmpty then .error (22, op)
    else match member σ with
    | .error e => .error e
    | .ok (l, σ1) => members op neg k (acc ++ l) σ1
def negAt (σ : St) : Bool := decide (at_ (σ.adv 1).t 0 = 94)
def behindNeg (σ : St) : St := if negAt σ then (σ.adv 1).adv 1 else σ.adv 1
def brackets (σ : St) : R :=
  match members σ.pos (negAt σ) 300 [] (behindNeg σ) with
  | .error e => .error e
  | .ok (l, σ1) => .ok (setN l, σ1)

def refAt (σ : St) : St := { pos := σ.pos + 2, t := σ.t.drop 2, g := σ.g, bk := σ.bk ++ [(sign σ.t - 48, σ.pos)] }
def escape (σ : St) : R :=
  if sign σ.t = 98 then .ok (edgeN 2, σ.adv 2)
  else if sign σ.t = 66 then .ok (edgeN 3, σ.adv 2)
  else if 49 ≤ sign σ.t ∧ sign σ.t ≤ 57 then .ok (backN (sign σ.t - 48), refAt σ)
  else match units (sign σ.t) with
  | some l => .ok (setN l, σ.adv 2)
  | none => match escUnit σ with
    | .error e => .error e
    | .ok (u, σ1) => .ok (setN [((u : Int), (u : Int))], σ1)

def atomP (σ : St) : R :=
  if at_ σ.t 0 = 91 then brackets σ
  else if at_ σ.t 0 = 92 then escape σ
  else if isQ (at_ σ.t 0) then .error (23, σ.pos)
  else if at_ σ.t 0 = 93 ∨ at_ σ.t 0 = 125 then .error (20, σ.pos)
  else if at_ σ.t 0 = 46 then .ok (setN [(0, 9), (11, 1114367)], σ.adv 1)
  else if at_ σ.t 0 = 94 then .ok (edgeN 0, σ.adv 1)
  else if at_ σ.t 0 = 36 then .ok (edgeN 1, σ.adv 1)
  else .ok (setN [(((nx σ.t).1 : Int), ((nx σ.t).1 : Int))], σ.adv (nx σ.t).2)

/-- A number of one or two digits: it, whether it is right, and how many bytes it takes. -/
def numOf (t : List UInt8) : Nat := if dig (at_ t 0) then (if dig (at_ t 1) then 10 * (at_ t 0 - 48) + (at_ t 1 - 48) else at_ t 0 - 48) else 0
def numLen (t : List UInt8) : Nat := if dig (at_ t 0) then (if dig (at_ t 1) then 2 else 1) else 0
def numOk (t : List UInt8) : Bool := dig (at_ t 0) && decide (numOf t ≤ 64)

def braces (σ : St) : Option ((Int × Int) × St) :=
  if numOk (σ.adv 1).t then
    if pre [44, 125] ((σ.adv 1).adv (numLen (σ.adv 1).t)).t then some ((numOf (σ.adv 1).t, -1), ((σ.adv 1).adv (numLen (σ.adv 1).t)).adv 2)
    else if at_ ((σ.adv 1).adv (numLen (σ.adv 1).t)).t 0 = 44 then
      if numOk (((σ.adv 1).adv (numLen (σ.adv 1).t)).adv 1).t && decide (numOf (σ.adv 1).t ≤ numOf (((σ.adv 1).adv (numLen (σ.adv 1).t)).adv 1).t)
          && decide (at_ ((((σ.adv 1).adv (numLen (σ.adv 1).t)).adv 1).adv (numLen (((σ.adv 1).adv (numLen (σ.adv 1).t)).adv 1).t)).t 0 = 125) then
        some ((numOf (σ.adv 1).t, numOf (((σ.adv 1).adv (numLen (σ.adv 1).t)).adv 1).t), ((((σ.adv 1).adv (numLen (σ.adv 1).t)).adv 1).adv (numLen (((σ.adv 1).adv (numLen (σ.adv 1).t)).adv 1).t)).adv 1)
      else none
    else if at_ ((σ.adv 1).adv (numLen (σ.adv 1).t)).t 0 = 125 then some ((numOf (σ.adv 1).t, numOf (σ.adv 1).t), ((σ.adv 1).adv (numLen (σ.adv 1).t)).adv 1)
    else none
  else none
def times (σ : St) : Option ((Int × Int) × St) :=
  if at_ σ.t 0 = 42 then some ((0, -1), σ.adv 1)
  else if at_ σ.t 0 = 43 then some ((1, -1), σ.adv 1)
  else if at_ σ.t 0 = 63 then some ((0, 1), σ.adv 1)
  else braces σ
def modeOf (t : List UInt8) : Nat := if at_ t 0 = 63 then 1 else if at_ t 0 = 43 then 2 else 0
def behindMode (σ : St) : St := if modeOf σ.t = 0 then σ else σ.adv 1
def quantRest (grouped : Bool) (a : Nd) (σ : St) : R :=
  if isQ (at_ σ.t 0) then
    if !grouped && (decide (a.kind = 9) || decide (a.kind = 7)) then .error (23, σ.pos)
    else match times σ with
    | none => .error (23, σ.pos)
    | some ((lo, hi), σ1) => .ok (repN lo hi (modeOf σ1.t) a, behindMode σ1)
  else .ok (a, σ)

def opened (σ : St) : St := { pos := σ.pos + 1, t := σ.t.drop 1, g := σ.g + 1, bk := σ.bk }
/-- An opening parenthesis: kind, mode and number of the node that it begins. -/
def opening (σ : St) : Except Flt ((Int × Int × Int) × St) :=
  if pre [40, 63, 58] σ.t then .ok ((0, 0, 0), σ.adv 3)
  else if pre [40, 63, 61] σ.t then .ok ((7, 0, 0), σ.adv 3)
  else if pre [40, 63, 33] σ.t then .ok ((7, 1, 0), σ.adv 3)
  else if pre [40, 63, 60, 61] σ.t then .ok ((7, 2, 0), σ.adv 4)
  else if pre [40, 63, 60, 33] σ.t then .ok ((7, 3, 0), σ.adv 4)
  else if pre [40, 63, 62] σ.t then .ok ((8, 0, 0), σ.adv 3)
  else if pre [40, 63] σ.t then .error (20, σ.pos)
  else if σ.g = 9 then .error (24, σ.pos)
  else .ok ((5, 0, ((σ.g + 1 : Nat) : Int)), opened σ)
def wrap (sh : Int × Int × Int) (kid : Nd) : Nd := if sh.1 = 0 then kid else .mk sh.1 0 0 sh.2.1 sh.2.2 [] [kid]

/-- The reader: 0 alternatives (behind those that are there), 1 a row, 2 an atom with its quantifier, 3 parentheses. -/
def run : Nat → Nat → Nat → List Nd → St → R
  | 0, _, _, _, σ => .error (0, σ.pos)
  | n + 1, 0, d, acc, σ =>
    match run n 1 d [] σ with
    | .error e => .error e
    | .ok (r, σ1) => if at_ σ1.t 0 = 124 then run n 0 d (acc ++ [r]) (σ1.adv 1) else .ok (joinA (acc ++ [r]), σ1)
  | n + 1, 1, d, acc, σ =>
    if σ.t.isEmpty || decide (at_ σ.t 0 = 124 ∨ at_ σ.t 0 = 41) then .ok (joinR acc, σ)
    else match run n 2 d [] σ with
    | .error e => .error e
    | .ok (a, σ1) => run n 1 d (acc ++ [a]) σ1
  | n + 1, 2, d, _, σ =>
    match (if at_ σ.t 0 = 40 then run n 3 d [] σ else atomP σ) with
    | .error e => .error e
    | .ok (a, σ1) => quantRest (pre [40, 63, 58] σ.t) a σ1
  | n + 1, _ + 3, d, _, σ =>
    if d = 32 then .error (25, σ.pos)
    else match opening σ with
    | .error e => .error e
    | .ok (sh, σ1) =>
      match run n 0 (d + 1) [] σ1 with
      | .error e => .error e
      | .ok (kid, σ2) => if at_ σ2.t 0 = 41 then .ok (wrap sh kid, σ2.adv 1) else .error (20, σ.pos)

def foldAt (s : List UInt8) : Bool := pre [40, 63, 105, 41] s
def begins (s : List UInt8) : St := if foldAt s then { pos := 4, t := s.drop 4, g := 0, bk := [] } else { pos := 0, t := s, g := 0, bk := [] }
def ended (fold : Bool) (r : Nd) (σ : St) : Except Flt (Nd × Nat × Bool) :=
  if !σ.t.isEmpty then .error (20, σ.pos)
  else match σ.bk.find? fun b => decide (σ.g < b.1) with
  | some b => .error (26, b.2)
  | none => .ok (r, σ.g, fold)
/-- A pattern: its root, how many groups, folded or not; or its first fault. -/
def parse (n : Nat) (s : List UInt8) : Except Flt (Nd × Nat × Bool) :=
  if 256 < s.length then .error (12, 0)
  else match run n 0 0 [] (begins s) with
  | .error e => .error e
  | .ok (r, σ) => ended (foldAt s) r σ

theorem run_alts (n d : Nat) (acc : List Nd) (σ : St) : run (n + 1) 0 d acc σ = match run n 1 d [] σ with
    | .error e => .error e
    | .ok (r, σ1) => if at_ σ1.t 0 = 124 then run n 0 d (acc ++ [r]) (σ1.adv 1) else .ok (joinA (acc ++ [r]), σ1) := rfl
theorem run_row (n d : Nat) (acc : List Nd) (σ : St) : run (n + 1) 1 d acc σ = if σ.t.isEmpty || decide (at_ σ.t 0 = 124 ∨ at_ σ.t 0 = 41) then .ok (joinR acc, σ)
    else match run n 2 d [] σ with
    | .error e => .error e
    | .ok (a, σ1) => run n 1 d (acc ++ [a]) σ1 := rfl
theorem run_quant (n d : Nat) (acc : List Nd) (σ : St) : run (n + 1) 2 d acc σ = match (if at_ σ.t 0 = 40 then run n 3 d [] σ else atomP σ) with
    | .error e => .error e
    | .ok (a, σ1) => quantRest (pre [40, 63, 58] σ.t) a σ1 := rfl
theorem run_paren (n d : Nat) (acc : List Nd) (σ : St) : run (n + 1) 3 d acc σ = if d = 32 then .error (25, σ.pos)
    else match opening σ with
    | .error e => .error e
    | .ok (sh, σ1) =>
      match run n 0 (d + 1) [] σ1 with
      | .error e => .error e
      | .ok (kid, σ2) => if at_ σ2.t 0 = 41 then .ok (wrap sh kid, σ2.adv 1) else .error (20, σ.pos) := rfl

end Go.Proofs.YtpginkdkblmnbaaGreatDoor

/- Patterns, read: what stands behind a closing parenthesis, and where the text begins, play no part. -/
namespace Go.Proofs.YtpginkdkblmnbaaGreatDoor
open Go.Proofs.YtpginkdkblmnbaaGreatDoor.Cl

/-- What may stand behind: nothing, or a closing parenthesis and what you like. -/
def Tail (q : List UInt8) : Prop := q = [] ∨ ∃ p, q = 41 :: p
theorem at_nil (i : Nat) : at_ [] i = 0 := by simp [at_]
theorem at_tail0 {q : List UInt8} (h : Tail q) : at_ q 0 = 0 ∨ at_ q 0 = 41 := by
  rcases h with rfl | ⟨p, rfl⟩
  · exact .inl (at_nil 0)
  · exact .inr rfl
theorem at_app0 {t : List UInt8} (q : List UInt8) (h : t ≠ []) : at_ (t ++ q) 0 = at_ t 0 := at_app_l (by cases t <;> simp_all)
theorem at_sim {t q : List UInt8} (h : Tail q) {c : Nat} (h0 : c ≠ 0) (h1 : c ≠ 41) : at_ (t ++ q) 0 = c ↔ at_ t 0 = c := by
  by_cases ht : t = []
  · subst ht
    rw [List.nil_append, at_nil]
    rcases at_tail0 h with e | e <;> rw [e] <;> omega
  · rw [at_app0 q ht]
theorem at_ne {t : List UInt8} (h : at_ t 0 ≠ 0) : t ≠ [] := by
  rintro rfl
  exact h (at_nil 0)
theorem len_ne {t : List UInt8} (h : t ≠ []) : 1 ≤ t.length := by cases t <;> simp_all
theorem pre_len {w t : List UInt8} (h : pre w t = true) : w.length ≤ t.length := by
  unfold pre at h
  exact (List.isPrefixOf_iff_prefix.1 h).length_le
theorem pre_sim (w : List UInt8) {q : List UInt8} (h : Tail q) (hw : (41 : UInt8) ∉ w) : ∀ t, pre w (t ++ q) = pre w t := by
  induction w with
  | nil => intro t; simp [pre]
  | cons a w ih =>
    intro t
    cases t with
    | nil =>
      rcases h with rfl | ⟨p, rfl⟩
      · rfl
      · have : ¬ a = 41 := fun e => hw (by simp [e])
        simp [pre, List.isPrefixOf, this]
    | cons b t =>
      have := ih (fun e => hw (List.mem_cons_of_mem _ e)) t
      simp only [pre] at this
      simp only [pre, List.cons_append, List.isPrefixOf, this]

structure Sim (γ : Nat) (B : List Nat) (q : List UInt8) (σ σ' : St) : Prop where
  ht : σ'.t = σ.t ++ q
  hg : σ'.g = σ.g + γ
  hb : σ'.bk.map (·.1) = B ++ σ.bk.map (·.1)

variable {γ δ : Nat} {B : List Nat} {q : List UInt8} {σ σ' σ1 : St}
theorem Sim.adv (h : Sim γ B q σ σ') {n : Nat} (hn : n ≤ σ.t.length) : Sim γ B q (σ.adv n) (σ'.adv n) :=
  ⟨by simp only [St.adv]; rw [h.ht, List.drop_append_of_le_length hn], h.hg, h.hb⟩
theorem Sim.at_ (h : Sim γ B q σ σ') (hq : Tail q) {c : Nat} (h0 : c ≠ 0) (h1 : c ≠ 41) : at_ σ'.t 0 = c ↔ at_ σ.t 0 = c := by rw [h.ht]; exact at_sim hq h0 h1
theorem Sim.pre (h : Sim γ B q σ σ') (hq : Tail q) (w : List UInt8) (hw : (41 : UInt8) ∉ w) : pre w σ'.t = pre w σ.t := by rw [h.ht]; exact pre_sim w hq hw _

theorem sign_len {t : List UInt8} (h : sign t ≠ 0) : 2 ≤ t.length ∧ at_ t 0 = 92 := by
  unfold sign at h
  split at h
  · rename_i h0
    refine ⟨?_, h0⟩
    rcases Nat.lt_or_ge t.length 2 with hl | hl
    · exact absurd (at_out (by omega)) h
    · exact hl
  · exact absurd rfl h
theorem sign_else {t : List UInt8} (h : at_ t 0 ≠ 92) : sign t = 0 := by
  unfold sign
  rw [if_neg h]
theorem units_zero : units 0 = none := by simp [units, lowOf]

theorem escUnit_sign {u : Nat} (h : escUnit σ = .ok (u, σ1)) : sign σ.t ≠ 0 := by
  intro e
  unfold escUnit at h
  rw [e] at h
  simp [isMark] at h
theorem units_some {c : Nat} {l : List Rg} (h : units c = some l) : c ≠ 0 := by
  rintro rfl
  rw [units_zero] at h
  cases h
theorem seesUnit_ne {t : List UInt8} (hu : seesUnit t = true) : t ≠ [] := by rintro rfl; simp [seesUnit] at hu

theorem dig_iff (c : Nat) : dig c = true ↔ 48 ≤ c ∧ c ≤ 57 := by simp [dig]
theorem dig_no {c : Nat} (h : c < 48) : dig c = false := by simp [dig]; omega
theorem num_sim (hq : Tail q) (t : List UInt8) : numOf (t ++ q) = numOf t ∧ numLen (t ++ q) = numLen t ∧ numOk (t ++ q) = numOk t ∧ numLen t ≤ t.length := by
  have hq0 : dig (at_ q 0) = false := dig_no (by rcases at_tail0 hq with e | e <;> omega)
  match t with
  | [] =>
    have e0 : dig (at_ ([] : List UInt8) 0) = false := dig_no (by rw [at_nil]; omega)
    simp only [List.nil_append, numOk, numOf, numLen, hq0, e0, Bool.false_and]
    simp
  | [a] =>
    have e0 : at_ ([a] ++ q) 0 = at_ [a] 0 := rfl
    have e1 : at_ ([a] ++ q) 1 = at_ q 0 := by rw [at_app_r (by simp)]; rfl
    have e2 : dig (at_ [a] 1) = false := dig_no (by rw [at_out (by simp)]; omega)
    unfold numOk numOf numLen
    rw [e0, e1, hq0, e2]
    refine ⟨rfl, rfl, rfl, ?_⟩
    split <;> simp
  | a :: b :: r =>
    have e0 : at_ (a :: b :: r ++ q) 0 = at_ (a :: b :: r) 0 := rfl
    have e1 : at_ (a :: b :: r ++ q) 1 = at_ (a :: b :: r) 1 := rfl
    unfold numOk numOf numLen
    rw [e0, e1]
    refine ⟨rfl, rfl, rfl, ?_⟩
    split
    · split <;> simp
    · simp
theorem Sim.num (hs : Sim γ B q σ σ') (hq : Tail q) : numOf σ'.t = numOf σ.t ∧ numLen σ'.t = numLen σ.t ∧ numOk σ'.t = numOk σ.t := by
  obtain ⟨a, b, c, _⟩ := num_sim hq σ.t
  rw [hs.ht]
  exact ⟨a, b, c⟩

end Go.Proofs.YtpginkdkblmnbaaGreatDoor

/- Patterns, read: the reader goes on; what it reads is right. -/
namespace Go.Proofs.YtpginkdkblmnbaaGreatDoor
open Go.Proofs.YtpginkdkblmnbaaGreatDoor.Cl
variable {σ σ1 : St}

theorem adv_len (σ : St) (n : Nat) : (σ.adv n).t.length = σ.t.length - n := by simp [St.adv]
theorem adv_g (σ : St) (n : Nat) : (σ.adv n).g = σ.g := rfl
theorem sign_lt (t : List UInt8) : sign t < 256 := by
  unfold sign
  split
  · exact at_lt t 1
  · omega
theorem isHex_le {c : Nat} (h : isHex c = true) : hexV c ≤ 15 := by
  simp [isHex] at h
  unfold hexV
  split <;> omega
theorem escUnit_len {u : Nat} (h : escUnit σ = .ok (u, σ1)) : σ1.t.length + 1 ≤ σ.t.length ∧ u ≤ 255 ∧ σ1.g = σ.g := by
  have hz := sign_len (escUnit_sign h)
  have hl := sign_lt σ.t
  unfold escUnit at h
  repeat' split at h
  all_goals first
    | (injection h with h; injection h with h1 h2; subst h1 h2
       simp only [adv_len, adv_g, and_true]
       first
         | omega
         | (rename_i c
            simp only [Bool.and_eq_true] at c
            have a := isHex_le c.1
            have b := isHex_le c.2
            omega))
    | cases h
theorem nx_max (t : List UInt8) (h : t ≠ []) : (nx t).1 ≤ 1114367 := by
  rcases nx_right t h with h1 | h1
  · have := h1.1
    omega
  · exact h1.2
theorem mUnit_len {u : Nat} (h : mUnit σ = .ok (u, σ1)) (hn : σ.t ≠ []) : σ1.t.length + 1 ≤ σ.t.length ∧ u ≤ 1114367 ∧ σ1.g = σ.g := by
  unfold mUnit at h
  split at h
  · have := escUnit_len h
    omega
  · injection h with h; injection h with h1 h2; subst h1 h2
    have := nx_le σ.t hn
    have := nx_max σ.t hn
    simp only [adv_len, adv_g, and_true]
    omega
theorem lowOf_ok {c : Nat} {l : List Rg} (h : lowOf c = some l) : Norm l ∧ l.length ≤ 4 := by
  unfold lowOf at h
  repeat' split at h
  all_goals first
    | (injection h with h; subst h; simp [Norm, Rt])
    | cases h
theorem units_ok {c : Nat} {l : List Rg} (h : units c = some l) : (∀ r ∈ l, Rt r) ∧ l.length ≤ 5 := by
  unfold units at h
  split at h
  · obtain ⟨l', hl, rfl⟩ := Option.map_eq_some_iff.1 h
    obtain ⟨h1, h2⟩ := lowOf_ok hl
    have h3 := gaps_len l' 0
    exact ⟨(gaps_ok l' 0 (by omega) h1 (fun r hr => (h1.1 r hr).1)).1.1, by omega⟩
  · obtain ⟨h1, h2⟩ := lowOf_ok h
    exact ⟨h1.1, by omega⟩
theorem member_len {l : List Rg} (h : member σ = .ok (l, σ1)) (hn : σ.t ≠ []) : σ1.t.length + 1 ≤ σ.t.length ∧ (∀ r ∈ l, Rt r) ∧ l.length ≤ 5 ∧ σ1.g = σ.g := by
  unfold member at h
  split at h
  · cases h
  split at h
  · rename_i l' hu
    injection h with h; injection h with h1 h2; subst h1 h2
    have := (sign_len (units_some hu)).1
    obtain ⟨a, b⟩ := units_ok hu
    exact ⟨by rw [adv_len]; omega, a, b, rfl⟩
  · split at h
    · cases h
    · rename_i lo σa hm
      obtain ⟨a1, a2, a3⟩ := mUnit_len hm hn
      split at h
      · rename_i c
        split at h
        · rename_i hs
          split at h
          · cases h
          · rename_i hi σb hm2
            obtain ⟨b1, b2, b3⟩ := mUnit_len hm2 (seesUnit_ne hs)
            rw [adv_len] at b1
            rw [adv_g] at b3
            split at h
            · cases h
            · injection h with h; injection h with h1 h2; subst h1 h2
              refine ⟨by omega, ?_, by simp, by omega⟩
              intro r hr
              obtain rfl := List.mem_singleton.1 hr
              unfold Rt
              simp only
              omega
        · cases h
      · injection h with h; injection h with h1 h2; subst h1 h2
        refine ⟨by omega, ?_, by simp, a3⟩
        intro r hr
        obtain rfl := List.mem_singleton.1 hr
        unfold Rt
        simp only
        omega
theorem members_len {op : Nat} {neg : Bool} : ∀ {k : Nat} {acc l : List Rg} {σ σ1 : St}, members op neg k acc σ = .ok (l, σ1) → σ1.t.length + 1 ≤ σ.t.length ∧ σ1.g = σ.g
  | 0, _, _, _, _, h => by simp [members] at h
  | k + 1, acc, l, σ, σ1, h => by
    unfold members at h
    split at h
    · rename_i c
      have := len_ne (at_ne (t := σ.t) (by omega))
      split at h
      · cases h
      · injection h with h; injection h with h1 h2; subst h1 h2
        exact ⟨by rw [adv_len]; omega, rfl⟩
    · split at h
      · cases h
      · rename_i c2
        have hn : σ.t ≠ [] := by intro e; rw [e] at c2; simp at c2
        split at h
        · cases h
        · rename_i l1 σa hm
          have h1 := member_len hm hn
          have h2 := members_len h
          omega
theorem brackets_len {r : Nd} (h : brackets σ = .ok (r, σ1)) (hc : at_ σ.t 0 = 91) : σ1.t.length + 1 ≤ σ.t.length ∧ σ1.g = σ.g := by
  have h0 := len_ne (at_ne (t := σ.t) (by omega))
  unfold brackets at h
  split at h
  · cases h
  · rename_i l σa hm
    injection h with h; injection h with h1 h2; subst h1 h2
    have := members_len hm
    have hb : (behindNeg σ).t.length ≤ σ.t.length - 1 ∧ (behindNeg σ).g = σ.g := by
      unfold behindNeg
      split
      · exact ⟨by rw [adv_len, adv_len]; omega, rfl⟩
      · exact ⟨by rw [adv_len]; omega, rfl⟩
    omega
theorem escape_len {r : Nd} (h : escape σ = .ok (r, σ1)) : σ1.t.length + 1 ≤ σ.t.length ∧ σ1.g = σ.g := by
  unfold escape at h
  split at h
  · have := (sign_len (t := σ.t) (by omega)).1
    injection h with h; injection h with h1 h2; subst h1 h2
    exact ⟨by rw [adv_len]; omega, rfl⟩
  split at h
  · have := (sign_len (t := σ.t) (by omega)).1
    injection h with h; injection h with h1 h2; subst h1 h2
    exact ⟨by rw [adv_len]; omega, rfl⟩
  split at h
  · have := (sign_len (t := σ.t) (by omega)).1
    injection h with h; injection h with h1 h2; subst h1 h2
    refine ⟨?_, rfl⟩
    simp only [refAt, List.length_drop]
    omega
  split at h
  · rename_i hu
    have := (sign_len (units_some hu)).1
    injection h with h; injection h with h1 h2; subst h1 h2
    exact ⟨by rw [adv_len]; omega, rfl⟩
  · split at h
    · cases h
    · rename_i hm
      injection h with h; injection h with h1 h2; subst h1 h2
      have := escUnit_len hm
      omega
theorem atomP_len {r : Nd} (h : atomP σ = .ok (r, σ1)) (hn : σ.t ≠ []) : σ1.t.length + 1 ≤ σ.t.length ∧ σ1.g = σ.g := by
  have h1l := len_ne hn
  unfold atomP at h
  split at h
  · rename_i c
    exact brackets_len h c
  split at h
  · exact escape_len h
  split at h
  · cases h
  split at h
  · cases h
  have hnx := nx_le σ.t hn
  repeat' split at h
  all_goals
    injection h with h; injection h with h1 h2; subst h1 h2
    exact ⟨by rw [adv_len]; omega, rfl⟩
theorem braces_len {x : Int × Int} (h : braces σ = some (x, σ1)) : σ1.t.length ≤ σ.t.length ∧ σ1.g = σ.g := by
  unfold braces at h
  repeat' split at h
  all_goals first
    | (injection h with h; injection h with h1 h2; subst h1 h2
       simp only [adv_len, adv_g, and_true]
       omega)
    | cases h
theorem times_len {x : Int × Int} (h : times σ = some (x, σ1)) : σ1.t.length ≤ σ.t.length ∧ σ1.g = σ.g := by
  unfold times at h
  split at h
  · injection h with h; injection h with h1 h2; subst h1 h2
    exact ⟨by rw [adv_len]; omega, rfl⟩
  split at h
  · injection h with h; injection h with h1 h2; subst h1 h2
    exact ⟨by rw [adv_len]; omega, rfl⟩
  split at h
  · injection h with h; injection h with h1 h2; subst h1 h2
    exact ⟨by rw [adv_len]; omega, rfl⟩
  exact braces_len h
theorem behindMode_len (σ : St) : (behindMode σ).t.length ≤ σ.t.length ∧ (behindMode σ).g = σ.g := by
  unfold behindMode
  split
  · exact ⟨Nat.le_refl _, rfl⟩
  · exact ⟨by rw [adv_len]; omega, rfl⟩
theorem quantRest_len {gr : Bool} {a r : Nd} (h : quantRest gr a σ = .ok (r, σ1)) : σ1.t.length ≤ σ.t.length ∧ σ1.g = σ.g := by
  unfold quantRest at h
  split at h
  · split at h
    · cases h
    · split at h
      · cases h
      · rename_i lo hi σa ht
        injection h with h; injection h with h1 h2; subst h1 h2
        have a := times_len ht
        have b := behindMode_len σa
        omega
  · injection h with h; injection h with h1 h2; subst h1 h2
    exact ⟨Nat.le_refl _, rfl⟩
theorem opening_len {sh : Int × Int × Int} (h : opening σ = .ok (sh, σ1)) (hc : at_ σ.t 0 = 40) : σ1.t.length + 1 ≤ σ.t.length ∧ σ.g ≤ σ1.g := by
  have h0 := len_ne (at_ne (t := σ.t) (by omega))
  unfold opening at h
  repeat' split at h
  all_goals first
    | (injection h with h; injection h with h1 h2; subst h1 h2
       first
         | exact ⟨by rw [adv_len]; omega, Nat.le_refl _⟩
         | exact ⟨by simp only [opened, List.length_drop]; omega, by simp only [opened]; omega⟩)
    | cases h

/-- What is left gets less; groups get more. -/
theorem run_len : ∀ (n : Nat), (∀ d acc σ r σ1, run n 0 d acc σ = .ok (r, σ1) → σ1.t.length ≤ σ.t.length ∧ σ.g ≤ σ1.g) ∧
    (∀ d acc σ r σ1, run n 1 d acc σ = .ok (r, σ1) → σ1.t.length ≤ σ.t.length ∧ σ.g ≤ σ1.g) ∧
    (∀ d acc σ r σ1, σ.t ≠ [] → run n 2 d acc σ = .ok (r, σ1) → σ1.t.length + 1 ≤ σ.t.length ∧ σ.g ≤ σ1.g) ∧
    (∀ d acc σ r σ1, at_ σ.t 0 = 40 → run n 3 d acc σ = .ok (r, σ1) → σ1.t.length + 1 ≤ σ.t.length ∧ σ.g ≤ σ1.g) := by
  intro n
  induction n with
  | zero => refine ⟨?_, ?_, ?_, ?_⟩ <;> intros <;> simp [run] at *
  | succ n ih =>
    obtain ⟨i0, i1, i2, i3⟩ := ih
    refine ⟨?_, ?_, ?_, ?_⟩
    · intro d acc σ r σ1 h
      rw [run_alts] at h
      split at h
      · cases h
      · rename_i r1 σa ha
        have a := i1 _ _ _ _ _ ha
        split at h
        · have b := i0 _ _ _ _ _ h
          rw [adv_len, adv_g] at b
          omega
        · injection h with h; injection h with h1 h2; subst h1 h2
          exact a
    · intro d acc σ r σ1 h
      rw [run_row] at h
      split at h
      · injection h with h; injection h with h1 h2; subst h1 h2
        exact ⟨Nat.le_refl _, Nat.le_refl _⟩
      · rename_i c
        have hn : σ.t ≠ [] := by intro e; rw [e] at c; simp at c
        split at h
        · cases h
        · rename_i r1 σa ha
          have a := i2 _ _ _ _ _ hn ha
          have b := i1 _ _ _ _ _ h
          omega
    · intro d acc σ r σ1 hn h
      rw [run_quant] at h
      split at h
      · cases h
      · rename_i r1 σa ha
        have b := quantRest_len h
        split at ha
        · rename_i c
          have a := i3 _ _ _ _ _ c ha
          omega
        · have a := atomP_len ha hn
          omega
    · intro d acc σ r σ1 hc h
      rw [run_paren] at h
      split at h
      · cases h
      · split at h
        · cases h
        · rename_i sh σa ho
          have a := opening_len ho hc
          split at h
          · cases h
          · rename_i kid σb hb
            have b := i0 _ _ _ _ _ hb
            split at h
            · injection h with h; injection h with h1 h2; subst h1 h2
              rw [adv_len, adv_g]
              omega
            · cases h

end Go.Proofs.YtpginkdkblmnbaaGreatDoor

/- Patterns, read: what stands behind, and how deep, plays no part, but that it may be too deep. -/
namespace Go.Proofs.YtpginkdkblmnbaaGreatDoor
open Go.Proofs.YtpginkdkblmnbaaGreatDoor.Cl
variable {γ δ : Nat} {B : List Nat} {q : List UInt8} {σ σ' σ1 : St}

/-- What was read of a text that is a pattern. -/
structure Read (N : Nat) (s : List UInt8) (nd : Nd) (g : Nat) (bk : List (Nat × Nat)) : Prop where
  go : ∃ p, run N 0 0 [] { pos := 0, t := s, g := 0, bk := [] } = .ok (nd, { pos := p, t := [], g := g, bk := bk })
  len : s.length ≤ 256
  fold : foldAt s = false
  refs : bk.find? (fun b => decide (g < b.1)) = none
theorem Read.ended {N : Nat} {s : List UInt8} {nd : Nd} {g : Nat} {bk : List (Nat × Nat)} (h : Read N s nd g bk) : parse N s = .ok (nd, g, false) := by
  obtain ⟨p, hp⟩ := h.go
  have e : begins s = { pos := 0, t := s, g := 0, bk := [] } := by unfold begins; rw [h.fold]; rfl
  unfold parse
  rw [if_neg (by have := h.len; omega), e, hp]
  simp [Go.Proofs.YtpginkdkblmnbaaGreatDoor.ended, h.refs, h.fold]

end Go.Proofs.YtpginkdkblmnbaaGreatDoor

/- Patterns, read: a fault has a code. -/
namespace Go.Proofs.YtpginkdkblmnbaaGreatDoor
open Go.Proofs.YtpginkdkblmnbaaGreatDoor.Cl
variable {σ σ1 : St} {f : Flt}

theorem escUnit_code (h : escUnit σ = .error f) : f.1 ≠ 0 := by
  unfold escUnit at h
  repeat' split at h
  all_goals first
    | (injection h with h; subst h; simp)
    | cases h
theorem mUnit_code (h : mUnit σ = .error f) : f.1 ≠ 0 := by
  unfold mUnit at h
  split at h
  · exact escUnit_code h
  · cases h
theorem member_code (h : member σ = .error f) : f.1 ≠ 0 := by
  unfold member at h
  split at h
  · injection h with h; subst h; simp
  split at h
  · cases h
  · split at h
    · rename_i e he
      injection h with h; subst h
      exact mUnit_code he
    · split at h
      · split at h
        · split at h
          · rename_i e he
            injection h with h; subst h
            exact mUnit_code he
          · split at h
            · injection h with h; subst h; simp
            · cases h
        · injection h with h; subst h; simp
      · cases h
theorem members_code {op : Nat} {neg : Bool} : ∀ {k : Nat} {acc : List Rg} {σ : St}, σ.t.length < k → members op neg k acc σ = .error f → f.1 ≠ 0
  | 0, _, _, hk, _ => by omega
  | k + 1, acc, σ, hk, h => by
    unfold members at h
    split at h
    · split at h
      · injection h with h; subst h; simp
      · cases h
    · split at h
      · injection h with h; subst h; simp
      · rename_i c2
        have hn : σ.t ≠ [] := by intro e; rw [e] at c2; simp at c2
        split at h
        · rename_i e he
          injection h with h; subst h
          exact member_code he
        · rename_i l1 σa hm
          have h1 := member_len hm hn
          exact members_code (by omega) h
theorem brackets_code (hl : σ.t.length ≤ 256) (h : brackets σ = .error f) : f.1 ≠ 0 := by
  unfold brackets at h
  split at h
  · rename_i e he
    injection h with h; subst h
    refine members_code ?_ he
    unfold behindNeg
    split <;> simp only [adv_len] <;> omega
  · cases h
theorem escape_code (h : escape σ = .error f) : f.1 ≠ 0 := by
  unfold escape at h
  split at h
  · cases h
  split at h
  · cases h
  split at h
  · cases h
  split at h
  · cases h
  · split at h
    · rename_i e he
      injection h with h; subst h
      exact escUnit_code he
    · cases h
theorem atomP_code (hl : σ.t.length ≤ 256) (h : atomP σ = .error f) : f.1 ≠ 0 := by
  unfold atomP at h
  split at h
  · exact brackets_code hl h
  split at h
  · exact escape_code h
  repeat' split at h
  all_goals first
    | (injection h with h; subst h; simp)
    | cases h
theorem quantRest_code {gr : Bool} {a : Nd} (h : quantRest gr a σ = .error f) : f.1 ≠ 0 := by
  unfold quantRest at h
  repeat' split at h
  all_goals first
    | (injection h with h; subst h; simp)
    | cases h
theorem opening_code (h : opening σ = .error f) : f.1 ≠ 0 := by
  unfold opening at h
  repeat' split at h
  all_goals first
    | (injection h with h; subst h; simp)
    | cases h

theorem run_code : ∀ (n : Nat), (∀ d acc σ, σ.t.length ≤ 256 → 4 * σ.t.length + 2 ≤ n → run n 0 d acc σ = .error f → f.1 ≠ 0) ∧
    (∀ d acc σ, σ.t.length ≤ 256 → 4 * σ.t.length + 1 ≤ n → run n 1 d acc σ = .error f → f.1 ≠ 0) ∧
    (∀ d acc σ, σ.t ≠ [] → σ.t.length ≤ 256 → 4 * σ.t.length ≤ n → run n 2 d acc σ = .error f → f.1 ≠ 0) ∧
    (∀ d acc σ, at_ σ.t 0 = 40 → σ.t.length ≤ 256 → 4 * σ.t.length ≤ n + 1 → run n 3 d acc σ = .error f → f.1 ≠ 0) := by
  intro n
  induction n with
  | zero =>
    refine ⟨fun _ _ _ _ h => by omega, fun _ _ _ _ h => by omega, fun _ _ σ hn _ h => ?_, fun _ _ σ hc _ h => ?_⟩
    · have := len_ne hn
      omega
    · have := len_ne (at_ne (t := σ.t) (by omega))
      omega
  | succ n ih =>
    obtain ⟨ih0, ih1, ih2, ih3⟩ := ih
    obtain ⟨l0, l1, l2, l3⟩ := run_len n
    refine ⟨?_, ?_, ?_, ?_⟩
    · intro d acc σ h256 hN h
      rw [run_alts] at h
      split at h
      · rename_i e he
        injection h with h; subst h
        exact ih1 _ _ _ h256 (by omega) he
      · rename_i ra σa ha
        have ga := (l1 _ _ _ _ _ ha).1
        split at h
        · rename_i c
          have := len_ne (at_ne (t := σa.t) (by omega))
          exact ih0 _ _ _ (by rw [adv_len]; omega) (by rw [adv_len]; omega) h
        · cases h
    · intro d acc σ h256 hN h
      rw [run_row] at h
      split at h
      · cases h
      · rename_i c
        have hn : σ.t ≠ [] := by
          intro e
          rw [e] at c
          exact c rfl
        split at h
        · rename_i e he
          injection h with h; subst h
          exact ih2 _ _ _ hn h256 (by omega) he
        · rename_i a σa ha
          have ga := (l2 _ _ _ _ _ hn ha).1
          exact ih1 _ _ _ (by omega) (by omega) h
    · intro d acc σ hn h256 hN h
      rw [run_quant] at h
      split at h
      · rename_i e he
        injection h with h; subst h
        split at he
        · rename_i c
          exact ih3 _ _ _ c h256 (by omega) he
        · exact atomP_code h256 he
      · exact quantRest_code h
    · intro d acc σ hc h256 hN h
      rw [run_paren] at h
      split at h
      · injection h with h; subst h; simp
      · split at h
        · rename_i e he
          injection h with h; subst h
          exact opening_code he
        · rename_i sh σa ho
          have ga := (opening_len ho hc).1
          split at h
          · rename_i e he
            injection h with h; subst h
            exact ih0 _ _ _ (by omega) (by omega) he
          · split at h
            · cases h
            · injection h with h; subst h; simp
theorem begins_le (s : List UInt8) : (begins s).t.length ≤ s.length := by
  unfold begins
  split <;> simp
theorem parse_code {N : Nat} {s : List UInt8} (hN : 1026 ≤ N) (h : parse N s = .error f) : f.1 ≠ 0 := by
  unfold parse at h
  split at h
  · injection h with h; subst h; simp
  · have hb := begins_le s
    split at h
    · rename_i e he
      injection h with h; subst h
      exact (run_code N).1 _ _ _ (by omega) (by omega) he
    · unfold ended at h
      repeat' split at h
      all_goals first
        | (injection h with h; subst h; simp)
        | cases h

end Go.Proofs.YtpginkdkblmnbaaGreatDoor

/- Patterns, read: no more than nine groups. -/
namespace Go.Proofs.YtpginkdkblmnbaaGreatDoor
open Go.Proofs.YtpginkdkblmnbaaGreatDoor.Cl
variable {σ σ1 : St}

end Go.Proofs.YtpginkdkblmnbaaGreatDoor

/- Patterns, read: a character alone, one behind a backslash, one with a quantifier in braces behind it. Of no program. -/
namespace Go.Proofs.YtpginkdkblmnbaaGreatDoor
open Go.Proofs.YtpginkdkblmnbaaGreatDoor.Cl

/-! ### A number of two digits -/
end Go.Proofs.YtpginkdkblmnbaaGreatDoor

/- Patterns, read: what the nodes of patterns are like: how many kids, which numbers. Of no program. -/
namespace Go.Proofs.YtpginkdkblmnbaaGreatDoor
open Go.Proofs.YtpginkdkblmnbaaGreatDoor.Cl

/-- A node by itself: its kind, its numbers, how many kids it has. -/
def shapeOk (k lo hi m : Int) (n : Nat) : Prop :=
  (k = 0 ∧ n = 0) ∨ (k = 1 ∧ n = 0) ∨ (k = 2 ∧ 2 ≤ n) ∨ (k = 3 ∧ 2 ≤ n) ∨
  (k = 4 ∧ n = 1 ∧ 0 ≤ lo ∧ lo ≤ 64 ∧ -1 ≤ hi ∧ hi ≤ 64 ∧ (0 ≤ hi → lo ≤ hi) ∧ 0 ≤ m ∧ m ≤ 2) ∨
  (k = 5 ∧ n = 1) ∨ (k = 6 ∧ n = 0) ∨ (k = 7 ∧ n = 1 ∧ 0 ≤ m ∧ m ≤ 3) ∨ (k = 8 ∧ n = 1) ∨ (k = 9 ∧ n = 0)
/-- A node of a pattern. -/
inductive Wf : Nd → Prop
  | mk {k lo hi m r : Int} {set : List Rg} {kids : List Nd} (hs : shapeOk k lo hi m kids.length) (hk : ∀ x ∈ kids, Wf x) : Wf (.mk k lo hi m r set kids)
theorem Wf.leaf {k lo hi m r : Int} {set : List Rg} (h : shapeOk k lo hi m 0) : Wf (.mk k lo hi m r set []) := ⟨h, fun _ h => by cases h⟩
theorem Wf.one {k lo hi m r : Int} {set : List Rg} {x : Nd} (h : shapeOk k lo hi m 1) (hx : Wf x) : Wf (.mk k lo hi m r set [x]) :=
  ⟨h, fun y hy => by rw [List.mem_singleton] at hy; subst hy; exact hx⟩
theorem Wf.empty : Wf emptyN := .leaf (.inl ⟨rfl, rfl⟩)
theorem Wf.set (l : List Rg) : Wf (setN l) := .leaf (.inr (.inl ⟨rfl, rfl⟩))
theorem Wf.edge (r : Int) : Wf (edgeN r) := .leaf (by unfold shapeOk; omega)
theorem Wf.back (g : Nat) : Wf (backN g) := .leaf (by unfold shapeOk; omega)
theorem Wf.joinA {l : List Nd} (hne : l ≠ []) (h : ∀ x ∈ l, Wf x) : Wf (joinA l) := by
  match l, hne with
  | [x], _ => exact h x (by simp)
  | x :: y :: l, _ => exact ⟨by unfold shapeOk; simp, h⟩
theorem Wf.joinR {l : List Nd} (h : ∀ x ∈ l, Wf x) : Wf (joinR l) := by
  match l with
  | [] => exact .empty
  | [x] => exact h x (by simp)
  | x :: y :: l => exact ⟨by unfold shapeOk; simp, h⟩
theorem escape_wf {σ σ1 : St} {r : Nd} (h : escape σ = .ok (r, σ1)) : Wf r := by
  unfold escape at h
  split at h
  · cases h; exact .edge _
  split at h
  · cases h; exact .edge _
  split at h
  · cases h; exact .back _
  split at h
  · cases h; exact .set _
  split at h
  · cases h
  · cases h; exact .set _
theorem atomP_wf {σ σ1 : St} {r : Nd} (h : atomP σ = .ok (r, σ1)) : Wf r := by
  unfold atomP at h
  split at h
  · unfold brackets at h
    split at h
    · cases h
    · cases h; exact .set _
  split at h
  · exact escape_wf h
  split at h
  · cases h
  split at h
  · cases h
  split at h
  · cases h; exact .set _
  split at h
  · cases h; exact .edge _
  split at h
  · cases h; exact .edge _
  · cases h; exact .set _
theorem numOk_le {t : List UInt8} (h : numOk t = true) : numOf t ≤ 64 := by
  unfold numOk at h
  simp at h
  exact h.2
theorem times_ok {σ σ1 : St} {lo hi : Int} (h : times σ = some ((lo, hi), σ1)) : 0 ≤ lo ∧ lo ≤ 64 ∧ -1 ≤ hi ∧ hi ≤ 64 ∧ (0 ≤ hi → lo ≤ hi) := by
  unfold times at h
  split at h
  · cases h; omega
  split at h
  · cases h; omega
  split at h
  · cases h; omega
  unfold braces at h
  split at h
  · rename_i h1
    have h1 := numOk_le h1
    split at h
    · cases h; omega
    split at h
    · split at h
      · rename_i h2
        simp only [Bool.and_eq_true, decide_eq_true_eq] at h2
        have h3 := numOk_le h2.1.1
        have h4 := h2.1.2
        cases h; omega
      · cases h
    split at h
    · cases h; omega
    · cases h
  · cases h
theorem mode_le (t : List UInt8) : modeOf t ≤ 2 := by unfold modeOf; split <;> (try split) <;> omega
theorem quantRest_wf {gr : Bool} {a r : Nd} {σ σ1 : St} (ha : Wf a) (h : quantRest gr a σ = .ok (r, σ1)) : Wf r := by
  unfold quantRest at h
  split at h
  · split at h
    · cases h
    split at h
    · cases h
    · rename_i lo hi σ2 ht
      have := times_ok ht
      have := mode_le σ2.t
      cases h
      exact .one (by unfold shapeOk; omega) ha
  · cases h; exact ha
theorem opening_shape {σ σ1 : St} {a b c : Int} (h : opening σ = .ok ((a, b, c), σ1)) : a = 0 ∨ shapeOk a 0 0 b 1 := by
  unfold opening at h
  unfold shapeOk
  repeat' split at h
  all_goals first
    | (cases h; omega)
    | cases h
theorem wrap_wf {sh : Int × Int × Int} {kid : Nd} (hs : sh.1 = 0 ∨ shapeOk sh.1 0 0 sh.2.1 1) (hk : Wf kid) : Wf (wrap sh kid) := by
  unfold wrap
  split
  · exact hk
  · exact .one (by rcases hs with h | h; exact absurd h (by assumption); exact h) hk
theorem run_wf : ∀ (n : Nat), ∀ k d acc σ r σ1, (∀ x ∈ acc, Wf x) → run n k d acc σ = .ok (r, σ1) → Wf r := by
  intro n
  induction n with
  | zero => intro k d acc σ r σ1 _ h; simp [run] at h
  | succ n ih =>
    intro k d acc σ r σ1 ha h
    match k with
    | 0 =>
      rw [run_alts] at h
      split at h
      · cases h
      · rename_i ra σa hra
        have hw := ih _ _ _ _ _ _ (by simp) hra
        have ha' : ∀ x ∈ acc ++ [ra], Wf x := by
          intro x hx
          rcases List.mem_append.1 hx with hx | hx
          · exact ha x hx
          · rw [List.mem_singleton] at hx; subst hx; exact hw
        split at h
        · exact ih _ _ _ _ _ _ ha' h
        · cases h; exact Wf.joinA (by simp) ha'
    | 1 =>
      rw [run_row] at h
      split at h
      · cases h; exact Wf.joinR ha
      · split at h
        · cases h
        · rename_i ra σa hra
          have hw := ih _ _ _ _ _ _ (by simp) hra
          exact ih _ _ _ _ _ _ (by
            intro x hx
            rcases List.mem_append.1 hx with hx | hx
            · exact ha x hx
            · rw [List.mem_singleton] at hx; subst hx; exact hw) h
    | 2 =>
      rw [run_quant] at h
      split at h
      · cases h
      · rename_i ra σa hra
        refine quantRest_wf ?_ h
        split at hra
        · exact ih _ _ _ _ _ _ (by simp) hra
        · exact atomP_wf hra
    | k + 3 =>
      have h' : run (n + 1) 3 d acc σ = .ok (r, σ1) := h
      rw [run_paren] at h'
      split at h'
      · cases h'
      · split at h'
        · cases h'
        · rename_i sh σa ho
          split at h'
          · cases h'
          · rename_i kid σb hk
            split at h'
            · cases h'
              obtain ⟨a, b, c⟩ := sh
              exact wrap_wf (opening_shape ho) (ih _ _ _ _ _ _ (by simp) hk)
            · cases h'
/-- The root of a pattern. -/
theorem parse_wf {N : Nat} {s : List UInt8} {nd : Nd} {g : Nat} {fo : Bool} (h : parse N s = .ok (nd, g, fo)) : Wf nd := by
  unfold parse at h
  split at h
  · cases h
  · split at h
    · cases h
    · rename_i r σ hr
      unfold ended at h
      split at h
      · cases h
      · split at h
        · cases h
        · cases h
          exact run_wf _ _ _ _ _ _ _ (by simp) hr

end Go.Proofs.YtpginkdkblmnbaaGreatDoor

/- Widths and sizes of nodes, as the document has them. Of no program. -/
namespace Go.Proofs.YtpginkdkblmnbaaGreatDoor
open Go.Proofs.YtpginkdkblmnbaaGreatDoor.Cl

/-- Above it a least width and a size are it, a greatest width is without an end. -/
def far : Int := 1048576
def capF (x : Int) : Int := if far < x then far else x
def capE (x : Int) : Int := if far < x then -1 else x
def hd (l : List Int) : Int := l.headD 0
/-- The least of some numbers; far of none. -/
def lowest : List Int → Int
  | [] => far
  | x :: l => min x (lowest l)
/-- The greatest of some numbers; 0 of none. -/
def highest : List Int → Int
  | [] => 0
  | x :: l => max x (highest l)
def endless (l : List Int) : Bool := l.any fun x => decide (x < 0)

/-- Of a node by itself, and its kids' widths. -/
def leastF (k lo : Int) (l : List Int) : Int :=
  capF (if k = 1 then 1 else if k = 2 then l.sum else if k = 3 then lowest l else if k = 4 then lo * hd l else if k = 5 ∨ k = 8 then hd l else 0)
def mostF (k hi : Int) (l : List Int) : Int :=
  if k = 1 then 1
  else if k = 2 then (if endless l then -1 else capE l.sum)
  else if k = 3 then (if endless l then -1 else capE (highest l))
  else if k = 4 then (if hd l = 0 ∨ hi = 0 then 0 else if hd l < 0 ∨ hi < 0 then -1 else capE (hi * hd l))
  else if k = 5 ∨ k = 8 then hd l
  else if k = 6 then -1
  else 0
def sizeF (k lo hi m : Int) (l : List Int) : Int :=
  capF (if k = 1 ∨ k = 6 ∨ k = 9 then 1
    else if k = 2 then l.sum
    else if k = 3 then l.sum + 2 * ((l.length : Int) - 1)
    else if k = 4 then lo * hd l + (if hi < 0 then hd l + 4 else (hi - lo) * (hd l + 1)) + (if m = 2 then 2 else 0)
    else if k = 5 ∨ k = 7 ∨ k = 8 then hd l + 2
    else 0)

mutual
def least : Nd → Int
  | .mk k lo _ _ _ _ kids => leastF k lo (leasts kids)
def leasts : List Nd → List Int
  | [] => []
  | x :: l => least x :: leasts l
end
mutual
def most : Nd → Int
  | .mk k _ hi _ _ _ kids => mostF k hi (mosts kids)
def mosts : List Nd → List Int
  | [] => []
  | x :: l => most x :: mosts l
end
mutual
def ndSize : Nd → Int
  | .mk k lo hi m _ _ kids => sizeF k lo hi m (sizes kids)
def sizes : List Nd → List Int
  | [] => []
  | x :: l => ndSize x :: sizes l
end
theorem leasts_map (l : List Nd) : leasts l = l.map least := by induction l with | nil => rfl | cons x l ih => simp [leasts, ih]
theorem mosts_map (l : List Nd) : mosts l = l.map most := by induction l with | nil => rfl | cons x l ih => simp [mosts, ih]
theorem sizes_map (l : List Nd) : sizes l = l.map ndSize := by induction l with | nil => rfl | cons x l ih => simp [sizes, ih]
theorem least_eq (k lo hi m r : Int) (s : List Rg) (l : List Nd) : least (.mk k lo hi m r s l) = leastF k lo (l.map least) := by rw [least, leasts_map]
theorem most_eq (k lo hi m r : Int) (s : List Rg) (l : List Nd) : most (.mk k lo hi m r s l) = mostF k hi (l.map most) := by rw [most, mosts_map]
theorem ndSize_eq (k lo hi m r : Int) (s : List Rg) (l : List Nd) : ndSize (.mk k lo hi m r s l) = sizeF k lo hi m (l.map ndSize) := by rw [ndSize, sizes_map]

/-- What comes of a node, by its kids. -/
theorem Wf.ind {P : Nd → Prop} (h : ∀ (k lo hi m r : Int) (s : List Rg) (l : List Nd), shapeOk k lo hi m l.length → (∀ x ∈ l, Wf x) → (∀ x ∈ l, P x) → P (.mk k lo hi m r s l)) {nd : Nd} (hw : Wf nd) : P nd := by
  induction hw with
  | mk hs hk ih => exact h _ _ _ _ _ _ _ hs hk ih

theorem sum_nonneg : ∀ {l : List Int}, (∀ x ∈ l, 0 ≤ x) → 0 ≤ l.sum
  | [], _ => by simp
  | x :: l, h => by
    have h1 := h x (by simp)
    have h2 := sum_nonneg (l := l) (fun y hy => h y (by simp [hy]))
    simp only [List.sum_cons]
    omega
theorem lowest_range : ∀ {l : List Int}, (∀ x ∈ l, 0 ≤ x) → 0 ≤ lowest l ∧ lowest l ≤ far ∧ ∀ x ∈ l, lowest l ≤ x
  | [], _ => by simp [lowest, far]
  | x :: l, h => by
    have h1 := h x (by simp)
    obtain ⟨a, b, c⟩ := lowest_range (l := l) (fun y hy => h y (by simp [hy]))
    simp only [lowest]
    refine ⟨by omega, by omega, fun y hy => ?_⟩
    rcases List.mem_cons.1 hy with rfl | hy
    · omega
    · have := c y hy; omega
theorem highest_range : ∀ {l : List Int}, 0 ≤ highest l ∧ ∀ x ∈ l, x ≤ highest l
  | [] => by simp [highest]
  | x :: l => by
    obtain ⟨a, c⟩ := highest_range (l := l)
    simp only [highest]
    refine ⟨by omega, fun y hy => ?_⟩
    rcases List.mem_cons.1 hy with rfl | hy
    · omega
    · have := c y hy; omega
theorem highest_le : ∀ {l : List Int} {b : Int}, 0 ≤ b → (∀ x ∈ l, x ≤ b) → highest l ≤ b
  | [], b, h0, _ => h0
  | x :: l, b, h0, h => by
    have h1 := h x (by simp)
    have h2 := highest_le (l := l) h0 (fun y hy => h y (by simp [hy]))
    simp only [highest]
    omega
theorem not_endless {l : List Int} (h : endless l = false) : ∀ x ∈ l, 0 ≤ x := by
  intro x hx
  unfold endless at h
  rw [List.any_eq_false] at h
  have := h x hx
  simpa using this
theorem hd_one {α : Type} {l : List α} (h : l.length = 1) : ∃ x, l = [x] := by
  match l, h with
  | [x], _ => exact ⟨x, rfl⟩

theorem cap_range {x : Int} (h : 0 ≤ x) : 0 ≤ capF x ∧ capF x ≤ far ∧ capF x ≤ x := by unfold capF far; split <;> omega
theorem capE_range {x : Int} (h : 0 ≤ x) : -1 ≤ capE x ∧ capE x ≤ far := by unfold capE far; split <;> omega

theorem least_range {nd : Nd} (h : Wf nd) : 0 ≤ least nd ∧ least nd ≤ far := by
  refine Wf.ind (P := fun nd => 0 ≤ least nd ∧ least nd ≤ far) (fun k lo hi m r s l hs _ ih => ?_) h
  rw [least_eq]
  have hl : ∀ x ∈ l.map least, 0 ≤ x := by
    intro x hx
    obtain ⟨y, hy, rfl⟩ := List.mem_map.1 hx
    exact (ih y hy).1
  have hh : 0 ≤ hd (l.map least) := by
    unfold hd
    cases l with
    | nil => simp
    | cons y l => exact hl _ (by simp)
  have key : ∀ x : Int, 0 ≤ x → 0 ≤ capF x ∧ capF x ≤ far := fun x hx => ⟨(cap_range hx).1, (cap_range hx).2.1⟩
  unfold leastF
  split
  · exact key _ (by omega)
  split
  · exact key _ (sum_nonneg hl)
  split
  · exact key _ (lowest_range hl).1
  split
  · rename_i h4
    refine key _ (Int.mul_nonneg ?_ hh)
    unfold shapeOk at hs; omega
  split
  · exact key _ hh
  · exact key _ (by omega)
theorem most_range {nd : Nd} (h : Wf nd) : -1 ≤ most nd ∧ most nd ≤ far := by
  refine Wf.ind (P := fun nd => -1 ≤ most nd ∧ most nd ≤ far) (fun k lo hi m r s l hs _ ih => ?_) h
  rw [most_eq]
  have hh : -1 ≤ hd (l.map most) ∧ hd (l.map most) ≤ far := by
    unfold hd
    cases l with
    | nil => simp [far]
    | cons y l => exact ih y (by simp)
  unfold mostF
  split
  · simp [far]
  split
  · split
    · simp [far]
    · rename_i he
      exact capE_range (sum_nonneg (not_endless (by simpa using he)))
  split
  · split
    · simp [far]
    · exact capE_range highest_range.1
  split
  · rename_i h4
    split
    · simp [far]
    split
    · simp [far]
    · rename_i c1 c2
      exact capE_range (Int.mul_nonneg (by omega) (by omega))
  split
  · exact hh
  split
  · simp [far]
  · simp [far]
theorem ndSize_range {nd : Nd} (h : Wf nd) : 0 ≤ ndSize nd ∧ ndSize nd ≤ far := by
  refine Wf.ind (P := fun nd => 0 ≤ ndSize nd ∧ ndSize nd ≤ far) (fun k lo hi m r s l hs _ ih => ?_) h
  rw [ndSize_eq]
  have hl : ∀ x ∈ l.map ndSize, 0 ≤ x := by
    intro x hx
    obtain ⟨y, hy, rfl⟩ := List.mem_map.1 hx
    exact (ih y hy).1
  have hh : 0 ≤ hd (l.map ndSize) := by
    unfold hd
    cases l with
    | nil => simp
    | cons y l => exact hl _ (by simp)
  have key : ∀ x : Int, 0 ≤ x → 0 ≤ capF x ∧ capF x ≤ far := fun x hx => ⟨(cap_range hx).1, (cap_range hx).2.1⟩
  unfold sizeF
  split
  · exact key _ (by omega)
  split
  · exact key _ (sum_nonneg hl)
  split
  · refine key _ ?_
    have := sum_nonneg hl
    have : (l.map ndSize).length = l.length := List.length_map _
    unfold shapeOk at hs
    omega
  split
  · refine key _ ?_
    have h0 : 0 ≤ lo * hd (l.map ndSize) := Int.mul_nonneg (by unfold shapeOk at hs; omega) hh
    have h1 : 0 ≤ hi → 0 ≤ (hi - lo) * (hd (l.map ndSize) + 1) := fun _ => Int.mul_nonneg (by unfold shapeOk at hs; omega) (by omega)
    split <;> split <;> omega
  split
  · exact key _ (by omega)
  · exact key _ (by omega)

/-! ### Of some nodes -/
end Go.Proofs.YtpginkdkblmnbaaGreatDoor

/- Patterns, read: nodes that are alike but for the numbers of groups; a pattern within a longer one, with groups ahead of it. Of no program. -/
namespace Go.Proofs.YtpginkdkblmnbaaGreatDoor
open Go.Proofs.YtpginkdkblmnbaaGreatDoor.Cl

inductive Lk : Nd → Nd → Prop
  | mk {k lo hi m r r' : Int} {set : List Rg} {kids kids' : List Nd} (hl : kids.length = kids'.length) (hk : ∀ (i : Nat) (x y : Nd), kids[i]? = some x → kids'[i]? = some y → Lk x y) : Lk (.mk k lo hi m r set kids) (.mk k lo hi m r' set kids')
def LkL (l l' : List Nd) : Prop := l.length = l'.length ∧ ∀ (i : Nat) (x y : Nd), l[i]? = some x → l'[i]? = some y → Lk x y
theorem LkL.nil : LkL [] [] := ⟨rfl, fun i x y h => by simp at h⟩
theorem LkL.snoc {l l' : List Nd} {x x' : Nd} (h : LkL l l') (hx : Lk x x') : LkL (l ++ [x]) (l' ++ [x']) := by
  refine ⟨by simp [h.1], fun i a b ha hb => ?_⟩
  rw [List.getElem?_append] at ha hb
  rw [← h.1] at hb
  split at ha
  · rename_i c
    rw [if_pos c] at hb
    exact h.2 i a b ha hb
  · rename_i c
    rw [if_neg c] at hb
    rcases hi : i - l.length with _ | j
    · rw [hi] at ha hb
      simp at ha hb
      subst ha hb
      exact hx
    · rw [hi] at ha
      simp at ha
theorem Lk.leaf {k lo hi m r r' : Int} {set : List Rg} : Lk (.mk k lo hi m r set []) (.mk k lo hi m r' set []) := .mk rfl (fun i x y h => by simp at h)
theorem Lk.of_list {k lo hi m r r' : Int} {set : List Rg} {l l' : List Nd} (h : LkL l l') : Lk (.mk k lo hi m r set l) (.mk k lo hi m r' set l') := .mk h.1 h.2
theorem Lk.one {k lo hi m r r' : Int} {set : List Rg} {x x' : Nd} (h : Lk x x') : Lk (.mk k lo hi m r set [x]) (.mk k lo hi m r' set [x']) := .of_list (LkL.nil.snoc h)
theorem Lk.kind {x x' : Nd} (h : Lk x x') : x'.kind = x.kind := by cases h; rfl
theorem Lk.joinA {l l' : List Nd} (h : LkL l l') : Lk (joinA l) (joinA l') := by
  match l, l', h with
  | [], [], _ => exact .leaf
  | [x], [x'], h => exact h.2 0 x x' rfl rfl
  | x :: y :: l, x' :: y' :: l', h => exact .of_list h
  | [], x :: l, h => exact absurd h.1 (by simp)
  | x :: l, [], h => exact absurd h.1 (by simp)
  | [x], x' :: y' :: l', h => exact absurd h.1 (by simp)
  | x :: y :: l, [x'], h => exact absurd h.1 (by simp)
theorem Lk.joinR {l l' : List Nd} (h : LkL l l') : Lk (joinR l) (joinR l') := by
  match l, l', h with
  | [], [], _ => exact .leaf
  | [x], [x'], h => exact h.2 0 x x' rfl rfl
  | x :: y :: l, x' :: y' :: l', h => exact .of_list h
  | [], x :: l, h => exact absurd h.1 (by simp)
  | x :: l, [], h => exact absurd h.1 (by simp)
  | [x], x' :: y' :: l', h => exact absurd h.1 (by simp)
  | x :: y :: l, [x'], h => exact absurd h.1 (by simp)
variable {γ δ : Nat} {B : List Nat} {q : List UInt8} {σ σ' σ1 : St}
/-! ### Widths and sizes of nodes that are alike -/
/-! ### Texts made of patterns -/
end Go.Proofs.YtpginkdkblmnbaaGreatDoor

/- Looks behind that are bounded; a pattern's verdict; repeats within repeats. Of no program. -/
namespace Go.Proofs.YtpginkdkblmnbaaGreatDoor
open Go.Proofs.YtpginkdkblmnbaaGreatDoor.Cl

/-- Whether a node, of kids with these greatest widths, is no look behind that is too wide. -/
def boundF (k m : Int) (l : List Int) : Bool := !(decide (k = 7 ∧ 2 ≤ m) && decide (hd l < 0 ∨ 32 < hd l))
mutual
def bounded : Nd → Bool
  | .mk k _ _ m _ _ kids => boundF k m (mosts kids) && boundeds kids
def boundeds : List Nd → Bool
  | [] => true
  | x :: l => bounded x && boundeds l
end
theorem boundeds_all (l : List Nd) : boundeds l = l.all bounded := by induction l with | nil => rfl | cons x l ih => simp [boundeds, ih]
theorem bounded_eq (k lo hi m r : Int) (s : List Rg) (l : List Nd) : bounded (.mk k lo hi m r s l) = (boundF k m (l.map most) && l.all bounded) := by rw [bounded, mosts_map, boundeds_all]
/-- A pattern's verdict. -/
def verdictN (nd : Nd) : Nat := if bounded nd then (if 2000 < ndSize nd + 3 then 28 else 0) else 27

/-! ### Repeats within repeats -/
end Go.Proofs.YtpginkdkblmnbaaGreatDoor

/- Widths and sizes of rows and of alternatives, kid by kid. Of no program. -/
namespace Go.Proofs.YtpginkdkblmnbaaGreatDoor
open Go.Proofs.YtpginkdkblmnbaaGreatDoor.Cl

def loSum (l : List Nd) : Int := capF (l.map least).sum
def hiSum (l : List Nd) : Int := if endless (l.map most) then -1 else capE (l.map most).sum
def szSum (l : List Nd) : Int := capF (l.map ndSize).sum
def loMin (l : List Nd) : Int := lowest (l.map least)
def hiMax (l : List Nd) : Int := if endless (l.map most) then -1 else highest (l.map most)
def addE (a b : Int) : Int := if a = -1 ∨ b = -1 then -1 else capE (a + b)
def maxE (a b : Int) : Int := if a = -1 ∨ b = -1 then -1 else max a b
def mulE (m x : Int) : Int := if m = 0 ∨ x = 0 then 0 else if m = -1 ∨ x = -1 then -1 else capE (m * x)

theorem capF_id {x : Int} (h : x ≤ far) : capF x = x := by unfold capF; rw [if_neg (by omega)]
theorem endless_one {x : Int} (h : -1 ≤ x) : endless [x] = decide (x = -1) := by
  unfold endless
  simp only [List.any_cons, List.any_nil, Bool.or_false, decide_eq_decide]
  omega
theorem endless_app (a b : List Int) : endless (a ++ b) = (endless a || endless b) := by simp [endless]

theorem sum_snoc (f : Nd → Int) (l : List Nd) (x : Nd) : ((l ++ [x]).map f).sum = (l.map f).sum + f x := by simp
theorem leasts_nonneg {l : List Nd} (h : ∀ x ∈ l, Wf x) : 0 ≤ (l.map least).sum := sum_nonneg (by
  intro y hy
  obtain ⟨z, hz, rfl⟩ := List.mem_map.1 hy
  exact (least_range (h z hz)).1)
theorem sizes_nonneg {l : List Nd} (h : ∀ x ∈ l, Wf x) : 0 ≤ (l.map ndSize).sum := sum_nonneg (by
  intro y hy
  obtain ⟨z, hz, rfl⟩ := List.mem_map.1 hy
  exact (ndSize_range (h z hz)).1)
theorem loSum_range {l : List Nd} (h : ∀ x ∈ l, Wf x) : 0 ≤ loSum l ∧ loSum l ≤ far := ⟨(cap_range (leasts_nonneg h)).1, (cap_range (leasts_nonneg h)).2.1⟩
theorem szSum_range {l : List Nd} (h : ∀ x ∈ l, Wf x) : 0 ≤ szSum l ∧ szSum l ≤ far := ⟨(cap_range (sizes_nonneg h)).1, (cap_range (sizes_nonneg h)).2.1⟩
theorem loSum_snoc {l : List Nd} {x : Nd} (h : ∀ y ∈ l, Wf y) (hx : Wf x) : loSum (l ++ [x]) = capF (loSum l + least x) := by
  have h0 := leasts_nonneg h
  have h1 := (least_range hx).1
  unfold loSum
  rw [sum_snoc]
  unfold capF far
  split <;> split <;> (try split) <;> omega
theorem szSum_snoc {l : List Nd} {x : Nd} (h : ∀ y ∈ l, Wf y) (hx : Wf x) : szSum (l ++ [x]) = capF (szSum l + ndSize x) := by
  have h0 := sizes_nonneg h
  have h1 := (ndSize_range hx).1
  unfold szSum
  rw [sum_snoc]
  unfold capF far
  split <;> split <;> (try split) <;> omega
theorem mosts_nonneg {l : List Nd} (h : endless (l.map most) = false) : 0 ≤ (l.map most).sum := sum_nonneg (not_endless h)
theorem hiSum_range {l : List Nd} : -1 ≤ hiSum l ∧ hiSum l ≤ far := by
  unfold hiSum
  split
  · simp [far]
  · rename_i h
    exact capE_range (mosts_nonneg (by simpa using h))
theorem hiSum_snoc {l : List Nd} {x : Nd} (hx : Wf x) : hiSum (l ++ [x]) = addE (hiSum l) (most x) := by
  have h1 := most_range hx
  unfold hiSum addE
  rw [sum_snoc]
  have e : endless ((l ++ [x]).map most) = (endless (l.map most) || decide (most x = -1)) := by
    rw [List.map_append, endless_app]
    congr 1
    exact endless_one h1.1
  rw [e]
  cases h : endless (l.map most) with
  | true => simp
  | false =>
    have h0 := mosts_nonneg h
    by_cases hm : most x = -1
    · simp [hm]
    · simp only [Bool.false_or, hm, decide_false, Bool.false_eq_true, if_false, or_false]
      unfold capE far
      split <;> split <;> (try split) <;> omega
theorem loMin_one {x : Nd} (hx : Wf x) : loMin [x] = least x := by
  have := (least_range hx).2
  simp [loMin, lowest]
  omega
theorem lowest_app (a b : List Int) : lowest (a ++ b) = min (lowest a) (lowest b) := by
  induction a with
  | nil =>
    simp only [List.nil_append, lowest]
    have : lowest b ≤ far := by
      induction b with
      | nil => exact Int.le_refl _
      | cons x b ih => simp only [lowest]; omega
    omega
  | cons x a ih => simp only [List.cons_append, lowest, ih]; omega
theorem loMin_snoc {l : List Nd} {x : Nd} (hx : Wf x) : loMin (l ++ [x]) = min (loMin l) (least x) := by
  have := loMin_one hx
  unfold loMin at this ⊢
  rw [List.map_append, lowest_app, this]
theorem highest_app (a b : List Int) : highest (a ++ b) = max (highest a) (highest b) := by
  induction a with
  | nil =>
    simp only [List.nil_append, highest]
    have := (highest_range (l := b)).1
    omega
  | cons x a ih => simp only [List.cons_append, highest, ih]; omega
theorem hiMax_one {x : Nd} (hx : Wf x) : hiMax [x] = most x := by
  have := most_range hx
  have e : endless ([x].map most) = decide (most x = -1) := endless_one this.1
  unfold hiMax
  rw [e]
  by_cases hm : most x = -1
  · simp [hm]
  · simp [hm, highest]
    omega
theorem hiMax_snoc {l : List Nd} {x : Nd} (hx : Wf x) : hiMax (l ++ [x]) = maxE (hiMax l) (most x) := by
  have h1 := most_range hx
  unfold hiMax maxE
  have e : endless ((l ++ [x]).map most) = (endless (l.map most) || decide (most x = -1)) := by
    rw [List.map_append, endless_app]
    congr 1
    exact endless_one h1.1
  rw [e, List.map_append, highest_app]
  cases h : endless (l.map most) with
  | true => simp
  | false =>
    have h0 := (highest_range (l := l.map most)).1
    by_cases hm : most x = -1
    · simp [hm]
    · simp only [Bool.false_or, hm, decide_false, Bool.false_eq_true, if_false, or_false]
      rw [if_neg (by omega)]
      simp [highest]
      omega
theorem loSum_one {x : Nd} (hx : Wf x) : loSum [x] = least x := by
  have := (least_range hx).2
  simp [loSum]
  exact capF_id this
theorem szSum_one {x : Nd} (hx : Wf x) : szSum [x] = ndSize x := by
  have := (ndSize_range hx).2
  simp [szSum]
  exact capF_id this
theorem hiSum_one {x : Nd} (hx : Wf x) : hiSum [x] = most x := by
  have := most_range hx
  have e : endless ([x].map most) = decide (most x = -1) := endless_one this.1
  unfold hiSum
  rw [e]
  by_cases hm : most x = -1
  · simp [hm]
  · simp [hm, capE]
    omega
theorem loMin_range {l : List Nd} (h : ∀ x ∈ l, Wf x) : 0 ≤ loMin l ∧ loMin l ≤ far := by
  have := lowest_range (l := l.map least) (by
    intro y hy
    obtain ⟨z, hz, rfl⟩ := List.mem_map.1 hy
    exact (least_range (h z hz)).1)
  exact ⟨this.1, this.2.1⟩
theorem hiMax_range {l : List Nd} (h : ∀ x ∈ l, Wf x) : -1 ≤ hiMax l ∧ hiMax l ≤ far := by
  unfold hiMax
  split
  · simp [far]
  · have := (highest_range (l := l.map most)).1
    have := highest_le (l := l.map most) (b := far) (by simp [far]) (by
      intro y hy
      obtain ⟨z, hz, rfl⟩ := List.mem_map.1 hy
      exact (most_range (h z hz)).2)
    omega

end Go.Proofs.YtpginkdkblmnbaaGreatDoor

/- A text as units with the bytes at which they begin; a place among them, and what is left of the text there. Of no program. -/
namespace Go.Proofs.YtpginkdkblmnbaaGreatDoor
open Go.Proofs.YtpginkdkblmnbaaGreatDoor.Cl

/-- The bytes at which the units begin. -/
def atsF : Nat → Nat → List UInt8 → List Nat
  | 0, _, _ => []
  | f + 1, p, s => if s = [] then [] else p :: atsF f (p + (nx s).2) (s.drop (nx s).2)
def ats (p : Nat) (s : List UInt8) : List Nat := atsF s.length p s
theorem atsF_nil (f p : Nat) : atsF f p [] = [] := by cases f <;> simp [atsF]
theorem atsF_more (f : Nat) : ∀ (g p : Nat) (s : List UInt8), s.length ≤ f → s.length ≤ g → atsF f p s = atsF g p s := by
  induction f with
  | zero =>
    intro g p s hf _
    obtain rfl : s = [] := List.eq_nil_of_length_eq_zero (by omega)
    rw [atsF_nil, atsF_nil]
  | succ f ih =>
    intro g p s hf hg
    by_cases h : s = []
    · subst h; rw [atsF_nil, atsF_nil]
    · have hl := len_ne h
      cases g with
      | zero => omega
      | succ g =>
        have hk := nx_le s h
        have hd : (s.drop (nx s).2).length ≤ f := by rw [List.length_drop]; omega
        have hd' : (s.drop (nx s).2).length ≤ g := by rw [List.length_drop]; omega
        simp only [atsF, if_neg h, ih g _ _ hd hd']
theorem ats_nil (p : Nat) : ats p [] = [] := rfl
theorem ats_step (p : Nat) (s : List UInt8) (h : s ≠ []) : ats p s = p :: ats (p + (nx s).2) (s.drop (nx s).2) := by
  have hl := len_ne h
  have hk := nx_le s h
  unfold ats
  obtain ⟨f, hf⟩ : ∃ f, s.length = f + 1 := ⟨s.length - 1, by omega⟩
  rw [hf]
  simp only [atsF, if_neg h]
  rw [atsF_more f _ _ _ (by rw [List.length_drop]; omega) (Nat.le_refl _)]
theorem ats_len (s : List UInt8) : ∀ p, (ats p s).length = (un s).length := by
  refine un_ind (P := fun s => ∀ p, (ats p s).length = (un s).length) ?_ ?_ s
  · intro p; rfl
  · intro s h ih p
    rw [ats_step p s h, un_step s h, List.length_cons, List.length_cons, ih]

/-- A first byte below 128 is a unit. -/
theorem nx_small {t : List UInt8} (h : t ≠ []) (hb : at_ t 0 < 128) : nx t = (at_ t 0, 1) := by
  have hl := len_ne h
  have hc : isCh (at_ t 0) := ⟨by omega, by omega⟩
  have he : encN (at_ t 0) = [at_ t 0] := by simp [encN, hb]
  have := nx_of_tk t (at_ t 0) hc (by rw [he]; simpa using hl) (by rw [he]; simp [tk])
  rw [this, he]
  rfl
theorem nx_great {t : List UInt8} (h : t ≠ []) (hb : 128 ≤ at_ t 0) : 128 ≤ (nx t).1 := by
  rcases nx_cases t h with ⟨h1, h2, h3, h4⟩ | ⟨h1, _⟩
  · by_cases hs : (nx t).1 < 128
    · have he : encN (nx t).1 = [(nx t).1] := by simp [encN, hs]
      rw [h2, he] at h4
      simp [tk] at h4
      omega
    · omega
  · rw [h1]
    simp only
    omega
/-- The unit so many units on; -1: there is none. -/
def onN (t : List UInt8) (k : Nat) : Int := match (un t)[k]? with | some u => (u : Int) | none => -1
theorem on_nil (k : Nat) : onN [] k = -1 := by simp [onN, un_nil]
theorem on_zero {t : List UInt8} (h : t ≠ []) : onN t 0 = ((nx t).1 : Nat) := by unfold onN; rw [un_step t h]; rfl
theorem on_succ {t : List UInt8} (h : t ≠ []) (k : Nat) : onN t (k + 1) = onN (t.drop (nx t).2) k := by unfold onN; rw [un_step t h]; rfl
/-- A sign comes next: by the unit, or by the byte. -/
theorem on_sign {t : List UInt8} {c : Nat} (h0 : 0 < c) (hc : c < 128) : onN t 0 = (c : Int) ↔ at_ t 0 = c := by
  by_cases h : t = []
  · subst h
    rw [on_nil, at_nil]
    omega
  · rw [on_zero h]
    by_cases hb : at_ t 0 < 128
    · rw [nx_small h hb]
      simp only
      omega
    · have := nx_great h (by omega)
      omega
theorem on_neg {t : List UInt8} : onN t 0 < 0 ↔ t = [] := by
  by_cases h : t = []
  · subst h; rw [on_nil]; simp
  · rw [on_zero h]
    constructor
    · intro hh; omega
    · intro hh; exact absurd hh h
theorem on_le (t : List UInt8) (k : Nat) : -1 ≤ onN t k ∧ onN t k ≤ 1114367 := by
  unfold onN
  split
  · rename_i u hu
    have hm := List.mem_of_getElem? hu
    have := un_right t u hm
    rcases this with ⟨h1, _⟩ | ⟨_, h2⟩ <;> omega
  · omega
/-- Signs come next: by the units, or by the bytes. -/
def comes (w : List UInt8) (t : List UInt8) : Prop := ∀ k, k < w.length → onN t k = ((at_ w k : Nat) : Int)
theorem comes_iff : ∀ (w t : List UInt8), (∀ x ∈ w, 0 < x.toNat ∧ x.toNat < 128) → (comes w t ↔ pre w t = true)
  | [], t, _ => by simp [comes, pre]
  | c :: w, t, hw => by
    have h1 := hw c (by simp)
    have ih := comes_iff w (t.drop 1) (fun x hx => hw x (by simp [hx]))
    have hz : at_ (c :: w) 0 = c.toNat := rfl
    have hs : ∀ k, at_ (c :: w) (k + 1) = at_ w k := fun k => by simp [at_]
    by_cases ht : t = []
    · subst ht
      constructor
      · intro h
        have := h 0 (by simp)
        rw [on_nil, hz] at this
        omega
      · intro h; simp [pre] at h
    · obtain ⟨b, r, rfl⟩ : ∃ b r, t = b :: r := by cases t with | nil => exact absurd rfl ht | cons b r => exact ⟨b, r, rfl⟩
      have hd : (b :: r).drop 1 = r := rfl
      rw [hd] at ih
      constructor
      · intro h
        have h0 := h 0 (by simp)
        rw [hz] at h0
        have hb := (on_sign h1.1 h1.2).1 h0
        have hb' : b = c := by
          apply UInt8.toNat_inj.1
          exact hb
        subst hb'
        have hn : nx (b :: r) = (b.toNat, 1) := nx_small ht (by show b.toNat < 128; omega)
        have : comes w r := fun k hk => by
          have := h (k + 1) (by simpa using hk)
          rw [on_succ ht, hn, hs] at this
          exact this
        have := ih.1 this
        unfold pre at this ⊢
        simp [List.isPrefixOf, this]
      · intro h
        unfold pre at h
        simp [List.isPrefixOf] at h
        obtain ⟨rfl, h2⟩ := h
        have hn : nx (c :: r) = (c.toNat, 1) := nx_small ht (by show c.toNat < 128; omega)
        intro k hk
        cases k with
        | zero => rw [on_zero ht, hn]; rfl
        | succ k =>
          rw [on_succ ht, hn, hs]
          exact ih.2 (by unfold pre; simpa using h2) k (by simpa using hk)

/-- The place I of a text is where what is left begins. -/
structure Pos (s : List UInt8) (σ : St) (I : Nat) : Prop where
  suf : s.drop σ.pos = σ.t
  le : σ.pos ≤ s.length
  units : (un s).drop I = un σ.t
  begins : (ats 0 s).drop I = ats σ.pos σ.t
section
variable {s : List UInt8} {σ : St} {I : Nat}
theorem Pos.next (h : Pos s σ I) (hn : σ.t ≠ []) : Pos s (σ.adv (nx σ.t).2) (I + 1) := by
  have hl := nx_le σ.t hn
  have hlen : σ.t.length = s.length - σ.pos := by rw [← h.suf, List.length_drop]
  refine ⟨?_, ?_, ?_, ?_⟩
  · simp only [St.adv]; rw [← h.suf, List.drop_drop]
  · simp only [St.adv]; have := h.le; omega
  · simp only [St.adv]; rw [← List.drop_drop, h.units, un_step _ hn]; rfl
  · simp only [St.adv]; rw [← List.drop_drop, h.begins, ats_step _ _ hn]; rfl
theorem Pos.small (h : Pos s σ I) (hn : σ.t ≠ []) (hb : at_ σ.t 0 < 128) : Pos s (σ.adv 1) (I + 1) := by
  have := h.next hn
  rwa [nx_small hn hb] at this
theorem Pos.on (h : Pos s σ I) (k : Nat) : (match (un s)[I + k]? with | some u => (u : Int) | none => -1) = onN σ.t k := by
  unfold onN
  rw [← h.units, List.getElem?_drop]
theorem Pos.end_ (h : Pos s σ I) : σ.t = [] ↔ (un s).length ≤ I := by
  have hu := congrArg List.length h.units
  rw [List.length_drop] at hu
  constructor
  · intro e; rw [e, un_nil] at hu; simp at hu; omega
  · intro hI
    by_cases hn : σ.t = []
    · exact hn
    · rw [un_step _ hn] at hu; simp at hu; omega
theorem Pos.at_ (h : Pos s σ I) (hn : σ.t ≠ []) : (ats 0 s)[I]? = some σ.pos := by
  have := congrArg (fun l : List Nat => l[0]?) h.begins
  simp only [List.getElem?_drop, Nat.add_zero] at this
  rw [this, ats_step _ _ hn]
  rfl
theorem Pos.pos_end (h : Pos s σ I) (hn : σ.t = []) : σ.pos = s.length := by
  have := congrArg List.length h.suf
  rw [List.length_drop, hn] at this
  simp at this
  have := h.le
  omega
/-- Signs are taken. -/
theorem Pos.take : ∀ {w : List UInt8} {σ : St} {I : Nat}, Pos s σ I → (∀ x ∈ w, 0 < x.toNat ∧ x.toNat < 128) → pre w σ.t = true → Pos s (σ.adv w.length) (I + w.length)
  | [], σ, I, h, _, _ => by
    have : σ.adv 0 = σ := by simp [St.adv]
    simpa [this] using h
  | c :: w, σ, I, h, hw, hp => by
    have h1 := hw c (by simp)
    cases ht : σ.t with
    | nil => rw [ht] at hp; simp [pre] at hp
    | cons b r =>
      rw [ht] at hp
      simp [pre, List.isPrefixOf] at hp
      obtain ⟨rfl, h2⟩ := hp
      have hn : σ.t ≠ [] := by rw [ht]; simp
      have hs := h.small hn (by rw [ht]; exact h1.2)
      have h3 := Pos.take hs (fun x hx => hw x (by simp [hx])) (w := w) (by simp only [St.adv, ht]; simpa [pre] using h2)
      have e : (σ.adv 1).adv w.length = σ.adv (c :: w).length := by simp [St.adv, Nat.add_comm]; omega
      rw [e] at h3
      have e2 : I + 1 + w.length = I + (c :: w).length := by simp; omega
      rwa [e2] at h3
end

end Go.Proofs.YtpginkdkblmnbaaGreatDoor

