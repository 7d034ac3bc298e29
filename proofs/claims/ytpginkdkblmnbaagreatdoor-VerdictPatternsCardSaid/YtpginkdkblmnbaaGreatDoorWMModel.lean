import Derived.Test.YtpginkdkblmnbaaGreatDoorWMMath
namespace Go.Proofs.YtpginkdkblmnbaaGreatDoor
section
open Go.Proofs.YtpginkdkblmnbaaGreatDoor.Cl
inductive Nd where
 | mk (kind lo hi mode ref : Int) (set : List Rg) (kids : List Nd)
def Nd.kind : Nd → Int
 | .mk k _ _ _ _ _ _ => k
structure St where
 pos : Nat
 t : List UInt8
 g : Nat
 bk : List (Nat × Nat)
abbrev Flt := Nat × Nat
abbrev R := Except Flt (Nd × St)
def St.adv (σ : St) (n : Nat) : St := { pos := σ.pos + n, t := σ.t.drop n, g := σ.g, bk := σ.bk }
def pre (w t : List UInt8) : Bool := w.isPrefixOf t
def Í (t : List UInt8) : Nat := if at_ t 0 = 92 then at_ t 1 else 0
def dig (c : Nat) : Bool := decide (48 ≤ c ∧ c ≤ 57)
def ð (c : Nat) : Bool := decide (33 ≤ c ∧ c ≤ 126 ∧ ¬ (65 ≤ c ∧ c ≤ 90) ∧ ¬ (97 ≤ c ∧ c ≤ 122) ∧ ¬ (48 ≤ c ∧ c ≤ 57))
def ń (c : Nat) : Bool := decide ((48 ≤ c ∧ c ≤ 57) ∨ (97 ≤ c ∧ c ≤ 102))
def Ày (c : Nat) : Nat := if c ≤ 57 then c - 48 else c - 87
def isQ (c : Nat) : Bool := decide (c = 42 ∨ c = 43 ∨ c = 63 ∨ c = 123)
def Êl : Nd := .mk 0 0 0 0 0 [] []
def Âa (l : List Rg) : Nd := .mk 1 0 0 0 0 l []
def Ñz (kids : List Nd) : Nd := .mk 2 0 0 0 0 [] kids
def ÑA (kids : List Nd) : Nd := .mk 3 0 0 0 0 [] kids
def Àz (lo hi mode : Int) (kid : Nd) : Nd := .mk 4 lo hi mode 0 [] [kid]
def ËJ (g : Nat) : Nd := .mk 6 0 0 0 g [] []
def Áw (r : Int) : Nd := .mk 9 0 0 0 r [] []
def joinA : List Nd → Nd
 | [x] => x
 | l => ÑA l
def joinR : List Nd → Nd
 | [] => Êl
 | [x] => x
 | l => Ñz l
def Ť (c : Nat) : Option (List Rg) :=
 if c = 100 ∨ c = 68 then some [(48, 57)]
 else if c = 119 ∨ c = 87 then some [(48, 57), (65, 90), (95, 95), (97, 122)]
 else if c = 115 ∨ c = 83 then some [(9, 13), (32, 32)]
 else none
def units (c : Nat) : Option (List Rg) := if 65 ≤ c ∧ c ≤ 90 then (Ť c).map (ò 0) else Ť c
def ť (l : List Rg) : List Rg := Î (l.mergeSort fun a b => decide (a.1 ≤ b.1))
def Ð (σ : St) : Except Flt (Nat × St) :=
 if Í σ.t = 120 then
  if σ.t.length < 4 then .error (21, σ.pos)
  else if ń (at_ σ.t 2) && ń (at_ σ.t 3) then .ok (16 * Ày (at_ σ.t 2) + Ày (at_ σ.t 3), σ.adv 4)
  else .error (21, σ.pos)
 else if Í σ.t = 110 then .ok (10, σ.adv 2)
 else if Í σ.t = 116 then .ok (9, σ.adv 2)
 else if Í σ.t = 114 then .ok (13, σ.adv 2)
 else if ð (Í σ.t) then .ok (Í σ.t, σ.adv 2)
 else .error (21, σ.pos)
def Ł (σ : St) : Except Flt (Nat × St) := if at_ σ.t 0 = 92 then Ð σ else .ok ((nx σ.t).1, σ.adv (nx σ.t).2)
def ī (t : List UInt8) : Bool := !t.isEmpty && !decide (at_ t 0 = 91 ∨ at_ t 0 = 93 ∨ at_ t 0 = 45) && (units (Í t)).isNone
def Ú (σ : St) : Except Flt (List Rg × St) :=
 if at_ σ.t 0 = 91 ∨ at_ σ.t 0 = 45 then .error (22, σ.pos)
 else match units (Í σ.t) with
 | some l => .ok (l, σ.adv 2)
 | none => match Ł σ with
  | .error e => .error e
  | .ok (lo, σ1) =>
   if at_ σ1.t 0 = 45 then
    if ī (σ1.adv 1).t then
     match Ł (σ1.adv 1) with
     | .error e => .error e
     | .ok (hi, σ3) => if hi < lo then .error (22, σ.pos) else .ok ([((lo : Int), (hi : Int))], σ3)
    else .error (22, σ.pos)
   else .ok ([((lo : Int), (lo : Int))], σ1)
def Ģ (op : Nat) (neg : Bool) : Nat → List Rg → St → Except Flt (List Rg × St)
 | 0, _, σ => .error (0, σ.pos)
 | k + 1, acc, σ =>
  if at_ σ.t 0 = 93 then
   if acc.isEmpty then .error (22, op) else .ok (if neg then ò 0 (ť acc) else ť acc, σ.adv 1)
  else if σ.t.isEmpty then .error (22, op)
  else match Ú σ with
  | .error e => .error e
  | .ok (l, σ1) => Ģ op neg k (acc ++ l) σ1
def ÅA (σ : St) : Bool := decide (at_ (σ.adv 1).t 0 = 94)
def é (σ : St) : St := if ÅA σ then (σ.adv 1).adv 1 else σ.adv 1
def Ğ (σ : St) : R :=
 match Ģ σ.pos (ÅA σ) 300 [] (é σ) with
 | .error e => .error e
 | .ok (l, σ1) => .ok (Âa l, σ1)
def refAt (σ : St) : St := { pos := σ.pos + 2, t := σ.t.drop 2, g := σ.g, bk := σ.bk ++ [(Í σ.t - 48, σ.pos)] }
def ó (σ : St) : R :=
 if Í σ.t = 98 then .ok (Áw 2, σ.adv 2)
 else if Í σ.t = 66 then .ok (Áw 3, σ.adv 2)
 else if 49 ≤ Í σ.t ∧ Í σ.t ≤ 57 then .ok (ËJ (Í σ.t - 48), refAt σ)
 else match units (Í σ.t) with
 | some l => .ok (Âa l, σ.adv 2)
 | none => match Ð σ with
  | .error e => .error e
  | .ok (u, σ1) => .ok (Âa [((u : Int), (u : Int))], σ1)
def Ĥ (σ : St) : R :=
 if at_ σ.t 0 = 91 then Ğ σ
 else if at_ σ.t 0 = 92 then ó σ
 else if isQ (at_ σ.t 0) then .error (23, σ.pos)
 else if at_ σ.t 0 = 93 ∨ at_ σ.t 0 = 125 then .error (20, σ.pos)
 else if at_ σ.t 0 = 46 then .ok (Âa [(0, 9), (11, 1114367)], σ.adv 1)
 else if at_ σ.t 0 = 94 then .ok (Áw 0, σ.adv 1)
 else if at_ σ.t 0 = 36 then .ok (Áw 1, σ.adv 1)
 else .ok (Âa [(((nx σ.t).1 : Int), ((nx σ.t).1 : Int))], σ.adv (nx σ.t).2)
def Ĝ (t : List UInt8) : Nat := if dig (at_ t 0) then (if dig (at_ t 1) then 10 * (at_ t 0 - 48) + (at_ t 1 - 48) else at_ t 0 - 48) else 0
def Ñ (t : List UInt8) : Nat := if dig (at_ t 0) then (if dig (at_ t 1) then 2 else 1) else 0
def Ņ (t : List UInt8) : Bool := dig (at_ t 0) && decide (Ĝ t ≤ 64)
def Àc (σ : St) : Option ((Int × Int) × St) :=
 if Ņ (σ.adv 1).t then
  if pre [44, 125] ((σ.adv 1).adv (Ñ (σ.adv 1).t)).t then some ((Ĝ (σ.adv 1).t, -1), ((σ.adv 1).adv (Ñ (σ.adv 1).t)).adv 2)
  else if at_ ((σ.adv 1).adv (Ñ (σ.adv 1).t)).t 0 = 44 then
   if Ņ (((σ.adv 1).adv (Ñ (σ.adv 1).t)).adv 1).t && decide (Ĝ (σ.adv 1).t ≤ Ĝ (((σ.adv 1).adv (Ñ (σ.adv 1).t)).adv 1).t)
    && decide (at_ ((((σ.adv 1).adv (Ñ (σ.adv 1).t)).adv 1).adv (Ñ (((σ.adv 1).adv (Ñ (σ.adv 1).t)).adv 1).t)).t 0 = 125) then
    some ((Ĝ (σ.adv 1).t, Ĝ (((σ.adv 1).adv (Ñ (σ.adv 1).t)).adv 1).t), ((((σ.adv 1).adv (Ñ (σ.adv 1).t)).adv 1).adv (Ñ (((σ.adv 1).adv (Ñ (σ.adv 1).t)).adv 1).t)).adv 1)
   else none
  else if at_ ((σ.adv 1).adv (Ñ (σ.adv 1).t)).t 0 = 125 then some ((Ĝ (σ.adv 1).t, Ĝ (σ.adv 1).t), ((σ.adv 1).adv (Ñ (σ.adv 1).t)).adv 1)
  else none
 else none
def times (σ : St) : Option ((Int × Int) × St) :=
 if at_ σ.t 0 = 42 then some ((0, -1), σ.adv 1)
 else if at_ σ.t 0 = 43 then some ((1, -1), σ.adv 1)
 else if at_ σ.t 0 = 63 then some ((0, 1), σ.adv 1)
 else Àc σ
def è (t : List UInt8) : Nat := if at_ t 0 = 63 then 1 else if at_ t 0 = 43 then 2 else 0
def È (σ : St) : St := if è σ.t = 0 then σ else σ.adv 1
def Ù (grouped : Bool) (a : Nd) (σ : St) : R :=
 if isQ (at_ σ.t 0) then
  if !grouped && (decide (a.kind = 9) || decide (a.kind = 7)) then .error (23, σ.pos)
  else match times σ with
  | none => .error (23, σ.pos)
  | some ((lo, hi), σ1) => .ok (Àz lo hi (è σ1.t) a, È σ1)
 else .ok (a, σ)
def opened (σ : St) : St := { pos := σ.pos + 1, t := σ.t.drop 1, g := σ.g + 1, bk := σ.bk }
def Ô (σ : St) : Except Flt ((Int × Int × Int) × St) :=
 if pre [40, 63, 58] σ.t then .ok ((0, 0, 0), σ.adv 3)
 else if pre [40, 63, 61] σ.t then .ok ((7, 0, 0), σ.adv 3)
 else if pre [40, 63, 33] σ.t then .ok ((7, 1, 0), σ.adv 3)
 else if pre [40, 63, 60, 61] σ.t then .ok ((7, 2, 0), σ.adv 4)
 else if pre [40, 63, 60, 33] σ.t then .ok ((7, 3, 0), σ.adv 4)
 else if pre [40, 63, 62] σ.t then .ok ((8, 0, 0), σ.adv 3)
 else if pre [40, 63] σ.t then .error (20, σ.pos)
 else if σ.g = 9 then .error (24, σ.pos)
 else .ok ((5, 0, ((σ.g + 1 : Nat) : Int)), opened σ)
def wrap (sh : Int × Int × Int) (kid : Nd) : Nd := if sh.1 = 0 then kid else .mk sh.1 0 0 sh.2.1 sh.2.2 [] [kid]
def run : Nat → Nat → Nat → List Nd → St → R
 | 0, _, _, _, σ => .error (0, σ.pos)
 | n + 1, 0, d, acc, σ =>
  match run n 1 d [] σ with
  | .error e => .error e
  | .ok (r, σ1) => if at_ σ1.t 0 = 124 then run n 0 d (acc ++ [r]) (σ1.adv 1) else .ok (joinA (acc ++ [r]), σ1)
 | n + 1, 1, d, acc, σ =>
  if σ.t.isEmpty || decide (at_ σ.t 0 = 124 ∨ at_ σ.t 0 = 41) then .ok (joinR acc, σ)
  else match run n 2 d [] σ with
  | .error e => .error e
  | .ok (a, σ1) => run n 1 d (acc ++ [a]) σ1
 | n + 1, 2, d, _, σ =>
  match (if at_ σ.t 0 = 40 then run n 3 d [] σ else Ĥ σ) with
  | .error e => .error e
  | .ok (a, σ1) => Ù (pre [40, 63, 58] σ.t) a σ1
 | n + 1, _ + 3, d, _, σ =>
  if d = 32 then .error (25, σ.pos)
  else match Ô σ with
  | .error e => .error e
  | .ok (sh, σ1) =>
   match run n 0 (d + 1) [] σ1 with
   | .error e => .error e
   | .ok (kid, σ2) => if at_ σ2.t 0 = 41 then .ok (wrap sh kid, σ2.adv 1) else .error (20, σ.pos)
def ÀL (s : List UInt8) : Bool := pre [40, 63, 105, 41] s
def begins (s : List UInt8) : St := if ÀL s then { pos := 4, t := s.drop 4, g := 0, bk := [] } else { pos := 0, t := s, g := 0, bk := [] }
def ended (fold : Bool) (r : Nd) (σ : St) : Except Flt (Nd × Nat × Bool) :=
 if !σ.t.isEmpty then .error (20, σ.pos)
 else match σ.bk.find? fun b => decide (σ.g < b.1) with
 | some b => .error (26, b.2)
 | none => .ok (r, σ.g, fold)
def ñ (n : Nat) (s : List UInt8) : Except Flt (Nd × Nat × Bool) :=
 if 256 < s.length then .error (12, 0)
 else match run n 0 0 [] (begins s) with
 | .error e => .error e
 | .ok (r, σ) => ended (ÀL s) r σ
theorem Ái (n d : Nat) (acc : List Nd) (σ : St) : run (n + 1) 0 d acc σ = match run n 1 d [] σ with
 | .error e => .error e
 | .ok (r, σ1) => if at_ σ1.t 0 = 124 then run n 0 d (acc ++ [r]) (σ1.adv 1) else .ok (joinA (acc ++ [r]), σ1) := rfl
theorem Âb (n d : Nat) (acc : List Nd) (σ : St) : run (n + 1) 1 d acc σ = if σ.t.isEmpty || decide (at_ σ.t 0 = 124 ∨ at_ σ.t 0 = 41) then .ok (joinR acc, σ)
 else match run n 2 d [] σ with
 | .error e => .error e
 | .ok (a, σ1) => run n 1 d (acc ++ [a]) σ1 := rfl
theorem Áb (n d : Nat) (acc : List Nd) (σ : St) : run (n + 1) 2 d acc σ = match (if at_ σ.t 0 = 40 then run n 3 d [] σ else Ĥ σ) with
 | .error e => .error e
 | .ok (a, σ1) => Ù (pre [40, 63, 58] σ.t) a σ1 := rfl
theorem Ác (n d : Nat) (acc : List Nd) (σ : St) : run (n + 1) 3 d acc σ = if d = 32 then .error (25, σ.pos)
 else match Ô σ with
 | .error e => .error e
 | .ok (sh, σ1) =>
  match run n 0 (d + 1) [] σ1 with
  | .error e => .error e
  | .ok (kid, σ2) => if at_ σ2.t 0 = 41 then .ok (wrap sh kid, σ2.adv 1) else .error (20, σ.pos) := rfl
end
section
open Go.Proofs.YtpginkdkblmnbaaGreatDoor.Cl
def Êm (q : List UInt8) : Prop := q = [] ∨ ∃ p, q = 41 :: p
theorem Ão (i : Nat) : at_ [] i = 0 := by simp [at_]
theorem ÈP {q : List UInt8} (h : Êm q) : at_ q 0 = 0 ∨ at_ q 0 = 41 := by
 rcases h with rfl | ⟨p, rfl⟩
 ·exact .inl (Ão 0)
 ·exact .inr rfl
theorem Ïl {t : List UInt8} (q : List UInt8) (h : t ≠ []) : at_ (t ++ q) 0 = at_ t 0 := ÍD (by cases t <;> simp_all)
theorem Ðu {t q : List UInt8} (h : Êm q) {c : Nat} (h0 : c ≠ 0) (h1 : c ≠ 41) : at_ (t ++ q) 0 = c ↔ at_ t 0 = c := by
 by_cases ht : t = []
 ·subst ht
  rw [List.nil_append, Ão]
  rcases ÈP h with e | e <;> rw [e] <;> omega
 ·rw [Ïl q ht]
theorem Àf {t : List UInt8} (h : at_ t 0 ≠ 0) : t ≠ [] := by
 rintro rfl;exact h (Ão 0)
theorem Œ {t : List UInt8} (h : t ≠ []) : 1 ≤ t.length := by cases t <;> simp_all
theorem ËK {w t : List UInt8} (h : pre w t = true) : w.length ≤ t.length := by
 unfold pre at h;exact (List.isPrefixOf_iff_prefix.1 h).length_le
theorem Ïm (w : List UInt8) {q : List UInt8} (h : Êm q) (hw : (41 : UInt8) ∉ w) : ∀ t, pre w (t ++ q) = pre w t := by
 induction w with
 | nil => intro t; simp [pre]
 | cons a w ih =>
  intro t
  cases t with
  | nil =>
   rcases h with rfl | ⟨p, rfl⟩
   ·rfl
   ·have : ¬ a = 41 := fun e => hw (by simp [e])
    simp [pre, List.isPrefixOf, this]
  | cons b t =>
   have := ih (fun e => hw (List.mem_cons_of_mem _ e)) t
   simp only [pre] at this;simp only [pre, List.cons_append, List.isPrefixOf, this]
structure Sim (γ : Nat) (B : List Nat) (q : List UInt8) (σ σ' : St) : Prop where
 ht : σ'.t = σ.t ++ q
 hg : σ'.g = σ.g + γ
 hb : σ'.bk.map (·.1) = B ++ σ.bk.map (·.1)
variable {γ δ : Nat} {B : List Nat} {q : List UInt8} {σ σ' σ1 : St}
theorem Sim.adv (h : Sim γ B q σ σ') {n : Nat} (hn : n ≤ σ.t.length) : Sim γ B q (σ.adv n) (σ'.adv n) :=
 ⟨by simp only [St.adv]; rw [h.ht, List.drop_append_of_le_length hn], h.hg, h.hb⟩
theorem Sim.at_ (h : Sim γ B q σ σ') (hq : Êm q) {c : Nat} (h0 : c ≠ 0) (h1 : c ≠ 41) : at_ σ'.t 0 = c ↔ at_ σ.t 0 = c := by rw [h.ht]; exact Ðu hq h0 h1
theorem Sim.pre (h : Sim γ B q σ σ') (hq : Êm q) (w : List UInt8) (hw : (41 : UInt8) ∉ w) : pre w σ'.t = pre w σ.t := by rw [h.ht]; exact Ïm w hq hw _
theorem œ {t : List UInt8} (h : Í t ≠ 0) : 2 ≤ t.length ∧ at_ t 0 = 92 := by
 unfold Í at h;split at h
 ·rename_i h0
  refine ⟨?_, h0⟩
  rcases Nat.lt_or_ge t.length 2 with hl | hl
  ·exact absurd (Ãl (by omega)) h
  ·exact hl
 ·exact absurd rfl h
theorem Ìn {t : List UInt8} (h : at_ t 0 ≠ 92) : Í t = 0 := by
 unfold Í;rw [if_neg h]
theorem Ên : units 0 = none := by simp [units, Ť]
theorem ÇP {u : Nat} (h : Ð σ = .ok (u, σ1)) : Í σ.t ≠ 0 := by
 intro e;unfold Ð at h;rw [e] at h;simp [ð] at h
theorem Ãp {c : Nat} {l : List Rg} (h : units c = some l) : c ≠ 0 := by
 rintro rfl;rw [Ên] at h;cases h
theorem ÄE {t : List UInt8} (hu : ī t = true) : t ≠ [] := by rintro rfl; simp [ī] at hu
theorem ÂO (c : Nat) : dig c = true ↔ 48 ≤ c ∧ c ≤ 57 := by simp [dig]
theorem ÇQ {c : Nat} (h : c < 48) : dig c = false := by simp [dig]; omega
theorem Ïn (hq : Êm q) (t : List UInt8) : Ĝ (t ++ q) = Ĝ t ∧ Ñ (t ++ q) = Ñ t ∧ Ņ (t ++ q) = Ņ t ∧ Ñ t ≤ t.length := by
 have hq0 : dig (at_ q 0) = false := ÇQ (by rcases ÈP hq with e | e <;> omega)
 match t with
 | [] =>
  have e0 : dig (at_ ([] : List UInt8) 0) = false := ÇQ (by rw [Ão]; omega)
  simp only [List.nil_append, Ņ, Ĝ, Ñ, hq0, e0, Bool.false_and];simp
 | [a] =>
  have e0 : at_ ([a] ++ q) 0 = at_ [a] 0 := rfl
  have e1 : at_ ([a] ++ q) 1 = at_ q 0 := by rw [ÍE (by simp)]; rfl
  have e2 : dig (at_ [a] 1) = false := ÇQ (by rw [Ãl (by simp)]; omega)
  unfold Ņ Ĝ Ñ;rw [e0, e1, hq0, e2];refine ⟨rfl, rfl, rfl, ?_⟩
  split <;> simp
 | a :: b :: r =>
  have e0 : at_ (a :: b :: r ++ q) 0 = at_ (a :: b :: r) 0 := rfl;have e1 : at_ (a :: b :: r ++ q) 1 = at_ (a :: b :: r) 1 := rfl;unfold Ņ Ĝ Ñ;rw [e0, e1];refine ⟨rfl, rfl, rfl, ?_⟩;split
  ·split <;> simp
  ·simp
theorem Sim.num (hs : Sim γ B q σ σ') (hq : Êm q) : Ĝ σ'.t = Ĝ σ.t ∧ Ñ σ'.t = Ñ σ.t ∧ Ņ σ'.t = Ņ σ.t := by
 obtain ⟨a, b, c, _⟩ := Ïn hq σ.t;rw [hs.ht];exact ⟨a, b, c⟩
end
section
open Go.Proofs.YtpginkdkblmnbaaGreatDoor.Cl
variable {σ σ1 : St}
theorem ã (σ : St) (n : Nat) : (σ.adv n).t.length = σ.t.length - n := by simp [St.adv]
theorem ÃG (σ : St) (n : Nat) : (σ.adv n).g = σ.g := rfl
theorem Ïo (t : List UInt8) : Í t < 256 := by
 unfold Í;split
 ·exact ŷ t 1
 ·omega
theorem ÈQ {c : Nat} (h : ń c = true) : Ày c ≤ 15 := by
 simp [ń] at h;unfold Ày
 split <;> omega
theorem Âs {u : Nat} (h : Ð σ = .ok (u, σ1)) : σ1.t.length + 1 ≤ σ.t.length ∧ u ≤ 255 ∧ σ1.g = σ.g := by
 have hz := œ (ÇP h);have hl := Ïo σ.t;unfold Ð at h
 repeat' split at h
 all_goals first
  | (injection h with h; injection h with h1 h2; subst h1 h2
     simp only [ã, ÃG, and_true]
     first
      | omega
      | (rename_i c
         simp only [Bool.and_eq_true] at c;have a := ÈQ c.1;have b := ÈQ c.2
         omega))
  | cases h
theorem ÍJ (t : List UInt8) (h : t ≠ []) : (nx t).1 ≤ 1114367 := by
 rcases ÈI t h with h1 | h1
 ·have := h1.1
  omega
 ·exact h1.2
theorem ÂP {u : Nat} (h : Ł σ = .ok (u, σ1)) (hn : σ.t ≠ []) : σ1.t.length + 1 ≤ σ.t.length ∧ u ≤ 1114367 ∧ σ1.g = σ.g := by
 unfold Ł at h;split at h
 ·have := Âs h
  omega
 ·injection h with h; injection h with h1 h2; subst h1 h2
  have := ÁJ σ.t hn;have := ÍJ σ.t hn;simp only [ã, ÃG, and_true];omega
theorem ÈR {c : Nat} {l : List Rg} (h : Ť c = some l) : Ĩ l ∧ l.length ≤ 4 := by
 unfold Ť at h
 repeat' split at h
 all_goals first
  | (injection h with h; subst h; simp [Ĩ, Rt])
  | cases h
theorem ÅB {c : Nat} {l : List Rg} (h : units c = some l) : (∀ r ∈ l, Rt r) ∧ l.length ≤ 5 := by
 unfold units at h;split at h
 ·obtain ⟨l', hl, rfl⟩ := Option.map_eq_some_iff.1 h
  obtain ⟨h1, h2⟩ := ÈR hl;have h3 := gaps_len l' 0
  exact ⟨(ÇO l' 0 (by omega) h1 (fun r hr => (h1.1 r hr).1)).1.1, by omega⟩
 ·obtain ⟨h1, h2⟩ := ÈR h
  exact ⟨h1.1, by omega⟩
theorem Áj {l : List Rg} (h : Ú σ = .ok (l, σ1)) (hn : σ.t ≠ []) : σ1.t.length + 1 ≤ σ.t.length ∧ (∀ r ∈ l, Rt r) ∧ l.length ≤ 5 ∧ σ1.g = σ.g := by
 unfold Ú at h;split at h
 ·cases h
 split at h
 ·rename_i l' hu
  injection h with h; injection h with h1 h2; subst h1 h2
  have := (œ (Ãp hu)).1;obtain ⟨a, b⟩ := ÅB hu
  exact ⟨by rw [ã]; omega, a, b, rfl⟩
 ·split at h
  ·cases h
  ·rename_i lo σa hm
   obtain ⟨a1, a2, a3⟩ := ÂP hm hn;split at h
   ·rename_i c
    split at h
    ·rename_i hs
     split at h
     ·cases h
     ·rename_i hi σb hm2
      obtain ⟨b1, b2, b3⟩ := ÂP hm2 (ÄE hs);rw [ã] at b1;rw [ÃG] at b3;split at h
      ·cases h
      ·injection h with h; injection h with h1 h2; subst h1 h2
       refine ⟨by omega, ?_, by simp, by omega⟩
       intro r hr;obtain rfl := List.mem_singleton.1 hr;unfold Rt;simp only;omega
    ·cases h
   ·injection h with h; injection h with h1 h2; subst h1 h2
    refine ⟨by omega, ?_, by simp, a3⟩
    intro r hr;obtain rfl := List.mem_singleton.1 hr;unfold Rt;simp only;omega
theorem ÄF {op : Nat} {neg : Bool} : ∀ {k : Nat} {acc l : List Rg} {σ σ1 : St}, Ģ op neg k acc σ = .ok (l, σ1) → σ1.t.length + 1 ≤ σ.t.length ∧ σ1.g = σ.g
 | 0, _, _, _, _, h => by simp [Ģ] at h
 | k + 1, acc, l, σ, σ1, h => by
  unfold Ģ at h;split at h
  ·rename_i c
   have := Œ (Àf (t := σ.t) (by omega))
   split at h
   ·cases h
   ·injection h with h; injection h with h1 h2; subst h1 h2
    exact ⟨by rw [ã]; omega, rfl⟩
  ·split at h
   ·cases h
   ·rename_i c2
    have hn : σ.t ≠ [] := by intro e; rw [e] at c2; simp at c2
    split at h
    ·cases h
    ·rename_i l1 σa hm
     have h1 := Áj hm hn;have h2 := ÄF h;omega
theorem ÇR {r : Nd} (h : Ğ σ = .ok (r, σ1)) (hc : at_ σ.t 0 = 91) : σ1.t.length + 1 ≤ σ.t.length ∧ σ1.g = σ.g := by
 have h0 := Œ (Àf (t := σ.t) (by omega))
 unfold Ğ at h;split at h
 ·cases h
 ·rename_i l σa hm
  injection h with h; injection h with h1 h2; subst h1 h2
  have := ÄF hm
  have hb : (é σ).t.length ≤ σ.t.length - 1 ∧ (é σ).g = σ.g := by
   unfold é;split
   ·exact ⟨by rw [ã, ã]; omega, rfl⟩
   ·exact ⟨by rw [ã]; omega, rfl⟩
  omega
theorem Êo {r : Nd} (h : ó σ = .ok (r, σ1)) : σ1.t.length + 1 ≤ σ.t.length ∧ σ1.g = σ.g := by
 unfold ó at h;split at h
 ·have := (œ (t := σ.t) (by omega)).1
  injection h with h; injection h with h1 h2; subst h1 h2
  exact ⟨by rw [ã]; omega, rfl⟩
 split at h
 ·have := (œ (t := σ.t) (by omega)).1
  injection h with h; injection h with h1 h2; subst h1 h2
  exact ⟨by rw [ã]; omega, rfl⟩
 split at h
 ·have := (œ (t := σ.t) (by omega)).1
  injection h with h; injection h with h1 h2; subst h1 h2
  refine ⟨?_, rfl⟩;simp only [refAt, ċ];omega
 split at h
 ·rename_i hu
  have := (œ (Ãp hu)).1
  injection h with h; injection h with h1 h2; subst h1 h2
  exact ⟨by rw [ã]; omega, rfl⟩
 ·split at h
  ·cases h
  ·rename_i hm
   injection h with h; injection h with h1 h2; subst h1 h2
   have := Âs hm;omega
theorem ÆW {r : Nd} (h : Ĥ σ = .ok (r, σ1)) (hn : σ.t ≠ []) : σ1.t.length + 1 ≤ σ.t.length ∧ σ1.g = σ.g := by
 have h1l := Œ hn;unfold Ĥ at h;split at h
 ·rename_i c
  exact ÇR h c
 split at h
 ·exact Êo h
 split at h
 ·cases h
 split at h
 ·cases h
 have hnx := ÁJ σ.t hn
 repeat' split at h
 all_goals
  injection h with h; injection h with h1 h2; subst h1 h2
  exact ⟨by rw [ã]; omega, rfl⟩
theorem Êp {x : Int × Int} (h : Àc σ = some (x, σ1)) : σ1.t.length ≤ σ.t.length ∧ σ1.g = σ.g := by
 unfold Àc at h
 repeat' split at h
 all_goals first
  | (injection h with h; injection h with h1 h2; subst h1 h2
     simp only [ã, ÃG, and_true]
     omega)
  | cases h
theorem ÆX {x : Int × Int} (h : times σ = some (x, σ1)) : σ1.t.length ≤ σ.t.length ∧ σ1.g = σ.g := by
 unfold times at h;split at h
 ·injection h with h; injection h with h1 h2; subst h1 h2
  exact ⟨by rw [ã]; omega, rfl⟩
 split at h
 ·injection h with h; injection h with h1 h2; subst h1 h2
  exact ⟨by rw [ã]; omega, rfl⟩
 split at h
 ·injection h with h; injection h with h1 h2; subst h1 h2
  exact ⟨by rw [ã]; omega, rfl⟩
 exact Êp h
theorem ÅC (σ : St) : (È σ).t.length ≤ σ.t.length ∧ (È σ).g = σ.g := by
 unfold È;split
 ·exact ⟨ŋ _, rfl⟩
 ·exact ⟨by rw [ã]; omega, rfl⟩
theorem Ãe {gr : Bool} {a r : Nd} (h : Ù gr a σ = .ok (r, σ1)) : σ1.t.length ≤ σ.t.length ∧ σ1.g = σ.g := by
 unfold Ù at h;split at h
 ·split at h
  ·cases h
  ·split at h
   ·cases h
   ·rename_i lo hi σa ht
    injection h with h; injection h with h1 h2; subst h1 h2
    have a := ÆX ht;have b := ÅC σa;omega
 ·injection h with h; injection h with h1 h2; subst h1 h2
  exact ⟨ŋ _, rfl⟩
theorem Ât {sh : Int × Int × Int} (h : Ô σ = .ok (sh, σ1)) (hc : at_ σ.t 0 = 40) : σ1.t.length + 1 ≤ σ.t.length ∧ σ.g ≤ σ1.g := by
 have h0 := Œ (Àf (t := σ.t) (by omega))
 unfold Ô at h
 repeat' split at h
 all_goals first
  | (injection h with h; injection h with h1 h2; subst h1 h2
     first
      | exact ⟨by rw [ã]; omega, ŋ _⟩
      | exact ⟨by simp only [opened, ċ]; omega, by simp only [opened]; omega⟩)
  | cases h
theorem ÂQ : ∀ (n : Nat), (∀ d acc σ r σ1, run n 0 d acc σ = .ok (r, σ1) → σ1.t.length ≤ σ.t.length ∧ σ.g ≤ σ1.g) ∧
 (∀ d acc σ r σ1, run n 1 d acc σ = .ok (r, σ1) → σ1.t.length ≤ σ.t.length ∧ σ.g ≤ σ1.g) ∧
 (∀ d acc σ r σ1, σ.t ≠ [] → run n 2 d acc σ = .ok (r, σ1) → σ1.t.length + 1 ≤ σ.t.length ∧ σ.g ≤ σ1.g) ∧
 (∀ d acc σ r σ1, at_ σ.t 0 = 40 → run n 3 d acc σ = .ok (r, σ1) → σ1.t.length + 1 ≤ σ.t.length ∧ σ.g ≤ σ1.g) := by
 intro n
 induction n with
 | zero => refine ⟨?_, ?_, ?_, ?_⟩ <;> intros <;> simp [run] at *
 | succ n ih =>
  obtain ⟨i0, i1, i2, i3⟩ := ih;refine ⟨?_, ?_, ?_, ?_⟩
  ·intro d acc σ r σ1 h
   rw [Ái] at h;split at h
   ·cases h
   ·rename_i r1 σa ha
    have a := i1 _ _ _ _ _ ha;split at h
    ·have b := i0 _ _ _ _ _ h
     rw [ã, ÃG] at b;omega
    ·injection h with h; injection h with h1 h2; subst h1 h2
     exact a
  ·intro d acc σ r σ1 h
   rw [Âb] at h;split at h
   ·injection h with h; injection h with h1 h2; subst h1 h2
    exact ⟨ŋ _, ŋ _⟩
   ·rename_i c
    have hn : σ.t ≠ [] := by intro e; rw [e] at c; simp at c
    split at h
    ·cases h
    ·rename_i r1 σa ha
     have a := i2 _ _ _ _ _ hn ha;have b := i1 _ _ _ _ _ h;omega
  ·intro d acc σ r σ1 hn h
   rw [Áb] at h;split at h
   ·cases h
   ·rename_i r1 σa ha
    have b := Ãe h;split at ha
    ·rename_i c
     have a := i3 _ _ _ _ _ c ha;omega
    ·have a := ÆW ha hn
     omega
  ·intro d acc σ r σ1 hc h
   rw [Ác] at h;split at h
   ·cases h
   ·split at h
    ·cases h
    ·rename_i sh σa ho
     have a := Ât ho hc;split at h
     ·cases h
     ·rename_i kid σb hb
      have b := i0 _ _ _ _ _ hb;split at h
      ·injection h with h; injection h with h1 h2; subst h1 h2
       rw [ã, ÃG];omega
      ·cases h
end
section
open Go.Proofs.YtpginkdkblmnbaaGreatDoor.Cl
variable {γ δ : Nat} {B : List Nat} {q : List UInt8} {σ σ' σ1 : St}
structure Ña (N : Nat) (s : List UInt8) (nd : Nd) (g : Nat) (bk : List (Nat × Nat)) : Prop where
 go : ∃ p, run N 0 0 [] { pos := 0, t := s, g := 0, bk := [] } = .ok (nd, { pos := p, t := [], g := g, bk := bk })
 len : s.length ≤ 256
 fold : ÀL s = false
 refs : bk.find? (fun b => decide (g < b.1)) = none
theorem Ña.ended {N : Nat} {s : List UInt8} {nd : Nd} {g : Nat} {bk : List (Nat × Nat)} (h : Ña N s nd g bk) : ñ N s = .ok (nd, g, false) := by
 obtain ⟨p, hp⟩ := h.go
 have e : begins s = { pos := 0, t := s, g := 0, bk := [] } := by unfold begins; rw [h.fold]; rfl
 unfold ñ
 rw [if_neg (by have := h.len; omega), e, hp]
 simp [Go.Proofs.YtpginkdkblmnbaaGreatDoor.ended, h.refs, h.fold]
end
section
open Go.Proofs.YtpginkdkblmnbaaGreatDoor.Cl
variable {σ σ1 : St} {f : Flt}
theorem ÃU (h : Ð σ = .error f) : f.1 ≠ 0 := by
 unfold Ð at h
 repeat' split at h
 all_goals first
  | (injection h with h; subst h; simp)
  | cases h
theorem Æh (h : Ł σ = .error f) : f.1 ≠ 0 := by
 unfold Ł at h;split at h
 ·exact ÃU h
 ·cases h
theorem Éx (h : Ú σ = .error f) : f.1 ≠ 0 := by
 unfold Ú at h;split at h
 ·injection h with h; subst h; simp
 split at h
 ·cases h
 ·split at h
  ·rename_i e he
   injection h with h; subst h
   exact Æh he
  ·split at h
   ·split at h
    ·split at h
     ·rename_i e he
      injection h with h; subst h
      exact Æh he
     ·split at h
      ·injection h with h; subst h; simp
      ·cases h
    ·injection h with h; subst h; simp
   ·cases h
theorem ÃV {op : Nat} {neg : Bool} : ∀ {k : Nat} {acc : List Rg} {σ : St}, σ.t.length < k → Ģ op neg k acc σ = .error f → f.1 ≠ 0
 | 0, _, _, hk, _ => by omega
 | k + 1, acc, σ, hk, h => by
  unfold Ģ at h;split at h
  ·split at h
   ·injection h with h; subst h; simp
   ·cases h
  ·split at h
   ·injection h with h; subst h; simp
   ·rename_i c2
    have hn : σ.t ≠ [] := by intro e; rw [e] at c2; simp at c2
    split at h
    ·rename_i e he
     injection h with h; subst h
     exact Éx he
    ·rename_i l1 σa hm
     have h1 := Áj hm hn
     exact ÃV (by omega) h
theorem ÆP (hl : σ.t.length ≤ 256) (h : Ğ σ = .error f) : f.1 ≠ 0 := by
 unfold Ğ at h;split at h
 ·rename_i e he
  injection h with h; subst h
  refine ÃV ?_ he;unfold é
  split <;> simp only [ã] <;> omega
 ·cases h
theorem Éy (h : ó σ = .error f) : f.1 ≠ 0 := by
 unfold ó at h;split at h
 ·cases h
 split at h
 ·cases h
 split at h
 ·cases h
 split at h
 ·cases h
 ·split at h
  ·rename_i e he
   injection h with h; subst h
   exact ÃU he
  ·cases h
theorem ÊR (hl : σ.t.length ≤ 256) (h : Ĥ σ = .error f) : f.1 ≠ 0 := by
 unfold Ĥ at h;split at h
 ·exact ÆP hl h
 split at h
 ·exact Éy h
 repeat' split at h
 all_goals first
  | (injection h with h; subst h; simp)
  | cases h
theorem Æi {gr : Bool} {a : Nd} (h : Ù gr a σ = .error f) : f.1 ≠ 0 := by
 unfold Ù at h
 repeat' split at h
 all_goals first
  | (injection h with h; subst h; simp)
  | cases h
theorem Èm (h : Ô σ = .error f) : f.1 ≠ 0 := by
 unfold Ô at h
 repeat' split at h
 all_goals first
  | (injection h with h; subst h; simp)
  | cases h
theorem Îu : ∀ (n : Nat), (∀ d acc σ, σ.t.length ≤ 256 → 4 * σ.t.length + 2 ≤ n → run n 0 d acc σ = .error f → f.1 ≠ 0) ∧
 (∀ d acc σ, σ.t.length ≤ 256 → 4 * σ.t.length + 1 ≤ n → run n 1 d acc σ = .error f → f.1 ≠ 0) ∧
 (∀ d acc σ, σ.t ≠ [] → σ.t.length ≤ 256 → 4 * σ.t.length ≤ n → run n 2 d acc σ = .error f → f.1 ≠ 0) ∧
 (∀ d acc σ, at_ σ.t 0 = 40 → σ.t.length ≤ 256 → 4 * σ.t.length ≤ n + 1 → run n 3 d acc σ = .error f → f.1 ≠ 0) := by
 intro n
 induction n with
 | zero =>
  refine ⟨fun _ _ _ _ h => by omega, fun _ _ _ _ h => by omega, fun _ _ σ hn _ h => ?_, fun _ _ σ hc _ h => ?_⟩
  ·have := Œ hn
   omega
  ·have := Œ (Àf (t := σ.t) (by omega))
   omega
 | succ n ih =>
  obtain ⟨ih0, ih1, ih2, ih3⟩ := ih;obtain ⟨l0, l1, l2, l3⟩ := ÂQ n;refine ⟨?_, ?_, ?_, ?_⟩
  ·intro d acc σ h256 hN h
   rw [Ái] at h;split at h
   ·rename_i e he
    injection h with h; subst h
    exact ih1 _ _ _ h256 (by omega) he
   ·rename_i ra σa ha
    have ga := (l1 _ _ _ _ _ ha).1;split at h
    ·rename_i c
     have := Œ (Àf (t := σa.t) (by omega))
     exact ih0 _ _ _ (by rw [ã]; omega) (by rw [ã]; omega) h
    ·cases h
  ·intro d acc σ h256 hN h
   rw [Âb] at h;split at h
   ·cases h
   ·rename_i c
    have hn : σ.t ≠ [] := by
     intro e;rw [e] at c;exact c rfl
    split at h
    ·rename_i e he
     injection h with h; subst h
     exact ih2 _ _ _ hn h256 (by omega) he
    ·rename_i a σa ha
     have ga := (l2 _ _ _ _ _ hn ha).1
     exact ih1 _ _ _ (by omega) (by omega) h
  ·intro d acc σ hn h256 hN h
   rw [Áb] at h;split at h
   ·rename_i e he
    injection h with h; subst h
    split at he
    ·rename_i c
     exact ih3 _ _ _ c h256 (by omega) he
    ·exact ÊR h256 he
   ·exact Æi h
  ·intro d acc σ hc h256 hN h
   rw [Ác] at h;split at h
   ·injection h with h; subst h; simp
   ·split at h
    ·rename_i e he
     injection h with h; subst h
     exact Èm he
    ·rename_i sh σa ho
     have ga := (Ât ho hc).1;split at h
     ·rename_i e he
      injection h with h; subst h
      exact ih0 _ _ _ (by omega) (by omega) he
     ·split at h
      ·cases h
      ·injection h with h; subst h; simp
theorem ÌS (s : List UInt8) : (begins s).t.length ≤ s.length := by
 unfold begins
 split <;> simp
theorem Ãy {N : Nat} {s : List UInt8} (hN : 1026 ≤ N) (h : ñ N s = .error f) : f.1 ≠ 0 := by
 unfold ñ at h;split at h
 ·injection h with h; subst h; simp
 ·have hb := ÌS s
  split at h
  ·rename_i e he
   injection h with h; subst h
   exact (Îu N).1 _ _ _ (by omega) (by omega) he
  ·unfold ended at h
   repeat' split at h
   all_goals first
    | (injection h with h; subst h; simp)
    | cases h
end
section
open Go.Proofs.YtpginkdkblmnbaaGreatDoor.Cl
variable {σ σ1 : St}
theorem Èn {sh : Int × Int × Int} (h : Ô σ = .ok (sh, σ1)) (hg : σ.g ≤ 9) : σ1.g ≤ 9 := by
 unfold Ô at h
 repeat' split at h
 all_goals first
  | (injection h with h; injection h with h1 h2; subst h1 h2
     simp only [ÃG, opened]
     omega)
  | cases h
theorem Îv : ∀ (n : Nat), (∀ d acc σ r σ1, run n 0 d acc σ = .ok (r, σ1) → σ.g ≤ 9 → σ1.g ≤ 9) ∧
 (∀ d acc σ r σ1, run n 1 d acc σ = .ok (r, σ1) → σ.g ≤ 9 → σ1.g ≤ 9) ∧
 (∀ d acc σ r σ1, σ.t ≠ [] → run n 2 d acc σ = .ok (r, σ1) → σ.g ≤ 9 → σ1.g ≤ 9) ∧
 (∀ d acc σ r σ1, run n 3 d acc σ = .ok (r, σ1) → σ.g ≤ 9 → σ1.g ≤ 9) := by
 intro n
 induction n with
 | zero => refine ⟨?_, ?_, ?_, ?_⟩ <;> intros <;> simp [run] at *
 | succ n ih =>
  obtain ⟨ih0, ih1, ih2, ih3⟩ := ih;refine ⟨?_, ?_, ?_, ?_⟩
  ·intro d acc σ r σ1 h hg
   rw [Ái] at h;split at h
   ·cases h
   ·rename_i ra σa ha
    have ga := ih1 _ _ _ _ _ ha hg;split at h
    ·exact ih0 _ _ _ _ _ h (by rw [ÃG]; exact ga)
    ·injection h with h; injection h with h1 h2; subst h1 h2
     exact ga
  ·intro d acc σ r σ1 h hg
   rw [Âb] at h;split at h
   ·injection h with h; injection h with h1 h2; subst h1 h2
    exact hg
   ·rename_i c
    have hn : σ.t ≠ [] := by
     intro e;rw [e] at c;exact c rfl
    split at h
    ·cases h
    ·rename_i a σa ha
     exact ih1 _ _ _ _ _ h (ih2 _ _ _ _ _ hn ha hg)
  ·intro d acc σ r σ1 hn h hg
   rw [Áb] at h;split at h
   ·cases h
   ·rename_i a σa ha
    have gq := (Ãe h).2;rw [gq];split at ha
    ·exact ih3 _ _ _ _ _ ha hg
    ·have := (ÆW ha hn).2
     omega
  ·intro d acc σ r σ1 h hg
   rw [Ác] at h;split at h
   ·cases h
   ·split at h
    ·cases h
    ·rename_i sh σa ho
     have ga := Èn ho hg;split at h
     ·cases h
     ·rename_i kid σb hk
      have gb := ih0 _ _ _ _ _ hk ga;split at h
      ·injection h with h; injection h with h1 h2; subst h1 h2
       rw [ÃG];exact gb
      ·cases h
theorem ÊS {N : Nat} {s : List UInt8} {nd : Nd} {g : Nat} {fo : Bool} (h : ñ N s = .ok (nd, g, fo)) : g ≤ 9 := by
 unfold ñ at h;split at h
 ·cases h
 ·split at h
  ·cases h
  ·rename_i r σ hr
   have hg := (Îv N).1 _ _ _ _ _ hr (by unfold begins; split <;> simp)
   unfold ended at h;split at h
   ·cases h
   ·split at h
    ·cases h
    ·injection h with h; injection h with h1 h2; injection h2 with h2 h3; subst h2
     exact hg
end
section
open Go.Proofs.YtpginkdkblmnbaaGreatDoor.Cl
end
section
open Go.Proofs.YtpginkdkblmnbaaGreatDoor.Cl
def Ü (k lo hi m : Int) (n : Nat) : Prop :=
 (k = 0 ∧ n = 0) ∨ (k = 1 ∧ n = 0) ∨ (k = 2 ∧ 2 ≤ n) ∨ (k = 3 ∧ 2 ≤ n) ∨
 (k = 4 ∧ n = 1 ∧ 0 ≤ lo ∧ lo ≤ 64 ∧ -1 ≤ hi ∧ hi ≤ 64 ∧ (0 ≤ hi → lo ≤ hi) ∧ 0 ≤ m ∧ m ≤ 2) ∨
 (k = 5 ∧ n = 1) ∨ (k = 6 ∧ n = 0) ∨ (k = 7 ∧ n = 1 ∧ 0 ≤ m ∧ m ≤ 3) ∨ (k = 8 ∧ n = 1) ∨ (k = 9 ∧ n = 0)
inductive Wf : Nd → Prop
 | mk {k lo hi m r : Int} {set : List Rg} {kids : List Nd} (hs : Ü k lo hi m kids.length) (hk : ∀ x ∈ kids, Wf x) : Wf (.mk k lo hi m r set kids)
theorem Wf.leaf {k lo hi m r : Int} {set : List Rg} (h : Ü k lo hi m 0) : Wf (.mk k lo hi m r set []) := ⟨h, fun _ h => by cases h⟩
theorem Wf.one {k lo hi m r : Int} {set : List Rg} {x : Nd} (h : Ü k lo hi m 1) (hx : Wf x) : Wf (.mk k lo hi m r set [x]) :=
 ⟨h, fun y hy => by rw [Ĉ] at hy; subst hy; exact hx⟩
theorem Wf.empty : Wf Êl := .leaf (.inl ⟨rfl, rfl⟩)
theorem Wf.set (l : List Rg) : Wf (Âa l) := .leaf (.inr (.inl ⟨rfl, rfl⟩))
theorem Wf.edge (r : Int) : Wf (Áw r) := .leaf (by unfold Ü; omega)
theorem Wf.back (g : Nat) : Wf (ËJ g) := .leaf (by unfold Ü; omega)
theorem Wf.joinA {l : List Nd} (hne : l ≠ []) (h : ∀ x ∈ l, Wf x) : Wf (joinA l) := by
 match l, hne with
 | [x], _ => exact h x (by simp)
 | x :: y :: l, _ => exact ⟨by unfold Ü; simp, h⟩
theorem Wf.joinR {l : List Nd} (h : ∀ x ∈ l, Wf x) : Wf (joinR l) := by
 match l with
 | [] => exact .empty
 | [x] => exact h x (by simp)
 | x :: y :: l => exact ⟨by unfold Ü; simp, h⟩
theorem Ìo {σ σ1 : St} {r : Nd} (h : ó σ = .ok (r, σ1)) : Wf r := by
 unfold ó at h;split at h
 ·cases h; exact .edge _
 split at h
 ·cases h; exact .edge _
 split at h
 ·cases h; exact .back _
 split at h
 ·cases h; exact .set _
 split at h
 ·cases h
 ·cases h; exact .set _
theorem ÍK {σ σ1 : St} {r : Nd} (h : Ĥ σ = .ok (r, σ1)) : Wf r := by
 unfold Ĥ at h;split at h
 ·unfold Ğ at h
  split at h
  ·cases h
  ·cases h; exact .set _
 split at h
 ·exact Ìo h
 split at h
 ·cases h
 split at h
 ·cases h
 split at h
 ·cases h; exact .set _
 split at h
 ·cases h; exact .edge _
 split at h
 ·cases h; exact .edge _
 ·cases h; exact .set _
theorem ÈS {t : List UInt8} (h : Ņ t = true) : Ĝ t ≤ 64 := by
 unfold Ņ at h;simp at h;exact h.2
theorem ÍL {σ σ1 : St} {lo hi : Int} (h : times σ = some ((lo, hi), σ1)) : 0 ≤ lo ∧ lo ≤ 64 ∧ -1 ≤ hi ∧ hi ≤ 64 ∧ (0 ≤ hi → lo ≤ hi) := by
 unfold times at h;split at h
 ·cases h; omega
 split at h
 ·cases h; omega
 split at h
 ·cases h; omega
 unfold Àc at h;split at h
 ·rename_i h1
  have h1 := ÈS h1;split at h
  ·cases h; omega
  split at h
  ·split at h
   ·rename_i h2
    simp only [Bool.and_eq_true, decide_eq_true_eq] at h2;have h3 := ÈS h2.1.1;have h4 := h2.1.2;cases h; omega
   ·cases h
  split at h
  ·cases h; omega
  ·cases h
 ·cases h
theorem Ïp (t : List UInt8) : è t ≤ 2 := by unfold è; split <;> (try split) <;> omega
theorem ÇS {gr : Bool} {a r : Nd} {σ σ1 : St} (ha : Wf a) (h : Ù gr a σ = .ok (r, σ1)) : Wf r := by
 unfold Ù at h;split at h
 ·split at h
  ·cases h
  split at h
  ·cases h
  ·rename_i lo hi σ2 ht
   have := ÍL ht;have := Ïp σ2.t;cases h
   exact .one (by unfold Ü; omega) ha
 ·cases h; exact ha
theorem ÆJ {σ σ1 : St} {a b c : Int} (h : Ô σ = .ok ((a, b, c), σ1)) : a = 0 ∨ Ü a 0 0 b 1 := by
 unfold Ô at h;unfold Ü
 repeat' split at h
 all_goals first
  | (cases h; omega)
  | cases h
theorem Ïq {sh : Int × Int × Int} {kid : Nd} (hs : sh.1 = 0 ∨ Ü sh.1 0 0 sh.2.1 1) (hk : Wf kid) : Wf (wrap sh kid) := by
 unfold wrap;split
 ·exact hk
 ·exact .one (by rcases hs with h | h; exact absurd h (by assumption); exact h) hk
theorem Ðv : ∀ (n : Nat), ∀ k d acc σ r σ1, (∀ x ∈ acc, Wf x) → run n k d acc σ = .ok (r, σ1) → Wf r := by
 intro n
 induction n with
 | zero => intro k d acc σ r σ1 _ h; simp [run] at h
 | succ n ih =>
  intro k d acc σ r σ1 ha h
  match k with
  | 0 =>
   rw [Ái] at h;split at h
   ·cases h
   ·rename_i ra σa hra
    have hw := ih _ _ _ _ _ _ (by simp) hra
    have ha' : ∀ x ∈ acc ++ [ra], Wf x := by
     intro x hx
     rcases List.mem_append.1 hx with hx | hx
     ·exact ha x hx
     ·rw [Ĉ] at hx; subst hx; exact hw
    split at h
    ·exact ih _ _ _ _ _ _ ha' h
    ·cases h; exact Wf.joinA (by simp) ha'
  | 1 =>
   rw [Âb] at h;split at h
   ·cases h; exact Wf.joinR ha
   ·split at h
    ·cases h
    ·rename_i ra σa hra
     have hw := ih _ _ _ _ _ _ (by simp) hra
     exact ih _ _ _ _ _ _ (by
      intro x hx
      rcases List.mem_append.1 hx with hx | hx
      ·exact ha x hx
      ·rw [Ĉ] at hx; subst hx; exact hw) h
  | 2 =>
   rw [Áb] at h;split at h
   ·cases h
   ·rename_i ra σa hra
    refine ÇS ?_ h;split at hra
    ·exact ih _ _ _ _ _ _ (by simp) hra
    ·exact ÍK hra
  | k + 3 =>
   have h' : run (n + 1) 3 d acc σ = .ok (r, σ1) := h;rw [Ác] at h';split at h'
   ·cases h'
   ·split at h'
    ·cases h'
    ·rename_i sh σa ho
     split at h'
     ·cases h'
     ·rename_i kid σb hk
      split at h'
      ·cases h'
       obtain ⟨a, b, c⟩ := sh
       exact Ïq (ÆJ ho) (ih _ _ _ _ _ _ (by simp) hk)
      ·cases h'
theorem ÅD {N : Nat} {s : List UInt8} {nd : Nd} {g : Nat} {fo : Bool} (h : ñ N s = .ok (nd, g, fo)) : Wf nd := by
 unfold ñ at h;split at h
 ·cases h
 ·split at h
  ·cases h
  ·rename_i r σ hr
   unfold ended at h;split at h
   ·cases h
   ·split at h
    ·cases h
    ·cases h
     exact Ðv _ _ _ _ _ _ _ (by simp) hr
end
section
open Go.Proofs.YtpginkdkblmnbaaGreatDoor.Cl
def far : Int := 1048576
def Ï (x : Int) : Int := if far < x then far else x
def ÀM (x : Int) : Int := if far < x then -1 else x
def hd (l : List Int) : Int := l.headD 0
def Ż : List Int → Int
 | [] => far
 | x :: l => min x (Ż l)
def ő : List Int → Int
 | [] => 0
 | x :: l => max x (ő l)
def ĩ (l : List Int) : Bool := l.any fun x => decide (x < 0)
def Ák (k lo : Int) (l : List Int) : Int :=
 Ï (if k = 1 then 1 else if k = 2 then l.sum else if k = 3 then Ż l else if k = 4 then lo * hd l else if k = 5 ∨ k = 8 then hd l else 0)
def Ân (k hi : Int) (l : List Int) : Int :=
 if k = 1 then 1
 else if k = 2 then (if ĩ l then -1 else ÀM l.sum)
 else if k = 3 then (if ĩ l then -1 else ÀM (ő l))
 else if k = 4 then (if hd l = 0 ∨ hi = 0 then 0 else if hd l < 0 ∨ hi < 0 then -1 else ÀM (hi * hd l))
 else if k = 5 ∨ k = 8 then hd l
 else if k = 6 then -1
 else 0
def Ř (k lo hi m : Int) (l : List Int) : Int :=
 Ï (if k = 1 ∨ k = 6 ∨ k = 9 then 1
  else if k = 2 then l.sum
  else if k = 3 then l.sum + 2 * ((l.length : Int) - 1)
  else if k = 4 then lo * hd l + (if hi < 0 then hd l + 4 else (hi - lo) * (hd l + 1)) + (if m = 2 then 2 else 0)
  else if k = 5 ∨ k = 7 ∨ k = 8 then hd l + 2
  else 0)
mutual
def ĵ : Nd → Int
 | .mk k lo _ _ _ _ kids => Ák k lo (ÇT kids)
def ÇT : List Nd → List Int
 | [] => []
 | x :: l => ĵ x :: ÇT l
end
mutual
def å : Nd → Int
 | .mk k _ hi _ _ _ kids => Ân k hi (ÈT kids)
def ÈT : List Nd → List Int
 | [] => []
 | x :: l => å x :: ÈT l
end
mutual
def Å : Nd → Int
 | .mk k lo hi m _ _ kids => Ř k lo hi m (ËL kids)
def ËL : List Nd → List Int
 | [] => []
 | x :: l => Å x :: ËL l
end
theorem Êq (l : List Nd) : ÇT l = l.map ĵ := by induction l with | nil => rfl | cons x l ih => simp [ÇT, ih]
theorem ÆY (l : List Nd) : ÈT l = l.map å := by induction l with | nil => rfl | cons x l ih => simp [ÈT, ih]
theorem Ìp (l : List Nd) : ËL l = l.map Å := by induction l with | nil => rfl | cons x l ih => simp [ËL, ih]
theorem ÈU (k lo hi m r : Int) (s : List Rg) (l : List Nd) : ĵ (.mk k lo hi m r s l) = Ák k lo (l.map ĵ) := by rw [ĵ, Êq]
theorem ËM (k lo hi m r : Int) (s : List Rg) (l : List Nd) : å (.mk k lo hi m r s l) = Ân k hi (l.map å) := by rw [å, ÆY]
theorem Äm (k lo hi m r : Int) (s : List Rg) (l : List Nd) : Å (.mk k lo hi m r s l) = Ř k lo hi m (l.map Å) := by rw [Å, Ìp]
theorem Wf.ind {P : Nd → Prop} (h : ∀ (k lo hi m r : Int) (s : List Rg) (l : List Nd), Ü k lo hi m l.length → (∀ x ∈ l, Wf x) → (∀ x ∈ l, P x) → P (.mk k lo hi m r s l)) {nd : Nd} (hw : Wf nd) : P nd := by
 induction hw with
 | mk hs hk ih => exact h _ _ _ _ _ _ _ hs hk ih
theorem Ū : ∀ {l : List Int}, (∀ x ∈ l, 0 ≤ x) → 0 ≤ l.sum
 | [], _ => by simp
 | x :: l, h => by
  have h1 := h x (by simp)
  have h2 := Ū (l := l) (fun y hy => h y (by simp [hy]))
  simp only [List.sum_cons];omega
theorem Âc : ∀ {l : List Int}, (∀ x ∈ l, 0 ≤ x) → 0 ≤ Ż l ∧ Ż l ≤ far ∧ ∀ x ∈ l, Ż l ≤ x
 | [], _ => by simp [Ż, far]
 | x :: l, h => by
  have h1 := h x (by simp)
  obtain ⟨a, b, c⟩ := Âc (l := l) (fun y hy => h y (by simp [hy]))
  simp only [Ż]
  refine ⟨by omega, by omega, fun y hy => ?_⟩
  rcases List.mem_cons.1 hy with rfl | hy
  ·omega
  ·have := c y hy; omega
theorem Ž : ∀ {l : List Int}, 0 ≤ ő l ∧ ∀ x ∈ l, x ≤ ő l
 | [] => by simp [ő]
 | x :: l => by
  obtain ⟨a, c⟩ := Ž (l := l);simp only [ő]
  refine ⟨by omega, fun y hy => ?_⟩
  rcases List.mem_cons.1 hy with rfl | hy
  ·omega
  ·have := c y hy; omega
theorem ÅE : ∀ {l : List Int} {b : Int}, 0 ≤ b → (∀ x ∈ l, x ≤ b) → ő l ≤ b
 | [], b, h0, _ => h0
 | x :: l, b, h0, h => by
  have h1 := h x (by simp)
  have h2 := ÅE (l := l) h0 (fun y hy => h y (by simp [hy]))
  simp only [ő];omega
theorem ÄG {l : List Int} (h : ĩ l = false) : ∀ x ∈ l, 0 ≤ x := by
 intro x hx;unfold ĩ at h;rw [List.any_eq_false] at h;have := h x hx;simpa using this
theorem Ào {α : Type} {l : List α} (h : l.length = 1) : ∃ x, l = [x] := by
 match l, h with
 | [x], _ => exact ⟨x, rfl⟩
theorem į {x : Int} (h : 0 ≤ x) : 0 ≤ Ï x ∧ Ï x ≤ far ∧ Ï x ≤ x := by unfold Ï far; split <;> omega
theorem Âd {x : Int} (h : 0 ≤ x) : -1 ≤ ÀM x ∧ ÀM x ≤ far := by unfold ÀM far; split <;> omega
theorem ř {nd : Nd} (h : Wf nd) : 0 ≤ ĵ nd ∧ ĵ nd ≤ far := by
 refine Wf.ind (P := fun nd => 0 ≤ ĵ nd ∧ ĵ nd ≤ far) (fun k lo hi m r s l hs _ ih => ?_) h
 rw [ÈU]
 have hl : ∀ x ∈ l.map ĵ, 0 ≤ x := by
  intro x hx;obtain ⟨y, hy, rfl⟩ := List.mem_map.1 hx;exact (ih y hy).1
 have hh : 0 ≤ hd (l.map ĵ) := by
  unfold hd
  cases l with
  | nil => simp
  | cons y l => exact hl _ (by simp)
 have key : ∀ x : Int, 0 ≤ x → 0 ≤ Ï x ∧ Ï x ≤ far := fun x hx => ⟨(į hx).1, (į hx).2.1⟩
 unfold Ák;split
 ·exact key _ (by omega)
 split
 ·exact key _ (Ū hl)
 split
 ·exact key _ (Âc hl).1
 split
 ·rename_i h4
  refine key _ (Int.mul_nonneg ?_ hh);unfold Ü at hs; omega
 split
 ·exact key _ hh
 ·exact key _ (by omega)
theorem ĳ {nd : Nd} (h : Wf nd) : -1 ≤ å nd ∧ å nd ≤ far := by
 refine Wf.ind (P := fun nd => -1 ≤ å nd ∧ å nd ≤ far) (fun k lo hi m r s l hs _ ih => ?_) h
 rw [ËM]
 have hh : -1 ≤ hd (l.map å) ∧ hd (l.map å) ≤ far := by
  unfold hd
  cases l with
  | nil => simp [far]
  | cons y l => exact ih y (by simp)
 unfold Ân;split
 ·simp [far]
 split
 ·split
  ·simp [far]
  ·rename_i he
   exact Âd (Ū (ÄG (by simpa using he)))
 split
 ·split
  ·simp [far]
  ·exact Âd Ž.1
 split
 ·rename_i h4
  split
  ·simp [far]
  split
  ·simp [far]
  ·rename_i c1 c2
   exact Âd (Int.mul_nonneg (by omega) (by omega))
 split
 ·exact hh
 split
 ·simp [far]
 ·simp [far]
theorem Ö {nd : Nd} (h : Wf nd) : 0 ≤ Å nd ∧ Å nd ≤ far := by
 refine Wf.ind (P := fun nd => 0 ≤ Å nd ∧ Å nd ≤ far) (fun k lo hi m r s l hs _ ih => ?_) h
 rw [Äm]
 have hl : ∀ x ∈ l.map Å, 0 ≤ x := by
  intro x hx;obtain ⟨y, hy, rfl⟩ := List.mem_map.1 hx;exact (ih y hy).1
 have hh : 0 ≤ hd (l.map Å) := by
  unfold hd
  cases l with
  | nil => simp
  | cons y l => exact hl _ (by simp)
 have key : ∀ x : Int, 0 ≤ x → 0 ≤ Ï x ∧ Ï x ≤ far := fun x hx => ⟨(į hx).1, (į hx).2.1⟩
 unfold Ř;split
 ·exact key _ (by omega)
 split
 ·exact key _ (Ū hl)
 split
 ·refine key _ ?_
  have := Ū hl;have : (l.map Å).length = l.length := List.length_map _;unfold Ü at hs;omega
 split
 ·refine key _ ?_
  have h0 : 0 ≤ lo * hd (l.map Å) := Int.mul_nonneg (by unfold Ü at hs; omega) hh
  have h1 : 0 ≤ hi → 0 ≤ (hi - lo) * (hd (l.map Å) + 1) := fun _ => Int.mul_nonneg (by unfold Ü at hs; omega) (by omega)
  split <;> split <;> omega
 split
 ·exact key _ (by omega)
 ·exact key _ (by omega)
end
section
open Go.Proofs.YtpginkdkblmnbaaGreatDoor.Cl
inductive Lk : Nd → Nd → Prop
 | mk {k lo hi m r r' : Int} {set : List Rg} {kids kids' : List Nd} (hl : kids.length = kids'.length) (hk : ∀ (i : Nat) (x y : Nd), kids[i]? = some x → kids'[i]? = some y → Lk x y) : Lk (.mk k lo hi m r set kids) (.mk k lo hi m r' set kids')
def LkL (l l' : List Nd) : Prop := l.length = l'.length ∧ ∀ (i : Nat) (x y : Nd), l[i]? = some x → l'[i]? = some y → Lk x y
theorem LkL.nil : LkL [] [] := ⟨rfl, fun i x y h => by simp at h⟩
theorem LkL.snoc {l l' : List Nd} {x x' : Nd} (h : LkL l l') (hx : Lk x x') : LkL (l ++ [x]) (l' ++ [x']) := by
 refine ⟨by simp [h.1], fun i a b ha hb => ?_⟩
 rw [List.getElem?_append] at ha hb;rw [← h.1] at hb;split at ha
 ·rename_i c
  rw [if_pos c] at hb;exact h.2 i a b ha hb
 ·rename_i c
  rw [if_neg c] at hb
  rcases hi : i - l.length with _ | j
  ·rw [hi] at ha hb
   simp at ha hb;subst ha hb;exact hx
  ·rw [hi] at ha
   simp at ha
theorem Lk.leaf {k lo hi m r r' : Int} {set : List Rg} : Lk (.mk k lo hi m r set []) (.mk k lo hi m r' set []) := .mk rfl (fun i x y h => by simp at h)
theorem Lk.of_list {k lo hi m r r' : Int} {set : List Rg} {l l' : List Nd} (h : LkL l l') : Lk (.mk k lo hi m r set l) (.mk k lo hi m r' set l') := .mk h.1 h.2
theorem Lk.one {k lo hi m r r' : Int} {set : List Rg} {x x' : Nd} (h : Lk x x') : Lk (.mk k lo hi m r set [x]) (.mk k lo hi m r' set [x']) := .of_list (LkL.nil.snoc h)
theorem Lk.kind {x x' : Nd} (h : Lk x x') : x'.kind = x.kind := by cases h; rfl
theorem Lk.joinA {l l' : List Nd} (h : LkL l l') : Lk (joinA l) (joinA l') := by
 match l, l', h with
 | [], [], _ => exact .leaf
 | [x], [x'], h => exact h.2 0 x x' rfl rfl
 | x :: y :: l, x' :: y' :: l', h => exact .of_list h
 | [], x :: l, h => exact absurd h.1 (by simp)
 | x :: l, [], h => exact absurd h.1 (by simp)
 | [x], x' :: y' :: l', h => exact absurd h.1 (by simp)
 | x :: y :: l, [x'], h => exact absurd h.1 (by simp)
theorem Lk.joinR {l l' : List Nd} (h : LkL l l') : Lk (joinR l) (joinR l') := by
 match l, l', h with
 | [], [], _ => exact .leaf
 | [x], [x'], h => exact h.2 0 x x' rfl rfl
 | x :: y :: l, x' :: y' :: l', h => exact .of_list h
 | [], x :: l, h => exact absurd h.1 (by simp)
 | x :: l, [], h => exact absurd h.1 (by simp)
 | [x], x' :: y' :: l', h => exact absurd h.1 (by simp)
 | x :: y :: l, [x'], h => exact absurd h.1 (by simp)
variable {γ δ : Nat} {B : List Nat} {q : List UInt8} {σ σ' σ1 : St}
end
section
open Go.Proofs.YtpginkdkblmnbaaGreatDoor.Cl
def Ál (k m : Int) (l : List Int) : Bool := !(decide (k = 7 ∧ 2 ≤ m) && decide (hd l < 0 ∨ 32 < hd l))
mutual
def Ë : Nd → Bool
 | .mk k _ _ m _ _ kids => Ál k m (ÈT kids) && ÃH kids
def ÃH : List Nd → Bool
 | [] => true
 | x :: l => Ë x && ÃH l
end
theorem ÇU (l : List Nd) : ÃH l = l.all Ë := by induction l with | nil => rfl | cons x l ih => simp [ÃH, ih]
theorem Êr (k lo hi m r : Int) (s : List Rg) (l : List Nd) : Ë (.mk k lo hi m r s l) = (Ál k m (l.map å) && l.all Ë) := by rw [Ë, ÆY, ÇU]
def ì (nd : Nd) : Nat := if Ë nd then (if 2000 < Å nd + 3 then 28 else 0) else 27
end
section
open Go.Proofs.YtpginkdkblmnbaaGreatDoor.Cl
def û (l : List Nd) : Int := Ï (l.map ĵ).sum
def ê (l : List Nd) : Int := if ĩ (l.map å) then -1 else ÀM (l.map å).sum
def Ķ (l : List Nd) : Int := Ï (l.map Å).sum
def ÁL (l : List Nd) : Int := Ż (l.map ĵ)
def Ŧ (l : List Nd) : Int := if ĩ (l.map å) then -1 else ő (l.map å)
def Ãq (a b : Int) : Int := if a = -1 ∨ b = -1 then -1 else ÀM (a + b)
def Âp (a b : Int) : Int := if a = -1 ∨ b = -1 then -1 else max a b
def ÀN (m x : Int) : Int := if m = 0 ∨ x = 0 then 0 else if m = -1 ∨ x = -1 then -1 else ÀM (m * x)
theorem Ål {x : Int} (h : x ≤ far) : Ï x = x := by unfold Ï; rw [if_neg (by omega)]
theorem Áx {x : Int} (h : -1 ≤ x) : ĩ [x] = decide (x = -1) := by
 unfold ĩ;simp only [List.any_cons, List.any_nil, Bool.or_false, decide_eq_decide];omega
theorem ÄH (a b : List Int) : ĩ (a ++ b) = (ĩ a || ĩ b) := by simp [ĩ]
theorem ÅF (f : Nd → Int) (l : List Nd) (x : Nd) : ((l ++ [x]).map f).sum = (l.map f).sum + f x := by simp
theorem ÁG {l : List Nd} (h : ∀ x ∈ l, Wf x) : 0 ≤ (l.map ĵ).sum := Ū (by
 intro y hy;obtain ⟨z, hz, rfl⟩ := List.mem_map.1 hy
 exact (ř (h z hz)).1)
theorem ÀU {l : List Nd} (h : ∀ x ∈ l, Wf x) : 0 ≤ (l.map Å).sum := Ū (by
 intro y hy;obtain ⟨z, hz, rfl⟩ := List.mem_map.1 hy
 exact (Ö (h z hz)).1)
theorem ÄI {l : List Nd} (h : ∀ x ∈ l, Wf x) : 0 ≤ û l ∧ û l ≤ far := ⟨(į (ÁG h)).1, (į (ÁG h)).2.1⟩
theorem Âu {l : List Nd} (h : ∀ x ∈ l, Wf x) : 0 ≤ Ķ l ∧ Ķ l ≤ far := ⟨(į (ÀU h)).1, (į (ÀU h)).2.1⟩
theorem Ês {l : List Nd} {x : Nd} (h : ∀ y ∈ l, Wf y) (hx : Wf x) : û (l ++ [x]) = Ï (û l + ĵ x) := by
 have h0 := ÁG h;have h1 := (ř hx).1;unfold û;rw [ÅF];unfold Ï far
 split <;> split <;> (try split) <;> omega
theorem Êt {l : List Nd} {x : Nd} (h : ∀ y ∈ l, Wf y) (hx : Wf x) : Ķ (l ++ [x]) = Ï (Ķ l + Å x) := by
 have h0 := ÀU h;have h1 := (Ö hx).1;unfold Ķ;rw [ÅF];unfold Ï far
 split <;> split <;> (try split) <;> omega
theorem ÃI {l : List Nd} (h : ĩ (l.map å) = false) : 0 ≤ (l.map å).sum := Ū (ÄG h)
theorem Âv {l : List Nd} : -1 ≤ ê l ∧ ê l ≤ far := by
 unfold ê;split
 ·simp [far]
 ·rename_i h
  exact Âd (ÃI (by simpa using h))
theorem Ãr {l : List Nd} {x : Nd} (hx : Wf x) : ê (l ++ [x]) = Ãq (ê l) (å x) := by
 have h1 := ĳ hx;unfold ê Ãq;rw [ÅF]
 have e : ĩ ((l ++ [x]).map å) = (ĩ (l.map å) || decide (å x = -1)) := by
  rw [Ĕ, ÄH]
  congr 1
  exact Áx h1.1
 rw [e]
 cases h : ĩ (l.map å) with
 | true => simp
 | false =>
  have h0 := ÃI h
  by_cases hm : å x = -1
  ·simp [hm]
  ·simp only [Bool.false_or, hm, decide_false, Ċ, if_false, or_false]
   unfold ÀM far
   split <;> split <;> (try split) <;> omega
theorem ÆZ {x : Nd} (hx : Wf x) : ÁL [x] = ĵ x := by
 have := (ř hx).2;simp [ÁL, Ż];omega
theorem Êu (a b : List Int) : Ż (a ++ b) = min (Ż a) (Ż b) := by
 induction a with
 | nil =>
  simp only [List.nil_append, Ż]
  have : Ż b ≤ far := by
   induction b with
   | nil => exact Int.le_refl _
   | cons x b ih => simp only [Ż]; omega
  omega
 | cons x a ih => simp only [List.cons_append, Ż, ih]; omega
theorem Êv {l : List Nd} {x : Nd} (hx : Wf x) : ÁL (l ++ [x]) = min (ÁL l) (ĵ x) := by
 have := ÆZ hx;unfold ÁL at this ⊢;rw [Ĕ, Êu, this]
theorem ÈV (a b : List Int) : ő (a ++ b) = max (ő a) (ő b) := by
 induction a with
 | nil =>
  simp only [List.nil_append, ő];have := (Ž (l := b)).1;omega
 | cons x a ih => simp only [List.cons_append, ő, ih]; omega
theorem Ìq {x : Nd} (hx : Wf x) : Ŧ [x] = å x := by
 have := ĳ hx;have e : ĩ ([x].map å) = decide (å x = -1) := Áx this.1;unfold Ŧ;rw [e]
 by_cases hm : å x = -1
 ·simp [hm]
 ·simp [hm, ő]
  omega
theorem Ãs {l : List Nd} {x : Nd} (hx : Wf x) : Ŧ (l ++ [x]) = Âp (Ŧ l) (å x) := by
 have h1 := ĳ hx;unfold Ŧ Âp
 have e : ĩ ((l ++ [x]).map å) = (ĩ (l.map å) || decide (å x = -1)) := by
  rw [Ĕ, ÄH]
  congr 1
  exact Áx h1.1
 rw [e, Ĕ, ÈV]
 cases h : ĩ (l.map å) with
 | true => simp
 | false =>
  have h0 := (Ž (l := l.map å)).1
  by_cases hm : å x = -1
  ·simp [hm]
  ·simp only [Bool.false_or, hm, decide_false, Ċ, if_false, or_false]
   rw [if_neg (by omega)]
   simp [ő];omega
theorem Ça {x : Nd} (hx : Wf x) : û [x] = ĵ x := by
 have := (ř hx).2;simp [û];exact Ål this
theorem Çb {x : Nd} (hx : Wf x) : Ķ [x] = Å x := by
 have := (Ö hx).2;simp [Ķ];exact Ål this
theorem Ád {x : Nd} (hx : Wf x) : ê [x] = å x := by
 have := ĳ hx;have e : ĩ ([x].map å) = decide (å x = -1) := Áx this.1;unfold ê;rw [e]
 by_cases hm : å x = -1
 ·simp [hm]
 ·simp [hm, ÀM]
  omega
theorem ÄJ {l : List Nd} (h : ∀ x ∈ l, Wf x) : 0 ≤ ÁL l ∧ ÁL l ≤ far := by
 have := Âc (l := l.map ĵ) (by
  intro y hy;obtain ⟨z, hz, rfl⟩ := List.mem_map.1 hy
  exact (ř (h z hz)).1)
 exact ⟨this.1, this.2.1⟩
theorem ÄK {l : List Nd} (h : ∀ x ∈ l, Wf x) : -1 ≤ Ŧ l ∧ Ŧ l ≤ far := by
 unfold Ŧ;split
 ·simp [far]
 ·have := (Ž (l := l.map å)).1
  have := ÅE (l := l.map å) (b := far) (by simp [far]) (by
   intro y hy;obtain ⟨z, hz, rfl⟩ := List.mem_map.1 hy
   exact (ĳ (h z hz)).2)
  omega
end
section
open Go.Proofs.YtpginkdkblmnbaaGreatDoor.Cl
def ÉO : Nat → Nat → List UInt8 → List Nat
 | 0, _, _ => []
 | f + 1, p, s => if s = [] then [] else p :: ÉO f (p + (nx s).2) (s.drop (nx s).2)
def ats (p : Nat) (s : List UInt8) : List Nat := ÉO s.length p s
theorem ÃZ (f p : Nat) : ÉO f p [] = [] := by cases f <;> simp [ÉO]
theorem Íj (f : Nat) : ∀ (g p : Nat) (s : List UInt8), s.length ≤ f → s.length ≤ g → ÉO f p s = ÉO g p s := by
 induction f with
 | zero =>
  intro g p s hf _
  obtain rfl : s = [] := ď (by omega)
  rw [ÃZ, ÃZ]
 | succ f ih =>
  intro g p s hf hg
  by_cases h : s = []
  ·subst h; rw [ÃZ, ÃZ]
  ·have hl := Œ h
   cases g with
   | zero => omega
   | succ g =>
    have hk := ÁJ s h
    have hd : (s.drop (nx s).2).length ≤ f := by rw [ċ]; omega
    have hd' : (s.drop (nx s).2).length ≤ g := by rw [ċ]; omega
    simp only [ÉO, if_neg h, ih g _ _ hd hd']
theorem Ìg (p : Nat) : ats p [] = [] := rfl
theorem ÂI (p : Nat) (s : List UInt8) (h : s ≠ []) : ats p s = p :: ats (p + (nx s).2) (s.drop (nx s).2) := by
 have hl := Œ h;have hk := ÁJ s h;unfold ats
 obtain ⟨f, hf⟩ : ∃ f, s.length = f + 1 := ⟨s.length - 1, by omega⟩
 rw [hf];simp only [ÉO, if_neg h]
 rw [Íj f _ _ _ (by rw [ċ]; omega) (ŋ _)]
theorem Äa (s : List UInt8) : ∀ p, (ats p s).length = (un s).length := by
 refine ÇN (P := fun s => ∀ p, (ats p s).length = (un s).length) ?_ ?_ s
 ·intro p; rfl
 ·intro s h ih p
  rw [ÂI p s h, ÀT s h, ć, ć, ih]
theorem ş {t : List UInt8} (h : t ≠ []) (hb : at_ t 0 < 128) : nx t = (at_ t 0, 1) := by
 have hl := Œ h
 have hc : Åe (at_ t 0) := ⟨by omega, by omega⟩
 have he : ŀ (at_ t 0) = [at_ t 0] := by simp [ŀ, hb]
 have := ÈH t (at_ t 0) hc (by rw [he]; simpa using hl) (by rw [he]; simp [tk])
 rw [this, he];rfl
theorem ÂJ {t : List UInt8} (h : t ≠ []) (hb : 128 ≤ at_ t 0) : 128 ≤ (nx t).1 := by
 rcases Âr t h with ⟨h1, h2, h3, h4⟩ | ⟨h1, _⟩
 ·by_cases hs : (nx t).1 < 128
  ·have he : ŀ (nx t).1 = [(nx t).1] := by simp [ŀ, hs]
   rw [h2, he] at h4;simp [tk] at h4;omega
  ·omega
 ·rw [h1]
  simp only;omega
def onN (t : List UInt8) (k : Nat) : Int := match (un t)[k]? with | some u => (u : Int) | none => -1
theorem Äx (k : Nat) : onN [] k = -1 := by simp [onN, Äh]
theorem ÀY {t : List UInt8} (h : t ≠ []) : onN t 0 = ((nx t).1 : Nat) := by unfold onN; rw [ÀT t h]; rfl
theorem Äb {t : List UInt8} (h : t ≠ []) (k : Nat) : onN t (k + 1) = onN (t.drop (nx t).2) k := by unfold onN; rw [ÀT t h]; rfl
theorem Ŋ {t : List UInt8} {c : Nat} (h0 : 0 < c) (hc : c < 128) : onN t 0 = (c : Int) ↔ at_ t 0 = c := by
 by_cases h : t = []
 ·subst h
  rw [Äx, Ão];omega
 ·rw [ÀY h]
  by_cases hb : at_ t 0 < 128
  ·rw [ş h hb]
   simp only;omega
  ·have := ÂJ h (by omega)
   omega
theorem Æs {t : List UInt8} : onN t 0 < 0 ↔ t = [] := by
 by_cases h : t = []
 ·subst h; rw [Äx]; simp
 ·rw [ÀY h]
  constructor
  ·intro hh; omega
  ·intro hh; exact absurd hh h
theorem Æt (t : List UInt8) (k : Nat) : -1 ≤ onN t k ∧ onN t k ≤ 1114367 := by
 unfold onN;split
 ·rename_i u hu
  have hm := Č hu;have := ÍH t u hm
  rcases this with ⟨h1, _⟩ | ⟨_, h2⟩ <;> omega
 ·omega
def Ìh (w : List UInt8) (t : List UInt8) : Prop := ∀ k, k < w.length → onN t k = ((at_ w k : Nat) : Int)
theorem ÇF : ∀ (w t : List UInt8), (∀ x ∈ w, 0 < x.toNat ∧ x.toNat < 128) → (Ìh w t ↔ pre w t = true)
 | [], t, _ => by simp [Ìh, pre]
 | c :: w, t, hw => by
  have h1 := hw c (by simp)
  have ih := ÇF w (t.drop 1) (fun x hx => hw x (by simp [hx]))
  have hz : at_ (c :: w) 0 = c.toNat := rfl
  have hs : ∀ k, at_ (c :: w) (k + 1) = at_ w k := fun k => by simp [at_]
  by_cases ht : t = []
  ·subst ht
   constructor
   ·intro h
    have := h 0 (by simp)
    rw [Äx, hz] at this;omega
   ·intro h; simp [pre] at h
  ·obtain ⟨b, r, rfl⟩ : ∃ b r, t = b :: r := by cases t with | nil => exact absurd rfl ht | cons b r => exact ⟨b, r, rfl⟩
   have hd : (b :: r).drop 1 = r := rfl;rw [hd] at ih;constructor
   ·intro h
    have h0 := h 0 (by simp)
    rw [hz] at h0;have hb := (Ŋ h1.1 h1.2).1 h0
    have hb' : b = c := by
     apply UInt8.toNat_inj.1;exact hb
    subst hb'
    have hn : nx (b :: r) = (b.toNat, 1) := ş ht (by show b.toNat < 128; omega)
    have : Ìh w r := fun k hk => by
     have := h (k + 1) (by simpa using hk)
     rw [Äb ht, hn, hs] at this;exact this
    have := ih.1 this;unfold pre at this ⊢;simp [List.isPrefixOf, this]
   ·intro h
    unfold pre at h;simp [List.isPrefixOf] at h;obtain ⟨rfl, h2⟩ := h
    have hn : nx (c :: r) = (c.toNat, 1) := ş ht (by show c.toNat < 128; omega)
    intro k hk
    cases k with
    | zero => rw [ÀY ht, hn]; rfl
    | succ k =>
     rw [Äb ht, hn, hs]
     exact ih.2 (by unfold pre; simpa using h2) k (by simpa using hk)
structure Pos (s : List UInt8) (σ : St) (I : Nat) : Prop where
 suf : s.drop σ.pos = σ.t
 le : σ.pos ≤ s.length
 units : (un s).drop I = un σ.t
 begins : (ats 0 s).drop I = ats σ.pos σ.t
section
variable {s : List UInt8} {σ : St} {I : Nat}
theorem Pos.next (h : Pos s σ I) (hn : σ.t ≠ []) : Pos s (σ.adv (nx σ.t).2) (I + 1) := by
 have hl := ÁJ σ.t hn
 have hlen : σ.t.length = s.length - σ.pos := by rw [← h.suf, ċ]
 refine ⟨?_, ?_, ?_, ?_⟩
 ·simp only [St.adv]; rw [← h.suf, List.drop_drop]
 ·simp only [St.adv]; have := h.le; omega
 ·simp only [St.adv]; rw [← List.drop_drop, h.units, ÀT _ hn]; rfl
 ·simp only [St.adv]; rw [← List.drop_drop, h.begins, ÂI _ _ hn]; rfl
theorem Pos.small (h : Pos s σ I) (hn : σ.t ≠ []) (hb : at_ σ.t 0 < 128) : Pos s (σ.adv 1) (I + 1) := by
 have := h.next hn
 rwa [ş hn hb] at this
theorem Pos.on (h : Pos s σ I) (k : Nat) : (match (un s)[I + k]? with | some u => (u : Int) | none => -1) = onN σ.t k := by
 unfold onN;rw [← h.units, List.getElem?_drop]
theorem Pos.end_ (h : Pos s σ I) : σ.t = [] ↔ (un s).length ≤ I := by
 have hu := congrArg List.length h.units;rw [ċ] at hu;constructor
 ·intro e; rw [e, Äh] at hu; simp at hu; omega
 ·intro hI
  by_cases hn : σ.t = []
  ·exact hn
  ·rw [ÀT _ hn] at hu; simp at hu; omega
theorem Pos.at_ (h : Pos s σ I) (hn : σ.t ≠ []) : (ats 0 s)[I]? = some σ.pos := by
 have := congrArg (fun l : List Nat => l[0]?) h.begins
 simp only [List.getElem?_drop, Nat.add_zero] at this;rw [this, ÂI _ _ hn];rfl
theorem Pos.pos_end (h : Pos s σ I) (hn : σ.t = []) : σ.pos = s.length := by
 have := congrArg List.length h.suf;rw [ċ, hn] at this;simp at this;have := h.le;omega
theorem Pos.take : ∀ {w : List UInt8} {σ : St} {I : Nat}, Pos s σ I → (∀ x ∈ w, 0 < x.toNat ∧ x.toNat < 128) → pre w σ.t = true → Pos s (σ.adv w.length) (I + w.length)
 | [], σ, I, h, _, _ => by
  have : σ.adv 0 = σ := by simp [St.adv]
  simpa [this] using h
 | c :: w, σ, I, h, hw, hp => by
  have h1 := hw c (by simp)
  cases ht : σ.t with
  | nil => rw [ht] at hp; simp [pre] at hp
  | cons b r =>
   rw [ht] at hp;simp [pre, List.isPrefixOf] at hp;obtain ⟨rfl, h2⟩ := hp
   have hn : σ.t ≠ [] := by rw [ht]; simp
   have hs := h.small hn (by rw [ht]; exact h1.2)
   have h3 := Pos.take hs (fun x hx => hw x (by simp [hx])) (w := w) (by simp only [St.adv, ht]; simpa [pre] using h2)
   have e : (σ.adv 1).adv w.length = σ.adv (c :: w).length := by simp [St.adv, Nat.add_comm]; omega
   rw [e] at h3
   have e2 : I + 1 + w.length = I + (c :: w).length := by simp; omega
   rwa [e2] at h3
end
end
end Go.Proofs.YtpginkdkblmnbaaGreatDoor
