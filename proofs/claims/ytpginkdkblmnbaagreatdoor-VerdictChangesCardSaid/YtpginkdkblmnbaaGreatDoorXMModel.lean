import Derived.Test.YtpginkdkblmnbaaGreatDoorXMMath
namespace Go.Proofs.YtpginkdkblmnbaaGreatDoor
section
open Go.Proofs.YtpginkdkblmnbaaGreatDoor.Cl
inductive Nd where
 | mk (kind lo hi mode ref : Int) (set : List Rg) (kids : List Nd)
def Nd.kind : Nd → Int
 | .mk k _ _ _ _ _ _ => k
structure St where
 pos : Nat
 t : List UInt8
 g : Nat
 bk : List (Nat × Nat)
abbrev Flt := Nat × Nat
abbrev R := Except Flt (Nd × St)
def St.adv (σ : St) (n : Nat) : St := { pos := σ.pos + n, t := σ.t.drop n, g := σ.g, bk := σ.bk }
def pre (w t : List UInt8) : Bool := w.isPrefixOf t
def Ì (t : List UInt8) : Nat := if at_ t 0 = 92 then at_ t 1 else 0
def dig (c : Nat) : Bool := decide (48 ≤ c ∧ c ≤ 57)
def ì (c : Nat) : Bool := decide (33 ≤ c ∧ c ≤ 126 ∧ ¬ (65 ≤ c ∧ c ≤ 90) ∧ ¬ (97 ≤ c ∧ c ≤ 122) ∧ ¬ (48 ≤ c ∧ c ≤ 57))
def Ľ (c : Nat) : Bool := decide ((48 ≤ c ∧ c ≤ 57) ∨ (97 ≤ c ∧ c ≤ 102))
def Àl (c : Nat) : Nat := if c ≤ 57 then c - 48 else c - 87
def isQ (c : Nat) : Bool := decide (c = 42 ∨ c = 43 ∨ c = 63 ∨ c = 123)
def ÈB : Nd := .mk 0 0 0 0 0 [] []
def ÁH (l : List Rg) : Nd := .mk 1 0 0 0 0 l []
def Ïx (kids : List Nd) : Nd := .mk 2 0 0 0 0 [] kids
def Ïy (kids : List Nd) : Nd := .mk 3 0 0 0 0 [] kids
def Àg (lo hi mode : Int) (kid : Nd) : Nd := .mk 4 lo hi mode 0 [] [kid]
def Êc (g : Nat) : Nd := .mk 6 0 0 0 g [] []
def Áf (r : Int) : Nd := .mk 9 0 0 0 r [] []
def joinA : List Nd → Nd
 | [x] => x
 | l => Ïy l
def joinR : List Nd → Nd
 | [] => ÈB
 | [x] => x
 | l => Ïx l
def Ũ (c : Nat) : Option (List Rg) :=
 if c = 100 ∨ c = 68 then some [(48, 57)]
 else if c = 119 ∨ c = 87 then some [(48, 57), (65, 90), (95, 95), (97, 122)]
 else if c = 115 ∨ c = 83 then some [(9, 13), (32, 32)]
 else none
def units (c : Nat) : Option (List Rg) := if 65 ≤ c ∧ c ≤ 90 then (Ũ c).map (î 0) else Ũ c
def Àe (l : List Rg) : List Rg := Î (l.mergeSort fun a b => decide (a.1 ≤ b.1))
def Ò (σ : St) : Except Flt (Nat × St) :=
 if Ì σ.t = 120 then
  if σ.t.length < 4 then .error (21, σ.pos)
  else if Ľ (at_ σ.t 2) && Ľ (at_ σ.t 3) then .ok (16 * Àl (at_ σ.t 2) + Àl (at_ σ.t 3), σ.adv 4)
  else .error (21, σ.pos)
 else if Ì σ.t = 110 then .ok (10, σ.adv 2)
 else if Ì σ.t = 116 then .ok (9, σ.adv 2)
 else if Ì σ.t = 114 then .ok (13, σ.adv 2)
 else if ì (Ì σ.t) then .ok (Ì σ.t, σ.adv 2)
 else .error (21, σ.pos)
def ľ (σ : St) : Except Flt (Nat × St) := if at_ σ.t 0 = 92 then Ò σ else .ok ((nx σ.t).1, σ.adv (nx σ.t).2)
def ğ (t : List UInt8) : Bool := !t.isEmpty && !decide (at_ t 0 = 91 ∨ at_ t 0 = 93 ∨ at_ t 0 = 45) && (units (Ì t)).isNone
def Ù (σ : St) : Except Flt (List Rg × St) :=
 if at_ σ.t 0 = 91 ∨ at_ σ.t 0 = 45 then .error (22, σ.pos)
 else match units (Ì σ.t) with
 | some l => .ok (l, σ.adv 2)
 | none => match ľ σ with
  | .error e => .error e
  | .ok (lo, σ1) =>
   if at_ σ1.t 0 = 45 then
    if ğ (σ1.adv 1).t then
     match ľ (σ1.adv 1) with
     | .error e => .error e
     | .ok (hi, σ3) => if hi < lo then .error (22, σ.pos) else .ok ([((lo : Int), (hi : Int))], σ3)
    else .error (22, σ.pos)
   else .ok ([((lo : Int), (lo : Int))], σ1)
def Ł (op : Nat) (neg : Bool) : Nat → List Rg → St → Except Flt (List Rg × St)
 | 0, _, σ => .error (0, σ.pos)
 | k + 1, acc, σ =>
  if at_ σ.t 0 = 93 then
   if acc.isEmpty then .error (22, op) else .ok (if neg then î 0 (Àe acc) else Àe acc, σ.adv 1)
  else if σ.t.isEmpty then .error (22, op)
  else match Ù σ with
  | .error e => .error e
  | .ok (l, σ1) => Ł op neg k (acc ++ l) σ1
def Äx (σ : St) : Bool := decide (at_ (σ.adv 1).t 0 = 94)
def ê (σ : St) : St := if Äx σ then (σ.adv 1).adv 1 else σ.adv 1
def þ (σ : St) : R :=
 match Ł σ.pos (Äx σ) 300 [] (ê σ) with
 | .error e => .error e
 | .ok (l, σ1) => .ok (ÁH l, σ1)
def refAt (σ : St) : St := { pos := σ.pos + 2, t := σ.t.drop 2, g := σ.g, bk := σ.bk ++ [(Ì σ.t - 48, σ.pos)] }
def ù (σ : St) : R :=
 if Ì σ.t = 98 then .ok (Áf 2, σ.adv 2)
 else if Ì σ.t = 66 then .ok (Áf 3, σ.adv 2)
 else if 49 ≤ Ì σ.t ∧ Ì σ.t ≤ 57 then .ok (Êc (Ì σ.t - 48), refAt σ)
 else match units (Ì σ.t) with
 | some l => .ok (ÁH l, σ.adv 2)
 | none => match Ò σ with
  | .error e => .error e
  | .ok (u, σ1) => .ok (ÁH [((u : Int), (u : Int))], σ1)
def Ġ (σ : St) : R :=
 if at_ σ.t 0 = 91 then þ σ
 else if at_ σ.t 0 = 92 then ù σ
 else if isQ (at_ σ.t 0) then .error (23, σ.pos)
 else if at_ σ.t 0 = 93 ∨ at_ σ.t 0 = 125 then .error (20, σ.pos)
 else if at_ σ.t 0 = 46 then .ok (ÁH [(0, 9), (11, 1114367)], σ.adv 1)
 else if at_ σ.t 0 = 94 then .ok (Áf 0, σ.adv 1)
 else if at_ σ.t 0 = 36 then .ok (Áf 1, σ.adv 1)
 else .ok (ÁH [(((nx σ.t).1 : Int), ((nx σ.t).1 : Int))], σ.adv (nx σ.t).2)
def ú (t : List UInt8) : Nat := if dig (at_ t 0) then (if dig (at_ t 1) then 10 * (at_ t 0 - 48) + (at_ t 1 - 48) else at_ t 0 - 48) else 0
def Ï (t : List UInt8) : Nat := if dig (at_ t 0) then (if dig (at_ t 1) then 2 else 1) else 0
def ĵ (t : List UInt8) : Bool := dig (at_ t 0) && decide (ú t ≤ 64)
def ż (σ : St) : Option ((Int × Int) × St) :=
 if ĵ (σ.adv 1).t then
  if pre [44, 125] ((σ.adv 1).adv (Ï (σ.adv 1).t)).t then some ((ú (σ.adv 1).t, -1), ((σ.adv 1).adv (Ï (σ.adv 1).t)).adv 2)
  else if at_ ((σ.adv 1).adv (Ï (σ.adv 1).t)).t 0 = 44 then
   if ĵ (((σ.adv 1).adv (Ï (σ.adv 1).t)).adv 1).t && decide (ú (σ.adv 1).t ≤ ú (((σ.adv 1).adv (Ï (σ.adv 1).t)).adv 1).t)
    && decide (at_ ((((σ.adv 1).adv (Ï (σ.adv 1).t)).adv 1).adv (Ï (((σ.adv 1).adv (Ï (σ.adv 1).t)).adv 1).t)).t 0 = 125) then
    some ((ú (σ.adv 1).t, ú (((σ.adv 1).adv (Ï (σ.adv 1).t)).adv 1).t), ((((σ.adv 1).adv (Ï (σ.adv 1).t)).adv 1).adv (Ï (((σ.adv 1).adv (Ï (σ.adv 1).t)).adv 1).t)).adv 1)
   else none
  else if at_ ((σ.adv 1).adv (Ï (σ.adv 1).t)).t 0 = 125 then some ((ú (σ.adv 1).t, ú (σ.adv 1).t), ((σ.adv 1).adv (Ï (σ.adv 1).t)).adv 1)
  else none
 else none
def Ŀ (σ : St) : Option ((Int × Int) × St) :=
 if at_ σ.t 0 = 42 then some ((0, -1), σ.adv 1)
 else if at_ σ.t 0 = 43 then some ((1, -1), σ.adv 1)
 else if at_ σ.t 0 = 63 then some ((0, 1), σ.adv 1)
 else ż σ
def â (t : List UInt8) : Nat := if at_ t 0 = 63 then 1 else if at_ t 0 = 43 then 2 else 0
def É (σ : St) : St := if â σ.t = 0 then σ else σ.adv 1
def Ý (grouped : Bool) (a : Nd) (σ : St) : R :=
 if isQ (at_ σ.t 0) then
  if !grouped && (decide (a.kind = 9) || decide (a.kind = 7)) then .error (23, σ.pos)
  else match Ŀ σ with
  | none => .error (23, σ.pos)
  | some ((lo, hi), σ1) => .ok (Àg lo hi (â σ1.t) a, É σ1)
 else .ok (a, σ)
def opened (σ : St) : St := { pos := σ.pos + 1, t := σ.t.drop 1, g := σ.g + 1, bk := σ.bk }
def Ø (σ : St) : Except Flt ((Int × Int × Int) × St) :=
 if pre [40, 63, 58] σ.t then .ok ((0, 0, 0), σ.adv 3)
 else if pre [40, 63, 61] σ.t then .ok ((7, 0, 0), σ.adv 3)
 else if pre [40, 63, 33] σ.t then .ok ((7, 1, 0), σ.adv 3)
 else if pre [40, 63, 60, 61] σ.t then .ok ((7, 2, 0), σ.adv 4)
 else if pre [40, 63, 60, 33] σ.t then .ok ((7, 3, 0), σ.adv 4)
 else if pre [40, 63, 62] σ.t then .ok ((8, 0, 0), σ.adv 3)
 else if pre [40, 63] σ.t then .error (20, σ.pos)
 else if σ.g = 9 then .error (24, σ.pos)
 else .ok ((5, 0, ((σ.g + 1 : Nat) : Int)), opened σ)
def wrap (sh : Int × Int × Int) (kid : Nd) : Nd := if sh.1 = 0 then kid else .mk sh.1 0 0 sh.2.1 sh.2.2 [] [kid]
def run : Nat → Nat → Nat → List Nd → St → R
 | 0, _, _, _, σ => .error (0, σ.pos)
 | n + 1, 0, d, acc, σ =>
  match run n 1 d [] σ with
  | .error e => .error e
  | .ok (r, σ1) => if at_ σ1.t 0 = 124 then run n 0 d (acc ++ [r]) (σ1.adv 1) else .ok (joinA (acc ++ [r]), σ1)
 | n + 1, 1, d, acc, σ =>
  if σ.t.isEmpty || decide (at_ σ.t 0 = 124 ∨ at_ σ.t 0 = 41) then .ok (joinR acc, σ)
  else match run n 2 d [] σ with
  | .error e => .error e
  | .ok (a, σ1) => run n 1 d (acc ++ [a]) σ1
 | n + 1, 2, d, _, σ =>
  match (if at_ σ.t 0 = 40 then run n 3 d [] σ else Ġ σ) with
  | .error e => .error e
  | .ok (a, σ1) => Ý (pre [40, 63, 58] σ.t) a σ1
 | n + 1, _ + 3, d, _, σ =>
  if d = 32 then .error (25, σ.pos)
  else match Ø σ with
  | .error e => .error e
  | .ok (sh, σ1) =>
   match run n 0 (d + 1) [] σ1 with
   | .error e => .error e
   | .ok (kid, σ2) => if at_ σ2.t 0 = 41 then .ok (wrap sh kid, σ2.adv 1) else .error (20, σ.pos)
def Àp (s : List UInt8) : Bool := pre [40, 63, 105, 41] s
def begins (s : List UInt8) : St := if Àp s then { pos := 4, t := s.drop 4, g := 0, bk := [] } else { pos := 0, t := s, g := 0, bk := [] }
def ended (fold : Bool) (r : Nd) (σ : St) : Except Flt (Nd × Nat × Bool) :=
 if !σ.t.isEmpty then .error (20, σ.pos)
 else match σ.bk.find? fun b => decide (σ.g < b.1) with
 | some b => .error (26, b.2)
 | none => .ok (r, σ.g, fold)
def ý (n : Nat) (s : List UInt8) : Except Flt (Nd × Nat × Bool) :=
 if 256 < s.length then .error (12, 0)
 else match run n 0 0 [] (begins s) with
 | .error e => .error e
 | .ok (r, σ) => ended (Àp s) r σ
theorem ÁO (n d : Nat) (acc : List Nd) (σ : St) : run (n + 1) 0 d acc σ = match run n 1 d [] σ with
 | .error e => .error e
 | .ok (r, σ1) => if at_ σ1.t 0 = 124 then run n 0 d (acc ++ [r]) (σ1.adv 1) else .ok (joinA (acc ++ [r]), σ1) := rfl
theorem ÂR (n d : Nat) (acc : List Nd) (σ : St) : run (n + 1) 1 d acc σ = if σ.t.isEmpty || decide (at_ σ.t 0 = 124 ∨ at_ σ.t 0 = 41) then .ok (joinR acc, σ)
 else match run n 2 d [] σ with
 | .error e => .error e
 | .ok (a, σ1) => run n 1 d (acc ++ [a]) σ1 := rfl
theorem Âj (n d : Nat) (acc : List Nd) (σ : St) : run (n + 1) 2 d acc σ = match (if at_ σ.t 0 = 40 then run n 3 d [] σ else Ġ σ) with
 | .error e => .error e
 | .ok (a, σ1) => Ý (pre [40, 63, 58] σ.t) a σ1 := rfl
theorem Âk (n d : Nat) (acc : List Nd) (σ : St) : run (n + 1) 3 d acc σ = if d = 32 then .error (25, σ.pos)
 else match Ø σ with
 | .error e => .error e
 | .ok (sh, σ1) =>
  match run n 0 (d + 1) [] σ1 with
  | .error e => .error e
  | .ok (kid, σ2) => if at_ σ2.t 0 = 41 then .ok (wrap sh kid, σ2.adv 1) else .error (20, σ.pos) := rfl
end
section
open Go.Proofs.YtpginkdkblmnbaaGreatDoor.Cl
def ÈC (q : List UInt8) : Prop := q = [] ∨ ∃ p, q = 41 :: p
theorem ÂD (i : Nat) : at_ [] i = 0 := by simp [at_]
theorem Çs {q : List UInt8} (h : ÈC q) : at_ q 0 = 0 ∨ at_ q 0 = 41 := by
 rcases h with rfl | ⟨p, rfl⟩
 ·exact .inl (ÂD 0)
 ·exact .inr rfl
theorem Íq {t : List UInt8} (q : List UInt8) (h : t ≠ []) : at_ (t ++ q) 0 = at_ t 0 := ËQ (by cases t <;> simp_all)
theorem Îx {t q : List UInt8} (h : ÈC q) {c : Nat} (h0 : c ≠ 0) (h1 : c ≠ 41) : at_ (t ++ q) 0 = c ↔ at_ t 0 = c := by
 by_cases ht : t = []
 ·subst ht
  rw [List.nil_append, ÂD]
  rcases Çs h with e | e <;> rw [e] <;> omega
 ·rw [Íq q ht]
theorem Ų {t : List UInt8} (h : at_ t 0 ≠ 0) : t ≠ [] := by
 rintro rfl;exact h (ÂD 0)
theorem ń {t : List UInt8} (h : t ≠ []) : 1 ≤ t.length := by cases t <;> simp_all
theorem Êd {w t : List UInt8} (h : pre w t = true) : w.length ≤ t.length := by
 unfold pre at h;exact (List.isPrefixOf_iff_prefix.1 h).length_le
theorem Ír (w : List UInt8) {q : List UInt8} (h : ÈC q) (hw : (41 : UInt8) ∉ w) : ∀ t, pre w (t ++ q) = pre w t := by
 induction w with
 | nil => intro t; simp [pre]
 | cons a w ih =>
  intro t
  cases t with
  | nil =>
   rcases h with rfl | ⟨p, rfl⟩
   ·rfl
   ·have : ¬ a = 41 := fun e => hw (by simp [e])
    simp [pre, List.isPrefixOf, this]
  | cons b t =>
   have := ih (fun e => hw (List.mem_cons_of_mem _ e)) t
   simp only [pre] at this;simp only [pre, List.cons_append, List.isPrefixOf, this]
structure Sim (γ : Nat) (B : List Nat) (q : List UInt8) (σ σ' : St) : Prop where
 ht : σ'.t = σ.t ++ q
 hg : σ'.g = σ.g + γ
 hb : σ'.bk.map (·.1) = B ++ σ.bk.map (·.1)
variable {γ δ : Nat} {B : List Nat} {q : List UInt8} {σ σ' σ1 : St}
theorem Sim.adv (h : Sim γ B q σ σ') {n : Nat} (hn : n ≤ σ.t.length) : Sim γ B q (σ.adv n) (σ'.adv n) :=
 ⟨by simp only [St.adv]; rw [h.ht, List.drop_append_of_le_length hn], h.hg, h.hb⟩
theorem Sim.at_ (h : Sim γ B q σ σ') (hq : ÈC q) {c : Nat} (h0 : c ≠ 0) (h1 : c ≠ 41) : at_ σ'.t 0 = c ↔ at_ σ.t 0 = c := by rw [h.ht]; exact Îx hq h0 h1
theorem Sim.pre (h : Sim γ B q σ σ') (hq : ÈC q) (w : List UInt8) (hw : (41 : UInt8) ∉ w) : pre w σ'.t = pre w σ.t := by rw [h.ht]; exact Ír w hq hw _
theorem Ņ {t : List UInt8} (h : Ì t ≠ 0) : 2 ≤ t.length ∧ at_ t 0 = 92 := by
 unfold Ì at h;split at h
 ·rename_i h0
  refine ⟨?_, h0⟩
  rcases Nat.lt_or_ge t.length 2 with hl | hl
  ·exact absurd (ÂC (by omega)) h
  ·exact hl
 ·exact absurd rfl h
theorem ÊC {t : List UInt8} (h : at_ t 0 ≠ 92) : Ì t = 0 := by
 unfold Ì;rw [if_neg h]
theorem ÈD : units 0 = none := by simp [units, Ũ]
theorem Æv {u : Nat} (h : Ò σ = .ok (u, σ1)) : Ì σ.t ≠ 0 := by
 intro e;unfold Ò at h;rw [e] at h;simp [ì] at h
theorem ÂE {c : Nat} {l : List Rg} (h : units c = some l) : c ≠ 0 := by
 rintro rfl;rw [ÈD] at h;cases h
theorem ÃC {t : List UInt8} (hu : ğ t = true) : t ≠ [] := by rintro rfl; simp [ğ] at hu
theorem Âl (c : Nat) : dig c = true ↔ 48 ≤ c ∧ c ≤ 57 := by simp [dig]
theorem Æw {c : Nat} (h : c < 48) : dig c = false := by simp [dig]; omega
theorem Ís (hq : ÈC q) (t : List UInt8) : ú (t ++ q) = ú t ∧ Ï (t ++ q) = Ï t ∧ ĵ (t ++ q) = ĵ t ∧ Ï t ≤ t.length := by
 have hq0 : dig (at_ q 0) = false := Æw (by rcases Çs hq with e | e <;> omega)
 match t with
 | [] =>
  have e0 : dig (at_ ([] : List UInt8) 0) = false := Æw (by rw [ÂD]; omega)
  simp only [List.nil_append, ĵ, ú, Ï, hq0, e0, Bool.false_and];simp
 | [a] =>
  have e0 : at_ ([a] ++ q) 0 = at_ [a] 0 := rfl
  have e1 : at_ ([a] ++ q) 1 = at_ q 0 := by rw [ËR (by simp)]; rfl
  have e2 : dig (at_ [a] 1) = false := Æw (by rw [ÂC (by simp)]; omega)
  unfold ĵ ú Ï;rw [e0, e1, hq0, e2];refine ⟨rfl, rfl, rfl, ?_⟩
  split <;> simp
 | a :: b :: r =>
  have e0 : at_ (a :: b :: r ++ q) 0 = at_ (a :: b :: r) 0 := rfl;have e1 : at_ (a :: b :: r ++ q) 1 = at_ (a :: b :: r) 1 := rfl;unfold ĵ ú Ï;rw [e0, e1];refine ⟨rfl, rfl, rfl, ?_⟩;split
  ·split <;> simp
  ·simp
theorem Sim.num (hs : Sim γ B q σ σ') (hq : ÈC q) : ú σ'.t = ú σ.t ∧ Ï σ'.t = Ï σ.t ∧ ĵ σ'.t = ĵ σ.t := by
 obtain ⟨a, b, c, _⟩ := Ís hq σ.t;rw [hs.ht];exact ⟨a, b, c⟩
end
section
open Go.Proofs.YtpginkdkblmnbaaGreatDoor.Cl
variable {σ σ1 : St}
theorem Þ (σ : St) (n : Nat) : (σ.adv n).t.length = σ.t.length - n := by simp [St.adv]
theorem ÅN (σ : St) (n : Nat) : (σ.adv n).g = σ.g := rfl
theorem Íw (t : List UInt8) : Ì t < 256 := by
 unfold Ì;split
 ·exact Ť t 1
 ·omega
theorem Çz {c : Nat} (h : Ľ c = true) : Àl c ≤ 15 := by
 simp [Ľ] at h;unfold Àl
 split <;> omega
theorem ÃD {u : Nat} (h : Ò σ = .ok (u, σ1)) : σ1.t.length + 1 ≤ σ.t.length ∧ u ≤ 255 ∧ σ1.g = σ.g := by
 have hz := Ņ (Æv h);have hl := Íw σ.t;unfold Ò at h
 repeat' split at h
 all_goals first
  | (injection h with h; injection h with h1 h2; subst h1 h2
     simp only [Þ, ÅN, and_true]
     first
      | omega
      | (rename_i c
         simp only [Bool.and_eq_true] at c;have a := Çz c.1;have b := Çz c.2
         omega))
  | cases h
theorem ÎD (t : List UInt8) (h : t ≠ []) : (nx t).1 ≤ 1114367 := by
 rcases Ço t h with h1 | h1
 ·have := h1.1
  omega
 ·exact h1.2
theorem Âm {u : Nat} (h : ľ σ = .ok (u, σ1)) (hn : σ.t ≠ []) : σ1.t.length + 1 ≤ σ.t.length ∧ u ≤ 1114367 ∧ σ1.g = σ.g := by
 unfold ľ at h;split at h
 ·have := ÃD h
  omega
 ·injection h with h; injection h with h1 h2; subst h1 h2
  have := Áe σ.t hn;have := ÎD σ.t hn;simp only [Þ, ÅN, and_true];omega
theorem ÇA {c : Nat} {l : List Rg} (h : Ũ c = some l) : Ŗ l ∧ l.length ≤ 4 := by
 unfold Ũ at h
 repeat' split at h
 all_goals first
  | (injection h with h; subst h; simp [Ŗ, Rt])
  | cases h
theorem ÇB {c : Nat} {l : List Rg} (h : units c = some l) : (∀ r ∈ l, Rt r) ∧ l.length ≤ 5 := by
 unfold units at h;split at h
 ·obtain ⟨l', hl, rfl⟩ := Option.map_eq_some_iff.1 h
  obtain ⟨h1, h2⟩ := ÇA hl;have h3 := gaps_len l' 0
  exact ⟨(Êb l' 0 (by omega) h1 (fun r hr => (h1.1 r hr).1)).1.1, by omega⟩
 ·obtain ⟨h1, h2⟩ := ÇA h
  exact ⟨h1.1, by omega⟩
theorem Áu {l : List Rg} (h : Ù σ = .ok (l, σ1)) (hn : σ.t ≠ []) : σ1.t.length + 1 ≤ σ.t.length ∧ (∀ r ∈ l, Rt r) ∧ l.length ≤ 5 ∧ σ1.g = σ.g := by
 unfold Ù at h;split at h
 ·cases h
 split at h
 ·rename_i l' hu
  injection h with h; injection h with h1 h2; subst h1 h2
  have := (Ņ (ÂE hu)).1;obtain ⟨a, b⟩ := ÇB hu
  exact ⟨by rw [Þ]; omega, a, b, rfl⟩
 ·split at h
  ·cases h
  ·rename_i lo σa hm
   obtain ⟨a1, a2, a3⟩ := Âm hm hn;split at h
   ·rename_i c
    split at h
    ·rename_i hs
     split at h
     ·cases h
     ·rename_i hi σb hm2
      obtain ⟨b1, b2, b3⟩ := Âm hm2 (ÃC hs);rw [Þ] at b1;rw [ÅN] at b3;split at h
      ·cases h
      ·injection h with h; injection h with h1 h2; subst h1 h2
       refine ⟨by omega, ?_, by simp, by omega⟩
       intro r hr;obtain rfl := List.mem_singleton.1 hr;unfold Rt;simp only;omega
    ·cases h
   ·injection h with h; injection h with h1 h2; subst h1 h2
    refine ⟨by omega, ?_, by simp, a3⟩
    intro r hr;obtain rfl := List.mem_singleton.1 hr;unfold Rt;simp only;omega
theorem ÃE {op : Nat} {neg : Bool} : ∀ {k : Nat} {acc l : List Rg} {σ σ1 : St}, Ł op neg k acc σ = .ok (l, σ1) → σ1.t.length + 1 ≤ σ.t.length ∧ σ1.g = σ.g
 | 0, _, _, _, _, h => by simp [Ł] at h
 | k + 1, acc, l, σ, σ1, h => by
  unfold Ł at h;split at h
  ·rename_i c
   have := ń (Ų (t := σ.t) (by omega))
   split at h
   ·cases h
   ·injection h with h; injection h with h1 h2; subst h1 h2
    exact ⟨by rw [Þ]; omega, rfl⟩
  ·split at h
   ·cases h
   ·rename_i c2
    have hn : σ.t ≠ [] := by intro e; rw [e] at c2; simp at c2
    split at h
    ·cases h
    ·rename_i l1 σa hm
     have h1 := Áu hm hn;have h2 := ÃE h;omega
theorem ÆE {r : Nd} (h : þ σ = .ok (r, σ1)) (hc : at_ σ.t 0 = 91) : σ1.t.length + 1 ≤ σ.t.length ∧ σ1.g = σ.g := by
 have h0 := ń (Ų (t := σ.t) (by omega))
 unfold þ at h;split at h
 ·cases h
 ·rename_i l σa hm
  injection h with h; injection h with h1 h2; subst h1 h2
  have := ÃE hm
  have hb : (ê σ).t.length ≤ σ.t.length - 1 ∧ (ê σ).g = σ.g := by
   unfold ê;split
   ·exact ⟨by rw [Þ, Þ]; omega, rfl⟩
   ·exact ⟨by rw [Þ]; omega, rfl⟩
  omega
theorem ÈQ {r : Nd} (h : ù σ = .ok (r, σ1)) : σ1.t.length + 1 ≤ σ.t.length ∧ σ1.g = σ.g := by
 unfold ù at h;split at h
 ·have := (Ņ (t := σ.t) (by omega)).1
  injection h with h; injection h with h1 h2; subst h1 h2
  exact ⟨by rw [Þ]; omega, rfl⟩
 split at h
 ·have := (Ņ (t := σ.t) (by omega)).1
  injection h with h; injection h with h1 h2; subst h1 h2
  exact ⟨by rw [Þ]; omega, rfl⟩
 split at h
 ·have := (Ņ (t := σ.t) (by omega)).1
  injection h with h; injection h with h1 h2; subst h1 h2
  refine ⟨?_, rfl⟩;simp only [refAt, ċ];omega
 split at h
 ·rename_i hu
  have := (Ņ (ÂE hu)).1
  injection h with h; injection h with h1 h2; subst h1 h2
  exact ⟨by rw [Þ]; omega, rfl⟩
 ·split at h
  ·cases h
  ·rename_i hm
   injection h with h; injection h with h1 h2; subst h1 h2
   have := ÃD hm;omega
theorem ÊO {r : Nd} (h : Ġ σ = .ok (r, σ1)) (hn : σ.t ≠ []) : σ1.t.length + 1 ≤ σ.t.length ∧ σ1.g = σ.g := by
 have h1l := ń hn;unfold Ġ at h;split at h
 ·rename_i c
  exact ÆE h c
 split at h
 ·exact ÈQ h
 split at h
 ·cases h
 split at h
 ·cases h
 have hnx := Áe σ.t hn
 repeat' split at h
 all_goals
  injection h with h; injection h with h1 h2; subst h1 h2
  exact ⟨by rw [Þ]; omega, rfl⟩
theorem ÈR {x : Int × Int} (h : ż σ = some (x, σ1)) : σ1.t.length ≤ σ.t.length ∧ σ1.g = σ.g := by
 unfold ż at h
 repeat' split at h
 all_goals first
  | (injection h with h; injection h with h1 h2; subst h1 h2
     simp only [Þ, ÅN, and_true]
     omega)
  | cases h
theorem ÊP {x : Int × Int} (h : Ŀ σ = some (x, σ1)) : σ1.t.length ≤ σ.t.length ∧ σ1.g = σ.g := by
 unfold Ŀ at h;split at h
 ·injection h with h; injection h with h1 h2; subst h1 h2
  exact ⟨by rw [Þ]; omega, rfl⟩
 split at h
 ·injection h with h; injection h with h1 h2; subst h1 h2
  exact ⟨by rw [Þ]; omega, rfl⟩
 split at h
 ·injection h with h; injection h with h1 h2; subst h1 h2
  exact ⟨by rw [Þ]; omega, rfl⟩
 exact ÈR h
theorem ÄD (σ : St) : (É σ).t.length ≤ σ.t.length ∧ (É σ).g = σ.g := by
 unfold É;split
 ·exact ⟨ŋ _, rfl⟩
 ·exact ⟨by rw [Þ]; omega, rfl⟩
theorem Åx {gr : Bool} {a r : Nd} (h : Ý gr a σ = .ok (r, σ1)) : σ1.t.length ≤ σ.t.length ∧ σ1.g = σ.g := by
 unfold Ý at h;split at h
 ·split at h
  ·cases h
  ·split at h
   ·cases h
   ·rename_i lo hi σa ht
    injection h with h; injection h with h1 h2; subst h1 h2
    have a := ÊP ht;have b := ÄD σa;omega
 ·injection h with h; injection h with h1 h2; subst h1 h2
  exact ⟨ŋ _, rfl⟩
theorem ÁR {sh : Int × Int × Int} (h : Ø σ = .ok (sh, σ1)) (hc : at_ σ.t 0 = 40) : σ1.t.length + 1 ≤ σ.t.length ∧ σ.g ≤ σ1.g := by
 have h0 := ń (Ų (t := σ.t) (by omega))
 unfold Ø at h
 repeat' split at h
 all_goals first
  | (injection h with h; injection h with h1 h2; subst h1 h2
     first
      | exact ⟨by rw [Þ]; omega, ŋ _⟩
      | exact ⟨by simp only [opened, ċ]; omega, by simp only [opened]; omega⟩)
  | cases h
theorem Ân : ∀ (n : Nat), (∀ d acc σ r σ1, run n 0 d acc σ = .ok (r, σ1) → σ1.t.length ≤ σ.t.length ∧ σ.g ≤ σ1.g) ∧
 (∀ d acc σ r σ1, run n 1 d acc σ = .ok (r, σ1) → σ1.t.length ≤ σ.t.length ∧ σ.g ≤ σ1.g) ∧
 (∀ d acc σ r σ1, σ.t ≠ [] → run n 2 d acc σ = .ok (r, σ1) → σ1.t.length + 1 ≤ σ.t.length ∧ σ.g ≤ σ1.g) ∧
 (∀ d acc σ r σ1, at_ σ.t 0 = 40 → run n 3 d acc σ = .ok (r, σ1) → σ1.t.length + 1 ≤ σ.t.length ∧ σ.g ≤ σ1.g) := by
 intro n
 induction n with
 | zero => refine ⟨?_, ?_, ?_, ?_⟩ <;> intros <;> simp [run] at *
 | succ n ih =>
  obtain ⟨i0, i1, i2, i3⟩ := ih;refine ⟨?_, ?_, ?_, ?_⟩
  ·intro d acc σ r σ1 h
   rw [ÁO] at h;split at h
   ·cases h
   ·rename_i r1 σa ha
    have a := i1 _ _ _ _ _ ha;split at h
    ·have b := i0 _ _ _ _ _ h
     rw [Þ, ÅN] at b;omega
    ·injection h with h; injection h with h1 h2; subst h1 h2
     exact a
  ·intro d acc σ r σ1 h
   rw [ÂR] at h;split at h
   ·injection h with h; injection h with h1 h2; subst h1 h2
    exact ⟨ŋ _, ŋ _⟩
   ·rename_i c
    have hn : σ.t ≠ [] := by intro e; rw [e] at c; simp at c
    split at h
    ·cases h
    ·rename_i r1 σa ha
     have a := i2 _ _ _ _ _ hn ha;have b := i1 _ _ _ _ _ h;omega
  ·intro d acc σ r σ1 hn h
   rw [Âj] at h;split at h
   ·cases h
   ·rename_i r1 σa ha
    have b := Åx h;split at ha
    ·rename_i c
     have a := i3 _ _ _ _ _ c ha;omega
    ·have a := ÊO ha hn
     omega
  ·intro d acc σ r σ1 hc h
   rw [Âk] at h;split at h
   ·cases h
   ·split at h
    ·cases h
    ·rename_i sh σa ho
     have a := ÁR ho hc;split at h
     ·cases h
     ·rename_i kid σb hb
      have b := i0 _ _ _ _ _ hb;split at h
      ·injection h with h; injection h with h1 h2; subst h1 h2
       rw [Þ, ÅN];omega
      ·cases h
end
section
open Go.Proofs.YtpginkdkblmnbaaGreatDoor.Cl
variable {γ δ : Nat} {B : List Nat} {q : List UInt8} {σ σ' σ1 : St}
structure Ïg (N : Nat) (s : List UInt8) (nd : Nd) (g : Nat) (bk : List (Nat × Nat)) : Prop where
 go : ∃ p, run N 0 0 [] { pos := 0, t := s, g := 0, bk := [] } = .ok (nd, { pos := p, t := [], g := g, bk := bk })
 len : s.length ≤ 256
 fold : Àp s = false
 refs : bk.find? (fun b => decide (g < b.1)) = none
theorem Ïg.ended {N : Nat} {s : List UInt8} {nd : Nd} {g : Nat} {bk : List (Nat × Nat)} (h : Ïg N s nd g bk) : ý N s = .ok (nd, g, false) := by
 obtain ⟨p, hp⟩ := h.go
 have e : begins s = { pos := 0, t := s, g := 0, bk := [] } := by unfold begins; rw [h.fold]; rfl
 unfold ý
 rw [if_neg (by have := h.len; omega), e, hp]
 simp [Go.Proofs.YtpginkdkblmnbaaGreatDoor.ended, h.refs, h.fold]
end
section
open Go.Proofs.YtpginkdkblmnbaaGreatDoor.Cl
variable {σ σ1 : St} {f : Flt}
theorem Ãf (h : Ò σ = .error f) : f.1 ≠ 0 := by
 unfold Ò at h
 repeat' split at h
 all_goals first
  | (injection h with h; subst h; simp)
  | cases h
theorem Åo (h : ľ σ = .error f) : f.1 ≠ 0 := by
 unfold ľ at h;split at h
 ·exact Ãf h
 ·cases h
theorem Èn (h : Ù σ = .error f) : f.1 ≠ 0 := by
 unfold Ù at h;split at h
 ·injection h with h; subst h; simp
 split at h
 ·cases h
 ·split at h
  ·rename_i e he
   injection h with h; subst h
   exact Åo he
  ·split at h
   ·split at h
    ·split at h
     ·rename_i e he
      injection h with h; subst h
      exact Åo he
     ·split at h
      ·injection h with h; subst h; simp
      ·cases h
    ·injection h with h; subst h; simp
   ·cases h
theorem Ãg {op : Nat} {neg : Bool} : ∀ {k : Nat} {acc : List Rg} {σ : St}, σ.t.length < k → Ł op neg k acc σ = .error f → f.1 ≠ 0
 | 0, _, _, hk, _ => by omega
 | k + 1, acc, σ, hk, h => by
  unfold Ł at h;split at h
  ·split at h
   ·injection h with h; subst h; simp
   ·cases h
  ·split at h
   ·injection h with h; subst h; simp
   ·rename_i c2
    have hn : σ.t ≠ [] := by intro e; rw [e] at c2; simp at c2
    split at h
    ·rename_i e he
     injection h with h; subst h
     exact Èn he
    ·rename_i l1 σa hm
     have h1 := Áu hm hn
     exact Ãg (by omega) h
theorem ÅC (hl : σ.t.length ≤ 256) (h : þ σ = .error f) : f.1 ≠ 0 := by
 unfold þ at h;split at h
 ·rename_i e he
  injection h with h; subst h
  refine Ãg ?_ he;unfold ê
  split <;> simp only [Þ] <;> omega
 ·cases h
theorem Èo (h : ù σ = .error f) : f.1 ≠ 0 := by
 unfold ù at h;split at h
 ·cases h
 split at h
 ·cases h
 split at h
 ·cases h
 split at h
 ·cases h
 ·split at h
  ·rename_i e he
   injection h with h; subst h
   exact Ãf he
  ·cases h
theorem ÉS (hl : σ.t.length ≤ 256) (h : Ġ σ = .error f) : f.1 ≠ 0 := by
 unfold Ġ at h;split at h
 ·exact ÅC hl h
 split at h
 ·exact Èo h
 repeat' split at h
 all_goals first
  | (injection h with h; subst h; simp)
  | cases h
theorem Åp {gr : Bool} {a : Nd} (h : Ý gr a σ = .error f) : f.1 ≠ 0 := by
 unfold Ý at h
 repeat' split at h
 all_goals first
  | (injection h with h; subst h; simp)
  | cases h
theorem Çd (h : Ø σ = .error f) : f.1 ≠ 0 := by
 unfold Ø at h
 repeat' split at h
 all_goals first
  | (injection h with h; subst h; simp)
  | cases h
theorem Íd : ∀ (n : Nat), (∀ d acc σ, σ.t.length ≤ 256 → 4 * σ.t.length + 2 ≤ n → run n 0 d acc σ = .error f → f.1 ≠ 0) ∧
 (∀ d acc σ, σ.t.length ≤ 256 → 4 * σ.t.length + 1 ≤ n → run n 1 d acc σ = .error f → f.1 ≠ 0) ∧
 (∀ d acc σ, σ.t ≠ [] → σ.t.length ≤ 256 → 4 * σ.t.length ≤ n → run n 2 d acc σ = .error f → f.1 ≠ 0) ∧
 (∀ d acc σ, at_ σ.t 0 = 40 → σ.t.length ≤ 256 → 4 * σ.t.length ≤ n + 1 → run n 3 d acc σ = .error f → f.1 ≠ 0) := by
 intro n
 induction n with
 | zero =>
  refine ⟨fun _ _ _ _ h => by omega, fun _ _ _ _ h => by omega, fun _ _ σ hn _ h => ?_, fun _ _ σ hc _ h => ?_⟩
  ·have := ń hn
   omega
  ·have := ń (Ų (t := σ.t) (by omega))
   omega
 | succ n ih =>
  obtain ⟨ih0, ih1, ih2, ih3⟩ := ih;obtain ⟨l0, l1, l2, l3⟩ := Ân n;refine ⟨?_, ?_, ?_, ?_⟩
  ·intro d acc σ h256 hN h
   rw [ÁO] at h;split at h
   ·rename_i e he
    injection h with h; subst h
    exact ih1 _ _ _ h256 (by omega) he
   ·rename_i ra σa ha
    have ga := (l1 _ _ _ _ _ ha).1;split at h
    ·rename_i c
     have := ń (Ų (t := σa.t) (by omega))
     exact ih0 _ _ _ (by rw [Þ]; omega) (by rw [Þ]; omega) h
    ·cases h
  ·intro d acc σ h256 hN h
   rw [ÂR] at h;split at h
   ·cases h
   ·rename_i c
    have hn : σ.t ≠ [] := by
     intro e;rw [e] at c;exact c rfl
    split at h
    ·rename_i e he
     injection h with h; subst h
     exact ih2 _ _ _ hn h256 (by omega) he
    ·rename_i a σa ha
     have ga := (l2 _ _ _ _ _ hn ha).1
     exact ih1 _ _ _ (by omega) (by omega) h
  ·intro d acc σ hn h256 hN h
   rw [Âj] at h;split at h
   ·rename_i e he
    injection h with h; subst h
    split at he
    ·rename_i c
     exact ih3 _ _ _ c h256 (by omega) he
    ·exact ÉS h256 he
   ·exact Åp h
  ·intro d acc σ hc h256 hN h
   rw [Âk] at h;split at h
   ·injection h with h; subst h; simp
   ·split at h
    ·rename_i e he
     injection h with h; subst h
     exact Çd he
    ·rename_i sh σa ho
     have ga := (ÁR ho hc).1;split at h
     ·rename_i e he
      injection h with h; subst h
      exact ih0 _ _ _ (by omega) (by omega) he
     ·split at h
      ·cases h
      ·injection h with h; subst h; simp
theorem ËD (s : List UInt8) : (begins s).t.length ≤ s.length := by
 unfold begins
 split <;> simp
theorem Åq {N : Nat} {s : List UInt8} (hN : 1026 ≤ N) (h : ý N s = .error f) : f.1 ≠ 0 := by
 unfold ý at h;split at h
 ·injection h with h; subst h; simp
 ·have hb := ËD s
  split at h
  ·rename_i e he
   injection h with h; subst h
   exact (Íd N).1 _ _ _ (by omega) (by omega) he
  ·unfold ended at h
   repeat' split at h
   all_goals first
    | (injection h with h; subst h; simp)
    | cases h
end
section
open Go.Proofs.YtpginkdkblmnbaaGreatDoor.Cl
variable {σ σ1 : St}
end
section
open Go.Proofs.YtpginkdkblmnbaaGreatDoor.Cl
end
section
open Go.Proofs.YtpginkdkblmnbaaGreatDoor.Cl
def Û (k lo hi m : Int) (n : Nat) : Prop :=
 (k = 0 ∧ n = 0) ∨ (k = 1 ∧ n = 0) ∨ (k = 2 ∧ 2 ≤ n) ∨ (k = 3 ∧ 2 ≤ n) ∨
 (k = 4 ∧ n = 1 ∧ 0 ≤ lo ∧ lo ≤ 64 ∧ -1 ≤ hi ∧ hi ≤ 64 ∧ (0 ≤ hi → lo ≤ hi) ∧ 0 ≤ m ∧ m ≤ 2) ∨
 (k = 5 ∧ n = 1) ∨ (k = 6 ∧ n = 0) ∨ (k = 7 ∧ n = 1 ∧ 0 ≤ m ∧ m ≤ 3) ∨ (k = 8 ∧ n = 1) ∨ (k = 9 ∧ n = 0)
inductive Wf : Nd → Prop
 | mk {k lo hi m r : Int} {set : List Rg} {kids : List Nd} (hs : Û k lo hi m kids.length) (hk : ∀ x ∈ kids, Wf x) : Wf (.mk k lo hi m r set kids)
theorem Wf.leaf {k lo hi m r : Int} {set : List Rg} (h : Û k lo hi m 0) : Wf (.mk k lo hi m r set []) := ⟨h, fun _ h => by cases h⟩
theorem Wf.one {k lo hi m r : Int} {set : List Rg} {x : Nd} (h : Û k lo hi m 1) (hx : Wf x) : Wf (.mk k lo hi m r set [x]) :=
 ⟨h, fun y hy => by rw [Ĉ] at hy; subst hy; exact hx⟩
theorem Wf.empty : Wf ÈB := .leaf (.inl ⟨rfl, rfl⟩)
theorem Wf.set (l : List Rg) : Wf (ÁH l) := .leaf (.inr (.inl ⟨rfl, rfl⟩))
theorem Wf.edge (r : Int) : Wf (Áf r) := .leaf (by unfold Û; omega)
theorem Wf.back (g : Nat) : Wf (Êc g) := .leaf (by unfold Û; omega)
theorem Wf.joinA {l : List Nd} (hne : l ≠ []) (h : ∀ x ∈ l, Wf x) : Wf (joinA l) := by
 match l, hne with
 | [x], _ => exact h x (by simp)
 | x :: y :: l, _ => exact ⟨by unfold Û; simp, h⟩
theorem Wf.joinR {l : List Nd} (h : ∀ x ∈ l, Wf x) : Wf (joinR l) := by
 match l with
 | [] => exact .empty
 | [x] => exact h x (by simp)
 | x :: y :: l => exact ⟨by unfold Û; simp, h⟩
theorem ÊR {σ σ1 : St} {r : Nd} (h : ù σ = .ok (r, σ1)) : Wf r := by
 unfold ù at h;split at h
 ·cases h; exact .edge _
 split at h
 ·cases h; exact .edge _
 split at h
 ·cases h; exact .back _
 split at h
 ·cases h; exact .set _
 split at h
 ·cases h
 ·cases h; exact .set _
theorem Ìk {σ σ1 : St} {r : Nd} (h : Ġ σ = .ok (r, σ1)) : Wf r := by
 unfold Ġ at h;split at h
 ·unfold þ at h
  split at h
  ·cases h
  ·cases h; exact .set _
 split at h
 ·exact ÊR h
 split at h
 ·cases h
 split at h
 ·cases h
 split at h
 ·cases h; exact .set _
 split at h
 ·cases h; exact .edge _
 split at h
 ·cases h; exact .edge _
 ·cases h; exact .set _
theorem ÇE {t : List UInt8} (h : ĵ t = true) : ú t ≤ 64 := by
 unfold ĵ at h;simp at h;exact h.2
theorem Ìl {σ σ1 : St} {lo hi : Int} (h : Ŀ σ = some ((lo, hi), σ1)) : 0 ≤ lo ∧ lo ≤ 64 ∧ -1 ≤ hi ∧ hi ≤ 64 ∧ (0 ≤ hi → lo ≤ hi) := by
 unfold Ŀ at h;split at h
 ·cases h; omega
 split at h
 ·cases h; omega
 split at h
 ·cases h; omega
 unfold ż at h;split at h
 ·rename_i h1
  have h1 := ÇE h1;split at h
  ·cases h; omega
  split at h
  ·split at h
   ·rename_i h2
    simp only [Bool.and_eq_true, decide_eq_true_eq] at h2;have h3 := ÇE h2.1.1;have h4 := h2.1.2;cases h; omega
   ·cases h
  split at h
  ·cases h; omega
  ·cases h
 ·cases h
theorem Íx (t : List UInt8) : â t ≤ 2 := by unfold â; split <;> (try split) <;> omega
theorem ÆF {gr : Bool} {a r : Nd} {σ σ1 : St} (ha : Wf a) (h : Ý gr a σ = .ok (r, σ1)) : Wf r := by
 unfold Ý at h;split at h
 ·split at h
  ·cases h
  split at h
  ·cases h
  ·rename_i lo hi σ2 ht
   have := Ìl ht;have := Íx σ2.t;cases h
   exact .one (by unfold Û; omega) ha
 ·cases h; exact ha
theorem Åy {σ σ1 : St} {a b c : Int} (h : Ø σ = .ok ((a, b, c), σ1)) : a = 0 ∨ Û a 0 0 b 1 := by
 unfold Ø at h;unfold Û
 repeat' split at h
 all_goals first
  | (cases h; omega)
  | cases h
theorem Íy {sh : Int × Int × Int} {kid : Nd} (hs : sh.1 = 0 ∨ Û sh.1 0 0 sh.2.1 1) (hk : Wf kid) : Wf (wrap sh kid) := by
 unfold wrap;split
 ·exact hk
 ·exact .one (by rcases hs with h | h; exact absurd h (by assumption); exact h) hk
theorem ÎF : ∀ (n : Nat), ∀ k d acc σ r σ1, (∀ x ∈ acc, Wf x) → run n k d acc σ = .ok (r, σ1) → Wf r := by
 intro n
 induction n with
 | zero => intro k d acc σ r σ1 _ h; simp [run] at h
 | succ n ih =>
  intro k d acc σ r σ1 ha h
  match k with
  | 0 =>
   rw [ÁO] at h;split at h
   ·cases h
   ·rename_i ra σa hra
    have hw := ih _ _ _ _ _ _ (by simp) hra
    have ha' : ∀ x ∈ acc ++ [ra], Wf x := by
     intro x hx
     rcases List.mem_append.1 hx with hx | hx
     ·exact ha x hx
     ·rw [Ĉ] at hx; subst hx; exact hw
    split at h
    ·exact ih _ _ _ _ _ _ ha' h
    ·cases h; exact Wf.joinA (by simp) ha'
  | 1 =>
   rw [ÂR] at h;split at h
   ·cases h; exact Wf.joinR ha
   ·split at h
    ·cases h
    ·rename_i ra σa hra
     have hw := ih _ _ _ _ _ _ (by simp) hra
     exact ih _ _ _ _ _ _ (by
      intro x hx
      rcases List.mem_append.1 hx with hx | hx
      ·exact ha x hx
      ·rw [Ĉ] at hx; subst hx; exact hw) h
  | 2 =>
   rw [Âj] at h;split at h
   ·cases h
   ·rename_i ra σa hra
    refine ÆF ?_ h;split at hra
    ·exact ih _ _ _ _ _ _ (by simp) hra
    ·exact Ìk hra
  | k + 3 =>
   have h' : run (n + 1) 3 d acc σ = .ok (r, σ1) := h;rw [Âk] at h';split at h'
   ·cases h'
   ·split at h'
    ·cases h'
    ·rename_i sh σa ho
     split at h'
     ·cases h'
     ·rename_i kid σb hk
      split at h'
      ·cases h'
       obtain ⟨a, b, c⟩ := sh
       exact Íy (Åy ho) (ih _ _ _ _ _ _ (by simp) hk)
      ·cases h'
theorem ÇF {N : Nat} {s : List UInt8} {nd : Nd} {g : Nat} {fo : Bool} (h : ý N s = .ok (nd, g, fo)) : Wf nd := by
 unfold ý at h;split at h
 ·cases h
 ·split at h
  ·cases h
  ·rename_i r σ hr
   unfold ended at h;split at h
   ·cases h
   ·split at h
    ·cases h
    ·cases h
     exact ÎF _ _ _ _ _ _ _ (by simp) hr
end
section
open Go.Proofs.YtpginkdkblmnbaaGreatDoor.Cl
def far : Int := 1048576
def ä (x : Int) : Int := if far < x then far else x
def Às (x : Int) : Int := if far < x then -1 else x
def hd (l : List Int) : Int := l.headD 0
def Ŧ : List Int → Int
 | [] => far
 | x :: l => min x (Ŧ l)
def Ń : List Int → Int
 | [] => 0
 | x :: l => max x (Ń l)
def ĝ (l : List Int) : Bool := l.any fun x => decide (x < 0)
def ÀM (k lo : Int) (l : List Int) : Int :=
 ä (if k = 1 then 1 else if k = 2 then l.sum else if k = 3 then Ŧ l else if k = 4 then lo * hd l else if k = 5 ∨ k = 8 then hd l else 0)
def ÁG (k hi : Int) (l : List Int) : Int :=
 if k = 1 then 1
 else if k = 2 then (if ĝ l then -1 else Às l.sum)
 else if k = 3 then (if ĝ l then -1 else Às (Ń l))
 else if k = 4 then (if hd l = 0 ∨ hi = 0 then 0 else if hd l < 0 ∨ hi < 0 then -1 else Às (hi * hd l))
 else if k = 5 ∨ k = 8 then hd l
 else if k = 6 then -1
 else 0
def Âw (k lo hi m : Int) (l : List Int) : Int :=
 ä (if k = 1 ∨ k = 6 ∨ k = 9 then 1
  else if k = 2 then l.sum
  else if k = 3 then l.sum + 2 * ((l.length : Int) - 1)
  else if k = 4 then lo * hd l + (if hi < 0 then hd l + 4 else (hi - lo) * (hd l + 1)) + (if m = 2 then 2 else 0)
  else if k = 5 ∨ k = 7 ∨ k = 8 then hd l + 2
  else 0)
mutual
def Ĩ : Nd → Int
 | .mk k lo _ _ _ _ kids => ÀM k lo (ÆG kids)
def ÆG : List Nd → List Int
 | [] => []
 | x :: l => Ĩ x :: ÆG l
end
mutual
def ß : Nd → Int
 | .mk k _ hi _ _ _ kids => ÁG k hi (ÇG kids)
def ÇG : List Nd → List Int
 | [] => []
 | x :: l => ß x :: ÇG l
end
mutual
def Ç : Nd → Int
 | .mk k lo hi m _ _ kids => Âw k lo hi m (Êo kids)
def Êo : List Nd → List Int
 | [] => []
 | x :: l => Ç x :: Êo l
end
theorem ÈS (l : List Nd) : ÆG l = l.map Ĩ := by induction l with | nil => rfl | cons x l ih => simp [ÆG, ih]
theorem ÅP (l : List Nd) : ÇG l = l.map ß := by induction l with | nil => rfl | cons x l ih => simp [ÇG, ih]
theorem ÊS (l : List Nd) : Êo l = l.map Ç := by induction l with | nil => rfl | cons x l ih => simp [Êo, ih]
theorem ÇH (k lo hi m r : Int) (s : List Rg) (l : List Nd) : Ĩ (.mk k lo hi m r s l) = ÀM k lo (l.map Ĩ) := by rw [Ĩ, ÈS]
theorem Êp (k lo hi m r : Int) (s : List Rg) (l : List Nd) : ß (.mk k lo hi m r s l) = ÁG k hi (l.map ß) := by rw [ß, ÅP]
theorem ÅQ (k lo hi m r : Int) (s : List Rg) (l : List Nd) : Ç (.mk k lo hi m r s l) = Âw k lo hi m (l.map Ç) := by rw [Ç, ÊS]
theorem Wf.ind {P : Nd → Prop} (h : ∀ (k lo hi m r : Int) (s : List Rg) (l : List Nd), Û k lo hi m l.length → (∀ x ∈ l, Wf x) → (∀ x ∈ l, P x) → P (.mk k lo hi m r s l)) {nd : Nd} (hw : Wf nd) : P nd := by
 induction hw with
 | mk hs hk ih => exact h _ _ _ _ _ _ _ hs hk ih
theorem Ś : ∀ {l : List Int}, (∀ x ∈ l, 0 ≤ x) → 0 ≤ l.sum
 | [], _ => by simp
 | x :: l, h => by
  have h1 := h x (by simp)
  have h2 := Ś (l := l) (fun y hy => h y (by simp [hy]))
  simp only [List.sum_cons];omega
theorem Áv : ∀ {l : List Int}, (∀ x ∈ l, 0 ≤ x) → 0 ≤ Ŧ l ∧ Ŧ l ≤ far ∧ ∀ x ∈ l, Ŧ l ≤ x
 | [], _ => by simp [Ŧ, far]
 | x :: l, h => by
  have h1 := h x (by simp)
  obtain ⟨a, b, c⟩ := Áv (l := l) (fun y hy => h y (by simp [hy]))
  simp only [Ŧ]
  refine ⟨by omega, by omega, fun y hy => ?_⟩
  rcases List.mem_cons.1 hy with rfl | hy
  ·omega
  ·have := c y hy; omega
theorem Ū : ∀ {l : List Int}, 0 ≤ Ń l ∧ ∀ x ∈ l, x ≤ Ń l
 | [] => by simp [Ń]
 | x :: l => by
  obtain ⟨a, c⟩ := Ū (l := l);simp only [Ń]
  refine ⟨by omega, fun y hy => ?_⟩
  rcases List.mem_cons.1 hy with rfl | hy
  ·omega
  ·have := c y hy; omega
theorem ÄH : ∀ {l : List Int} {b : Int}, 0 ≤ b → (∀ x ∈ l, x ≤ b) → Ń l ≤ b
 | [], b, h0, _ => h0
 | x :: l, b, h0, h => by
  have h1 := h x (by simp)
  have h2 := ÄH (l := l) h0 (fun y hy => h y (by simp [hy]))
  simp only [Ń];omega
theorem ÃG {l : List Int} (h : ĝ l = false) : ∀ x ∈ l, 0 ≤ x := by
 intro x hx;unfold ĝ at h;rw [List.any_eq_false] at h;have := h x hx;simpa using this
theorem Áb {α : Type} {l : List α} (h : l.length = 1) : ∃ x, l = [x] := by
 match l, h with
 | [x], _ => exact ⟨x, rfl⟩
theorem ų {x : Int} (h : 0 ≤ x) : 0 ≤ ä x ∧ ä x ≤ far ∧ ä x ≤ x := by unfold ä far; split <;> omega
theorem Áw {x : Int} (h : 0 ≤ x) : -1 ≤ Às x ∧ Às x ≤ far := by unfold Às far; split <;> omega
theorem Ŋ {nd : Nd} (h : Wf nd) : 0 ≤ Ĩ nd ∧ Ĩ nd ≤ far := by
 refine Wf.ind (P := fun nd => 0 ≤ Ĩ nd ∧ Ĩ nd ≤ far) (fun k lo hi m r s l hs _ ih => ?_) h
 rw [ÇH]
 have hl : ∀ x ∈ l.map Ĩ, 0 ≤ x := by
  intro x hx;obtain ⟨y, hy, rfl⟩ := List.mem_map.1 hx;exact (ih y hy).1
 have hh : 0 ≤ hd (l.map Ĩ) := by
  unfold hd
  cases l with
  | nil => simp
  | cons y l => exact hl _ (by simp)
 have key : ∀ x : Int, 0 ≤ x → 0 ≤ ä x ∧ ä x ≤ far := fun x hx => ⟨(ų hx).1, (ų hx).2.1⟩
 unfold ÀM;split
 ·exact key _ (by omega)
 split
 ·exact key _ (Ś hl)
 split
 ·exact key _ (Áv hl).1
 split
 ·rename_i h4
  refine key _ (Int.mul_nonneg ?_ hh);unfold Û at hs; omega
 split
 ·exact key _ hh
 ·exact key _ (by omega)
theorem ĥ {nd : Nd} (h : Wf nd) : -1 ≤ ß nd ∧ ß nd ≤ far := by
 refine Wf.ind (P := fun nd => -1 ≤ ß nd ∧ ß nd ≤ far) (fun k lo hi m r s l hs _ ih => ?_) h
 rw [Êp]
 have hh : -1 ≤ hd (l.map ß) ∧ hd (l.map ß) ≤ far := by
  unfold hd
  cases l with
  | nil => simp [far]
  | cons y l => exact ih y (by simp)
 unfold ÁG;split
 ·simp [far]
 split
 ·split
  ·simp [far]
  ·rename_i he
   exact Áw (Ś (ÃG (by simpa using he)))
 split
 ·split
  ·simp [far]
  ·exact Áw Ū.1
 split
 ·rename_i h4
  split
  ·simp [far]
  split
  ·simp [far]
  ·rename_i c1 c2
   exact Áw (Int.mul_nonneg (by omega) (by omega))
 split
 ·exact hh
 split
 ·simp [far]
 ·simp [far]
theorem Ô {nd : Nd} (h : Wf nd) : 0 ≤ Ç nd ∧ Ç nd ≤ far := by
 refine Wf.ind (P := fun nd => 0 ≤ Ç nd ∧ Ç nd ≤ far) (fun k lo hi m r s l hs _ ih => ?_) h
 rw [ÅQ]
 have hl : ∀ x ∈ l.map Ç, 0 ≤ x := by
  intro x hx;obtain ⟨y, hy, rfl⟩ := List.mem_map.1 hx;exact (ih y hy).1
 have hh : 0 ≤ hd (l.map Ç) := by
  unfold hd
  cases l with
  | nil => simp
  | cons y l => exact hl _ (by simp)
 have key : ∀ x : Int, 0 ≤ x → 0 ≤ ä x ∧ ä x ≤ far := fun x hx => ⟨(ų hx).1, (ų hx).2.1⟩
 unfold Âw;split
 ·exact key _ (by omega)
 split
 ·exact key _ (Ś hl)
 split
 ·refine key _ ?_
  have := Ś hl;have : (l.map Ç).length = l.length := List.length_map _;unfold Û at hs;omega
 split
 ·refine key _ ?_
  have h0 : 0 ≤ lo * hd (l.map Ç) := Int.mul_nonneg (by unfold Û at hs; omega) hh
  have h1 : 0 ≤ hi → 0 ≤ (hi - lo) * (hd (l.map Ç) + 1) := fun _ => Int.mul_nonneg (by unfold Û at hs; omega) (by omega)
  split <;> split <;> omega
 split
 ·exact key _ (by omega)
 ·exact key _ (by omega)
end
section
open Go.Proofs.YtpginkdkblmnbaaGreatDoor.Cl
inductive Lk : Nd → Nd → Prop
 | mk {k lo hi m r r' : Int} {set : List Rg} {kids kids' : List Nd} (hl : kids.length = kids'.length) (hk : ∀ (i : Nat) (x y : Nd), kids[i]? = some x → kids'[i]? = some y → Lk x y) : Lk (.mk k lo hi m r set kids) (.mk k lo hi m r' set kids')
def LkL (l l' : List Nd) : Prop := l.length = l'.length ∧ ∀ (i : Nat) (x y : Nd), l[i]? = some x → l'[i]? = some y → Lk x y
theorem LkL.nil : LkL [] [] := ⟨rfl, fun i x y h => by simp at h⟩
theorem LkL.snoc {l l' : List Nd} {x x' : Nd} (h : LkL l l') (hx : Lk x x') : LkL (l ++ [x]) (l' ++ [x']) := by
 refine ⟨by simp [h.1], fun i a b ha hb => ?_⟩
 rw [List.getElem?_append] at ha hb;rw [← h.1] at hb;split at ha
 ·rename_i c
  rw [if_pos c] at hb;exact h.2 i a b ha hb
 ·rename_i c
  rw [if_neg c] at hb
  rcases hi : i - l.length with _ | j
  ·rw [hi] at ha hb
   simp at ha hb;subst ha hb;exact hx
  ·rw [hi] at ha
   simp at ha
theorem Lk.leaf {k lo hi m r r' : Int} {set : List Rg} : Lk (.mk k lo hi m r set []) (.mk k lo hi m r' set []) := .mk rfl (fun i x y h => by simp at h)
theorem Lk.of_list {k lo hi m r r' : Int} {set : List Rg} {l l' : List Nd} (h : LkL l l') : Lk (.mk k lo hi m r set l) (.mk k lo hi m r' set l') := .mk h.1 h.2
theorem Lk.one {k lo hi m r r' : Int} {set : List Rg} {x x' : Nd} (h : Lk x x') : Lk (.mk k lo hi m r set [x]) (.mk k lo hi m r' set [x']) := .of_list (LkL.nil.snoc h)
theorem Lk.kind {x x' : Nd} (h : Lk x x') : x'.kind = x.kind := by cases h; rfl
theorem Lk.joinA {l l' : List Nd} (h : LkL l l') : Lk (joinA l) (joinA l') := by
 match l, l', h with
 | [], [], _ => exact .leaf
 | [x], [x'], h => exact h.2 0 x x' rfl rfl
 | x :: y :: l, x' :: y' :: l', h => exact .of_list h
 | [], x :: l, h => exact absurd h.1 (by simp)
 | x :: l, [], h => exact absurd h.1 (by simp)
 | [x], x' :: y' :: l', h => exact absurd h.1 (by simp)
 | x :: y :: l, [x'], h => exact absurd h.1 (by simp)
theorem Lk.joinR {l l' : List Nd} (h : LkL l l') : Lk (joinR l) (joinR l') := by
 match l, l', h with
 | [], [], _ => exact .leaf
 | [x], [x'], h => exact h.2 0 x x' rfl rfl
 | x :: y :: l, x' :: y' :: l', h => exact .of_list h
 | [], x :: l, h => exact absurd h.1 (by simp)
 | x :: l, [], h => exact absurd h.1 (by simp)
 | [x], x' :: y' :: l', h => exact absurd h.1 (by simp)
 | x :: y :: l, [x'], h => exact absurd h.1 (by simp)
variable {γ δ : Nat} {B : List Nat} {q : List UInt8} {σ σ' σ1 : St}
end
section
open Go.Proofs.YtpginkdkblmnbaaGreatDoor.Cl
def ÀN (k m : Int) (l : List Int) : Bool := !(decide (k = 7 ∧ 2 ≤ m) && decide (hd l < 0 ∨ 32 < hd l))
mutual
def Ê : Nd → Bool
 | .mk k _ _ m _ _ kids => ÀN k m (ÇG kids) && ÂW kids
def ÂW : List Nd → Bool
 | [] => true
 | x :: l => Ê x && ÂW l
end
theorem ÆH (l : List Nd) : ÂW l = l.all Ê := by induction l with | nil => rfl | cons x l ih => simp [ÂW, ih]
theorem ÈT (k lo hi m r : Int) (s : List Rg) (l : List Nd) : Ê (.mk k lo hi m r s l) = (ÀN k m (l.map ß) && l.all Ê) := by rw [Ê, ÅP, ÆH]
def Ž (nd : Nd) : Nat := if Ê nd then (if 2000 < Ç nd + 3 then 28 else 0) else 27
end
section
open Go.Proofs.YtpginkdkblmnbaaGreatDoor.Cl
def ž (l : List Nd) : Int := ä (l.map Ĩ).sum
def ŀ (l : List Nd) : Int := if ĝ (l.map ß) then -1 else Às (l.map ß).sum
def ĩ (l : List Nd) : Int := ä (l.map Ç).sum
def Áh (l : List Nd) : Int := Ŧ (l.map Ĩ)
def Ŕ (l : List Nd) : Int := if ĝ (l.map ß) then -1 else Ń (l.map ß)
def ÂG (a b : Int) : Int := if a = -1 ∨ b = -1 then -1 else Às (a + b)
def ÁI (a b : Int) : Int := if a = -1 ∨ b = -1 then -1 else max a b
def Àt (m x : Int) : Int := if m = 0 ∨ x = 0 then 0 else if m = -1 ∨ x = -1 then -1 else Às (m * x)
theorem Äl {x : Int} (h : x ≤ far) : ä x = x := by unfold ä; rw [if_neg (by omega)]
theorem ÀS {x : Int} (h : -1 ≤ x) : ĝ [x] = decide (x = -1) := by
 unfold ĝ;simp only [List.any_cons, List.any_nil, Bool.or_false, decide_eq_decide];omega
theorem ÃH (a b : List Int) : ĝ (a ++ b) = (ĝ a || ĝ b) := by simp [ĝ]
theorem ÄI (f : Nd → Int) (l : List Nd) (x : Nd) : ((l ++ [x]).map f).sum = (l.map f).sum + f x := by simp
theorem Ác {l : List Nd} (h : ∀ x ∈ l, Wf x) : 0 ≤ (l.map Ĩ).sum := Ś (by
 intro y hy;obtain ⟨z, hz, rfl⟩ := List.mem_map.1 hy
 exact (Ŋ (h z hz)).1)
theorem ÀB {l : List Nd} (h : ∀ x ∈ l, Wf x) : 0 ≤ (l.map Ç).sum := Ś (by
 intro y hy;obtain ⟨z, hz, rfl⟩ := List.mem_map.1 hy
 exact (Ô (h z hz)).1)
theorem ÃI {l : List Nd} (h : ∀ x ∈ l, Wf x) : 0 ≤ ž l ∧ ž l ≤ far := ⟨(ų (Ác h)).1, (ų (Ác h)).2.1⟩
theorem ÁU {l : List Nd} (h : ∀ x ∈ l, Wf x) : 0 ≤ ĩ l ∧ ĩ l ≤ far := ⟨(ų (ÀB h)).1, (ų (ÀB h)).2.1⟩
theorem ÈU {l : List Nd} {x : Nd} (h : ∀ y ∈ l, Wf y) (hx : Wf x) : ž (l ++ [x]) = ä (ž l + Ĩ x) := by
 have h0 := Ác h;have h1 := (Ŋ hx).1;unfold ž;rw [ÄI];unfold ä far
 split <;> split <;> (try split) <;> omega
theorem ÈV {l : List Nd} {x : Nd} (h : ∀ y ∈ l, Wf y) (hx : Wf x) : ĩ (l ++ [x]) = ä (ĩ l + Ç x) := by
 have h0 := ÀB h;have h1 := (Ô hx).1;unfold ĩ;rw [ÄI];unfold ä far
 split <;> split <;> (try split) <;> omega
theorem ÂX {l : List Nd} (h : ĝ (l.map ß) = false) : 0 ≤ (l.map ß).sum := Ś (ÃG h)
theorem ÁV {l : List Nd} : -1 ≤ ŀ l ∧ ŀ l ≤ far := by
 unfold ŀ;split
 ·simp [far]
 ·rename_i h
  exact Áw (ÂX (by simpa using h))
theorem ÂH {l : List Nd} {x : Nd} (hx : Wf x) : ŀ (l ++ [x]) = ÂG (ŀ l) (ß x) := by
 have h1 := ĥ hx;unfold ŀ ÂG;rw [ÄI]
 have e : ĝ ((l ++ [x]).map ß) = (ĝ (l.map ß) || decide (ß x = -1)) := by
  rw [Ĕ, ÃH]
  congr 1
  exact ÀS h1.1
 rw [e]
 cases h : ĝ (l.map ß) with
 | true => simp
 | false =>
  have h0 := ÂX h
  by_cases hm : ß x = -1
  ·simp [hm]
  ·simp only [Bool.false_or, hm, decide_false, Ċ, if_false, or_false]
   unfold Às far
   split <;> split <;> (try split) <;> omega
theorem ÅR {x : Nd} (hx : Wf x) : Áh [x] = Ĩ x := by
 have := (Ŋ hx).2;simp [Áh, Ŧ];omega
theorem ÈW (a b : List Int) : Ŧ (a ++ b) = min (Ŧ a) (Ŧ b) := by
 induction a with
 | nil =>
  simp only [List.nil_append, Ŧ]
  have : Ŧ b ≤ far := by
   induction b with
   | nil => exact Int.le_refl _
   | cons x b ih => simp only [Ŧ]; omega
  omega
 | cons x a ih => simp only [List.cons_append, Ŧ, ih]; omega
theorem ÈX {l : List Nd} {x : Nd} (hx : Wf x) : Áh (l ++ [x]) = min (Áh l) (Ĩ x) := by
 have := ÅR hx;unfold Áh at this ⊢;rw [Ĕ, ÈW, this]
theorem ÇI (a b : List Int) : Ń (a ++ b) = max (Ń a) (Ń b) := by
 induction a with
 | nil =>
  simp only [List.nil_append, Ń];have := (Ū (l := b)).1;omega
 | cons x a ih => simp only [List.cons_append, Ń, ih]; omega
theorem ÊT {x : Nd} (hx : Wf x) : Ŕ [x] = ß x := by
 have := ĥ hx;have e : ĝ ([x].map ß) = decide (ß x = -1) := ÀS this.1;unfold Ŕ;rw [e]
 by_cases hm : ß x = -1
 ·simp [hm]
 ·simp [hm, Ń]
  omega
theorem ÂI {l : List Nd} {x : Nd} (hx : Wf x) : Ŕ (l ++ [x]) = ÁI (Ŕ l) (ß x) := by
 have h1 := ĥ hx;unfold Ŕ ÁI
 have e : ĝ ((l ++ [x]).map ß) = (ĝ (l.map ß) || decide (ß x = -1)) := by
  rw [Ĕ, ÃH]
  congr 1
  exact ÀS h1.1
 rw [e, Ĕ, ÇI]
 cases h : ĝ (l.map ß) with
 | true => simp
 | false =>
  have h0 := (Ū (l := l.map ß)).1
  by_cases hm : ß x = -1
  ·simp [hm]
  ·simp only [Bool.false_or, hm, decide_false, Ċ, if_false, or_false]
   rw [if_neg (by omega)]
   simp [Ń];omega
theorem ÅS {x : Nd} (hx : Wf x) : ž [x] = Ĩ x := by
 have := (Ŋ hx).2;simp [ž];exact Äl this
theorem ÅT {x : Nd} (hx : Wf x) : ĩ [x] = Ç x := by
 have := (Ô hx).2;simp [ĩ];exact Äl this
theorem ÀE {x : Nd} (hx : Wf x) : ŀ [x] = ß x := by
 have := ĥ hx;have e : ĝ ([x].map ß) = decide (ß x = -1) := ÀS this.1;unfold ŀ;rw [e]
 by_cases hm : ß x = -1
 ·simp [hm]
 ·simp [hm, Às]
  omega
theorem ÃJ {l : List Nd} (h : ∀ x ∈ l, Wf x) : 0 ≤ Áh l ∧ Áh l ≤ far := by
 have := Áv (l := l.map Ĩ) (by
  intro y hy;obtain ⟨z, hz, rfl⟩ := List.mem_map.1 hy
  exact (Ŋ (h z hz)).1)
 exact ⟨this.1, this.2.1⟩
theorem ÃK {l : List Nd} (h : ∀ x ∈ l, Wf x) : -1 ≤ Ŕ l ∧ Ŕ l ≤ far := by
 unfold Ŕ;split
 ·simp [far]
 ·have := (Ū (l := l.map ß)).1
  have := ÄH (l := l.map ß) (b := far) (by simp [far]) (by
   intro y hy;obtain ⟨z, hz, rfl⟩ := List.mem_map.1 hy
   exact (ĥ (h z hz)).2)
  omega
end
section
open Go.Proofs.YtpginkdkblmnbaaGreatDoor.Cl
def ÇC : Nat → Nat → List UInt8 → List Nat
 | 0, _, _ => []
 | f + 1, p, s => if s = [] then [] else p :: ÇC f (p + (nx s).2) (s.drop (nx s).2)
def ats (p : Nat) (s : List UInt8) : List Nat := ÇC s.length p s
theorem ÂS (f p : Nat) : ÇC f p [] = [] := by cases f <;> simp [ÇC]
theorem ÊQ (f : Nat) : ∀ (g p : Nat) (s : List UInt8), s.length ≤ f → s.length ≤ g → ÇC f p s = ÇC g p s := by
 induction f with
 | zero =>
  intro g p s hf _
  obtain rfl : s = [] := ď (by omega)
  rw [ÂS, ÂS]
 | succ f ih =>
  intro g p s hf hg
  by_cases h : s = []
  ·subst h; rw [ÂS, ÂS]
  ·have hl := ń h
   cases g with
   | zero => omega
   | succ g =>
    have hk := Áe s h
    have hd : (s.drop (nx s).2).length ≤ f := by rw [ċ]; omega
    have hd' : (s.drop (nx s).2).length ≤ g := by rw [ċ]; omega
    simp only [ÇC, if_neg h, ih g _ _ hd hd']
theorem Êj (p : Nat) : ats p [] = [] := rfl
theorem ÁS (p : Nat) (s : List UInt8) (h : s ≠ []) : ats p s = p :: ats (p + (nx s).2) (s.drop (nx s).2) := by
 have hl := ń h;have hk := Áe s h;unfold ats
 obtain ⟨f, hf⟩ : ∃ f, s.length = f + 1 := ⟨s.length - 1, by omega⟩
 rw [hf];simp only [ÇC, if_neg h]
 rw [ÊQ f _ _ _ (by rw [ċ]; omega) (ŋ _)]
theorem ÂT (s : List UInt8) : ∀ p, (ats p s).length = (un s).length := by
 refine Æu (P := fun s => ∀ p, (ats p s).length = (un s).length) ?_ ?_ s
 ·intro p; rfl
 ·intro s h ih p
  rw [ÁS p s h, Àz s h, ć, ć, ih]
theorem ő {t : List UInt8} (h : t ≠ []) (hb : at_ t 0 < 128) : nx t = (at_ t 0, 1) := by
 have hl := ń h
 have hc : Äd (at_ t 0) := ⟨by omega, by omega⟩
 have he : ı (at_ t 0) = [at_ t 0] := by simp [ı, hb]
 have := Çn t (at_ t 0) hc (by rw [he]; simpa using hl) (by rw [he]; simp [tk])
 rw [this, he];rfl
theorem ÁT {t : List UInt8} (h : t ≠ []) (hb : 128 ≤ at_ t 0) : 128 ≤ (nx t).1 := by
 rcases ÁN t h with ⟨h1, h2, h3, h4⟩ | ⟨h1, _⟩
 ·by_cases hs : (nx t).1 < 128
  ·have he : ı (nx t).1 = [(nx t).1] := by simp [ı, hs]
   rw [h2, he] at h4;simp [tk] at h4;omega
  ·omega
 ·rw [h1]
  simp only;omega
def onN (t : List UInt8) (k : Nat) : Int := match (un t)[k]? with | some u => (u : Int) | none => -1
theorem Ãq (k : Nat) : onN [] k = -1 := by simp [onN, Ãn]
theorem ÀA {t : List UInt8} (h : t ≠ []) : onN t 0 = ((nx t).1 : Nat) := by unfold onN; rw [Àz t h]; rfl
theorem ÂU {t : List UInt8} (h : t ≠ []) (k : Nat) : onN t (k + 1) = onN (t.drop (nx t).2) k := by unfold onN; rw [Àz t h]; rfl
theorem ķ {t : List UInt8} {c : Nat} (h0 : 0 < c) (hc : c < 128) : onN t 0 = (c : Int) ↔ at_ t 0 = c := by
 by_cases h : t = []
 ·subst h
  rw [Ãq, ÂD];omega
 ·rw [ÀA h]
  by_cases hb : at_ t 0 < 128
  ·rw [ő h hb]
   simp only;omega
  ·have := ÁT h (by omega)
   omega
theorem ÄE {t : List UInt8} : onN t 0 < 0 ↔ t = [] := by
 by_cases h : t = []
 ·subst h; rw [Ãq]; simp
 ·rw [ÀA h]
  constructor
  ·intro hh; omega
  ·intro hh; exact absurd hh h
theorem ÄF (t : List UInt8) (k : Nat) : -1 ≤ onN t k ∧ onN t k ≤ 1114367 := by
 unfold onN;split
 ·rename_i u hu
  have hm := Č hu;have := ËU t u hm
  rcases this with ⟨h1, _⟩ | ⟨_, h2⟩ <;> omega
 ·omega
def Êk (w : List UInt8) (t : List UInt8) : Prop := ∀ k, k < w.length → onN t k = ((at_ w k : Nat) : Int)
theorem ÅO : ∀ (w t : List UInt8), (∀ x ∈ w, 0 < x.toNat ∧ x.toNat < 128) → (Êk w t ↔ pre w t = true)
 | [], t, _ => by simp [Êk, pre]
 | c :: w, t, hw => by
  have h1 := hw c (by simp)
  have ih := ÅO w (t.drop 1) (fun x hx => hw x (by simp [hx]))
  have hz : at_ (c :: w) 0 = c.toNat := rfl
  have hs : ∀ k, at_ (c :: w) (k + 1) = at_ w k := fun k => by simp [at_]
  by_cases ht : t = []
  ·subst ht
   constructor
   ·intro h
    have := h 0 (by simp)
    rw [Ãq, hz] at this;omega
   ·intro h; simp [pre] at h
  ·obtain ⟨b, r, rfl⟩ : ∃ b r, t = b :: r := by cases t with | nil => exact absurd rfl ht | cons b r => exact ⟨b, r, rfl⟩
   have hd : (b :: r).drop 1 = r := rfl;rw [hd] at ih;constructor
   ·intro h
    have h0 := h 0 (by simp)
    rw [hz] at h0;have hb := (ķ h1.1 h1.2).1 h0
    have hb' : b = c := by
     apply UInt8.toNat_inj.1;exact hb
    subst hb'
    have hn : nx (b :: r) = (b.toNat, 1) := ő ht (by show b.toNat < 128; omega)
    have : Êk w r := fun k hk => by
     have := h (k + 1) (by simpa using hk)
     rw [ÂU ht, hn, hs] at this;exact this
    have := ih.1 this;unfold pre at this ⊢;simp [List.isPrefixOf, this]
   ·intro h
    unfold pre at h;simp [List.isPrefixOf] at h;obtain ⟨rfl, h2⟩ := h
    have hn : nx (c :: r) = (c.toNat, 1) := ő ht (by show c.toNat < 128; omega)
    intro k hk
    cases k with
    | zero => rw [ÀA ht, hn]; rfl
    | succ k =>
     rw [ÂU ht, hn, hs]
     exact ih.2 (by unfold pre; simpa using h2) k (by simpa using hk)
structure Pos (s : List UInt8) (σ : St) (I : Nat) : Prop where
 suf : s.drop σ.pos = σ.t
 le : σ.pos ≤ s.length
 units : (un s).drop I = un σ.t
 begins : (ats 0 s).drop I = ats σ.pos σ.t
section
variable {s : List UInt8} {σ : St} {I : Nat}
theorem Pos.start (s : List UInt8) (g : Nat) (bk : List (Nat × Nat)) : Pos s { pos := 0, t := s, g := g, bk := bk } 0 := ⟨rfl, Ą _, rfl, rfl⟩
theorem Pos.next (h : Pos s σ I) (hn : σ.t ≠ []) : Pos s (σ.adv (nx σ.t).2) (I + 1) := by
 have hl := Áe σ.t hn
 have hlen : σ.t.length = s.length - σ.pos := by rw [← h.suf, ċ]
 refine ⟨?_, ?_, ?_, ?_⟩
 ·simp only [St.adv]; rw [← h.suf, List.drop_drop]
 ·simp only [St.adv]; have := h.le; omega
 ·simp only [St.adv]; rw [← List.drop_drop, h.units, Àz _ hn]; rfl
 ·simp only [St.adv]; rw [← List.drop_drop, h.begins, ÁS _ _ hn]; rfl
theorem Pos.small (h : Pos s σ I) (hn : σ.t ≠ []) (hb : at_ σ.t 0 < 128) : Pos s (σ.adv 1) (I + 1) := by
 have := h.next hn
 rwa [ő hn hb] at this
theorem Pos.on (h : Pos s σ I) (k : Nat) : (match (un s)[I + k]? with | some u => (u : Int) | none => -1) = onN σ.t k := by
 unfold onN;rw [← h.units, List.getElem?_drop]
theorem Pos.end_ (h : Pos s σ I) : σ.t = [] ↔ (un s).length ≤ I := by
 have hu := congrArg List.length h.units;rw [ċ] at hu;constructor
 ·intro e; rw [e, Ãn] at hu; simp at hu; omega
 ·intro hI
  by_cases hn : σ.t = []
  ·exact hn
  ·rw [Àz _ hn] at hu; simp at hu; omega
theorem Pos.at_ (h : Pos s σ I) (hn : σ.t ≠ []) : (ats 0 s)[I]? = some σ.pos := by
 have := congrArg (fun l : List Nat => l[0]?) h.begins
 simp only [List.getElem?_drop, Nat.add_zero] at this;rw [this, ÁS _ _ hn];rfl
theorem Pos.pos_end (h : Pos s σ I) (hn : σ.t = []) : σ.pos = s.length := by
 have := congrArg List.length h.suf;rw [ċ, hn] at this;simp at this;have := h.le;omega
theorem Pos.take : ∀ {w : List UInt8} {σ : St} {I : Nat}, Pos s σ I → (∀ x ∈ w, 0 < x.toNat ∧ x.toNat < 128) → pre w σ.t = true → Pos s (σ.adv w.length) (I + w.length)
 | [], σ, I, h, _, _ => by
  have : σ.adv 0 = σ := by simp [St.adv]
  simpa [this] using h
 | c :: w, σ, I, h, hw, hp => by
  have h1 := hw c (by simp)
  cases ht : σ.t with
  | nil => rw [ht] at hp; simp [pre] at hp
  | cons b r =>
   rw [ht] at hp;simp [pre, List.isPrefixOf] at hp;obtain ⟨rfl, h2⟩ := hp
   have hn : σ.t ≠ [] := by rw [ht]; simp
   have hs := h.small hn (by rw [ht]; exact h1.2)
   have h3 := Pos.take hs (fun x hx => hw x (by simp [hx])) (w := w) (by simp only [St.adv, ht]; simpa [pre] using h2)
   have e : (σ.adv 1).adv w.length = σ.adv (c :: w).length := by simp [St.adv, Nat.add_comm]; omega
   rw [e] at h3
   have e2 : I + 1 + w.length = I + (c :: w).length := by simp; omega
   rwa [e2] at h3
end
end
end Go.Proofs.YtpginkdkblmnbaaGreatDoor
