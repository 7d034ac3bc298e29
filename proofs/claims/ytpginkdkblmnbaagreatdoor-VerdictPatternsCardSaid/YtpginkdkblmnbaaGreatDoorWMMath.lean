import Derived.Test.YtpginkdkblmnbaaGreatDoorWH0
import Derived.Lib.DecodeNEq
import Derived.Lib.RuneBytes
namespace Go.Proofs.YtpginkdkblmnbaaGreatDoor
section
open Go.Lib
def ŀ (c : Nat) : List Nat :=
 if c < 128 then [c] else if c < 2048 then [192 + c / 64, 128 + c % 64] else if c < 65536 then [224 + c / 4096, 128 + c / 64 % 64, 128 + c % 64]
 else [240 + c / 262144, 128 + c / 4096 % 64, 128 + c / 64 % 64, 128 + c % 64]
def Åe (c : Nat) : Prop := c ≤ 1114111 ∧ (c < 55296 ∨ 57343 < c)
instance (c : Nat) : Decidable (Åe c) := by unfold Åe; infer_instance
def ÇM (u : Nat) : Prop := 1114240 ≤ u ∧ u ≤ 1114367
def at_ (s : List UInt8) (i : Nat) : Nat := (s.getD i 0).toNat
theorem ŷ (s : List UInt8) (i : Nat) : at_ s i < 256 := (s.getD i 0).toNat_lt
theorem Ãl {s : List UInt8} {i : Nat} (h : s.length ≤ i) : at_ s i = 0 := by simp [at_, List.getD_eq_getElem?_getD, List.getElem?_eq_none h]
theorem ÍD {a t : List UInt8} {i : Nat} (h : i < a.length) : at_ (a ++ t) i = at_ a i := by simp [at_, List.getD_eq_getElem?_getD, List.getElem?_append_left h]
theorem ÍE {a t : List UInt8} {i : Nat} (h : a.length ≤ i) : at_ (a ++ t) i = at_ t (i - a.length) := by simp [at_, List.getD_eq_getElem?_getD, List.getElem?_append_right h]
theorem Àl (s : List UInt8) (k i : Nat) : at_ (s.drop k) i = at_ s (k + i) := by simp [at_, List.getD_eq_getElem?_getD]
theorem Ïk (b : UInt8) (t : List UInt8) : at_ (b :: t) 0 = b.toNat := rfl
def dec (s : List UInt8) : Nat × Nat := decodeN s.length (at_ s 0) (at_ s 1) (at_ s 2) (at_ s 3)
def nx (s : List UInt8) : Nat × Nat := if dec s = (65533, 1) then (1114112 + at_ s 0, 1) else dec s
def toB (l : List Nat) : List UInt8 := l.map Nat.toUInt8
theorem ÍF (c : Nat) : 1 ≤ (ŀ c).length ∧ (ŀ c).length ≤ 4 := by
 unfold ŀ; repeat' split
 all_goals simp
def tk (s : List UInt8) (k : Nat) : List Nat := (List.range k).map (at_ s)
theorem Êi {s : List UInt8} {k : Nat} {l : List Nat} (hk : k ≤ s.length) (h : tk s k = l) : s.take k = toB l := by
 subst h;apply List.ext_getElem
 ·simp [toB, tk, hk]
 ·intro i h1 h2
  have hi : i < s.length := by simp at h1; omega
  simp [toB, tk, at_, List.getD_eq_getElem?_getD, hi]
set_option maxRecDepth 100000 in
set_option maxHeartbeats 4000000 in
theorem Âr (s : List UInt8) (h : s ≠ []) :
 (Åe (nx s).1 ∧ (nx s).2 = (ŀ (nx s).1).length ∧ (nx s).2 ≤ s.length ∧ tk s (nx s).2 = ŀ (nx s).1) ∨
 ((nx s) = (1114112 + at_ s 0, 1) ∧ 128 ≤ at_ s 0 ∧ dec s = (65533, 1)) := by
 have hl : 1 ≤ s.length := by cases s with | nil => exact absurd rfl h | cons => simp
 have b0 := ŷ s 0;have b1 := ŷ s 1;have b2 := ŷ s 2;have b3 := ŷ s 3;unfold nx
 by_cases hd : dec s = (65533, 1)
 ·rw [if_pos hd]
  refine .inr ⟨rfl, ?_, hd⟩;unfold dec decodeN at hd
  by_cases h0 : at_ s 0 < 128
  ·rw [if_pos h0] at hd
   simp only [Prod.mk.injEq] at hd;omega
  ·omega
 ·rw [if_neg hd]
  refine .inl ?_
  revert hd
  unfold dec decodeN
  by_cases h0 : at_ s 0 < 128
  ·rw [if_pos h0]
   intro _
   refine ⟨⟨by simp only; omega, by simp only; omega⟩, ?_, ?_, ?_⟩
   ·simp [ŀ, h0]
   ·simpa using hl
   ·simp [ŀ, h0, tk]
  ·rw [if_neg h0]
   by_cases h1 : at_ s 0 / 32 = 6 ∧ (1 < s.length ∧ at_ s 1 / 64 = 2)
   ·rw [if_pos h1]
    by_cases h2 : at_ s 0 % 32 * 64 + at_ s 1 % 64 ≥ 128
    ·rw [if_pos h2]
     intro _
     have e1 : ¬ at_ s 0 % 32 * 64 + at_ s 1 % 64 < 128 := by omega
     have e2 : at_ s 0 % 32 * 64 + at_ s 1 % 64 < 2048 := by omega
     refine ⟨⟨by simp only; omega, by simp only; omega⟩, ?_, ?_, ?_⟩
     ·simp only [ŀ, if_neg e1, if_pos e2]; rfl
     ·simp only; omega
     ·simp only [ŀ, if_neg e1, if_pos e2, tk, List.range_succ, List.range_zero, List.nil_append, List.cons_append, List.map_cons, List.map_nil, List.cons.injEq, and_true]
      omega
    ·rw [if_neg h2]
     intro hd;exact absurd rfl hd
   ·rw [if_neg h1]
    by_cases h3 : at_ s 0 / 16 = 14 ∧ (1 < s.length ∧ at_ s 1 / 64 = 2) ∧ (2 < s.length ∧ at_ s 2 / 64 = 2)
    ·rw [if_pos h3]
     split
     ·rename_i h4
      intro _
      have e1 : ¬ at_ s 0 % 16 * 4096 + at_ s 1 % 64 * 64 + at_ s 2 % 64 < 128 := by omega
      have e2 : ¬ at_ s 0 % 16 * 4096 + at_ s 1 % 64 * 64 + at_ s 2 % 64 < 2048 := by omega
      have e3 : at_ s 0 % 16 * 4096 + at_ s 1 % 64 * 64 + at_ s 2 % 64 < 65536 := by omega
      refine ⟨⟨by simp only; omega, by simp only; omega⟩, ?_, ?_, ?_⟩
      ·simp only [ŀ, if_neg e1, if_neg e2, if_pos e3]; rfl
      ·simp only; omega
      ·simp only [ŀ, if_neg e1, if_neg e2, if_pos e3, tk, List.range_succ, List.range_zero, List.nil_append, List.cons_append, List.map_cons, List.map_nil, List.cons.injEq, and_true]
       omega
     ·intro hd
      exact absurd rfl hd
    ·rw [if_neg h3]
     by_cases h5 : at_ s 0 / 8 = 30 ∧ (1 < s.length ∧ at_ s 1 / 64 = 2) ∧ (2 < s.length ∧ at_ s 2 / 64 = 2) ∧ (3 < s.length ∧ at_ s 3 / 64 = 2)
     ·rw [if_pos h5]
      split
      ·rename_i h4
       intro _
       have e1 : ¬ at_ s 0 % 8 * 262144 + at_ s 1 % 64 * 4096 + at_ s 2 % 64 * 64 + at_ s 3 % 64 < 128 := by omega
       have e2 : ¬ at_ s 0 % 8 * 262144 + at_ s 1 % 64 * 4096 + at_ s 2 % 64 * 64 + at_ s 3 % 64 < 2048 := by omega
       have e3 : ¬ at_ s 0 % 8 * 262144 + at_ s 1 % 64 * 4096 + at_ s 2 % 64 * 64 + at_ s 3 % 64 < 65536 := by omega
       refine ⟨⟨by simp only; omega, by simp only; omega⟩, ?_, ?_, ?_⟩
       ·simp only [ŀ, if_neg e1, if_neg e2, if_neg e3]; rfl
       ·simp only; omega
       ·simp only [ŀ, if_neg e1, if_neg e2, if_neg e3, tk, List.range_succ, List.range_zero, List.nil_append, List.cons_append, List.map_cons, List.map_nil, List.cons.injEq, and_true]
        omega
      ·intro hd
       exact absurd rfl hd
     ·rw [if_neg h5]
      intro hd;exact absurd rfl hd
set_option maxRecDepth 100000 in
set_option maxHeartbeats 4000000 in
theorem ÈH (s : List UInt8) (c : Nat) (hc : Åe c) (hl : (ŀ c).length ≤ s.length) (h : tk s (ŀ c).length = ŀ c) : nx s = (c, (ŀ c).length) := by
 obtain ⟨c1, c2⟩ := hc;have b0 := ŷ s 0
 have hd : dec s = (c, (ŀ c).length) ∧ (c, (ŀ c).length) ≠ ((65533, 1) : Nat × Nat) := by
  unfold dec decodeN;unfold ŀ at h hl ⊢
  by_cases e1 : c < 128
  ·rw [if_pos e1] at h hl ⊢
   simp [tk, List.range_succ] at h
   rw [if_pos (by omega), h]
   refine ⟨rfl, ?_⟩;simp; omega
  ·rw [if_neg e1] at h hl ⊢
   by_cases e2 : c < 2048
   ·rw [if_pos e2] at h hl ⊢
    simp [tk, List.range_succ] at h hl;obtain ⟨h0, h1⟩ := h
    rw [if_neg (by omega), if_pos (by omega), if_pos (by omega)]
    refine ⟨?_, by simp⟩
    apply Prod.ext
    ·simp only; omega
    ·rfl
   ·rw [if_neg e2] at h hl ⊢
    by_cases e3 : c < 65536
    ·rw [if_pos e3] at h hl ⊢
     simp [tk, List.range_succ] at h hl;obtain ⟨h0, h1, h2⟩ := h
     rw [if_neg (by omega), if_neg (by omega), if_pos (by omega), if_pos (by omega)]
     refine ⟨?_, by simp⟩
     apply Prod.ext
     ·simp only; omega
     ·rfl
    ·rw [if_neg e3] at h hl ⊢
     simp [tk, List.range_succ] at h hl;obtain ⟨h0, h1, h2, h3⟩ := h
     rw [if_neg (by omega), if_neg (by omega), if_neg (by omega), if_pos (by omega), if_pos (by omega)]
     refine ⟨?_, by simp⟩
     apply Prod.ext
     ·simp only; omega
     ·rfl
 unfold nx;rw [hd.1, if_neg hd.2]
theorem ÁJ (s : List UInt8) (h : s ≠ []) : 1 ≤ (nx s).2 ∧ (nx s).2 ≤ 4 ∧ (nx s).2 ≤ s.length := by
 have hl : 1 ≤ s.length := by cases s with | nil => exact absurd rfl h | cons => simp
 rcases Âr s h with ⟨_, h2, h3, _⟩ | ⟨h1, _⟩
 ·have := ÍF (nx s).1
  omega
 ·rw [h1]; simp; omega
def unF : Nat → List UInt8 → List Nat
 | 0, _ => []
 | f + 1, s => if s = [] then [] else (nx s).1 :: unF f (s.drop (nx s).2)
def un (s : List UInt8) : List Nat := unF s.length s
theorem Åk (f : Nat) : unF f [] = [] := by cases f <;> simp [unF]
theorem ÍG (f : Nat) : ∀ (g : Nat) (s : List UInt8), s.length ≤ f → s.length ≤ g → unF f s = unF g s := by
 induction f with
 | zero =>
  intro g s hf _
  obtain rfl : s = [] := ď (by omega)
  rw [Åk, Åk]
 | succ f ih =>
  intro g s hf hg
  by_cases h : s = []
  ·subst h; rw [Åk, Åk]
  ·have hl : 1 ≤ s.length := by cases s with | nil => exact absurd rfl h | cons => simp
   cases g with
   | zero => omega
   | succ g =>
    have hk := ÁJ s h
    have hd : (s.drop (nx s).2).length ≤ f := by rw [ċ]; omega
    have hd' : (s.drop (nx s).2).length ≤ g := by rw [ċ]; omega
    simp only [unF, if_neg h, ih g _ hd hd']
theorem Äh : un [] = [] := rfl
theorem ÀT (s : List UInt8) (h : s ≠ []) : un s = (nx s).1 :: un (s.drop (nx s).2) := by
 have hl : 1 ≤ s.length := by cases s with | nil => exact absurd rfl h | cons => simp
 have hk := ÁJ s h;unfold un
 obtain ⟨f, hf⟩ : ∃ f, s.length = f + 1 := ⟨s.length - 1, by omega⟩
 rw [hf];simp only [unF, if_neg h]
 rw [ÍG f _ _ (by rw [ċ]; omega) (ŋ _)]
theorem ÇN {P : List UInt8 → Prop} (h0 : P []) (h1 : ∀ s, s ≠ [] → P (s.drop (nx s).2) → P s) : ∀ s, P s := by
 have : ∀ n (s : List UInt8), s.length ≤ n → P s := by
  intro n
  induction n with
  | zero => intro s hs; obtain rfl : s = [] := ď (by omega); exact h0
  | succ n ih =>
   intro s hs
   by_cases h : s = []
   ·subst h; exact h0
   ·have hk := ÁJ s h
    exact h1 s h (ih _ (by rw [ċ]; omega))
 exact fun s => this s.length s (ŋ _)
theorem ÈI (s : List UInt8) (h : s ≠ []) : Åe (nx s).1 ∨ ÇM (nx s).1 := by
 have b0 := ŷ s 0
 rcases Âr s h with ⟨h1, _⟩ | ⟨h1, h2, _⟩
 ·exact .inl h1
 ·rw [h1]; exact .inr ⟨by simp only; omega, by simp only; omega⟩
theorem ÍH (s : List UInt8) : ∀ u ∈ un s, Åe u ∨ ÇM u := by
 refine ÇN (P := fun s => ∀ u ∈ un s, Åe u ∨ ÇM u) (by simp [Äh]) (fun s hs ih => ?_) s
 rw [ÀT s hs];intro u hu
 rcases List.mem_cons.1 hu with rfl | hu
 ·exact ÈI s hs
 ·exact ih u hu
theorem ÆU (c : Nat) (hc : c ≤ 1114111) : ∀ x ∈ ŀ c, x < 256 := by
 intro x hx;unfold ŀ at hx
 repeat' split at hx
 all_goals simp at hx; omega
end
namespace Cl
abbrev Rg := Int × Int
def Rt (r : Rg) : Prop := 0 ≤ r.1 ∧ r.1 ≤ r.2 ∧ r.2 ≤ 1114367
def Àx (r : Rg) : Bool := decide (0 ≤ r.1 ∧ r.1 ≤ r.2 ∧ r.2 ≤ 1114367)
theorem Áh (r : Rg) : Àx r = true ↔ Rt r := by simp [Àx, Rt]
def inB (r : Rg) (u : Int) : Bool := decide (r.1 ≤ u ∧ u ≤ r.2)
def ũ (l : List Rg) (u : Int) : Bool := l.any fun r => inB r u
theorem ÈJ (u : Int) : ũ [] u = false := rfl
theorem Į (r : Rg) (l : List Rg) (u : Int) : ũ (r :: l) u = (inB r u || ũ l u) := rfl
theorem ÈK (a b : List Rg) (u : Int) : ũ (a ++ b) u = (ũ a u || ũ b u) := by simp [ũ]
theorem Åu (l : List Rg) (u : Int) : ũ l u = true ↔ ∃ r ∈ l, r.1 ≤ u ∧ u ≤ r.2 := by simp [ũ, inB]
theorem Áu (r : Rg) (u : Int) : inB r u = true ↔ r.1 ≤ u ∧ u ≤ r.2 := by simp [inB]
theorem Äi {a b : List Rg} (h : a.Perm b) (u : Int) : ũ a u = ũ b u := by
 rw [Bool.eq_iff_iff, Åu, Åu]
 exact ⟨fun ⟨r, hr, hu⟩ => ⟨r, h.mem_iff.1 hr, hu⟩, fun ⟨r, hr, hu⟩ => ⟨r, h.mem_iff.2 hr, hu⟩⟩
def Ĩ (l : List Rg) : Prop := (∀ r ∈ l, Rt r) ∧ l.Pairwise fun a b => a.2 + 2 ≤ b.1
theorem ż : Ĩ [] := ⟨by simp, List.Pairwise.nil⟩
theorem ĥ {r : Rg} {l : List Rg} : Ĩ (r :: l) ↔ Rt r ∧ (∀ s ∈ l, r.2 + 2 ≤ s.1) ∧ Ĩ l := by
 simp only [Ĩ, ė, forall_eq_or_imp, List.pairwise_cons]
 exact ⟨fun ⟨⟨a, b⟩, c, d⟩ => ⟨a, c, b, d⟩, fun ⟨a, c, b, d⟩ => ⟨⟨a, b⟩, c, d⟩⟩
def Åv (l : List Rg) (k : Nat) : Prop := ∀ r, l[k]? = some r → Rt r ∧ ∀ s, 0 < k → l[k - 1]? = some s → s.2 + 2 ≤ r.1
theorem Åw {r : Rg} {l : List Rg} (h : ∀ k, Åv (r :: l) k) : ∀ k, Åv l k := by
 intro k x hx
 have := h (k + 1) x (by simpa using hx)
 refine ⟨this.1, fun s hk hs => this.2 s (by omega) ?_⟩
 obtain ⟨m, rfl⟩ : ∃ m, k = m + 1 := ⟨k - 1, by omega⟩
 simpa using hs
theorem Åx : ∀ (l : List Rg), (∀ k, Åv l k) → Ĩ l
 | [], _ => ż
 | r :: l, h => by
  have hl := Åx l (Åw h);have hr := (h 0 r rfl).1;refine ĥ.2 ⟨hr, ?_, hl⟩
  match l, h, hl with
  | [], _, _ => simp
  | s :: t, h, hl =>
   have h1 := (h 1 s rfl).2 r (by omega) rfl
   have h2 := ĥ.1 hl;intro x hx
   rcases List.mem_cons.1 hx with rfl | hx
   ·exact h1
   ·have := h2.2.1 x hx
    have := h2.1;unfold Rt at this;omega
theorem Ãm : ∀ {l : List Rg}, Ĩ l → ∀ k, Åv l k
 | [], _, k => by intro r h; simp at h
 | r :: l, h, k => by
  obtain ⟨h1, h2, h3⟩ := ĥ.1 h;intro x hx
  match k, hx with
  | 0, hx =>
   simp at hx;subst hx
   exact ⟨h1, fun s h => absurd h (by omega)⟩
  | k + 1, hx =>
   simp at hx;have hk := Ãm h3 k x hx
   refine ⟨hk.1, fun s _ hs => ?_⟩
   match k, hs, hx with
   | 0, hs, hx =>
    simp at hs;subst hs;exact h2 x (Č hx)
   | k + 1, hs, hx =>
    simp at hs
    exact hk.2 s (by omega) (by simpa using hs)
open Classical in
noncomputable def ÈL (l : List Rg) : Bool := decide (Ĩ l)
theorem Ãn {l : List Rg} (h : Ĩ l) : ÈL l = true := by simp [ÈL, h]
theorem ÄC {l : List Rg} (h : ¬ Ĩ l) : ÈL l = false := by simp [ÈL, h]
theorem ÁK {r : Rg} {l : List Rg} {u : Int} (h : Ĩ (r :: l)) (hu : ũ l u = true) : r.2 + 2 ≤ u := by
 obtain ⟨s, hs, hu⟩ := (Åu _ _).1 hu;have := (ĥ.1 h).2.1 s hs;omega
theorem Åy {r : Rg} {l : List Rg} {u : Int} (h : Ĩ (r :: l)) (hu : ũ (r :: l) u = true) : r.1 ≤ u := by
 rw [Į, Bool.or_eq_true, Áu] at hu;have h1 := (ĥ.1 h).1;unfold Rt at h1
 rcases hu with hu | hu
 ·omega
 ·have := ÁK h hu
  omega
theorem Àm {r : Rg} {l : List Rg} (h : Ĩ (r :: l)) : ũ (r :: l) r.1 = true ∧ ũ (r :: l) r.2 = true := by
 have h1 := (ĥ.1 h).1;unfold Rt at h1;rw [Į, Į];simp [inB];omega
theorem ÈM : ∀ {a b : List Rg}, Ĩ a → Ĩ b → (∀ u, ũ a u = ũ b u) → a = b
 | [], [], _, _, _ => rfl
 | [], s :: b, _, hb, h => by have := h s.1; rw [(Àm hb).1, ÈJ] at this; cases this
 | r :: a, [], ha, _, h => by have := h r.1; rw [(Àm ha).1, ÈJ] at this; cases this
 | r :: a, s :: b, ha, hb, h => by
  have ra := (ĥ.1 ha).1;have rb := (ĥ.1 hb).1;unfold Rt at ra rb
  have h1 : s.1 ≤ r.1 := Åy hb (by rw [← h]; exact (Àm ha).1)
  have h2 : r.1 ≤ s.1 := Åy ha (by rw [h]; exact (Àm hb).1)
  have h3 : s.2 ≤ r.2 := by
   refine Decidable.byContradiction fun hn => ?_
   have := h (r.2 + 1)
   rw [Į s, (Áu s _).2 (by omega), Bool.true_or, Į, Bool.or_eq_true, Áu] at this
   rcases this with this | this
   ·omega
   ·have := ÁK ha this
    omega
  have h4 : r.2 ≤ s.2 := by
   refine Decidable.byContradiction fun hn => ?_
   have := h (s.2 + 1)
   rw [Į r, (Áu r _).2 (by omega), Bool.true_or, eq_comm, Į, Bool.or_eq_true, Áu] at this
   rcases this with this | this
   ·omega
   ·have := ÁK hb this
    omega
  obtain rfl : r = s := Prod.ext (by omega) (by omega)
  have := ÈM (ĥ.1 ha).2.2 (ĥ.1 hb).2.2 (fun u => by
   have hu := h u;rw [Į, Į] at hu
   by_cases hi : inB r u = true
   ·rw [Áu] at hi
    have e1 : ũ a u = false := Bool.eq_false_iff.2 fun e => by have := ÁK ha e; omega
    have e2 : ũ b u = false := Bool.eq_false_iff.2 fun e => by have := ÁK hb e; omega
    rw [e1, e2]
   ·rw [Bool.not_eq_true] at hi
    simpa [hi] using hu)
  rw [this]
def cnt (p : Int → Bool) : Nat → Int
 | 0 => 0
 | n + 1 => cnt p n + if p (n : Int) then 1 else 0
def ò : Int → List Rg → List Rg
 | from_, [] => if from_ ≤ 1114367 then [(from_, 1114367)] else []
 | from_, r :: l => (if from_ < r.1 then [(from_, r.1 - 1)] else []) ++ ò (r.2 + 1) l
theorem ÇO : ∀ (l : List Rg) (f : Int), 0 ≤ f → Ĩ l → (∀ r ∈ l, f ≤ r.1) →
 Ĩ (ò f l) ∧ (∀ g ∈ ò f l, f ≤ g.1) ∧ ∀ u, ũ (ò f l) u = (decide (f ≤ u ∧ u ≤ 1114367) && !ũ l u)
 | [], f, h0, _, _ => by
  unfold ò;split
  ·refine ⟨ĥ.2 ⟨by unfold Rt; simp only; omega, by simp, ż⟩, by simp, fun u => ?_⟩
   simp [ũ, inB]
  ·refine ⟨ż, by simp, fun u => ?_⟩
   simp [ũ];omega
 | r :: l, f, h0, hn, hf => by
  obtain ⟨h1, h2, h3⟩ := ĥ.1 hn;have hr := hf r (List.mem_cons_self ..);unfold Rt at h1
  obtain ⟨g1, g2, g3⟩ := ÇO l (r.2 + 1) (by omega) h3 (fun s hs => by have := h2 s hs; omega)
  have hh : ∀ u, ũ (ò f (r :: l)) u = (decide (f ≤ u ∧ u ≤ 1114367) && !ũ (r :: l) u) := by
   intro u;rw [ò, ÈK, g3, Į];have hlow : ũ l u = true → r.2 + 2 ≤ u := ÁK hn;rw [Bool.eq_iff_iff]
   by_cases hu : ũ l u = true
   ·have := hlow hu
    split <;> simp [ũ, inB] at * <;> grind
   ·rw [Bool.not_eq_true] at hu
    simp only [hu, Bool.not_false, Bool.and_true, Bool.or_false]
    split <;> simp [ũ, inB] <;> omega
  refine ⟨?_, ?_, hh⟩
  ·rw [ò]
   split
   ·exact ĥ.2 ⟨by unfold Rt; simp only; omega, fun s hs => by have := g2 s hs; simp only; omega, g1⟩
   ·exact g1
  ·intro g hg
   rw [ò, Ė] at hg
   rcases hg with hg | hg
   ·split at hg
    ·simp at hg
     subst hg;simp
    ·simp at hg
   ·have := g2 g hg
    omega
theorem gaps_len : ∀ (l : List Rg) (f : Int), (ò f l).length ≤ l.length + 1
 | [], f => by unfold ò; split <;> simp
 | r :: l, f => by
  have := gaps_len l (r.2 + 1);rw [ò]
  split <;> simp <;> omega
def shr (r s : Rg) : Rg := (max r.1 s.1, min r.2 s.2)
def Àe : Rg → List Rg → List Rg
 | r, [] => [r]
 | r, n :: t => if r.2 + 1 < n.1 then r :: Àe n t else Àe (r.1, max r.2 n.2) t
def Î : List Rg → List Rg
 | [] => []
 | r :: t => Àe r t
theorem Åz : ∀ (t : List Rg) (r : Rg), Rt r → (∀ x ∈ t, Rt x) → (∀ x ∈ t, r.1 ≤ x.1) → t.Pairwise (fun a b => a.1 ≤ b.1) →
 Ĩ (Àe r t) ∧ (∀ g ∈ Àe r t, r.1 ≤ g.1) ∧ ∀ u, ũ (Àe r t) u = (inB r u || ũ t u)
 | [], r, hr, _, _, _ => ⟨ĥ.2 ⟨hr, by simp, ż⟩, by simp [Àe], fun u => by simp [Àe, ũ]⟩
 | n :: t, r, hr, ht, hs, hp => by
  have hn := ht n (List.mem_cons_self ..);have hrn := hs n (List.mem_cons_self ..);rw [List.pairwise_cons] at hp;rw [Àe];split
  ·rename_i hlt
   obtain ⟨a, b, c⟩ := Åz t n hn (fun x hx => ht x (List.mem_cons_of_mem _ hx)) hp.1 hp.2
   refine ⟨ĥ.2 ⟨hr, fun x hx => by have := b x hx; omega, a⟩, fun g hg => ?_, fun u => by rw [Į, c, Į]⟩
   rcases List.mem_cons.1 hg with rfl | hg
   ·omega
   ·have := b g hg
    omega
  ·rename_i hlt
   obtain ⟨a, b, c⟩ := Åz t (r.1, max r.2 n.2) (by unfold Rt at *; simp only; omega) (fun x hx => ht x (List.mem_cons_of_mem _ hx)) (fun x hx => by have := hp.1 x hx; simp only; omega) hp.2
   refine ⟨a, b, fun u => ?_⟩
   rw [c, Į, ← Bool.or_assoc]
   congr 1
   rw [Bool.eq_iff_iff];unfold Rt at *;simp [inB];omega
theorem Áv (l : List Rg) (hr : ∀ x ∈ l, Rt x) (hp : l.Pairwise fun a b => a.1 ≤ b.1) : Ĩ (Î l) ∧ ∀ u, ũ (Î l) u = ũ l u := by
 match l, hr, hp with
 | [], _, _ => exact ⟨ż, fun _ => rfl⟩
 | r :: t, hr, hp =>
  rw [List.pairwise_cons] at hp
  obtain ⟨a, _, c⟩ := Åz t r (hr r (List.mem_cons_self ..)) (fun x hx => hr x (List.mem_cons_of_mem _ hx)) hp.1 hp.2
  exact ⟨a, fun u => by rw [Î, c, Į]⟩
theorem Äj : ∀ (t : List Rg) (r : Rg), (Àe r t).length ≤ t.length + 1
 | [], r => by simp [Àe]
 | n :: t, r => by
  have h1 := Äj t n;have h2 := Äj t (r.1, max r.2 n.2);rw [Àe]
  split <;> simp <;> omega
theorem ÃE (l : List Rg) : (Î l).length ≤ l.length := by
 cases l with
 | nil => simp [Î]
 | cons r t => simpa [Î] using Äj t r
def tw (u : Int) : Int := if 97 ≤ u ∧ u ≤ 122 then u - 32 else if 65 ≤ u ∧ u ≤ 90 then u + 32 else u
def Ãd (r s : Rg) : List Rg := if (shr r s).1 ≤ (shr r s).2 then [(tw (shr r s).1, tw (shr r s).2)] else []
def Êj : Rg := (97, 122)
def ÍI : Rg := (65, 90)
def ÃF (r : Rg) : List Rg := Ãd r Êj ++ Ãd r ÍI
theorem Äk (r s : Rg) : (Ãd r s).length ≤ 1 := by unfold Ãd; split <;> simp
theorem ÆV (r : Rg) : (ÃF r).length ≤ 2 := by
 have h1 := Äk r Êj;have h2 := Äk r ÍI;unfold ÃF;simp only [ă];omega
theorem ÄD (r s : Rg) (h : s = Êj ∨ s = ÍI) : ∀ x ∈ Ãd r s, Rt x := by
 intro x hx;unfold Ãd at hx;split at hx
 ·rename_i hle
  obtain rfl : x = _ := List.mem_singleton.1 hx;unfold Rt tw shr at *;simp only at *
  rcases h with rfl | rfl
  all_goals
   simp only [Êj, ÍI] at *
   repeat' split
   all_goals omega
 ·simp at hx
theorem ÈN (r : Rg) : ∀ x ∈ ÃF r, Rt x := by
 intro x hx;unfold ÃF at hx;rw [Ė] at hx
 rcases hx with hx | hx
 ·exact ÄD r _ (.inl rfl) x hx
 ·exact ÄD r _ (.inr rfl) x hx
def Àn (l : List Rg) : List Rg := l.flatMap ÃF
theorem Êk (l : List Rg) (r : Rg) : Àn (l ++ [r]) = Àn l ++ ÃF r := by simp [Àn]
theorem Äl : ∀ (l : List Rg), (Àn l).length ≤ 2 * l.length
 | [] => by simp [Àn]
 | r :: l => by
  have h1 := Äl l;have h2 := ÆV r;simp only [Àn, List.flatMap_cons, ă, ć] at *;omega
theorem ÈO (l : List Rg) : ∀ x ∈ Àn l, Rt x := by
 intro x hx;obtain ⟨r, _, hx⟩ := List.mem_flatMap.1 hx;exact ÈN r x hx
end Cl
end Go.Proofs.YtpginkdkblmnbaaGreatDoor
