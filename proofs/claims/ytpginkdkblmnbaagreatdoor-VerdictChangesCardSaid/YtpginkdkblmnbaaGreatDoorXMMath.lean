import Derived.Test.YtpginkdkblmnbaaGreatDoorXH0
import Derived.Lib.DecodeNEq
import Derived.Lib.RuneBytes
namespace Go.Proofs.YtpginkdkblmnbaaGreatDoor
section
open Go.Lib
def ı (c : Nat) : List Nat :=
 if c < 128 then [c] else if c < 2048 then [192 + c / 64, 128 + c % 64] else if c < 65536 then [224 + c / 4096, 128 + c / 64 % 64, 128 + c % 64]
 else [240 + c / 262144, 128 + c / 4096 % 64, 128 + c / 64 % 64, 128 + c % 64]
def Äd (c : Nat) : Prop := c ≤ 1114111 ∧ (c < 55296 ∨ 57343 < c)
instance (c : Nat) : Decidable (Äd c) := by unfold Äd; infer_instance
def Æt (u : Nat) : Prop := 1114240 ≤ u ∧ u ≤ 1114367
def at_ (s : List UInt8) (i : Nat) : Nat := (s.getD i 0).toNat
theorem Ť (s : List UInt8) (i : Nat) : at_ s i < 256 := (s.getD i 0).toNat_lt
theorem ÂC {s : List UInt8} {i : Nat} (h : s.length ≤ i) : at_ s i = 0 := by simp [at_, List.getD_eq_getElem?_getD, List.getElem?_eq_none h]
theorem ËQ {a t : List UInt8} {i : Nat} (h : i < a.length) : at_ (a ++ t) i = at_ a i := by simp [at_, List.getD_eq_getElem?_getD, List.getElem?_append_left h]
theorem ËR {a t : List UInt8} {i : Nat} (h : a.length ≤ i) : at_ (a ++ t) i = at_ t (i - a.length) := by simp [at_, List.getD_eq_getElem?_getD, List.getElem?_append_right h]
theorem Ż (s : List UInt8) (k i : Nat) : at_ (s.drop k) i = at_ s (k + i) := by simp [at_, List.getD_eq_getElem?_getD]
theorem Ío (b : UInt8) (t : List UInt8) : at_ (b :: t) 0 = b.toNat := rfl
def dec (s : List UInt8) : Nat × Nat := decodeN s.length (at_ s 0) (at_ s 1) (at_ s 2) (at_ s 3)
def nx (s : List UInt8) : Nat × Nat := if dec s = (65533, 1) then (1114112 + at_ s 0, 1) else dec s
def toB (l : List Nat) : List UInt8 := l.map Nat.toUInt8
theorem ËS (c : Nat) : 1 ≤ (ı c).length ∧ (ı c).length ≤ 4 := by
 unfold ı; repeat' split
 all_goals simp
def tk (s : List UInt8) (k : Nat) : List Nat := (List.range k).map (at_ s)
theorem ÈA {s : List UInt8} {k : Nat} {l : List Nat} (hk : k ≤ s.length) (h : tk s k = l) : s.take k = toB l := by
 subst h;apply List.ext_getElem
 ·simp [toB, tk, hk]
 ·intro i h1 h2
  have hi : i < s.length := by simp at h1; omega
  simp [toB, tk, at_, List.getD_eq_getElem?_getD, hi]
set_option maxRecDepth 100000 in
set_option maxHeartbeats 4000000 in
theorem ÁN (s : List UInt8) (h : s ≠ []) :
 (Äd (nx s).1 ∧ (nx s).2 = (ı (nx s).1).length ∧ (nx s).2 ≤ s.length ∧ tk s (nx s).2 = ı (nx s).1) ∨
 ((nx s) = (1114112 + at_ s 0, 1) ∧ 128 ≤ at_ s 0 ∧ dec s = (65533, 1)) := by
 have hl : 1 ≤ s.length := by cases s with | nil => exact absurd rfl h | cons => simp
 have b0 := Ť s 0;have b1 := Ť s 1;have b2 := Ť s 2;have b3 := Ť s 3;unfold nx
 by_cases hd : dec s = (65533, 1)
 ·rw [if_pos hd]
  refine .inr ⟨rfl, ?_, hd⟩;unfold dec decodeN at hd
  by_cases h0 : at_ s 0 < 128
  ·rw [if_pos h0] at hd
   simp only [Prod.mk.injEq] at hd;omega
  ·omega
 ·rw [if_neg hd]
  refine .inl ?_
  revert hd
  unfold dec decodeN
  by_cases h0 : at_ s 0 < 128
  ·rw [if_pos h0]
   intro _
   refine ⟨⟨by simp only; omega, by simp only; omega⟩, ?_, ?_, ?_⟩
   ·simp [ı, h0]
   ·simpa using hl
   ·simp [ı, h0, tk]
  ·rw [if_neg h0]
   by_cases h1 : at_ s 0 / 32 = 6 ∧ (1 < s.length ∧ at_ s 1 / 64 = 2)
   ·rw [if_pos h1]
    by_cases h2 : at_ s 0 % 32 * 64 + at_ s 1 % 64 ≥ 128
    ·rw [if_pos h2]
     intro _
     have e1 : ¬ at_ s 0 % 32 * 64 + at_ s 1 % 64 < 128 := by omega
     have e2 : at_ s 0 % 32 * 64 + at_ s 1 % 64 < 2048 := by omega
     refine ⟨⟨by simp only; omega, by simp only; omega⟩, ?_, ?_, ?_⟩
     ·simp only [ı, if_neg e1, if_pos e2]; rfl
     ·simp only; omega
     ·simp only [ı, if_neg e1, if_pos e2, tk, List.range_succ, List.range_zero, List.nil_append, List.cons_append, List.map_cons, List.map_nil, List.cons.injEq, and_true]
      omega
    ·rw [if_neg h2]
     intro hd;exact absurd rfl hd
   ·rw [if_neg h1]
    by_cases h3 : at_ s 0 / 16 = 14 ∧ (1 < s.length ∧ at_ s 1 / 64 = 2) ∧ (2 < s.length ∧ at_ s 2 / 64 = 2)
    ·rw [if_pos h3]
     split
     ·rename_i h4
      intro _
      have e1 : ¬ at_ s 0 % 16 * 4096 + at_ s 1 % 64 * 64 + at_ s 2 % 64 < 128 := by omega
      have e2 : ¬ at_ s 0 % 16 * 4096 + at_ s 1 % 64 * 64 + at_ s 2 % 64 < 2048 := by omega
      have e3 : at_ s 0 % 16 * 4096 + at_ s 1 % 64 * 64 + at_ s 2 % 64 < 65536 := by omega
      refine ⟨⟨by simp only; omega, by simp only; omega⟩, ?_, ?_, ?_⟩
      ·simp only [ı, if_neg e1, if_neg e2, if_pos e3]; rfl
      ·simp only; omega
      ·simp only [ı, if_neg e1, if_neg e2, if_pos e3, tk, List.range_succ, List.range_zero, List.nil_append, List.cons_append, List.map_cons, List.map_nil, List.cons.injEq, and_true]
       omega
     ·intro hd
      exact absurd rfl hd
    ·rw [if_neg h3]
     by_cases h5 : at_ s 0 / 8 = 30 ∧ (1 < s.length ∧ at_ s 1 / 64 = 2) ∧ (2 < s.length ∧ at_ s 2 / 64 = 2) ∧ (3 < s.length ∧ at_ s 3 / 64 = 2)
     ·rw [if_pos h5]
      split
      ·rename_i h4
       intro _
       have e1 : ¬ at_ s 0 % 8 * 262144 + at_ s 1 % 64 * 4096 + at_ s 2 % 64 * 64 + at_ s 3 % 64 < 128 := by omega
       have e2 : ¬ at_ s 0 % 8 * 262144 + at_ s 1 % 64 * 4096 + at_ s 2 % 64 * 64 + at_ s 3 % 64 < 2048 := by omega
       have e3 : ¬ at_ s 0 % 8 * 262144 + at_ s 1 % 64 * 4096 + at_ s 2 % 64 * 64 + at_ s 3 % 64 < 65536 := by omega
       refine ⟨⟨by simp only; omega, by simp only; omega⟩, ?_, ?_, ?_⟩
       ·simp only [ı, if_neg e1, if_neg e2, if_neg e3]; rfl
       ·simp only; omega
       ·simp only [ı, if_neg e1, if_neg e2, if_neg e3, tk, List.range_succ, List.range_zero, List.nil_append, List.cons_append, List.map_cons, List.map_nil, List.cons.injEq, and_true]
        omega
      ·intro hd
       exact absurd rfl hd
     ·rw [if_neg h5]
      intro hd;exact absurd rfl hd
set_option maxRecDepth 100000 in
set_option maxHeartbeats 4000000 in
theorem Çn (s : List UInt8) (c : Nat) (hc : Äd c) (hl : (ı c).length ≤ s.length) (h : tk s (ı c).length = ı c) : nx s = (c, (ı c).length) := by
 obtain ⟨c1, c2⟩ := hc;have b0 := Ť s 0
 have hd : dec s = (c, (ı c).length) ∧ (c, (ı c).length) ≠ ((65533, 1) : Nat × Nat) := by
  unfold dec decodeN;unfold ı at h hl ⊢
  by_cases e1 : c < 128
  ·rw [if_pos e1] at h hl ⊢
   simp [tk, List.range_succ] at h
   rw [if_pos (by omega), h]
   refine ⟨rfl, ?_⟩;simp; omega
  ·rw [if_neg e1] at h hl ⊢
   by_cases e2 : c < 2048
   ·rw [if_pos e2] at h hl ⊢
    simp [tk, List.range_succ] at h hl;obtain ⟨h0, h1⟩ := h
    rw [if_neg (by omega), if_pos (by omega), if_pos (by omega)]
    refine ⟨?_, by simp⟩
    apply Prod.ext
    ·simp only; omega
    ·rfl
   ·rw [if_neg e2] at h hl ⊢
    by_cases e3 : c < 65536
    ·rw [if_pos e3] at h hl ⊢
     simp [tk, List.range_succ] at h hl;obtain ⟨h0, h1, h2⟩ := h
     rw [if_neg (by omega), if_neg (by omega), if_pos (by omega), if_pos (by omega)]
     refine ⟨?_, by simp⟩
     apply Prod.ext
     ·simp only; omega
     ·rfl
    ·rw [if_neg e3] at h hl ⊢
     simp [tk, List.range_succ] at h hl;obtain ⟨h0, h1, h2, h3⟩ := h
     rw [if_neg (by omega), if_neg (by omega), if_neg (by omega), if_pos (by omega), if_pos (by omega)]
     refine ⟨?_, by simp⟩
     apply Prod.ext
     ·simp only; omega
     ·rfl
 unfold nx;rw [hd.1, if_neg hd.2]
theorem Áe (s : List UInt8) (h : s ≠ []) : 1 ≤ (nx s).2 ∧ (nx s).2 ≤ 4 ∧ (nx s).2 ≤ s.length := by
 have hl : 1 ≤ s.length := by cases s with | nil => exact absurd rfl h | cons => simp
 rcases ÁN s h with ⟨_, h2, h3, _⟩ | ⟨h1, _⟩
 ·have := ËS (nx s).1
  omega
 ·rw [h1]; simp; omega
def unF : Nat → List UInt8 → List Nat
 | 0, _ => []
 | f + 1, s => if s = [] then [] else (nx s).1 :: unF f (s.drop (nx s).2)
def un (s : List UInt8) : List Nat := unF s.length s
theorem Äj (f : Nat) : unF f [] = [] := by cases f <;> simp [unF]
theorem ËT (f : Nat) : ∀ (g : Nat) (s : List UInt8), s.length ≤ f → s.length ≤ g → unF f s = unF g s := by
 induction f with
 | zero =>
  intro g s hf _
  obtain rfl : s = [] := ď (by omega)
  rw [Äj, Äj]
 | succ f ih =>
  intro g s hf hg
  by_cases h : s = []
  ·subst h; rw [Äj, Äj]
  ·have hl : 1 ≤ s.length := by cases s with | nil => exact absurd rfl h | cons => simp
   cases g with
   | zero => omega
   | succ g =>
    have hk := Áe s h
    have hd : (s.drop (nx s).2).length ≤ f := by rw [ċ]; omega
    have hd' : (s.drop (nx s).2).length ≤ g := by rw [ċ]; omega
    simp only [unF, if_neg h, ih g _ hd hd']
theorem Ãn : un [] = [] := rfl
theorem Àz (s : List UInt8) (h : s ≠ []) : un s = (nx s).1 :: un (s.drop (nx s).2) := by
 have hl : 1 ≤ s.length := by cases s with | nil => exact absurd rfl h | cons => simp
 have hk := Áe s h;unfold un
 obtain ⟨f, hf⟩ : ∃ f, s.length = f + 1 := ⟨s.length - 1, by omega⟩
 rw [hf];simp only [unF, if_neg h]
 rw [ËT f _ _ (by rw [ċ]; omega) (ŋ _)]
theorem Æu {P : List UInt8 → Prop} (h0 : P []) (h1 : ∀ s, s ≠ [] → P (s.drop (nx s).2) → P s) : ∀ s, P s := by
 have : ∀ n (s : List UInt8), s.length ≤ n → P s := by
  intro n
  induction n with
  | zero => intro s hs; obtain rfl : s = [] := ď (by omega); exact h0
  | succ n ih =>
   intro s hs
   by_cases h : s = []
   ·subst h; exact h0
   ·have hk := Áe s h
    exact h1 s h (ih _ (by rw [ċ]; omega))
 exact fun s => this s.length s (ŋ _)
theorem Ço (s : List UInt8) (h : s ≠ []) : Äd (nx s).1 ∨ Æt (nx s).1 := by
 have b0 := Ť s 0
 rcases ÁN s h with ⟨h1, _⟩ | ⟨h1, h2, _⟩
 ·exact .inl h1
 ·rw [h1]; exact .inr ⟨by simp only; omega, by simp only; omega⟩
theorem ËU (s : List UInt8) : ∀ u ∈ un s, Äd u ∨ Æt u := by
 refine Æu (P := fun s => ∀ u ∈ un s, Äd u ∨ Æt u) (by simp [Ãn]) (fun s hs ih => ?_) s
 rw [Àz s hs];intro u hu
 rcases List.mem_cons.1 hu with rfl | hu
 ·exact Ço s hs
 ·exact ih u hu
theorem ÅG (c : Nat) (hc : c ≤ 1114111) : ∀ x ∈ ı c, x < 256 := by
 intro x hx;unfold ı at hx
 repeat' split at hx
 all_goals simp at hx; omega
end
namespace Cl
abbrev Rg := Int × Int
def Rt (r : Rg) : Prop := 0 ≤ r.1 ∧ r.1 ≤ r.2 ∧ r.2 ≤ 1114367
def Àf (r : Rg) : Bool := decide (0 ≤ r.1 ∧ r.1 ≤ r.2 ∧ r.2 ≤ 1114367)
theorem ÀJ (r : Rg) : Àf r = true ↔ Rt r := by simp [Àf, Rt]
def inB (r : Rg) (u : Int) : Bool := decide (r.1 ≤ u ∧ u ≤ r.2)
def š (l : List Rg) (u : Int) : Bool := l.any fun r => inB r u
theorem Çj (u : Int) : š [] u = false := rfl
theorem Ģ (r : Rg) (l : List Rg) (u : Int) : š (r :: l) u = (inB r u || š l u) := rfl
theorem Çk (a b : List Rg) (u : Int) : š (a ++ b) u = (š a u || š b u) := by simp [š]
theorem Äq (l : List Rg) (u : Int) : š l u = true ↔ ∃ r ∈ l, r.1 ≤ u ∧ u ≤ r.2 := by simp [š, inB]
theorem Âh (r : Rg) (u : Int) : inB r u = true ↔ r.1 ≤ u ∧ u ≤ r.2 := by simp [inB]
theorem ÅF {a b : List Rg} (h : a.Perm b) (u : Int) : š a u = š b u := by
 rw [Bool.eq_iff_iff, Äq, Äq]
 exact ⟨fun ⟨r, hr, hu⟩ => ⟨r, h.mem_iff.1 hr, hu⟩, fun ⟨r, hr, hu⟩ => ⟨r, h.mem_iff.2 hr, hu⟩⟩
def Ŗ (l : List Rg) : Prop := (∀ r ∈ l, Rt r) ∧ l.Pairwise fun a b => a.2 + 2 ≤ b.1
theorem ÁK : Ŗ [] := ⟨by simp, List.Pairwise.nil⟩
theorem ÿ {r : Rg} {l : List Rg} : Ŗ (r :: l) ↔ Rt r ∧ (∀ s ∈ l, r.2 + 2 ≤ s.1) ∧ Ŗ l := by
 simp only [Ŗ, ė, forall_eq_or_imp, List.pairwise_cons]
 exact ⟨fun ⟨⟨a, b⟩, c, d⟩ => ⟨a, c, b, d⟩, fun ⟨a, c, b, d⟩ => ⟨⟨a, b⟩, c, d⟩⟩
def Är (l : List Rg) (k : Nat) : Prop := ∀ r, l[k]? = some r → Rt r ∧ ∀ s, 0 < k → l[k - 1]? = some s → s.2 + 2 ≤ r.1
theorem Äs {r : Rg} {l : List Rg} (h : ∀ k, Är (r :: l) k) : ∀ k, Är l k := by
 intro k x hx
 have := h (k + 1) x (by simpa using hx)
 refine ⟨this.1, fun s hk hs => this.2 s (by omega) ?_⟩
 obtain ⟨m, rfl⟩ : ∃ m, k = m + 1 := ⟨k - 1, by omega⟩
 simpa using hs
theorem Ät : ∀ (l : List Rg), (∀ k, Är l k) → Ŗ l
 | [], _ => ÁK
 | r :: l, h => by
  have hl := Ät l (Äs h);have hr := (h 0 r rfl).1;refine ÿ.2 ⟨hr, ?_, hl⟩
  match l, h, hl with
  | [], _, _ => simp
  | s :: t, h, hl =>
   have h1 := (h 1 s rfl).2 r (by omega) rfl
   have h2 := ÿ.1 hl;intro x hx
   rcases List.mem_cons.1 hx with rfl | hx
   ·exact h1
   ·have := h2.2.1 x hx
    have := h2.1;unfold Rt at this;omega
theorem ÂB : ∀ {l : List Rg}, Ŗ l → ∀ k, Är l k
 | [], _, k => by intro r h; simp at h
 | r :: l, h, k => by
  obtain ⟨h1, h2, h3⟩ := ÿ.1 h;intro x hx
  match k, hx with
  | 0, hx =>
   simp at hx;subst hx
   exact ⟨h1, fun s h => absurd h (by omega)⟩
  | k + 1, hx =>
   simp at hx;have hk := ÂB h3 k x hx
   refine ⟨hk.1, fun s _ hs => ?_⟩
   match k, hs, hx with
   | 0, hs, hx =>
    simp at hs;subst hs;exact h2 x (Č hx)
   | k + 1, hs, hx =>
    simp at hs
    exact hk.2 s (by omega) (by simpa using hs)
open Classical in
noncomputable def Çl (l : List Rg) : Bool := decide (Ŗ l)
theorem Äu {l : List Rg} (h : Ŗ l) : Çl l = true := by simp [Çl, h]
theorem ÃA {l : List Rg} (h : ¬ Ŗ l) : Çl l = false := by simp [Çl, h]
theorem Ád {r : Rg} {l : List Rg} {u : Int} (h : Ŗ (r :: l)) (hu : š l u = true) : r.2 + 2 ≤ u := by
 obtain ⟨s, hs, hu⟩ := (Äq _ _).1 hu;have := (ÿ.1 h).2.1 s hs;omega
theorem Äv {r : Rg} {l : List Rg} {u : Int} (h : Ŗ (r :: l)) (hu : š (r :: l) u = true) : r.1 ≤ u := by
 rw [Ģ, Bool.or_eq_true, Âh] at hu;have h1 := (ÿ.1 h).1;unfold Rt at h1
 rcases hu with hu | hu
 ·omega
 ·have := Ád h hu
  omega
theorem ź {r : Rg} {l : List Rg} (h : Ŗ (r :: l)) : š (r :: l) r.1 = true ∧ š (r :: l) r.2 = true := by
 have h1 := (ÿ.1 h).1;unfold Rt at h1;rw [Ģ, Ģ];simp [inB];omega
theorem Çm : ∀ {a b : List Rg}, Ŗ a → Ŗ b → (∀ u, š a u = š b u) → a = b
 | [], [], _, _, _ => rfl
 | [], s :: b, _, hb, h => by have := h s.1; rw [(ź hb).1, Çj] at this; cases this
 | r :: a, [], ha, _, h => by have := h r.1; rw [(ź ha).1, Çj] at this; cases this
 | r :: a, s :: b, ha, hb, h => by
  have ra := (ÿ.1 ha).1;have rb := (ÿ.1 hb).1;unfold Rt at ra rb
  have h1 : s.1 ≤ r.1 := Äv hb (by rw [← h]; exact (ź ha).1)
  have h2 : r.1 ≤ s.1 := Äv ha (by rw [h]; exact (ź hb).1)
  have h3 : s.2 ≤ r.2 := by
   refine Decidable.byContradiction fun hn => ?_
   have := h (r.2 + 1)
   rw [Ģ s, (Âh s _).2 (by omega), Bool.true_or, Ģ, Bool.or_eq_true, Âh] at this
   rcases this with this | this
   ·omega
   ·have := Ád ha this
    omega
  have h4 : r.2 ≤ s.2 := by
   refine Decidable.byContradiction fun hn => ?_
   have := h (s.2 + 1)
   rw [Ģ r, (Âh r _).2 (by omega), Bool.true_or, eq_comm, Ģ, Bool.or_eq_true, Âh] at this
   rcases this with this | this
   ·omega
   ·have := Ád hb this
    omega
  obtain rfl : r = s := Prod.ext (by omega) (by omega)
  have := Çm (ÿ.1 ha).2.2 (ÿ.1 hb).2.2 (fun u => by
   have hu := h u;rw [Ģ, Ģ] at hu
   by_cases hi : inB r u = true
   ·rw [Âh] at hi
    have e1 : š a u = false := Bool.eq_false_iff.2 fun e => by have := Ád ha e; omega
    have e2 : š b u = false := Bool.eq_false_iff.2 fun e => by have := Ád hb e; omega
    rw [e1, e2]
   ·rw [Bool.not_eq_true] at hi
    simpa [hi] using hu)
  rw [this]
def cnt (p : Int → Bool) : Nat → Int
 | 0 => 0
 | n + 1 => cnt p n + if p (n : Int) then 1 else 0
def î : Int → List Rg → List Rg
 | from_, [] => if from_ ≤ 1114367 then [(from_, 1114367)] else []
 | from_, r :: l => (if from_ < r.1 then [(from_, r.1 - 1)] else []) ++ î (r.2 + 1) l
theorem Êb : ∀ (l : List Rg) (f : Int), 0 ≤ f → Ŗ l → (∀ r ∈ l, f ≤ r.1) →
 Ŗ (î f l) ∧ (∀ g ∈ î f l, f ≤ g.1) ∧ ∀ u, š (î f l) u = (decide (f ≤ u ∧ u ≤ 1114367) && !š l u)
 | [], f, h0, _, _ => by
  unfold î;split
  ·refine ⟨ÿ.2 ⟨by unfold Rt; simp only; omega, by simp, ÁK⟩, by simp, fun u => ?_⟩
   simp [š, inB]
  ·refine ⟨ÁK, by simp, fun u => ?_⟩
   simp [š];omega
 | r :: l, f, h0, hn, hf => by
  obtain ⟨h1, h2, h3⟩ := ÿ.1 hn;have hr := hf r (List.mem_cons_self ..);unfold Rt at h1
  obtain ⟨g1, g2, g3⟩ := Êb l (r.2 + 1) (by omega) h3 (fun s hs => by have := h2 s hs; omega)
  have hh : ∀ u, š (î f (r :: l)) u = (decide (f ≤ u ∧ u ≤ 1114367) && !š (r :: l) u) := by
   intro u;rw [î, Çk, g3, Ģ];have hlow : š l u = true → r.2 + 2 ≤ u := Ád hn;rw [Bool.eq_iff_iff]
   by_cases hu : š l u = true
   ·have := hlow hu
    split <;> simp [š, inB] at * <;> grind
   ·rw [Bool.not_eq_true] at hu
    simp only [hu, Bool.not_false, Bool.and_true, Bool.or_false]
    split <;> simp [š, inB] <;> omega
  refine ⟨?_, ?_, hh⟩
  ·rw [î]
   split
   ·exact ÿ.2 ⟨by unfold Rt; simp only; omega, fun s hs => by have := g2 s hs; simp only; omega, g1⟩
   ·exact g1
  ·intro g hg
   rw [î, Ė] at hg
   rcases hg with hg | hg
   ·split at hg
    ·simp at hg
     subst hg;simp
    ·simp at hg
   ·have := g2 g hg
    omega
theorem gaps_len : ∀ (l : List Rg) (f : Int), (î f l).length ≤ l.length + 1
 | [], f => by unfold î; split <;> simp
 | r :: l, f => by
  have := gaps_len l (r.2 + 1);rw [î]
  split <;> simp <;> omega
def Ű : Rg → List Rg → List Rg
 | r, [] => [r]
 | r, n :: t => if r.2 + 1 < n.1 then r :: Ű n t else Ű (r.1, max r.2 n.2) t
def Î : List Rg → List Rg
 | [] => []
 | r :: t => Ű r t
theorem Äw : ∀ (t : List Rg) (r : Rg), Rt r → (∀ x ∈ t, Rt x) → (∀ x ∈ t, r.1 ≤ x.1) → t.Pairwise (fun a b => a.1 ≤ b.1) →
 Ŗ (Ű r t) ∧ (∀ g ∈ Ű r t, r.1 ≤ g.1) ∧ ∀ u, š (Ű r t) u = (inB r u || š t u)
 | [], r, hr, _, _, _ => ⟨ÿ.2 ⟨hr, by simp, ÁK⟩, by simp [Ű], fun u => by simp [Ű, š]⟩
 | n :: t, r, hr, ht, hs, hp => by
  have hn := ht n (List.mem_cons_self ..);have hrn := hs n (List.mem_cons_self ..);rw [List.pairwise_cons] at hp;rw [Ű];split
  ·rename_i hlt
   obtain ⟨a, b, c⟩ := Äw t n hn (fun x hx => ht x (List.mem_cons_of_mem _ hx)) hp.1 hp.2
   refine ⟨ÿ.2 ⟨hr, fun x hx => by have := b x hx; omega, a⟩, fun g hg => ?_, fun u => by rw [Ģ, c, Ģ]⟩
   rcases List.mem_cons.1 hg with rfl | hg
   ·omega
   ·have := b g hg
    omega
  ·rename_i hlt
   obtain ⟨a, b, c⟩ := Äw t (r.1, max r.2 n.2) (by unfold Rt at *; simp only; omega) (fun x hx => ht x (List.mem_cons_of_mem _ hx)) (fun x hx => by have := hp.1 x hx; simp only; omega) hp.2
   refine ⟨a, b, fun u => ?_⟩
   rw [c, Ģ, ← Bool.or_assoc]
   congr 1
   rw [Bool.eq_iff_iff];unfold Rt at *;simp [inB];omega
theorem ÁL (l : List Rg) (hr : ∀ x ∈ l, Rt x) (hp : l.Pairwise fun a b => a.1 ≤ b.1) : Ŗ (Î l) ∧ ∀ u, š (Î l) u = š l u := by
 match l, hr, hp with
 | [], _, _ => exact ⟨ÁK, fun _ => rfl⟩
 | r :: t, hr, hp =>
  rw [List.pairwise_cons] at hp
  obtain ⟨a, _, c⟩ := Äw t r (hr r (List.mem_cons_self ..)) (fun x hx => hr x (List.mem_cons_of_mem _ hx)) hp.1 hp.2
  exact ⟨a, fun u => by rw [Î, c, Ģ]⟩
theorem Ãl : ∀ (t : List Rg) (r : Rg), (Ű r t).length ≤ t.length + 1
 | [], r => by simp [Ű]
 | n :: t, r => by
  have h1 := Ãl t n;have h2 := Ãl t (r.1, max r.2 n.2);rw [Ű]
  split <;> simp <;> omega
theorem Ær (l : List Rg) : (Î l).length ≤ l.length := by
 cases l with
 | nil => simp [Î]
 | cons r t => simpa [Î] using Ãl t r
end Cl
end Go.Proofs.YtpginkdkblmnbaaGreatDoor
