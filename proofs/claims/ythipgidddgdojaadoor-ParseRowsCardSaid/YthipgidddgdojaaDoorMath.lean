/- Bytes as units, in plain mathematics: the first unit of a text, all units, the bytes of a unit; cutting and joining. No program is imported. -/
import Derived.Lib.DecodeNEq
import Derived.Lib.RuneBytes
namespace Go.Proofs.YthipgidddgdojaaDoor
open Go.Lib

/-- The bytes of a character, below 0x80, 0x800, 0x10000, 0x110000. -/
def encN (c : Nat) : List Nat :=
  if c < 128 then [c] else if c < 2048 then [192 + c / 64, 128 + c % 64] else if c < 65536 then [224 + c / 4096, 128 + c / 64 % 64, 128 + c % 64]
  else [240 + c / 262144, 128 + c / 4096 % 64, 128 + c / 64 % 64, 128 + c % 64]
def isCh (c : Nat) : Prop := c ≤ 1114111 ∧ (c < 55296 ∨ 57343 < c)
instance (c : Nat) : Decidable (isCh c) := by unfold isCh; infer_instance
def isStray (u : Nat) : Prop := 1114240 ≤ u ∧ u ≤ 1114367

/-- A byte at a place, as a number; 0 beyond the end. -/
def at_ (s : List UInt8) (i : Nat) : Nat := (s.getD i 0).toNat
theorem at_lt (s : List UInt8) (i : Nat) : at_ s i < 256 := (s.getD i 0).toNat_lt
theorem at_out {s : List UInt8} {i : Nat} (h : s.length ≤ i) : at_ s i = 0 := by simp [at_, List.getD_eq_getElem?_getD, List.getElem?_eq_none h]
theorem at_app_l {a t : List UInt8} {i : Nat} (h : i < a.length) : at_ (a ++ t) i = at_ a i := by simp [at_, List.getD_eq_getElem?_getD, List.getElem?_append_left h]
theorem at_app_r {a t : List UInt8} {i : Nat} (h : a.length ≤ i) : at_ (a ++ t) i = at_ t (i - a.length) := by simp [at_, List.getD_eq_getElem?_getD, List.getElem?_append_right h]
theorem at_drop (s : List UInt8) (k i : Nat) : at_ (s.drop k) i = at_ s (k + i) := by simp [at_, List.getD_eq_getElem?_getD]
theorem at_cons (b : UInt8) (t : List UInt8) : at_ (b :: t) 0 = b.toNat := rfl

/-- The first unit of a text that has one, and how many bytes it takes. -/
def dec (s : List UInt8) : Nat × Nat := decodeN s.length (at_ s 0) (at_ s 1) (at_ s 2) (at_ s 3)
def nx (s : List UInt8) : Nat × Nat := if dec s = (65533, 1) then (1114112 + at_ s 0, 1) else dec s

def toB (l : List Nat) : List UInt8 := l.map Nat.toUInt8
def bytesOf (u : Nat) : List Nat := if u < 1114112 then encN u else [u - 1114112]

theorem encN_len (c : Nat) : 1 ≤ (encN c).length ∧ (encN c).length ≤ 4 := by
  unfold encN; repeat' split
  all_goals simp
theorem bytesOf_len (u : Nat) : 1 ≤ (bytesOf u).length ∧ (bytesOf u).length ≤ 4 := by
  unfold bytesOf; split
  · exact encN_len u
  · simp

/-- The first bytes of a text, as numbers. -/
def tk (s : List UInt8) (k : Nat) : List Nat := (List.range k).map (at_ s)
theorem take_of_tk {s : List UInt8} {k : Nat} {l : List Nat} (hk : k ≤ s.length) (h : tk s k = l) : s.take k = toB l := by
  subst h
  apply List.ext_getElem
  · simp [toB, tk, hk]
  · intro i h1 h2
    have hi : i < s.length := by simp at h1; omega
    simp [toB, tk, at_, List.getD_eq_getElem?_getD, hi]

set_option maxRecDepth 100000 in
set_option maxHeartbeats 4000000 in
/-- What the first unit is, by its bytes. -/
theorem nx_cases (s : List UInt8) (h : s ≠ []) :
    (isCh (nx s).1 ∧ (nx s).2 = (encN (nx s).1).length ∧ (nx s).2 ≤ s.length ∧ tk s (nx s).2 = encN (nx s).1) ∨
    ((nx s) = (1114112 + at_ s 0, 1) ∧ 128 ≤ at_ s 0 ∧ dec s = (65533, 1)) := by
  have hl : 1 ≤ s.length := by cases s with | nil => exact absurd rfl h | cons => simp
  have b0 := at_lt s 0
  have b1 := at_lt s 1
  have b2 := at_lt s 2
  have b3 := at_lt s 3
  unfold nx
  by_cases hd : dec s = (65533, 1)
  · rw [if_pos hd]
    refine .inr ⟨rfl, ?_, hd⟩
    unfold dec decodeN at hd
    by_cases h0 : at_ s 0 < 128
    · rw [if_pos h0] at hd
      simp only [Prod.mk.injEq] at hd
      omega
    · omega
  · rw [if_neg hd]
    refine .inl ?_
    revert hd
    unfold dec decodeN
    by_cases h0 : at_ s 0 < 128
    · rw [if_pos h0]
      intro _
      refine ⟨⟨by simp only; omega, by simp only; omega⟩, ?_, ?_, ?_⟩
      · simp [encN, h0]
      · simpa using hl
      · simp [encN, h0, tk]
    · rw [if_neg h0]
      by_cases h1 : at_ s 0 / 32 = 6 ∧ (1 < s.length ∧ at_ s 1 / 64 = 2)
      · rw [if_pos h1]
        by_cases h2 : at_ s 0 % 32 * 64 + at_ s 1 % 64 ≥ 128
        · rw [if_pos h2]
          intro _
          have e1 : ¬ at_ s 0 % 32 * 64 + at_ s 1 % 64 < 128 := by omega
          have e2 : at_ s 0 % 32 * 64 + at_ s 1 % 64 < 2048 := by omega
          refine ⟨⟨by simp only; omega, by simp only; omega⟩, ?_, ?_, ?_⟩
          · simp only [encN, if_neg e1, if_pos e2]; rfl
          · simp only; omega
          · simp only [encN, if_neg e1, if_pos e2, tk, List.range_succ, List.range_zero, List.nil_append, List.cons_append, List.map_cons, List.map_nil, List.cons.injEq, and_true]
            omega
        · rw [if_neg h2]
          intro hd
          exact absurd rfl hd
      · rw [if_neg h1]
        by_cases h3 : at_ s 0 / 16 = 14 ∧ (1 < s.length ∧ at_ s 1 / 64 = 2) ∧ (2 < s.length ∧ at_ s 2 / 64 = 2)
        · rw [if_pos h3]
          split
          · rename_i h4
            intro _
            have e1 : ¬ at_ s 0 % 16 * 4096 + at_ s 1 % 64 * 64 + at_ s 2 % 64 < 128 := by omega
            have e2 : ¬ at_ s 0 % 16 * 4096 + at_ s 1 % 64 * 64 + at_ s 2 % 64 < 2048 := by omega
            have e3 : at_ s 0 % 16 * 4096 + at_ s 1 % 64 * 64 + at_ s 2 % 64 < 65536 := by omega
            refine ⟨⟨by simp only; omega, by simp only; omega⟩, ?_, ?_, ?_⟩
            · simp only [encN, if_neg e1, if_neg e2, if_pos e3]; rfl
            · simp only; omega
            · simp only [encN, if_neg e1, if_neg e2, if_pos e3, tk, List.range_succ, List.range_zero, List.nil_append, List.cons_append, List.map_cons, List.map_nil, List.cons.injEq, and_true]
              omega
          · intro hd
            exact absurd rfl hd
        · rw [if_neg h3]
          by_cases h5 : at_ s 0 / 8 = 30 ∧ (1 < s.length ∧ at_ s 1 / 64 = 2) ∧ (2 < s.length ∧ at_ s 2 / 64 = 2) ∧ (3 < s.length ∧ at_ s 3 / 64 = 2)
          · rw [if_pos h5]
            split
            · rename_i h4
              intro _
              have e1 : ¬ at_ s 0 % 8 * 262144 + at_ s 1 % 64 * 4096 + at_ s 2 % 64 * 64 + at_ s 3 % 64 < 128 := by omega
              have e2 : ¬ at_ s 0 % 8 * 262144 + at_ s 1 % 64 * 4096 + at_ s 2 % 64 * 64 + at_ s 3 % 64 < 2048 := by omega
              have e3 : ¬ at_ s 0 % 8 * 262144 + at_ s 1 % 64 * 4096 + at_ s 2 % 64 * 64 + at_ s 3 % 64 < 65536 := by omega
              refine ⟨⟨by simp only; omega, by simp only; omega⟩, ?_, ?_, ?_⟩
              · simp only [encN, if_neg e1, if_neg e2, if_neg e3]; rfl
              · simp only; omega
              · simp only [encN, if_neg e1, if_neg e2, if_neg e3, tk, List.range_succ, List.range_zero, List.nil_append, List.cons_append, List.map_cons, List.map_nil, List.cons.injEq, and_true]
                omega
            · intro hd
              exact absurd rfl hd
          · rw [if_neg h5]
            intro hd
            exact absurd rfl hd

set_option maxRecDepth 100000 in
set_option maxHeartbeats 4000000 in
/-- A text that begins with a character's bytes begins with that character. -/
theorem nx_of_tk (s : List UInt8) (c : Nat) (hc : isCh c) (hl : (encN c).length ≤ s.length) (h : tk s (encN c).length = encN c) : nx s = (c, (encN c).length) := by
  obtain ⟨c1, c2⟩ := hc
  have b0 := at_lt s 0
  have hd : dec s = (c, (encN c).length) ∧ (c, (encN c).length) ≠ ((65533, 1) : Nat × Nat) := by
    unfold dec decodeN
    unfold encN at h hl ⊢
    by_cases e1 : c < 128
    · rw [if_pos e1] at h hl ⊢
      simp [tk, List.range_succ] at h
      rw [if_pos (by omega), h]
      refine ⟨rfl, ?_⟩
      simp; omega
    · rw [if_neg e1] at h hl ⊢
      by_cases e2 : c < 2048
      · rw [if_pos e2] at h hl ⊢
        simp [tk, List.range_succ] at h hl
        obtain ⟨h0, h1⟩ := h
        rw [if_neg (by omega), if_pos (by omega), if_pos (by omega)]
        refine ⟨?_, by simp⟩
        apply Prod.ext
        · simp only; omega
        · rfl
      · rw [if_neg e2] at h hl ⊢
        by_cases e3 : c < 65536
        · rw [if_pos e3] at h hl ⊢
          simp [tk, List.range_succ] at h hl
          obtain ⟨h0, h1, h2⟩ := h
          rw [if_neg (by omega), if_neg (by omega), if_pos (by omega), if_pos (by omega)]
          refine ⟨?_, by simp⟩
          apply Prod.ext
          · simp only; omega
          · rfl
        · rw [if_neg e3] at h hl ⊢
          simp [tk, List.range_succ] at h hl
          obtain ⟨h0, h1, h2, h3⟩ := h
          rw [if_neg (by omega), if_neg (by omega), if_neg (by omega), if_pos (by omega), if_pos (by omega)]
          refine ⟨?_, by simp⟩
          apply Prod.ext
          · simp only; omega
          · rfl
  unfold nx
  rw [hd.1, if_neg hd.2]

theorem nx_le (s : List UInt8) (h : s ≠ []) : 1 ≤ (nx s).2 ∧ (nx s).2 ≤ 4 ∧ (nx s).2 ≤ s.length := by
  have hl : 1 ≤ s.length := by cases s with | nil => exact absurd rfl h | cons => simp
  rcases nx_cases s h with ⟨_, h2, h3, _⟩ | ⟨h1, _⟩
  · have := encN_len (nx s).1
    omega
  · rw [h1]; simp; omega

theorem nx_take (s : List UInt8) (h : s ≠ []) : s.take (nx s).2 = toB (bytesOf (nx s).1) := by
  rcases nx_cases s h with ⟨h1, _, h3, h4⟩ | ⟨h1, h2, _⟩
  · refine take_of_tk h3 ?_
    rw [h4, bytesOf, if_pos (by have := h1.1; omega)]
  · have hl : 1 ≤ s.length := by cases s with | nil => exact absurd rfl h | cons => simp
    refine take_of_tk (by rw [h1]; exact hl) ?_
    rw [h1, bytesOf, if_neg (by simp)]
    simp [tk, List.range_succ]

/-- Where a text ends, or no second, third or fourth byte stands: what begins ahead of it hangs on what is ahead of it alone. -/
def starts (t : List UInt8) : Prop := at_ t 0 / 64 ≠ 2
theorem starts_nil : starts [] := by simp [starts, at_]

set_option maxRecDepth 100000 in
set_option maxHeartbeats 4000000 in
theorem dec_app (a t : List UInt8) (h : a ≠ []) (ht : starts t) : dec (a ++ t) = dec a := by
  have hl : 1 ≤ a.length := by cases a with | nil => exact absurd rfl h | cons => simp
  have e0 : at_ (a ++ t) 0 = at_ a 0 := at_app_l (by omega)
  have c1 : (1 < (a ++ t).length ∧ at_ (a ++ t) 1 / 64 = 2) ↔ (1 < a.length ∧ at_ a 1 / 64 = 2) := by
    by_cases h1 : 1 < a.length
    · rw [at_app_l h1]; simp; omega
    · have : a.length = 1 := by omega
      rw [at_app_r (by omega), this]
      have := ht
      unfold starts at this
      simp; omega
  have c2 : (1 < a.length ∧ at_ a 1 / 64 = 2) → ((2 < (a ++ t).length ∧ at_ (a ++ t) 2 / 64 = 2) ↔ (2 < a.length ∧ at_ a 2 / 64 = 2)) := by
    intro hh
    by_cases h1 : 2 < a.length
    · rw [at_app_l h1]; simp; omega
    · have : a.length = 2 := by omega
      rw [at_app_r (by omega), this]
      have := ht
      unfold starts at this
      simp; omega
  have c3 : (2 < a.length ∧ at_ a 2 / 64 = 2) → ((3 < (a ++ t).length ∧ at_ (a ++ t) 3 / 64 = 2) ↔ (3 < a.length ∧ at_ a 3 / 64 = 2)) := by
    intro hh
    by_cases h1 : 3 < a.length
    · rw [at_app_l h1]; simp; omega
    · have : a.length = 3 := by omega
      rw [at_app_r (by omega), this]
      have := ht
      unfold starts at this
      simp; omega
  unfold dec decodeN
  rw [e0]
  by_cases h0 : at_ a 0 < 128
  · rw [if_pos h0, if_pos h0]
  · rw [if_neg h0, if_neg h0]
    by_cases k1 : 1 < a.length ∧ at_ a 1 / 64 = 2
    · have k1' := c1.2 k1
      have e1 : at_ (a ++ t) 1 = at_ a 1 := at_app_l k1.1
      rw [e1] at k1' ⊢
      by_cases k2 : 2 < a.length ∧ at_ a 2 / 64 = 2
      · have k2' := (c2 k1).2 k2
        have e2 : at_ (a ++ t) 2 = at_ a 2 := at_app_l k2.1
        rw [e2] at k2' ⊢
        by_cases k3 : 3 < a.length ∧ at_ a 3 / 64 = 2
        · have k3' := (c3 k2).2 k3
          have e3 : at_ (a ++ t) 3 = at_ a 3 := at_app_l k3.1
          rw [e3] at k3' ⊢
          simp only [k1, k1', k2, k2', k3, k3', and_true]
        · have k3' : ¬ (3 < (a ++ t).length ∧ at_ (a ++ t) 3 / 64 = 2) := fun x => k3 ((c3 k2).1 x)
          simp only [k1, k1', k2, k2', k3, k3', and_true, and_false, if_false]
      · have k2' : ¬ (2 < (a ++ t).length ∧ at_ (a ++ t) 2 / 64 = 2) := fun x => k2 ((c2 k1).1 x)
        simp only [k1, k1', k2, k2', and_true, and_false, false_and, if_false]
    · have k1' : ¬ (1 < (a ++ t).length ∧ at_ (a ++ t) 1 / 64 = 2) := fun x => k1 (c1.1 x)
      simp only [k1, k1', and_false, false_and, if_false]

theorem nx_app (a t : List UInt8) (h : a ≠ []) (ht : starts t) : nx (a ++ t) = nx a := by
  have hl : 1 ≤ a.length := by cases a with | nil => exact absurd rfl h | cons => simp
  have e0 : at_ (a ++ t) 0 = at_ a 0 := at_app_l (by omega)
  unfold nx
  rw [dec_app a t h ht, e0]

/-- All units of a text. -/
def unF : Nat → List UInt8 → List Nat
  | 0, _ => []
  | f + 1, s => if s = [] then [] else (nx s).1 :: unF f (s.drop (nx s).2)
def un (s : List UInt8) : List Nat := unF s.length s
theorem unF_nil (f : Nat) : unF f [] = [] := by cases f <;> simp [unF]
theorem unF_more (f : Nat) : ∀ (g : Nat) (s : List UInt8), s.length ≤ f → s.length ≤ g → unF f s = unF g s := by
  induction f with
  | zero =>
    intro g s hf _
    obtain rfl : s = [] := List.eq_nil_of_length_eq_zero (by omega)
    rw [unF_nil, unF_nil]
  | succ f ih =>
    intro g s hf hg
    by_cases h : s = []
    · subst h; rw [unF_nil, unF_nil]
    · have hl : 1 ≤ s.length := by cases s with | nil => exact absurd rfl h | cons => simp
      cases g with
      | zero => omega
      | succ g =>
        have hk := nx_le s h
        have hd : (s.drop (nx s).2).length ≤ f := by rw [List.length_drop]; omega
        have hd' : (s.drop (nx s).2).length ≤ g := by rw [List.length_drop]; omega
        simp only [unF, if_neg h, ih g _ hd hd']
theorem un_nil : un [] = [] := rfl
theorem un_step (s : List UInt8) (h : s ≠ []) : un s = (nx s).1 :: un (s.drop (nx s).2) := by
  have hl : 1 ≤ s.length := by cases s with | nil => exact absurd rfl h | cons => simp
  have hk := nx_le s h
  unfold un
  obtain ⟨f, hf⟩ : ∃ f, s.length = f + 1 := ⟨s.length - 1, by omega⟩
  rw [hf]
  simp only [unF, if_neg h]
  rw [unF_more f _ _ (by rw [List.length_drop]; omega) (Nat.le_refl _)]

theorem un_ind {P : List UInt8 → Prop} (h0 : P []) (h1 : ∀ s, s ≠ [] → P (s.drop (nx s).2) → P s) : ∀ s, P s := by
  have : ∀ n (s : List UInt8), s.length ≤ n → P s := by
    intro n
    induction n with
    | zero => intro s hs; obtain rfl : s = [] := List.eq_nil_of_length_eq_zero (by omega); exact h0
    | succ n ih =>
      intro s hs
      by_cases h : s = []
      · subst h; exact h0
      · have hk := nx_le s h
        exact h1 s h (ih _ (by rw [List.length_drop]; omega))
  exact fun s => this s.length s (Nat.le_refl _)

theorem un_app (a t : List UInt8) (ht : starts t) : un (a ++ t) = un a ++ un t := by
  refine un_ind (P := fun a => un (a ++ t) = un a ++ un t) (by simp [un_nil]) (fun s hs ih => ?_) a
  have hk := nx_le s hs
  have hne : s ++ t ≠ [] := by simp [hs]
  rw [un_step _ hne, nx_app s t hs ht, un_step s hs, List.drop_append_of_le_length hk.2.2, ih, List.cons_append]

theorem un_len (s : List UInt8) : (un s).length ≤ s.length := by
  refine un_ind (P := fun s => (un s).length ≤ s.length) (by simp [un_nil]) (fun s hs ih => ?_) s
  have hk := nx_le s hs
  rw [un_step s hs]
  rw [List.length_drop] at ih
  simp; omega

theorem un_join (s : List UInt8) : (un s).flatMap (fun u => toB (bytesOf u)) = s := by
  refine un_ind (P := fun s => (un s).flatMap (fun u => toB (bytesOf u)) = s) (by simp [un_nil]) (fun s hs ih => ?_) s
  rw [un_step s hs, List.flatMap_cons, ih, ← nx_take s hs, List.take_append_drop]

theorem nx_right (s : List UInt8) (h : s ≠ []) : isCh (nx s).1 ∨ isStray (nx s).1 := by
  have b0 := at_lt s 0
  rcases nx_cases s h with ⟨h1, _⟩ | ⟨h1, h2, _⟩
  · exact .inl h1
  · rw [h1]; exact .inr ⟨by simp only; omega, by simp only; omega⟩
theorem un_right (s : List UInt8) : ∀ u ∈ un s, isCh u ∨ isStray u := by
  refine un_ind (P := fun s => ∀ u ∈ un s, isCh u ∨ isStray u) (by simp [un_nil]) (fun s hs ih => ?_) s
  rw [un_step s hs]
  intro u hu
  rcases List.mem_cons.1 hu with rfl | hu
  · exact nx_right s hs
  · exact ih u hu

theorem encN_byte (c : Nat) (hc : c ≤ 1114111) : ∀ x ∈ encN c, x < 256 := by
  intro x hx
  unfold encN at hx
  repeat' split at hx
  all_goals simp at hx; omega
theorem toB_len (l : List Nat) : (toB l).length = l.length := by simp [toB]
theorem at_toB (l t : List Nat) (r : List UInt8) (i : Nat) (hi : i < l.length) (hb : ∀ x ∈ l, x < 256) (ht : t = l) : at_ (toB t ++ r) i = l[i] := by
  subst ht
  rw [at_app_l (by rw [toB_len]; exact hi)]
  have := hb _ (List.getElem_mem hi)
  simp [at_, toB, List.getD_eq_getElem?_getD, hi]
  omega
theorem tk_toB (l : List Nat) (r : List UInt8) (hb : ∀ x ∈ l, x < 256) : tk (toB l ++ r) l.length = l := by
  apply List.ext_getElem
  · simp [tk]
  · intro i h1 h2
    simp only [tk, List.getElem_map, List.getElem_range]
    exact at_toB l l r i h2 hb rfl

theorem nx_enc (c : Nat) (hc : isCh c) (r : List UInt8) : nx (toB (encN c) ++ r) = (c, (encN c).length) :=
  nx_of_tk _ c hc (by simp [toB_len]) (tk_toB _ r (encN_byte c hc.1))
theorem un_enc (c : Nat) (hc : isCh c) (r : List UInt8) : un (toB (encN c) ++ r) = c :: un r := by
  have hne : toB (encN c) ++ r ≠ [] := by
    have := encN_len c
    intro h
    have := congrArg List.length h
    rw [List.length_append, toB_len, List.length_nil] at this
    omega
  have : (toB (encN c) ++ r).drop (encN c).length = r := by
    rw [List.drop_append_of_le_length (by rw [toB_len]; exact Nat.le_refl _)]
    simp [List.drop_of_length_le, toB_len]
  rw [un_step _ hne, nx_enc c hc r, this]
theorem starts_enc (c : Nat) (hc : isCh c) (r : List UInt8) : starts (toB (encN c) ++ r) := by
  have hl := encN_len c
  unfold starts
  rw [at_toB (encN c) (encN c) r 0 (by omega) (encN_byte c hc.1) rfl]
  obtain ⟨h1, _⟩ := hc
  unfold encN
  repeat' split
  all_goals simp; omega

theorem un_chars (l : List Nat) (h : ∀ c ∈ l, isCh c) : un (l.flatMap fun c => toB (encN c)) = l := by
  induction l with
  | nil => rfl
  | cons c l ih =>
    rw [List.flatMap_cons, un_enc c (h c (by simp)), ih (fun x hx => h x (by simp [hx]))]

/-- Cut where a character ends. -/
theorem un_parts1 (a : List UInt8) (c : Nat) (hc : isCh c) : un (a ++ toB (encN c)) = un a ++ [c] := by
  have := starts_enc c hc []
  have e := un_enc c hc []
  simp only [List.append_nil] at this e
  rw [un_app _ _ this, e, un_nil]
theorem un_parts2 (a : List UInt8) (c : Nat) (hc : isCh c) (b : List UInt8) : un (a ++ toB (encN c) ++ b) = un a ++ [c] ++ un b := by
  rw [List.append_assoc, un_app _ _ (starts_enc c hc b), un_enc c hc b]
  simp
theorem un_turned (a : List UInt8) (c : UInt8) (hc : c.toNat < 128) (b : List UInt8) : un (a ++ [c] ++ b) = un a ++ [c.toNat] ++ un b := by
  have h : toB (encN c.toNat) = [c] := by simp [toB, encN, hc]
  have hch : isCh c.toNat := ⟨by omega, by omega⟩
  have := un_parts2 a c.toNat hch b
  rwa [h] at this

end Go.Proofs.YthipgidddgdojaaDoor
