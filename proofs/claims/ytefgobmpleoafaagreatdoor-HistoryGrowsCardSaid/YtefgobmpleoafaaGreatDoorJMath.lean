/- Joined: Math, ClMath. -/
import Derived.Lib.DecodeNEq
import Derived.Lib.RuneBytes
/- Bytes as units, in plain mathematics: the first unit of a text, all units, the bytes of a unit; cutting and joining. No program is imported. -/
namespace Go.Proofs.YtefgobmpleoafaaGreatDoor
open Go.Lib

/-- The bytes of a character, below 0x80, 0x800, 0x10000, 0x110000. -/
def encN (c : Nat) : List Nat :=
  if c < 128 then [c] else if c < 2048 then [192 + c / 64, 128 + c % 64] else if c < 65536 then [224 + c / 4096, 128 + c / 64 % 64, 128 + c % 64]
  else [240 + c / 262144, 128 + c / 4096 % 64, 128 + c / 64 % 64, 128 + c % 64]
def isCh (c : Nat) : Prop := c ≤ 1114111 ∧ (c < 55296 ∨ 57343 < c)
instance (c : Nat) : Decidable (isCh c) := by unfold isCh; infer_instance
def isStray (u : Nat) : Prop := 1114240 ≤ u ∧ u ≤ 1114367

/-- A byte at a place, as a number; 0 beyond the end. -/
def at_ (s : List UInt8) (i : Nat) : Nat := (s.getD i 0).toNat
theorem at_lt (s : List UInt8) (i : Nat) : at_ s i < 256 := (s.getD i 0).toNat_lt
theorem at_out {s : List UInt8} {i : Nat} (h : s.length ≤ i) : at_ s i = 0 := by simp [at_, List.getD_eq_getElem?_getD, List.getElem?_eq_none h]
theorem at_app_l {a t : List UInt8} {i : Nat} (h : i < a.length) : at_ (a ++ t) i = at_ a i := by simp [at_, List.getD_eq_getElem?_getD, List.getElem?_append_left h]
theorem at_app_r {a t : List UInt8} {i : Nat} (h : a.length ≤ i) : at_ (a ++ t) i = at_ t (i - a.length) := by simp [at_, List.getD_eq_getElem?_getD, List.getElem?_append_right h]
theorem at_drop (s : List UInt8) (k i : Nat) : at_ (s.drop k) i = at_ s (k + i) := by simp [at_, List.getD_eq_getElem?_getD]
theorem at_cons (b : UInt8) (t : List UInt8) : at_ (b :: t) 0 = b.toNat := rfl

/-- The first unit of a text that has one, and how many bytes it takes. -/
def dec (s : List UInt8) : Nat × Nat := decodeN s.length (at_ s 0) (at_ s 1) (at_ s 2) (at_ s 3)
def nx (s : List UInt8) : Nat × Nat := if dec s = (65533, 1) then (1114112 + at_ s 0, 1) else dec s

def toB (l : List Nat) : List UInt8 := l.map Nat.toUInt8
def bytesOf (u : Nat) : List Nat := if u < 1114112 then encN u else [u - 1114112]

theorem encN_len (c : Nat) : 1 ≤ (encN c).length ∧ (encN c).length ≤ 4 := by
  unfold encN; repeat' split
  all_goals simp
theorem bytesOf_len (u : Nat) : 1 ≤ (bytesOf u).length ∧ (bytesOf u).length ≤ 4 := by
  unfold bytesOf; split
  · exact encN_len u
  · simp

/-- The first bytes of a text, as numbers. -/
def tk (s : List UInt8) (k : Nat) : List Nat := (List.range k).map (at_ s)
theorem take_of_tk {s : List UInt8} {k : Nat} {l : List Nat} (hk : k ≤ s.length) (h : tk s k = l) : s.take k = toB l := by
  subst h
  apply List.ext_getElem
  · simp [toB, tk, hk]
  · intro i h1 h2
    have hi : i < s.length := by simp at h1; omega
    simp [toB, tk, at_, List.getD_eq_getElem?_getD, hi]

set_option maxRecDepth 100000 in
set_option maxHeartbeats 4000000 in
/-- What the first unit is, by its bytes. -/
theorem nx_cases (s : List UInt8) (h : s ≠ []) :
    (isCh (nx s).1 ∧ (nx s).2 = (encN (nx s).1).length ∧ (nx s).2 ≤ s.length ∧ tk s (nx s).2 = encN (nx s).1) ∨
    ((nx s) = (1114112 + at_ s 0, 1) ∧ 128 ≤ at_ s 0 ∧ dec s = (65533, 1)) := by
  have hl : 1 ≤ s.length := by cases s with | nil => exact absurd rfl h | cons => simp
  have b0 := at_lt s 0
  have b1 := at_lt s 1
  have b2 := at_lt s 2
  have b3 := at_lt s 3
  unfold nx
  by_cases hd : dec s = (65533, 1)
  · rw [if_pos hd]
    refine .inr ⟨rfl, ?_, hd⟩
    unfold dec decodeN at hd
    by_cases h0 : at_ s 0 < 128
    · rw [if_pos h0] at hd
      simp only [Prod.mk.injEq] at hd
      omega
    · omega
  · rw [if_neg hd]
    refine .inl ?_
    revert hd
    unfold dec decodeN
    by_cases h0 : at_ s 0 < 128
    · rw [if_pos h0]
      intro _
      refine ⟨⟨by simp only; omega, by simp only; omega⟩, ?_, ?_, ?_⟩
      · simp [encN, h0]
      · simpa using hl
      · simp [encN, h0, tk]
    · rw [if_neg h0]
      by_cases h1 : at_ s 0 / 32 = 6 ∧ (1 < s.length ∧ at_ s 1 / 64 = 2)
      · rw [if_pos h1]
        by_cases h2 : at_ s 0 % 32 * 64 + at_ s 1 % 64 ≥ 128
        · rw [if_pos h2]
          intro _
          have e1 : ¬ at_ s 0 % 32 * 64 + at_ s 1 % 64 < 128 := by omega
          have e2 : at_ s 0 % 32 * 64 + at_ s 1 % 64 < 2048 := by omega
          refine ⟨⟨by simp only; omega, by simp only; omega⟩, ?_, ?_, ?_⟩
          · simp only [encN, if_neg e1, if_pos e2]; rfl
          · simp only; omega
          · simp only [encN, if_neg e1, if_pos e2, tk, List.range_succ, List.range_zero, List.nil_append, List.cons_append, List.map_cons, List.map_nil, List.cons.injEq, and_true]
            omega
        · rw [if_neg h2]
          intro hd
          exact absurd rfl hd
      · rw [if_neg h1]
        by_cases h3 : at_ s 0 / 16 = 14 ∧ (1 < s.length ∧ at_ s 1 / 64 = 2) ∧ (2 < s.length ∧ at_ s 2 / 64 = 2)
        · rw [if_pos h3]
          split
          · rename_i h4
            intro _
            have e1 : ¬ at_ s 0 % 16 * 4096 + at_ s 1 % 64 * 64 + at_ s 2 % 64 < 128 := by omega
            have e2 : ¬ at_ s 0 % 16 * 4096 + at_ s 1 % 64 * 64 + at_ s 2 % 64 < 2048 := by omega
            have e3 : at_ s 0 % 16 * 4096 + at_ s 1 % 64 * 64 + at_ s 2 % 64 < 65536 := by omega
            refine ⟨⟨by simp only; omega, by simp only; omega⟩, ?_, ?_, ?_⟩
            · simp only [encN, if_neg e1, if_neg e2, if_pos e3]; rfl
            · simp only; omega
            · simp only [encN, if_neg e1, if_neg e2, if_pos e3, tk, List.range_succ, List.range_zero, List.nil_append, List.cons_append, List.map_cons, List.map_nil, List.cons.injEq, and_true]
              omega
          · intro hd
            exact absurd rfl hd
        · rw [if_neg h3]
          by_cases h5 : at_ s 0 / 8 = 30 ∧ (1 < s.length ∧ at_ s 1 / 64 = 2) ∧ (2 < s.length ∧ at_ s 2 / 64 = 2) ∧ (3 < s.length ∧ at_ s 3 / 64 = 2)
          · rw [if_pos h5]
            split
            · rename_i h4
              intro _
              have e1 : ¬ at_ s 0 % 8 * 262144 + at_ s 1 % 64 * 4096 + at_ s 2 % 64 * 64 + at_ s 3 % 64 < 128 := by omega
              have e2 : ¬ at_ s 0 % 8 * 262144 + at_ s 1 % 64 * 4096 + at_ s 2 % 64 * 64 + at_ s 3 % 64 < 2048 := by omega
              have e3 : ¬ at_ s 0 % 8 * 262144 + at_ s 1 % 64 * 4096 + at_ s 2 % 64 * 64 + at_ s 3 % 64 < 65536 := by omega
              refine ⟨⟨by simp only; omega, by simp only; omega⟩, ?_, ?_, ?_⟩
              · simp only [encN, if_neg e1, if_neg e2, if_neg e3]; rfl
              · simp only; omega
              · simp only [encN, if_neg e1, if_neg e2, if_neg e3, tk, List.range_succ, List.range_zero, List.nil_append, List.cons_append, List.map_cons, List.map_nil, List.cons.injEq, and_true]
                omega
            · intro hd
              exact absurd rfl hd
          · rw [if_neg h5]
            intro hd
            exact absurd rfl hd

set_option maxRecDepth 100000 in
set_option maxHeartbeats 4000000 in
/-- A text that begins with a character's bytes begins with that character. -/
theorem nx_of_tk (s : List UInt8) (c : Nat) (hc : isCh c) (hl : (encN c).length ≤ s.length) (h : tk s (encN c).length = encN c) : nx s = (c, (encN c).length) := by
  obtain ⟨c1, c2⟩ := hc
  have b0 := at_lt s 0
  have hd : dec s = (c, (encN c).length) ∧ (c, (encN c).length) ≠ ((65533, 1) : Nat × Nat) := by
    unfold dec decodeN
    unfold encN at h hl ⊢
    by_cases e1 : c < 128
    · rw [if_pos e1] at h hl ⊢
      simp [tk, List.range_succ] at h
      rw [if_pos (by omega), h]
      refine ⟨rfl, ?_⟩
      simp; omega
    · rw [if_neg e1] at h hl ⊢
      by_cases e2 : c < 2048
      · rw [if_pos e2] at h hl ⊢
        simp [tk, List.range_succ] at h hl
        obtain ⟨h0, h1⟩ := h
        rw [if_neg (by omega), if_pos (by omega), if_pos (by omega)]
        refine ⟨?_, by simp⟩
        apply Prod.ext
        · simp only; omega
        · rfl
      · rw [if_neg e2] at h hl ⊢
        by_cases e3 : c < 65536
        · rw [if_pos e3] at h hl ⊢
          simp [tk, List.range_succ] at h hl
          obtain ⟨h0, h1, h2⟩ := h
          rw [if_neg (by omega), if_neg (by omega), if_pos (by omega), if_pos (by omega)]
          refine ⟨?_, by simp⟩
          apply Prod.ext
          · simp only; omega
          · rfl
        · rw [if_neg e3] at h hl ⊢
          simp [tk, List.range_succ] at h hl
          obtain ⟨h0, h1, h2, h3⟩ := h
          rw [if_neg (by omega), if_neg (by omega), if_neg (by omega), if_pos (by omega), if_pos (by omega)]
          refine ⟨?_, by simp⟩
          apply Prod.ext
          · simp only; omega
          · rfl
  unfold nx
  rw [hd.1, if_neg hd.2]

theorem nx_le (s : List UInt8) (h : s ≠ []) : 1 ≤ (nx s).2 ∧ (nx s).2 ≤ 4 ∧ (nx s).2 ≤ s.length := by
  have hl : 1 ≤ s.length := by cases s with | nil => exact absurd rfl h | cons => simp
  rcases nx_cases s h with ⟨_, h2, h3, _⟩ | ⟨h1, _⟩
  · have := encN_len (nx s).1
    omega
  · rw [h1]; simp; omega

theorem nx_take (s : List UInt8) (h : s ≠ []) : s.take (nx s).2 = toB (bytesOf (nx s).1) := by
  rcases nx_cases s h with ⟨h1, _, h3, h4⟩ | ⟨h1, h2, _⟩
  · refine take_of_tk h3 ?_
    rw [h4, bytesOf, if_pos (by have := h1.1; omega)]
  · have hl : 1 ≤ s.length := by cases s with | nil => exact absurd rfl h | cons => simp
    refine take_of_tk (by rw [h1]; exact hl) ?_
    rw [h1, bytesOf, if_neg (by simp)]
    simp [tk, List.range_succ]

/-- Where a text ends, or no second, third or fourth byte stands: what begins ahead of it hangs on what is ahead of it alone. -/
def starts (t : List UInt8) : Prop := at_ t 0 / 64 ≠ 2
theorem starts_nil : starts [] := by simp [starts, at_]

set_option maxRecDepth 100000 in
set_option maxHeartbeats 4000000 in
theorem dec_app (a t : List UInt8) (h : a ≠ []) (ht : starts t) : dec (a ++ t) = dec a := by
  have hl : 1 ≤ a.length := by cases a with | nil => exact absurd rfl h | cons => simp
  have e0 : at_ (a ++ t) 0 = at_ a 0 := at_app_l (by omega)
  have c1 : (1 < (a ++ t).length ∧ at_ (a ++ t) 1 / 64 = 2) ↔ (1 < a.length ∧ at_ a 1 / 64 = 2) := by
    by_cases h1 : 1 < a.length
    · rw [at_app_l h1]; simp; omega
    · have : a.length = 1 := by omega
      rw [at_app_r (by omega), this]
      have := ht
      unfold starts at this
      simp; omega
  have c2 : (1 < a.length ∧ at_ a 1 / 64 = 2) → ((2 < (a ++ t).length ∧ at_ (a ++ t) 2 / 64 = 2) ↔ (2 < a.length ∧ at_ a 2 / 64 = 2)) := by
    intro hh
    by_cases h1 : 2 < a.length
    · rw [at_app_l h1]; simp; omega
    · have : a.length = 2 := by omega
      rw [at_app_r (by omega), this]
      have := ht
      unfold starts at this
      simp; omega
  have c3 : (2 < a.length ∧ at_ a 2 / 64 = 2) → ((3 < (a ++ t).length ∧ at_ (a ++ t) 3 / 64 = 2) ↔ (3 < a.length ∧ at_ a 3 / 64 = 2)) := by
    intro hh
    by_cases h1 : 3 < a.length
    · rw [at_app_l h1]; simp; omega
    · have : a.length = 3 := by omega
      rw [at_app_r (by omega), this]
      have := ht
      unfold starts at this
      simp; omega
  unfold dec decodeN
  rw [e0]
  by_cases h0 : at_ a 0 < 128
  · rw [if_pos h0, if_pos h0]
  · rw [if_neg h0, if_neg h0]
    by_cases k1 : 1 < a.length ∧ at_ a 1 / 64 = 2
    · have k1' := c1.2 k1
      have e1 : at_ (a ++ t) 1 = at_ a 1 := at_app_l k1.1
      rw [e1] at k1' ⊢
      by_cases k2 : 2 < a.length ∧ at_ a 2 / 64 = 2
      · have k2' := (c2 k1).2 k2
        have e2 : at_ (a ++ t) 2 = at_ a 2 := at_app_l k2.1
        rw [e2] at k2' ⊢
        by_cases k3 : 3 < a.length ∧ at_ a 3 / 64 = 2
        · have k3' := (c3 k2).2 k3
          have e3 : at_ (a ++ t) 3 = at_ a 3 := at_app_l k3.1
          rw [e3] at k3' ⊢
          simp only [k1, k1', k2, k2', k3, k3', and_true]
        · have k3' : ¬ (3 < (a ++ t).length ∧ at_ (a ++ t) 3 / 64 = 2) := fun x => k3 ((c3 k2).1 x)
          simp only [k1, k1', k2, k2', k3, k3', and_true, and_false, if_false]
      · have k2' : ¬ (2 < (a ++ t).length ∧ at_ (a ++ t) 2 / 64 = 2) := fun x => k2 ((c2 k1).1 x)
        simp only [k1, k1', k2, k2', and_true, and_false, false_and, if_false]
    · have k1' : ¬ (1 < (a ++ t).length ∧ at_ (a ++ t) 1 / 64 = 2) := fun x => k1 (c1.1 x)
      simp only [k1, k1', and_false, false_and, if_false]

theorem nx_app (a t : List UInt8) (h : a ≠ []) (ht : starts t) : nx (a ++ t) = nx a := by
  have hl : 1 ≤ a.length := by cases a with | nil => exact absurd rfl h | cons => simp
  have e0 : at_ (a ++ t) 0 = at_ a 0 := at_app_l (by omega)
  unfold nx
  rw [dec_app a t h ht, e0]

/-- All units of a text. -/
def unF : Nat → List UInt8 → List Nat
  | 0, _ => []
  | f + 1, s => if s = [] then [] else (nx s).1 :: unF f (s.drop (nx s).2)
def un (s : List UInt8) : List Nat := unF s.length s
theorem unF_nil (f : Nat) : unF f [] = [] := by cases f <;> simp [unF]
theorem unF_more (f : Nat) : ∀ (g : Nat) (s : List UInt8), s.length ≤ f → s.length ≤ g → unF f s = unF g s := by
  induction f with
  | zero =>
    intro g s hf _
    obtain rfl : s = [] := List.eq_nil_of_length_eq_zero (by omega)
    rw [unF_nil, unF_nil]
  | succ f ih =>
    intro g s hf hg
    by_cases h : s = []
    · subst h; rw [unF_nil, unF_nil]
    · have hl : 1 ≤ s.length := by cases s with | nil => exact absurd rfl h | cons => simp
      cases g with
      | zero => omega
      | succ g =>
        have hk := nx_le s h
        have hd : (s.drop (nx s).2).length ≤ f := by rw [List.length_drop]; omega
        have hd' : (s.drop (nx s).2).length ≤ g := by rw [List.length_drop]; omega
        simp only [unF, if_neg h, ih g _ hd hd']
theorem un_nil : un [] = [] := rfl
theorem un_step (s : List UInt8) (h : s ≠ []) : un s = (nx s).1 :: un (s.drop (nx s).2) := by
  have hl : 1 ≤ s.length := by cases s with | nil => exact absurd rfl h | cons => simp
  have hk := nx_le s h
  unfold un
  obtain ⟨f, hf⟩ : ∃ f, s.length = f + 1 := ⟨s.length - 1, by omega⟩
  rw [hf]
  simp only [unF, if_neg h]
  rw [unF_more f _ _ (by rw [List.length_drop]; omega) (Nat.le_refl _)]

theorem un_ind {P : List UInt8 → Prop} (h0 : P []) (h1 : ∀ s, s ≠ [] → P (s.drop (nx s).2) → P s) : ∀ s, P s := by
  have : ∀ n (s : List UInt8), s.length ≤ n → P s := by
    intro n
    induction n with
    | zero => intro s hs; obtain rfl : s = [] := List.eq_nil_of_length_eq_zero (by omega); exact h0
    | succ n ih =>
      intro s hs
      by_cases h : s = []
      · subst h; exact h0
      · have hk := nx_le s h
        exact h1 s h (ih _ (by rw [List.length_drop]; omega))
  exact fun s => this s.length s (Nat.le_refl _)

theorem un_app (a t : List UInt8) (ht : starts t) : un (a ++ t) = un a ++ un t := by
  refine un_ind (P := fun a => un (a ++ t) = un a ++ un t) (by simp [un_nil]) (fun s hs ih => ?_) a
  have hk := nx_le s hs
  have hne : s ++ t ≠ [] := by simp [hs]
  rw [un_step _ hne, nx_app s t hs ht, un_step s hs, List.drop_append_of_le_length hk.2.2, ih, List.cons_append]

theorem un_len (s : List UInt8) : (un s).length ≤ s.length := by
  refine un_ind (P := fun s => (un s).length ≤ s.length) (by simp [un_nil]) (fun s hs ih => ?_) s
  have hk := nx_le s hs
  rw [un_step s hs]
  rw [List.length_drop] at ih
  simp; omega

theorem un_join (s : List UInt8) : (un s).flatMap (fun u => toB (bytesOf u)) = s := by
  refine un_ind (P := fun s => (un s).flatMap (fun u => toB (bytesOf u)) = s) (by simp [un_nil]) (fun s hs ih => ?_) s
  rw [un_step s hs, List.flatMap_cons, ih, ← nx_take s hs, List.take_append_drop]

theorem nx_right (s : List UInt8) (h : s ≠ []) : isCh (nx s).1 ∨ isStray (nx s).1 := by
  have b0 := at_lt s 0
  rcases nx_cases s h with ⟨h1, _⟩ | ⟨h1, h2, _⟩
  · exact .inl h1
  · rw [h1]; exact .inr ⟨by simp only; omega, by simp only; omega⟩
theorem un_right (s : List UInt8) : ∀ u ∈ un s, isCh u ∨ isStray u := by
  refine un_ind (P := fun s => ∀ u ∈ un s, isCh u ∨ isStray u) (by simp [un_nil]) (fun s hs ih => ?_) s
  rw [un_step s hs]
  intro u hu
  rcases List.mem_cons.1 hu with rfl | hu
  · exact nx_right s hs
  · exact ih u hu

theorem encN_byte (c : Nat) (hc : c ≤ 1114111) : ∀ x ∈ encN c, x < 256 := by
  intro x hx
  unfold encN at hx
  repeat' split at hx
  all_goals simp at hx; omega
theorem toB_len (l : List Nat) : (toB l).length = l.length := by simp [toB]
theorem at_toB (l t : List Nat) (r : List UInt8) (i : Nat) (hi : i < l.length) (hb : ∀ x ∈ l, x < 256) (ht : t = l) : at_ (toB t ++ r) i = l[i] := by
  subst ht
  rw [at_app_l (by rw [toB_len]; exact hi)]
  have := hb _ (List.getElem_mem hi)
  simp [at_, toB, List.getD_eq_getElem?_getD, hi]
  omega
theorem tk_toB (l : List Nat) (r : List UInt8) (hb : ∀ x ∈ l, x < 256) : tk (toB l ++ r) l.length = l := by
  apply List.ext_getElem
  · simp [tk]
  · intro i h1 h2
    simp only [tk, List.getElem_map, List.getElem_range]
    exact at_toB l l r i h2 hb rfl

theorem nx_enc (c : Nat) (hc : isCh c) (r : List UInt8) : nx (toB (encN c) ++ r) = (c, (encN c).length) :=
  nx_of_tk _ c hc (by simp [toB_len]) (tk_toB _ r (encN_byte c hc.1))
theorem un_enc (c : Nat) (hc : isCh c) (r : List UInt8) : un (toB (encN c) ++ r) = c :: un r := by
  have hne : toB (encN c) ++ r ≠ [] := by
    have := encN_len c
    intro h
    have := congrArg List.length h
    rw [List.length_append, toB_len, List.length_nil] at this
    omega
  have : (toB (encN c) ++ r).drop (encN c).length = r := by
    rw [List.drop_append_of_le_length (by rw [toB_len]; exact Nat.le_refl _)]
    simp [List.drop_of_length_le, toB_len]
  rw [un_step _ hne, nx_enc c hc r, this]
theorem starts_enc (c : Nat) (hc : isCh c) (r : List UInt8) : starts (toB (encN c) ++ r) := by
  have hl := encN_len c
  unfold starts
  rw [at_toB (encN c) (encN c) r 0 (by omega) (encN_byte c hc.1) rfl]
  obtain ⟨h1, _⟩ := hc
  unfold encN
  repeat' split
  all_goals simp; omega

theorem un_chars (l : List Nat) (h : ∀ c ∈ l, isCh c) : un (l.flatMap fun c => toB (encN c)) = l := by
  induction l with
  | nil => rfl
  | cons c l ih =>
    rw [List.flatMap_cons, un_enc c (h c (by simp)), ih (fun x hx => h x (by simp [hx]))]

/-- Cut where a character ends. -/
theorem un_parts1 (a : List UInt8) (c : Nat) (hc : isCh c) : un (a ++ toB (encN c)) = un a ++ [c] := by
  have := starts_enc c hc []
  have e := un_enc c hc []
  simp only [List.append_nil] at this e
  rw [un_app _ _ this, e, un_nil]
theorem un_parts2 (a : List UInt8) (c : Nat) (hc : isCh c) (b : List UInt8) : un (a ++ toB (encN c) ++ b) = un a ++ [c] ++ un b := by
  rw [List.append_assoc, un_app _ _ (starts_enc c hc b), un_enc c hc b]
  simp
theorem un_turned (a : List UInt8) (c : UInt8) (hc : c.toNat < 128) (b : List UInt8) : un (a ++ [c] ++ b) = un a ++ [c.toNat] ++ un b := by
  have h : toB (encN c.toNat) = [c] := by simp [toB, encN, hc]
  have hch : isCh c.toNat := ⟨by omega, by omega⟩
  have := un_parts2 a c.toNat hch b
  rwa [h] at this

end Go.Proofs.YtefgobmpleoafaaGreatDoor

/- Plain mathematics of sets of numbers: lists of ranges; normal lists; what they have; how many numbers they have. Of no program. -/
namespace Go.Proofs.YtefgobmpleoafaaGreatDoor.Cl

abbrev Rg := Int × Int

/-- A range is right. -/
def Rt (r : Rg) : Prop := 0 ≤ r.1 ∧ r.1 ≤ r.2 ∧ r.2 ≤ 1114367
def rightB (r : Rg) : Bool := decide (0 ≤ r.1 ∧ r.1 ≤ r.2 ∧ r.2 ≤ 1114367)
theorem rightB_iff (r : Rg) : rightB r = true ↔ Rt r := by simp [rightB, Rt]
def inB (r : Rg) (u : Int) : Bool := decide (r.1 ≤ u ∧ u ≤ r.2)
def hasB (l : List Rg) (u : Int) : Bool := l.any fun r => inB r u
theorem hasB_nil (u : Int) : hasB [] u = false := rfl
theorem hasB_cons (r : Rg) (l : List Rg) (u : Int) : hasB (r :: l) u = (inB r u || hasB l u) := rfl
theorem hasB_append (a b : List Rg) (u : Int) : hasB (a ++ b) u = (hasB a u || hasB b u) := by simp [hasB]
theorem hasB_iff (l : List Rg) (u : Int) : hasB l u = true ↔ ∃ r ∈ l, r.1 ≤ u ∧ u ≤ r.2 := by simp [hasB, inB]
theorem inB_iff (r : Rg) (u : Int) : inB r u = true ↔ r.1 ≤ u ∧ u ≤ r.2 := by simp [inB]
theorem hasB_perm {a b : List Rg} (h : a.Perm b) (u : Int) : hasB a u = hasB b u := by
  rw [Bool.eq_iff_iff, hasB_iff, hasB_iff]
  exact ⟨fun ⟨r, hr, hu⟩ => ⟨r, h.mem_iff.1 hr, hu⟩, fun ⟨r, hr, hu⟩ => ⟨r, h.mem_iff.2 hr, hu⟩⟩

/-- A normal set. -/
def Norm (l : List Rg) : Prop := (∀ r ∈ l, Rt r) ∧ l.Pairwise fun a b => a.2 + 2 ≤ b.1
theorem norm_nil : Norm [] := ⟨by simp, List.Pairwise.nil⟩
theorem norm_cons {r : Rg} {l : List Rg} : Norm (r :: l) ↔ Rt r ∧ (∀ s ∈ l, r.2 + 2 ≤ s.1) ∧ Norm l := by
  simp only [Norm, List.mem_cons, forall_eq_or_imp, List.pairwise_cons]
  exact ⟨fun ⟨⟨a, b⟩, c, d⟩ => ⟨a, c, b, d⟩, fun ⟨a, c, b, d⟩ => ⟨⟨a, b⟩, c, d⟩⟩

/-- .. told place by place. -/
def okAt (l : List Rg) (k : Nat) : Prop := ∀ r, l[k]? = some r → Rt r ∧ ∀ s, 0 < k → l[k - 1]? = some s → s.2 + 2 ≤ r.1
theorem okAt_cons_succ {r : Rg} {l : List Rg} (h : ∀ k, okAt (r :: l) k) : ∀ k, okAt l k := by
  intro k x hx
  have := h (k + 1) x (by simpa using hx)
  refine ⟨this.1, fun s hk hs => this.2 s (by omega) ?_⟩
  obtain ⟨m, rfl⟩ : ∃ m, k = m + 1 := ⟨k - 1, by omega⟩
  simpa using hs
theorem norm_of_ok : ∀ (l : List Rg), (∀ k, okAt l k) → Norm l
  | [], _ => norm_nil
  | r :: l, h => by
    have hl := norm_of_ok l (okAt_cons_succ h)
    have hr := (h 0 r rfl).1
    refine norm_cons.2 ⟨hr, ?_, hl⟩
    match l, h, hl with
    | [], _, _ => simp
    | s :: t, h, hl =>
      have h1 := (h 1 s rfl).2 r (by omega) rfl
      have h2 := norm_cons.1 hl
      intro x hx
      rcases List.mem_cons.1 hx with rfl | hx
      · exact h1
      · have := h2.2.1 x hx
        have := h2.1
        unfold Rt at this
        omega
theorem ok_of_norm : ∀ {l : List Rg}, Norm l → ∀ k, okAt l k
  | [], _, k => by intro r h; simp at h
  | r :: l, h, k => by
    obtain ⟨h1, h2, h3⟩ := norm_cons.1 h
    intro x hx
    match k, hx with
    | 0, hx =>
      simp at hx
      subst hx
      exact ⟨h1, fun s h => absurd h (by omega)⟩
    | k + 1, hx =>
      simp at hx
      have hk := ok_of_norm h3 k x hx
      refine ⟨hk.1, fun s _ hs => ?_⟩
      match k, hs, hx with
      | 0, hs, hx =>
        simp at hs
        subst hs
        exact h2 x (List.mem_of_getElem? hx)
      | k + 1, hs, hx =>
        simp at hs
        exact hk.2 s (by omega) (by simpa using hs)
open Classical in
noncomputable def normB (l : List Rg) : Bool := decide (Norm l)
theorem normB_true {l : List Rg} (h : Norm l) : normB l = true := by simp [normB, h]
theorem normB_false {l : List Rg} (h : ¬ Norm l) : normB l = false := by simp [normB, h]

theorem norm_low {r : Rg} {l : List Rg} {u : Int} (h : Norm (r :: l)) (hu : hasB l u = true) : r.2 + 2 ≤ u := by
  obtain ⟨s, hs, hu⟩ := (hasB_iff _ _).1 hu
  have := (norm_cons.1 h).2.1 s hs
  omega
theorem norm_first {r : Rg} {l : List Rg} {u : Int} (h : Norm (r :: l)) (hu : hasB (r :: l) u = true) : r.1 ≤ u := by
  rw [hasB_cons, Bool.or_eq_true, inB_iff] at hu
  have h1 := (norm_cons.1 h).1
  unfold Rt at h1
  rcases hu with hu | hu
  · omega
  · have := norm_low h hu
    omega
theorem norm_has_first {r : Rg} {l : List Rg} (h : Norm (r :: l)) : hasB (r :: l) r.1 = true ∧ hasB (r :: l) r.2 = true := by
  have h1 := (norm_cons.1 h).1
  unfold Rt at h1
  rw [hasB_cons, hasB_cons]
  simp [inB]
  omega

/-- Two normal sets that have the same numbers are the same. -/
theorem norm_ext : ∀ {a b : List Rg}, Norm a → Norm b → (∀ u, hasB a u = hasB b u) → a = b
  | [], [], _, _, _ => rfl
  | [], s :: b, _, hb, h => by have := h s.1; rw [(norm_has_first hb).1, hasB_nil] at this; cases this
  | r :: a, [], ha, _, h => by have := h r.1; rw [(norm_has_first ha).1, hasB_nil] at this; cases this
  | r :: a, s :: b, ha, hb, h => by
    have ra := (norm_cons.1 ha).1
    have rb := (norm_cons.1 hb).1
    unfold Rt at ra rb
    have h1 : s.1 ≤ r.1 := norm_first hb (by rw [← h]; exact (norm_has_first ha).1)
    have h2 : r.1 ≤ s.1 := norm_first ha (by rw [h]; exact (norm_has_first hb).1)
    have h3 : s.2 ≤ r.2 := by
      refine Decidable.byContradiction fun hn => ?_
      have := h (r.2 + 1)
      rw [hasB_cons s, (inB_iff s _).2 (by omega), Bool.true_or, hasB_cons, Bool.or_eq_true, inB_iff] at this
      rcases this with this | this
      · omega
      · have := norm_low ha this
        omega
    have h4 : r.2 ≤ s.2 := by
      refine Decidable.byContradiction fun hn => ?_
      have := h (s.2 + 1)
      rw [hasB_cons r, (inB_iff r _).2 (by omega), Bool.true_or, eq_comm, hasB_cons, Bool.or_eq_true, inB_iff] at this
      rcases this with this | this
      · omega
      · have := norm_low hb this
        omega
    obtain rfl : r = s := Prod.ext (by omega) (by omega)
    have := norm_ext (norm_cons.1 ha).2.2 (norm_cons.1 hb).2.2 (fun u => by
      have hu := h u
      rw [hasB_cons, hasB_cons] at hu
      by_cases hi : inB r u = true
      · rw [inB_iff] at hi
        have e1 : hasB a u = false := Bool.eq_false_iff.2 fun e => by have := norm_low ha e; omega
        have e2 : hasB b u = false := Bool.eq_false_iff.2 fun e => by have := norm_low hb e; omega
        rw [e1, e2]
      · rw [Bool.not_eq_true] at hi
        simpa [hi] using hu)
    rw [this]

/-! ### How many numbers -/
def cnt (p : Int → Bool) : Nat → Int
  | 0 => 0
  | n + 1 => cnt p n + if p (n : Int) then 1 else 0
theorem cnt_congr {p q : Int → Bool} (h : ∀ u, p u = q u) : ∀ n, cnt p n = cnt q n
  | 0 => rfl
  | n + 1 => by rw [cnt, cnt, cnt_congr h n, h]
theorem cnt_or_and (p q : Int → Bool) : ∀ n, cnt (fun u => p u || q u) n + cnt (fun u => p u && q u) n = cnt p n + cnt q n
  | 0 => rfl
  | n + 1 => by
    have := cnt_or_and p q n
    simp only [cnt]
    by_cases hp : p (n : Int) = true <;> by_cases hq : q (n : Int) = true <;> simp [hp, hq] <;> omega
theorem cnt_none : ∀ n, cnt (fun _ => false) n = 0
  | 0 => rfl
  | n + 1 => by rw [cnt, cnt_none n]; rfl
theorem cnt_not (p : Int → Bool) : ∀ n, cnt p n + cnt (fun u => !p u) n = n
  | 0 => rfl
  | n + 1 => by
    have := cnt_not p n
    simp only [cnt]
    by_cases hp : p (n : Int) = true <;> simp [hp] <;> omega
theorem cnt_inside (lo hi : Int) (h0 : 0 ≤ lo) (h1 : lo ≤ hi) : ∀ (n : Nat), cnt (inB (lo, hi)) n = max 0 (min (n : Int) (hi + 1) - lo)
  | 0 => by simp [cnt]; omega
  | n + 1 => by
    rw [cnt, cnt_inside lo hi h0 h1 n]
    by_cases h : inB (lo, hi) (n : Int) = true
    · rw [if_pos h]
      rw [inB_iff] at h
      simp only at h
      omega
    · rw [if_neg h]
      rw [inB_iff] at h
      simp only at h
      omega
/-- The sum of the ranges' lengths. -/
def total (l : List Rg) : Int := (l.map fun r => r.2 - r.1 + 1).sum
theorem total_cons (r : Rg) (l : List Rg) : total (r :: l) = r.2 - r.1 + 1 + total l := by simp [total]
theorem total_snoc (l : List Rg) (r : Rg) : total (l ++ [r]) = total l + (r.2 - r.1 + 1) := by simp [total]
theorem total_nil : total [] = 0 := rfl
theorem total_bound : ∀ (l : List Rg), (∀ r ∈ l, Rt r) → 0 ≤ total l ∧ total l ≤ 1114368 * l.length
  | [], _ => by simp [total]
  | r :: l, h => by
    have h1 := total_bound l fun x hx => h x (List.mem_cons_of_mem _ hx)
    have h2 := h r (List.mem_cons_self ..)
    unfold Rt at h2
    rw [total_cons, List.length_cons]
    omega
/-- A normal set's sum is how many numbers it has. -/
theorem total_cnt (N : Nat) (hN : 1114368 ≤ (N : Int)) : ∀ {l : List Rg}, Norm l → total l = cnt (hasB l) N
  | [], _ => by rw [cnt_congr (p := hasB []) (q := fun _ => false) (fun _ => rfl), cnt_none]; rfl
  | r :: l, h => by
    obtain ⟨h1, _, h3⟩ := norm_cons.1 h
    unfold Rt at h1
    have hl := total_cnt N hN h3
    have hi := cnt_inside r.1 r.2 h1.1 h1.2.1 N
    have ho := cnt_or_and (inB r) (hasB l) N
    have hz : cnt (fun u => inB r u && hasB l u) N = 0 := by
      rw [cnt_congr (q := fun _ => false), cnt_none]
      intro u
      rw [Bool.and_eq_false_iff]
      by_cases hu : hasB l u = true
      · left
        have := norm_low h hu
        exact Bool.eq_false_iff.2 fun e => by rw [inB_iff] at e; omega
      · right
        simpa using hu
    rw [total_cons, hl, cnt_congr (p := hasB (r :: l)) (q := fun u => inB r u || hasB l u) (fun _ => rfl)]
    have e : cnt (inB r) N = r.2 - r.1 + 1 := by
      rw [show inB r = inB (r.1, r.2) from rfl, hi]
      omega
    omega

/-! ### What a set hasn't -/
def gaps : Int → List Rg → List Rg
  | from_, [] => if from_ ≤ 1114367 then [(from_, 1114367)] else []
  | from_, r :: l => (if from_ < r.1 then [(from_, r.1 - 1)] else []) ++ gaps (r.2 + 1) l
theorem gaps_ok : ∀ (l : List Rg) (f : Int), 0 ≤ f → Norm l → (∀ r ∈ l, f ≤ r.1) →
    Norm (gaps f l) ∧ (∀ g ∈ gaps f l, f ≤ g.1) ∧ ∀ u, hasB (gaps f l) u = (decide (f ≤ u ∧ u ≤ 1114367) && !hasB l u)
  | [], f, h0, _, _ => by
    unfold gaps
    split
    · refine ⟨norm_cons.2 ⟨by unfold Rt; simp only; omega, by simp, norm_nil⟩, by simp, fun u => ?_⟩
      simp [hasB, inB]
    · refine ⟨norm_nil, by simp, fun u => ?_⟩
      simp [hasB]
      omega
  | r :: l, f, h0, hn, hf => by
    obtain ⟨h1, h2, h3⟩ := norm_cons.1 hn
    have hr := hf r (List.mem_cons_self ..)
    unfold Rt at h1
    obtain ⟨g1, g2, g3⟩ := gaps_ok l (r.2 + 1) (by omega) h3 (fun s hs => by have := h2 s hs; omega)
    have hh : ∀ u, hasB (gaps f (r :: l)) u = (decide (f ≤ u ∧ u ≤ 1114367) && !hasB (r :: l) u) := by
      intro u
      rw [gaps, hasB_append, g3, hasB_cons]
      have hlow : hasB l u = true → r.2 + 2 ≤ u := norm_low hn
      rw [Bool.eq_iff_iff]
      by_cases hu : hasB l u = true
      · have := hlow hu
        split <;> simp [hasB, inB] at * <;> grind
      · rw [Bool.not_eq_true] at hu
        simp only [hu, Bool.not_false, Bool.and_true, Bool.or_false]
        split <;> simp [hasB, inB] <;> omega
    refine ⟨?_, ?_, hh⟩
    · rw [gaps]
      split
      · exact norm_cons.2 ⟨by unfold Rt; simp only; omega, fun s hs => by have := g2 s hs; simp only; omega, g1⟩
      · exact g1
    · intro g hg
      rw [gaps, List.mem_append] at hg
      rcases hg with hg | hg
      · split at hg
        · simp at hg
          subst hg
          simp
        · simp at hg
      · have := g2 g hg
        omega
theorem gaps_len : ∀ (l : List Rg) (f : Int), (gaps f l).length ≤ l.length + 1
  | [], f => by unfold gaps; split <;> simp
  | r :: l, f => by
    have := gaps_len l (r.2 + 1)
    rw [gaps]
    split <;> simp <;> omega

/-! ### What both have -/
def shr (r s : Rg) : Rg := (max r.1 s.1, min r.2 s.2)
def part (r s : Rg) : List Rg := if (shr r s).1 ≤ (shr r s).2 then [shr r s] else []
def ands : List Rg → List Rg → List Rg
  | [], _ => []
  | _ :: _, [] => []
  | r :: l, s :: o => part r s ++ if r.2 < s.2 then ands l (s :: o) else ands (r :: l) o
termination_by l o => l.length + o.length
theorem ands_nil_right (l : List Rg) : ands l [] = [] := by cases l <;> simp [ands]
theorem part_has (r s : Rg) (u : Int) : hasB (part r s) u = (inB r u && inB s u) := by
  unfold part shr
  rw [Bool.eq_iff_iff]
  split <;> simp [hasB, inB] at * <;> omega
theorem ands_ok : ∀ (l o : List Rg), Norm l → Norm o → Norm (ands l o) ∧ (∀ u, hasB (ands l o) u = (hasB l u && hasB o u))
  | [], o, _, _ => by simp [ands, norm_nil, hasB]
  | r :: l, [], _, _ => by simp [ands, norm_nil, hasB]
  | r :: l, s :: o, hl, ho => by
    obtain ⟨r1, r2, r3⟩ := norm_cons.1 hl
    obtain ⟨s1, s2, s3⟩ := norm_cons.1 ho
    unfold Rt at r1 s1
    -- the numbers of the rest, and that they lie behind the part
    have key : ∀ (R : List Rg), Norm R → (∀ u, hasB R u = if r.2 < s.2 then (hasB l u && hasB (s :: o) u) else (hasB (r :: l) u && hasB o u)) →
        Norm (part r s ++ R) ∧ ∀ u, hasB (part r s ++ R) u = (hasB (r :: l) u && hasB (s :: o) u) := by
      intro R hR hu
      refine ⟨?_, fun u => ?_⟩
      · unfold part
        split
        · rename_i hp
          refine norm_cons.2 ⟨by unfold Rt; simp only [shr] at hp ⊢; omega, fun x hx => ?_, hR⟩
          have hx1 : hasB R x.1 = true := (hasB_iff _ _).2 ⟨x, hx, by have := hR.1 x hx; unfold Rt at this; omega⟩
          rw [hu] at hx1
          simp only [shr] at hp ⊢
          split at hx1
          · rw [Bool.and_eq_true] at hx1
            have := norm_low hl hx1.1
            omega
          · rw [Bool.and_eq_true] at hx1
            have := norm_low ho hx1.2
            omega
        · exact hR
      · rw [hasB_append, part_has, hu]
        have a1 : hasB l u = true → r.2 + 2 ≤ u := norm_low hl
        have a2 : hasB o u = true → s.2 + 2 ≤ u := norm_low ho
        rw [hasB_cons, hasB_cons]
        rw [Bool.eq_iff_iff]
        simp only [inB] at *
        split <;> grind
    rw [ands]
    split
    · rename_i hlt
      have ih := ands_ok l (s :: o) r3 ho
      exact key _ ih.1 fun u => by rw [if_pos hlt]; exact ih.2 u
    · rename_i hlt
      have ih := ands_ok (r :: l) o hl s3
      exact key _ ih.1 fun u => by rw [if_neg hlt]; exact ih.2 u
termination_by l o => l.length + o.length
theorem ands_len : ∀ (l o : List Rg), (ands l o).length ≤ l.length + o.length
  | [], o => by simp [ands]
  | r :: l, [] => by simp [ands]
  | r :: l, s :: o => by
    have h1 := ands_len l (s :: o)
    have h2 := ands_len (r :: l) o
    rw [ands]
    have hp : (part r s).length ≤ 1 := by unfold part; split <;> simp
    split <;> simp at * <;> omega
termination_by l o => l.length + o.length

/-! ### Ranges that rise, put together -/
def merge : Rg → List Rg → List Rg
  | r, [] => [r]
  | r, n :: t => if r.2 + 1 < n.1 then r :: merge n t else merge (r.1, max r.2 n.2) t
def together : List Rg → List Rg
  | [] => []
  | r :: t => merge r t
theorem merge_ok : ∀ (t : List Rg) (r : Rg), Rt r → (∀ x ∈ t, Rt x) → (∀ x ∈ t, r.1 ≤ x.1) → t.Pairwise (fun a b => a.1 ≤ b.1) →
    Norm (merge r t) ∧ (∀ g ∈ merge r t, r.1 ≤ g.1) ∧ ∀ u, hasB (merge r t) u = (inB r u || hasB t u)
  | [], r, hr, _, _, _ => ⟨norm_cons.2 ⟨hr, by simp, norm_nil⟩, by simp [merge], fun u => by simp [merge, hasB]⟩
  | n :: t, r, hr, ht, hs, hp => by
    have hn := ht n (List.mem_cons_self ..)
    have hrn := hs n (List.mem_cons_self ..)
    rw [List.pairwise_cons] at hp
    rw [merge]
    split
    · rename_i hlt
      obtain ⟨a, b, c⟩ := merge_ok t n hn (fun x hx => ht x (List.mem_cons_of_mem _ hx)) hp.1 hp.2
      refine ⟨norm_cons.2 ⟨hr, fun x hx => by have := b x hx; omega, a⟩, fun g hg => ?_, fun u => by rw [hasB_cons, c, hasB_cons]⟩
      rcases List.mem_cons.1 hg with rfl | hg
      · omega
      · have := b g hg
        omega
    · rename_i hlt
      obtain ⟨a, b, c⟩ := merge_ok t (r.1, max r.2 n.2) (by unfold Rt at *; simp only; omega) (fun x hx => ht x (List.mem_cons_of_mem _ hx)) (fun x hx => by have := hp.1 x hx; simp only; omega) hp.2
      refine ⟨a, b, fun u => ?_⟩
      rw [c, hasB_cons, ← Bool.or_assoc]
      congr 1
      rw [Bool.eq_iff_iff]
      unfold Rt at *
      simp [inB]
      omega
theorem together_ok (l : List Rg) (hr : ∀ x ∈ l, Rt x) (hp : l.Pairwise fun a b => a.1 ≤ b.1) : Norm (together l) ∧ ∀ u, hasB (together l) u = hasB l u := by
  match l, hr, hp with
  | [], _, _ => exact ⟨norm_nil, fun _ => rfl⟩
  | r :: t, hr, hp =>
    rw [List.pairwise_cons] at hp
    obtain ⟨a, _, c⟩ := merge_ok t r (hr r (List.mem_cons_self ..)) (fun x hx => hr x (List.mem_cons_of_mem _ hx)) hp.1 hp.2
    exact ⟨a, fun u => by rw [together, c, hasB_cons]⟩
theorem merge_len : ∀ (t : List Rg) (r : Rg), (merge r t).length ≤ t.length + 1
  | [], r => by simp [merge]
  | n :: t, r => by
    have h1 := merge_len t n
    have h2 := merge_len t (r.1, max r.2 n.2)
    rw [merge]
    split <;> simp <;> omega
theorem together_len (l : List Rg) : (together l).length ≤ l.length := by
  cases l with
  | nil => simp [together]
  | cons r t => simpa [together] using merge_len t r

/-! ### Twins -/
def tw (u : Int) : Int := if 97 ≤ u ∧ u ≤ 122 then u - 32 else if 65 ≤ u ∧ u ≤ 90 then u + 32 else u
theorem tw_tw (u : Int) : tw (tw u) = u := by unfold tw; repeat' split
                                              all_goals omega
def tpart (r s : Rg) : List Rg := if (shr r s).1 ≤ (shr r s).2 then [(tw (shr r s).1, tw (shr r s).2)] else []
def lowR : Rg := (97, 122)
def uppR : Rg := (65, 90)
def twins (r : Rg) : List Rg := tpart r lowR ++ tpart r uppR
theorem tpart_len (r s : Rg) : (tpart r s).length ≤ 1 := by unfold tpart; split <;> simp
theorem twins_len (r : Rg) : (twins r).length ≤ 2 := by
  have h1 := tpart_len r lowR
  have h2 := tpart_len r uppR
  unfold twins
  simp only [List.length_append]
  omega
theorem twins_has (r : Rg) (u : Int) : (inB r u || hasB (twins r) u) = (inB r u || inB r (tw u)) := by
  rw [Bool.eq_iff_iff]
  simp only [twins, hasB_append, Bool.or_eq_true]
  have h1 : hasB (tpart r lowR) u = true ↔ (65 ≤ u ∧ u ≤ 90 ∧ r.1 ≤ u + 32 ∧ u + 32 ≤ r.2) := by
    unfold tpart shr lowR tw
    simp only [Int.max_def, Int.min_def]
    repeat' split
    all_goals simp only [hasB, inB, List.any_cons, List.any_nil, Bool.or_false, decide_eq_true_eq, Bool.false_eq_true, false_iff] at *
    all_goals omega
  have h2 : hasB (tpart r uppR) u = true ↔ (97 ≤ u ∧ u ≤ 122 ∧ r.1 ≤ u - 32 ∧ u - 32 ≤ r.2) := by
    unfold tpart shr uppR tw
    simp only [Int.max_def, Int.min_def]
    repeat' split
    all_goals simp only [hasB, inB, List.any_cons, List.any_nil, Bool.or_false, decide_eq_true_eq, Bool.false_eq_true, false_iff] at *
    all_goals omega
  rw [h1, h2, inB_iff, inB_iff]
  unfold tw
  repeat' split
  all_goals omega
theorem tpart_right (r s : Rg) (h : s = lowR ∨ s = uppR) : ∀ x ∈ tpart r s, Rt x := by
  intro x hx
  unfold tpart at hx
  split at hx
  · rename_i hle
    obtain rfl : x = _ := List.mem_singleton.1 hx
    unfold Rt tw shr at *
    simp only at *
    rcases h with rfl | rfl
    all_goals
      simp only [lowR, uppR] at *
      repeat' split
      all_goals omega
  · simp at hx
theorem twins_right (r : Rg) : ∀ x ∈ twins r, Rt x := by
  intro x hx
  unfold twins at hx
  rw [List.mem_append] at hx
  rcases hx with hx | hx
  · exact tpart_right r _ (.inl rfl) x hx
  · exact tpart_right r _ (.inr rfl) x hx
def folds (l : List Rg) : List Rg := l.flatMap twins
theorem folds_snoc (l : List Rg) (r : Rg) : folds (l ++ [r]) = folds l ++ twins r := by simp [folds]
theorem folds_len : ∀ (l : List Rg), (folds l).length ≤ 2 * l.length
  | [] => by simp [folds]
  | r :: l => by
    have h1 := folds_len l
    have h2 := twins_len r
    simp only [folds, List.flatMap_cons, List.length_append, List.length_cons] at *
    omega
theorem folds_right (l : List Rg) : ∀ x ∈ folds l, Rt x := by
  intro x hx
  obtain ⟨r, _, hx⟩ := List.mem_flatMap.1 hx
  exact twins_right r x hx
theorem folds_has : ∀ (l : List Rg) (u : Int), (hasB l u || hasB (folds l) u) = (hasB l u || hasB l (tw u))
  | [], u => rfl
  | r :: l, u => by
    have h1 := folds_has l u
    have h2 := twins_has r u
    have e : hasB (folds (r :: l)) u = (hasB (twins r) u || hasB (folds l) u) := by simp [folds, hasB_append]
    rw [e, hasB_cons, hasB_cons]
    revert h1 h2
    cases inB r u <;> cases inB r (tw u) <;> cases hasB l u <;> cases hasB l (tw u) <;> cases hasB (twins r) u <;> cases hasB (folds l) u <;> simp

end Go.Proofs.YtefgobmpleoafaaGreatDoor.Cl

