/- Layer 10 in plain mathematics: the sum, a frame, what is read of bytes, the frames one behind the other. No program is imported. -/
import Derived.Lib.UnsafeStr
namespace Go.Proofs.YtefgobmpleoafaaGreat

/-- A byte at a place, as a number; 0 beyond the end. -/
def at_ (s : List UInt8) (i : Nat) : Nat := (s.getD i 0).toNat
theorem at_lt (s : List UInt8) (i : Nat) : at_ s i < 256 := (s.getD i 0).toNat_lt
def sumSt (s : Nat × Nat) (c : UInt8) : Nat × Nat := ((s.1 + c.toNat) % 65521, (s.2 + (s.1 + c.toNat) % 65521) % 65521)
def sums (l : List UInt8) : Nat × Nat := l.foldl sumSt (1, 0)
def adl (l : List UInt8) : Nat := (sums l).2 * 65536 + (sums l).1
theorem sums_snoc (l : List UInt8) (c : UInt8) : sums (l ++ [c]) = sumSt (sums l) c := by simp [sums]
theorem sums_nil : sums [] = (1, 0) := rfl
theorem take_snoc {α : Type} (s : List α) (k : Nat) (h : k < s.length) : s.take (k + 1) = s.take k ++ [s[k]] := by
  rw [List.take_add_one]; simp [h]
theorem at_get (s : List UInt8) (k : Nat) (h : k < s.length) : at_ s k = (s[k]).toNat := by simp [at_, List.getD_eq_getElem?_getD, h]
theorem sums_step (s : List UInt8) (k : Nat) (h : k < s.length) :
    (sums (s.take (k + 1))).1 = ((sums (s.take k)).1 + at_ s k) % 65521 ∧ (sums (s.take (k + 1))).2 = ((sums (s.take k)).2 + (sums (s.take (k + 1))).1) % 65521 := by
  rw [take_snoc s k h, sums_snoc, at_get s k h]; exact ⟨rfl, rfl⟩
theorem sums_lt (l : List UInt8) : (sums l).1 < 65521 ∧ (sums l).2 < 65521 := by
  rcases List.eq_nil_or_concat l with rfl | ⟨l', c, rfl⟩
  · decide
  · rw [List.concat_eq_append, sums_snoc]; exact ⟨Nat.mod_lt _ (by decide), Nat.mod_lt _ (by decide)⟩
theorem adl_lt (l : List UInt8) : adl l < 4294967296 := by have := sums_lt l; unfold adl; omega

def num (l : List UInt8) : Nat := l.foldl (fun n c => n * 256 + c.toNat) 0
theorem num_snoc (l : List UInt8) (c : UInt8) : num (l ++ [c]) = num l * 256 + c.toNat := by simp [num]
theorem num_step (s : List UInt8) (k : Nat) (h : k < s.length) : num (s.take (k + 1)) = num (s.take k) * 256 + at_ s k := by
  rw [take_snoc s k h, num_snoc, at_get s k h]
def be4 (n : Nat) : List UInt8 := [(n / 16777216).toUInt8, (n / 65536 % 256).toUInt8, (n / 256 % 256).toUInt8, (n % 256).toUInt8]
theorem be4_len (n : Nat) : (be4 n).length = 4 := rfl
theorem u8 (n : Nat) (h : n < 256) : n.toUInt8.toNat = n := by simp; omega
theorem num_be4 (n : Nat) (h : n < 4294967296) : num (be4 n) = n := by
  simp only [num, be4, List.foldl_cons, List.foldl_nil]
  rw [u8 _ (by omega), u8 _ (by omega), u8 _ (by omega), u8 _ (by omega)]
  omega
theorem num4 (l : List UInt8) (h : l.length = 4) : num l = ((at_ l 0 * 256 + at_ l 1) * 256 + at_ l 2) * 256 + at_ l 3 := by
  match l, h with
  | [a, b, c, d], _ => simp [num, at_]
theorem num_lt (l : List UInt8) (h : l.length = 4) : num l < 4294967296 := by
  rw [num4 l h]
  have := at_lt l 0; have := at_lt l 1; have := at_lt l 2; have := at_lt l 3
  omega

/-- The frame of a body. -/
def frm (s : List UInt8) : List UInt8 := [67, 70] ++ be4 s.length ++ be4 (adl s) ++ s
theorem frm_len (s : List UInt8) : (frm s).length = 10 + s.length := by simp [frm, be4_len]; omega

def rdN (s : List UInt8) : Nat := num ((s.drop 2).take 4)
def rdK (s : List UInt8) : Nat := num ((s.drop 6).take 4)
def rdB (s : List UInt8) : List UInt8 := (s.drop 10).take (rdN s)
/-- The error's number of reading a frame; 0: none. -/
def rdE (s : List UInt8) : Nat :=
  if s.length < 10 then 11 else if at_ s 0 ≠ 67 ∨ at_ s 1 ≠ 70 then 10 else if 65536 < rdN s then 12 else if s.length < 10 + rdN s then 11 else if adl (rdB s) ≠ rdK s then 15 else 0
theorem rdE_ok {s : List UInt8} (h : rdE s = 0) : 10 ≤ s.length ∧ at_ s 0 = 67 ∧ at_ s 1 = 70 ∧ rdN s ≤ 65536 ∧ 10 + rdN s ≤ s.length ∧ adl (rdB s) = rdK s := by
  unfold rdE at h
  split at h; · cases h
  split at h; · cases h
  split at h; · cases h
  split at h; · cases h
  split at h; · cases h
  rename_i a b c d e
  exact ⟨by omega, by omega, by omega, by omega, by omega, by omega⟩
theorem rdB_len {s : List UInt8} (h : rdE s = 0) : (rdB s).length = rdN s := by
  have := (rdE_ok h).2.2.2.2.1
  simp [rdB]; omega

theorem frm_parts (s t : List UInt8) : at_ (frm s ++ t) 0 = 67 ∧ at_ (frm s ++ t) 1 = 70 ∧ ((frm s ++ t).drop 2).take 4 = be4 s.length ∧ ((frm s ++ t).drop 6).take 4 = be4 (adl s) ∧ (frm s ++ t).drop 10 = s ++ t := by
  simp [frm, at_, be4]
theorem rd_frm (s t : List UInt8) (h : s.length ≤ 65536) : rdE (frm s ++ t) = 0 ∧ rdB (frm s ++ t) = s ∧ rdN (frm s ++ t) = s.length := by
  obtain ⟨h0, h1, h2, h3, h4⟩ := frm_parts s t
  have hN : rdN (frm s ++ t) = s.length := by unfold rdN; rw [h2, num_be4 _ (by omega)]
  have hK : rdK (frm s ++ t) = adl s := by unfold rdK; rw [h3, num_be4 _ (adl_lt s)]
  have hB : rdB (frm s ++ t) = s := by unfold rdB; rw [hN, h4]; simp
  refine ⟨?_, hB, hN⟩
  unfold rdE
  rw [if_neg (by rw [List.length_append, frm_len]; omega), if_neg (by omega), if_neg (by omega), if_neg (by rw [List.length_append, frm_len, hN]; omega), if_neg (by rw [hB, hK]; simp)]
theorem rd_short {s : List UInt8} (h : s.length < 10) : rdE s = 11 := by unfold rdE; rw [if_pos h]
theorem rd_cut (s : List UInt8) (h : s.length ≤ 65536) (k : Nat) (hk : k < 10 + s.length) : rdE ((frm s).take k) = 11 := by
  by_cases h10 : k < 10
  · exact rd_short (by simp; omega)
  · obtain ⟨h0, h1, h2, h3, h4⟩ := frm_parts s []
    rw [List.append_nil] at h0 h1 h2
    have a : ∀ i, i < k → at_ ((frm s).take k) i = at_ (frm s) i := fun i hi => by simp [at_, List.getD_eq_getElem?_getD, hi]
    have hN : rdN ((frm s).take k) = s.length := by
      unfold rdN
      rw [List.drop_take, List.take_take, Nat.min_eq_left (by omega), h2, num_be4 _ (by omega)]
    have hl : ((frm s).take k).length = k := by simp [frm_len]; omega
    unfold rdE
    rw [if_neg (by omega), if_neg (by rw [a 0 (by omega), a 1 (by omega)]; omega), if_neg (by omega), if_pos (by omega)]

/-- The frames with which bytes begin: their bodies, and how many bytes they take. -/
def Sc (s : List UInt8) (u : Nat) : List (List UInt8) → Prop
  | [] => u = 0
  | b :: bs => rdE s = 0 ∧ b = rdB s ∧ 10 + b.length ≤ u ∧ Sc (s.drop (10 + b.length)) (u - (10 + b.length)) bs
theorem Sc.le : ∀ {bs : List (List UInt8)} {s : List UInt8} {u : Nat}, Sc s u bs → u ≤ s.length
  | [], _, _, h => by have : _ = 0 := h; omega
  | b :: bs, s, u, h => by
    obtain ⟨h1, rfl, h3, h4⟩ := h
    have q := Sc.le h4
    have := (rdE_ok h1).2.2.2.2.1
    have hl := rdB_len h1
    rw [List.length_drop] at q
    omega
theorem Sc.snoc : ∀ {bs : List (List UInt8)} {s : List UInt8} {u : Nat}, Sc s u bs → rdE (s.drop u) = 0 → Sc s (u + (10 + (rdB (s.drop u)).length)) (bs ++ [rdB (s.drop u)])
  | [], s, u, h, h0 => by
    obtain rfl : u = 0 := h
    rw [List.drop_zero] at *
    refine ⟨h0, rfl, by omega, ?_⟩
    show _ = 0
    omega
  | b :: bs, s, u, h, h0 => by
    obtain ⟨h1, h2, h3, h4⟩ := h
    have e : (s.drop (10 + b.length)).drop (u - (10 + b.length)) = s.drop u := by rw [List.drop_drop]; congr 1; omega
    have := Sc.snoc h4 (by rw [e]; exact h0)
    rw [e] at this
    refine ⟨h1, h2, by omega, ?_⟩
    rw [show u + (10 + (rdB (List.drop u s)).length) - (10 + b.length) = u - (10 + b.length) + (10 + (rdB (List.drop u s)).length) by omega]
    exact this
theorem Sc.one : ∀ {bs cs : List (List UInt8)} {s : List UInt8} {u v : Nat}, Sc s u bs → rdE (s.drop u) ≠ 0 → Sc s v cs → rdE (s.drop v) ≠ 0 → bs = cs ∧ u = v
  | [], [], _, _, _, h, _, h', _ => ⟨rfl, by rw [show _ = 0 from h, show _ = 0 from h']⟩
  | [], c :: cs, s, u, v, h, n, h', _ => by
    obtain rfl : u = 0 := h
    exact absurd h'.1 n
  | b :: bs, [], s, u, v, h, _, h', n => by
    obtain rfl : v = 0 := h'
    exact absurd h.1 n
  | b :: bs, c :: cs, s, u, v, h, n, h', n' => by
    obtain ⟨h1, h2, h3, h4⟩ := h
    obtain ⟨_, h2', h3', h4'⟩ := h'
    rw [← h2] at h2'
    subst h2'
    have e : ∀ x, 10 + c.length ≤ x → (s.drop (10 + c.length)).drop (x - (10 + c.length)) = s.drop x := fun x hx => by rw [List.drop_drop]; congr 1; omega
    obtain ⟨q1, q2⟩ := Sc.one h4 (by rw [e u h3]; exact n) h4' (by rw [e v h3']; exact n')
    exact ⟨by rw [q1], by omega⟩
/-- Whole frames one behind the other. -/
def cat (bs : List (List UInt8)) : List UInt8 := (bs.map frm).flatten
theorem cat_cons (b : List UInt8) (bs : List (List UInt8)) : cat (b :: bs) = frm b ++ cat bs := by simp [cat]
theorem cat_app (a b : List (List UInt8)) : cat (a ++ b) = cat a ++ cat b := by simp [cat]
theorem cat_one (b : List UInt8) : cat [b] = frm b := by simp [cat]
theorem Sc.cat : ∀ (bs : List (List UInt8)) (t : List UInt8), (∀ b ∈ bs, b.length ≤ 65536) → Sc (cat bs ++ t) (Go.Proofs.YtefgobmpleoafaaGreat.cat bs).length bs
  | [], _, _ => rfl
  | b :: bs, t, h => by
    have hb := rd_frm b (Go.Proofs.YtefgobmpleoafaaGreat.cat bs ++ t) (h b (by simp))
    rw [cat_cons, List.append_assoc]
    refine ⟨hb.1, hb.2.1.symm, by simp [frm_len], ?_⟩
    have e : (frm b ++ (Go.Proofs.YtefgobmpleoafaaGreat.cat bs ++ t)).drop (10 + b.length) = Go.Proofs.YtefgobmpleoafaaGreat.cat bs ++ t := by rw [← frm_len, List.drop_left]
    rw [e, List.length_append, frm_len, Nat.add_sub_cancel_left]
    exact Sc.cat bs t fun x hx => h x (by simp [hx])
theorem tot_nil : sums [] = (1, 0) := rfl
def tot (l : List UInt8) : Nat := (l.map UInt8.toNat).sum
theorem sums_fold : ∀ (l : List UInt8) (a : Nat × Nat), a.1 < 65521 → (l.foldl sumSt a).1 = (a.1 + tot l) % 65521
  | [], a, h => by simp [tot]; omega
  | c :: l, a, h => by
    rw [List.foldl_cons, sums_fold l _ (Nat.mod_lt _ (by decide))]
    simp [sumSt, tot]
    omega
theorem sums_tot (l : List UInt8) : (sums l).1 = (1 + tot l) % 65521 := sums_fold l (1, 0) (by decide)
theorem tot_set : ∀ (l : List UInt8) (i : Nat) (c : UInt8), i < l.length → tot (l.set i c) + at_ l i = tot l + c.toNat
  | [], i, c, h => by simp at h
  | x :: l, 0, c, h => by simp [tot, at_]; omega
  | x :: l, i + 1, c, h => by
    have := tot_set l i c (by simpa using h)
    simp [tot, at_] at this ⊢
    omega
theorem adl_set (l : List UInt8) (i : Nat) (c : UInt8) (h : i < l.length) (hc : c.toNat ≠ at_ l i) : adl (l.set i c) ≠ adl l := by
  have h1 := sums_tot l
  have h2 := sums_tot (l.set i c)
  have h3 := tot_set l i c h
  have h4 := sums_lt l
  have h5 := sums_lt (l.set i c)
  have h6 := at_lt l i
  have h7 := c.toNat_lt
  unfold adl
  omega
theorem num_set (l : List UInt8) (i : Nat) (c : UInt8) (hl : l.length = 4) (h : i < 4) (hc : c.toNat ≠ at_ l i) : num (l.set i c) ≠ num l := by
  match l, hl with
  | [a, b, x, d], _ =>
    have := a.toNat_lt; have := b.toNat_lt; have := x.toNat_lt; have := d.toNat_lt; have := c.toNat_lt
    have hi : i = 0 ∨ i = 1 ∨ i = 2 ∨ i = 3 := by omega
    rcases hi with rfl | rfl | rfl | rfl <;> (simp [num, at_] at hc ⊢; omega)
theorem rd_turn (s : List UInt8) (h : s.length ≤ 65536) (p : Nat) (c : UInt8) (hp : 6 ≤ p) (hp' : p < 10 + s.length) (hc : c.toNat ≠ at_ (frm s) p) : rdE ((frm s).set p c) = 15 := by
  have hl : ((frm s).set p c).length = 10 + s.length := by simp [frm_len]
  have h0 : at_ ((frm s).set p c) 0 = 67 := by simp [at_, List.getD_eq_getElem?_getD, show p ≠ 0 by omega, frm]
  have h1 : at_ ((frm s).set p c) 1 = 70 := by simp [at_, List.getD_eq_getElem?_getD, show p ≠ 1 by omega, frm]
  obtain ⟨_, _, e2, e3, e4⟩ := frm_parts s []
  rw [List.append_nil] at e2 e3 e4
  have a2 : (((frm s).set p c).drop 2).take 4 = be4 s.length := by
    rw [List.drop_set, if_neg (by omega), List.take_set, e2, List.set_eq_of_length_le (by rw [be4_len]; omega)]
  have hN : rdN ((frm s).set p c) = s.length := by unfold rdN; rw [a2, num_be4 _ (by omega)]
  have fin : adl (rdB ((frm s).set p c)) ≠ rdK ((frm s).set p c) := by
    by_cases h10 : p < 10
    · have hB : rdB ((frm s).set p c) = s := by
        unfold rdB; rw [hN, List.drop_set, if_pos (by omega), e4]; simp
      have hK : rdK ((frm s).set p c) = num ((be4 (adl s)).set (p - 6) c) := by
        unfold rdK; rw [List.drop_set, if_neg (by omega), List.take_set, e3]
      rw [hB, hK]
      have := num_set (be4 (adl s)) (p - 6) c rfl (by omega) (by
        have : at_ (be4 (adl s)) (p - 6) = at_ (frm s) p := by
          rw [← e3]; simp [at_, List.getD_eq_getElem?_getD, show p - 6 < 4 by omega, show 6 + (p - 6) = p by omega]
        rwa [this])
      rw [num_be4 _ (adl_lt s)] at this
      exact this.symm
    · have hB : rdB ((frm s).set p c) = s.set (p - 10) c := by
        unfold rdB; rw [hN, List.drop_set, if_neg (by omega), e4, List.append_nil, List.take_of_length_le (by simp)]
      have hK : rdK ((frm s).set p c) = adl s := by
        unfold rdK; rw [List.drop_set, if_neg (by omega), List.take_set, e3, List.set_eq_of_length_le (by rw [be4_len]; omega), num_be4 _ (adl_lt s)]
      rw [hB, hK]
      exact adl_set s (p - 10) c (by omega) (by
        have : at_ s (p - 10) = at_ (frm s) p := by
          conv => lhs; rw [show s = (frm s).drop 10 by rw [e4]; simp]
          simp [at_, List.getD_eq_getElem?_getD, show 10 + (p - 10) = p by omega]
        rwa [this])
  unfold rdE
  rw [if_neg (by omega), if_neg (by omega), if_neg (by omega), if_neg (by omega), if_pos fin]
theorem rdE_nil : rdE [] = 11 := rd_short (by simp)
end Go.Proofs.YtefgobmpleoafaaGreat
