/- Joined: PkM, LdM, TpM. -/
import Derived.Test.YtefgobmpleoafaaGreatFrM
import Derived.Test.YtefgobmpleoafaaGreatRuM
/- Layer 11 in plain mathematics: entries, messages, records; their bytes; what bytes are read as. No program is imported. -/
namespace Go.Proofs.YtefgobmpleoafaaGreat

structure En where
  vi : Int
  cl : Int
  re : Int
  d : Dl
structure Ms where
  k : Int
  vi : Int
  fr : Int
  to : Int
  op : Int
  co : Int
  no : Int
  log : List En
structure Rc where
  k : Int
  a : Int
  b : Int
  log : List En

/-! ### Right -/
def inR (lo hi n : Int) : Bool := decide (lo ≤ n ∧ n ≤ hi)
def Dl.okP (d : Dl) : Bool := [d.de, d.cl, d.fu, d.st].all (inR (-1) 1099511627776) && decide (d.put.length ≤ 16) && d.put.all Ru.ok && decide (d.drop.length ≤ 16) && d.drop.all (inR 1 1099511627776)
def En.ok (e : En) : Bool := inR 0 1099511627776 e.vi && inR 1 1099511627776 e.cl && inR 1 1099511627776 e.re && e.d.okP
def least (k : Int) : Int := if k = 1 then 1 else 0
def most (k : Int) : Int := if k = 1 then 1 else if k = 5 ∨ k = 6 ∨ k = 8 then 64 else 0
def Ms.ok (m : Ms) : Bool := inR 1 8 m.k && inR 0 1099511627776 m.vi && inR 0 1099511627776 m.no && inR 0 6 m.fr && inR 0 6 m.to && inR 0 64 m.op && inR 0 64 m.co && inR (least m.k) (most m.k) (m.log.length : Int) && m.log.all En.ok
def many (k : Int) : Int := if k = 2 then 1 else 0
def Rc.ok (r : Rc) : Bool := inR 1 5 r.k && inR 0 1099511627776 r.a && inR 0 1099511627776 r.b && decide ((r.log.length : Int) = many r.k) && r.log.all En.ok

/-! ### Bytes -/
def be6 (m : Nat) : List UInt8 := [(m / 1099511627776 % 256).toUInt8, (m / 4294967296 % 256).toUInt8, (m / 16777216 % 256).toUInt8, (m / 65536 % 256).toUInt8, (m / 256 % 256).toUInt8, (m % 256).toUInt8]
def n6 (n : Int) : List UInt8 := be6 (n + 1).toNat
def pt (r : Ru) : List UInt8 := r.pat.data.toList
def eR (r : Ru) : List UInt8 := n6 r.id ++ (n6 r.pr ++ (n6 r.ac ++ (n6 r.sc ++ (n6 (r.pat.size : Int) ++ pt r))))
def eL {α : Type} (e : α → List UInt8) (l : List α) : List UInt8 := n6 (l.length : Int) ++ l.flatMap e
def eD (d : Dl) : List UInt8 := n6 d.de ++ (n6 d.cl ++ (n6 d.fu ++ (n6 d.st ++ (eL eR d.put ++ eL n6 d.drop))))
def eE (e : En) : List UInt8 := n6 e.vi ++ (n6 e.cl ++ (n6 e.re ++ eD e.d))
def eM (m : Ms) : List UInt8 := n6 m.k ++ (n6 m.vi ++ (n6 m.fr ++ (n6 m.to ++ (n6 m.op ++ (n6 m.co ++ (n6 m.no ++ eL eE m.log))))))
def eC (r : Rc) : List UInt8 := n6 r.k ++ (n6 r.a ++ (n6 r.b ++ eL eE r.log))

theorem n6_len (n : Int) : (n6 n).length = 6 := rfl
theorem be6_len (n : Nat) : (be6 n).length = 6 := rfl
theorem num_be6 (m : Nat) (h : m < 281474976710656) : num (be6 m) = m := by
  simp only [num, be6, List.foldl_cons, List.foldl_nil]
  rw [u8 _ (by omega), u8 _ (by omega), u8 _ (by omega), u8 _ (by omega), u8 _ (by omega), u8 _ (by omega)]
  omega
theorem list6b {l : List UInt8} (h : l.length = 6) : ∃ a b c d e f, l = [a, b, c, d, e, f] := by
  match l, h with
  | [a, b, c, d, e, f], _ => exact ⟨a, b, c, d, e, f, rfl⟩
theorem toU (a : UInt8) (n : Nat) (h : n = a.toNat) : n.toUInt8 = a := by
  subst h
  exact UInt8.ofNat_toNat
theorem num_lt6 {l : List UInt8} (h : l.length = 6) : num l < 281474976710656 := by
  obtain ⟨a, b, c, d, e, f, rfl⟩ := list6b h
  have := a.toNat_lt; have := b.toNat_lt; have := c.toNat_lt; have := d.toNat_lt; have := e.toNat_lt; have := f.toNat_lt
  simp only [num, List.foldl_cons, List.foldl_nil]
  omega
theorem be6_num {l : List UInt8} (h : l.length = 6) : be6 (num l) = l := by
  obtain ⟨a, b, c, d, e, f, rfl⟩ := list6b h
  have := a.toNat_lt; have := b.toNat_lt; have := c.toNat_lt; have := d.toNat_lt; have := e.toNat_lt; have := f.toNat_lt
  simp only [num, List.foldl_cons, List.foldl_nil, be6]
  rw [toU a _ (by omega), toU b _ (by omega), toU c _ (by omega), toU d _ (by omega), toU e _ (by omega), toU f _ (by omega)]

/-! ### Reading -/
abbrev S := List UInt8
def pN (s : S) : Option (Int × S) := if s.length < 6 then none else some ((num (s.take 6) : Int) - 1, s.drop 6)
def pC (s : S) : Option (Nat × S) := (pN s).bind fun a => if 0 ≤ a.1 ∧ a.1 ≤ (a.2.length : Int) then some (a.1.toNat, a.2) else none
def pT (s : S) : Option (S × S) := (pC s).bind fun a => some (a.2.take a.1, a.2.drop a.1)
def pK {α : Type} (p : S → Option (α × S)) : Nat → S → Option (List α × S)
  | 0, s => some ([], s)
  | k + 1, s => (pK p k s).bind fun a => (p a.2).bind fun b => some (a.1 ++ [b.1], b.2)
def pL {α : Type} (p : S → Option (α × S)) (s : S) : Option (List α × S) := (pC s).bind fun a => pK p a.1 a.2
def pR (s : S) : Option (Ru × S) := (pN s).bind fun a => (pN a.2).bind fun b => (pN b.2).bind fun c => (pN c.2).bind fun d => (pT d.2).bind fun e => some (⟨a.1, b.1, c.1, d.1, ⟨e.1.toArray⟩⟩, e.2)
def pD (s : S) : Option (Dl × S) := (pN s).bind fun a => (pN a.2).bind fun b => (pN b.2).bind fun c => (pN c.2).bind fun d => (pL pR d.2).bind fun e => (pL pN e.2).bind fun f => some (⟨a.1, b.1, c.1, d.1, e.1, f.1⟩, f.2)
def pE (s : S) : Option (En × S) := (pN s).bind fun a => (pN a.2).bind fun b => (pN b.2).bind fun c => (pD c.2).bind fun d => some (⟨a.1, b.1, c.1, d.1⟩, d.2)
def pM (s : S) : Option (Ms × S) := (pN s).bind fun a => (pN a.2).bind fun b => (pN b.2).bind fun c => (pN c.2).bind fun d => (pN d.2).bind fun e => (pN e.2).bind fun f => (pN f.2).bind fun g => (pL pE g.2).bind fun h => some (⟨a.1, b.1, c.1, d.1, e.1, f.1, g.1, h.1⟩, h.2)
def pRc (s : S) : Option (Rc × S) := (pN s).bind fun a => (pN a.2).bind fun b => (pN b.2).bind fun c => (pL pE c.2).bind fun h => some (⟨a.1, b.1, c.1, h.1⟩, h.2)

/-- What a reading that may go wrong leaves: a thing, the rest, and whether it is wrong. -/
def Out {α : Type} (p : Option (α × S)) (wr : Bool) (x : α) (t : S) (wr' : Bool) : Prop := (wr' = false → wr = false ∧ p = some (x, t)) ∧ (wr' = true → wr = true ∨ p = none)
theorem Out.pure {α : Type} (x : α) (t : S) (wr : Bool) : Out (some (x, t)) wr x t wr := ⟨fun h => ⟨h, rfl⟩, fun h => .inl h⟩
theorem Out.bind {α β : Type} {p : Option (α × S)} {f : α × S → Option (β × S)} {wr wr1 wr2 : Bool} {x : α} {y : β} {t u : S} (h : Out p wr x t wr1) (k : Out (f (x, t)) wr1 y u wr2) : Out (p.bind f) wr y u wr2 := by
  refine ⟨fun h2 => ?_, fun h2 => ?_⟩
  · obtain ⟨a, b⟩ := k.1 h2
    obtain ⟨c, d⟩ := h.1 a
    exact ⟨c, by rw [d]; exact b⟩
  · cases hw : wr1 with
    | true =>
      rcases h.2 hw with c | c
      · exact .inl c
      · exact .inr (by rw [c]; rfl)
    | false =>
      obtain ⟨c, d⟩ := h.1 hw
      rcases k.2 h2 with e | e
      · rw [hw] at e; cases e
      · exact .inr (by rw [d]; exact e)
theorem Out.wrong {α : Type} {p : Option (α × S)} (x : α) (t : S) : Out p true x t true := ⟨fun h => Bool.noConfusion h, fun _ => .inl rfl⟩
theorem Out.none {α : Type} {p : Option (α × S)} (h : p = Option.none) (wr : Bool) (x : α) (t : S) : Out p wr x t true := ⟨fun h' => Bool.noConfusion h', fun _ => .inr h⟩

/-- Reads what e writes, of things that fit. -/
structure Ok {α : Type} (p : S → Option (α × S)) (e : α → S) (fit : α → Prop) : Prop where
  fwd : ∀ x t, fit x → p (e x ++ t) = some (x, t)
  bwd : ∀ s x t, p s = some (x, t) → s = e x ++ t
  ext : ∀ s x t u, p s = some (x, t) → p (s ++ u) = some (x, t ++ u)
theorem okN : Ok pN n6 (fun n => -1 ≤ n ∧ n < 281474976710655) := by
  refine ⟨fun x t h => ?_, fun s x t h => ?_, fun s x t u h => ?_⟩
  · have e1 : (n6 x ++ t).take 6 = n6 x := rfl
    have e2 : (n6 x ++ t).drop 6 = t := rfl
    unfold pN
    rw [if_neg (by simp [n6_len]), e1, e2]
    unfold n6
    rw [num_be6 _ (by omega)]
    simp; omega
  · unfold pN at h
    split at h
    · cases h
    · injection h with h
      injection h with h1 h2
      subst h1 h2
      unfold n6
      rw [show ((num (List.take 6 s) : Int) - 1 + 1).toNat = num (s.take 6) by omega, be6_num (by simp; omega), List.take_append_drop]
  · unfold pN at h ⊢
    split at h
    · cases h
    · rename_i hl
      injection h with h
      injection h with h1 h2
      subst h1 h2
      rw [if_neg (by simp; omega), List.take_append_of_le_length (by omega), List.drop_append_of_le_length (by omega)]
theorem bind_some {α β : Type} {p : Option α} {f : α → Option β} {y : β} (h : p.bind f = some y) : ∃ x, p = some x ∧ f x = some y := Option.bind_eq_some_iff.1 h
theorem c_fwd (n : Nat) (t : S) (h : n ≤ t.length) (h2 : n < 281474976710655) : pC (n6 n ++ t) = some (n, t) := by
  unfold pC
  rw [okN.fwd _ _ (by omega)]
  simp; omega
theorem c_bwd {s : S} {n : Nat} {t : S} (h : pC s = some (n, t)) : s = n6 n ++ t ∧ n ≤ t.length := by
  obtain ⟨⟨x, u⟩, h1, h2⟩ := bind_some h
  have := okN.bwd _ _ _ h1
  dsimp only at h2
  split at h2
  · rename_i hc
    injection h2 with h2
    injection h2 with h3 h4
    subst h3 h4
    rw [show ((x.toNat : Nat) : Int) = x by omega]
    exact ⟨this, by omega⟩
  · cases h2
theorem c_ext {s : S} {n : Nat} {t : S} (u : S) (h : pC s = some (n, t)) : pC (s ++ u) = some (n, t ++ u) := by
  obtain ⟨⟨x, v⟩, h1, h2⟩ := bind_some h
  have := okN.ext _ _ _ u h1
  unfold pC
  rw [this]
  simp only [Option.bind_some]
  split at h2
  · rename_i hc
    injection h2 with h2
    injection h2 with h3 h4
    subst h3 h4
    dsimp only at hc ⊢
    rw [if_pos (by simp only [List.length_append]; omega)]
  · cases h2
def fitT (x : S) : Prop := x.length < 281474976710655
theorem okT : Ok pT (fun x => n6 (x.length : Int) ++ x) fitT := by
  refine ⟨fun x t h => ?_, fun s x t h => ?_, fun s x t u h => ?_⟩
  · unfold pT
    rw [List.append_assoc, c_fwd _ _ (by simp) h]
    simp
  · obtain ⟨⟨n, v⟩, h1, h2⟩ := bind_some h
    obtain ⟨e, hl⟩ := c_bwd h1
    injection h2 with h2
    injection h2 with h3 h4
    subst h3 h4
    rw [e]
    simp [Nat.min_eq_left hl]
  · obtain ⟨⟨n, v⟩, h1, h2⟩ := bind_some h
    obtain ⟨e, hl⟩ := c_bwd h1
    injection h2 with h2
    injection h2 with h3 h4
    subst h3 h4
    unfold pT
    rw [c_ext u h1]
    simp only [Option.bind_some, List.take_append_of_le_length hl, List.drop_append_of_le_length hl]
section
variable {α : Type} {p : S → Option (α × S)} {e : α → S} {fit : α → Prop}
theorem k_fwd (h : Ok p e fit) (l : List α) (t : S) (hf : ∀ x ∈ l, fit x) : ∀ k, k ≤ l.length → pK p k (l.flatMap e ++ t) = some (l.take k, (l.drop k).flatMap e ++ t)
  | 0, _ => rfl
  | k + 1, hk => by
    have ih := k_fwd h l t hf k (by omega)
    have hd : l.drop k = l[k] :: l.drop (k + 1) := List.drop_eq_getElem_cons (by omega)
    unfold pK
    rw [ih, Option.bind_some]
    simp only
    rw [hd, List.flatMap_cons, List.append_assoc, h.fwd _ _ (hf _ (List.getElem_mem _)), take_snoc l k (by omega)]
    rfl
theorem k_len : ∀ (k : Nat) (s : S) (l : List α) (t : S), pK p k s = some (l, t) → l.length = k
  | 0, s, l, t, h => by
    injection h with h
    injection h with h1 h2
    subst h1
    rfl
  | k + 1, s, l, t, h => by
    obtain ⟨⟨a, v⟩, h1, h2⟩ := bind_some h
    obtain ⟨⟨b, z⟩, h3, h4⟩ := bind_some h2
    injection h4 with h4
    injection h4 with h5 h6
    subst h5
    have := k_len k s a v h1
    simp [this]
theorem k_bwd (h : Ok p e fit) : ∀ (k : Nat) (s : S) (l : List α) (t : S), pK p k s = some (l, t) → s = l.flatMap e ++ t
  | 0, s, l, t, hh => by
    injection hh with hh
    injection hh with h1 h2
    subst h1 h2
    rfl
  | k + 1, s, l, t, hh => by
    obtain ⟨⟨a, v⟩, h1, h2⟩ := bind_some hh
    obtain ⟨⟨b, z⟩, h3, h4⟩ := bind_some h2
    injection h4 with h4
    injection h4 with h5 h6
    subst h5 h6
    rw [k_bwd h k s a v h1]
    have := h.bwd _ _ _ h3
    simp only at this ⊢
    rw [this]
    simp
theorem k_ext (h : Ok p e fit) (u : S) : ∀ (k : Nat) (s : S) (l : List α) (t : S), pK p k s = some (l, t) → pK p k (s ++ u) = some (l, t ++ u)
  | 0, s, l, t, hh => by
    injection hh with hh
    injection hh with h1 h2
    subst h1 h2
    rfl
  | k + 1, s, l, t, hh => by
    obtain ⟨⟨a, v⟩, h1, h2⟩ := bind_some hh
    obtain ⟨⟨b, z⟩, h3, h4⟩ := bind_some h2
    injection h4 with h4
    injection h4 with h5 h6
    subst h5 h6
    unfold pK
    rw [k_ext h u k s a v h1, Option.bind_some]
    simp only
    rw [h.ext _ _ _ u h3]
    rfl
/-- Each thing has a byte at least. -/
theorem flat_len (hp : ∀ x, 0 < (e x).length) : ∀ l : List α, l.length ≤ (l.flatMap e).length
  | [] => Nat.zero_le _
  | x :: l => by
    have := flat_len hp l
    have := hp x
    simp only [List.flatMap_cons, List.length_append, List.length_cons]
    omega
theorem okL (h : Ok p e fit) (hp : ∀ x, 0 < (e x).length) : Ok (pL p) (eL e) (fun l => l.length < 281474976710655 ∧ ∀ x ∈ l, fit x) := by
  refine ⟨fun l t hf => ?_, fun s l t hh => ?_, fun s l t u hh => ?_⟩
  · unfold pL eL
    have := flat_len hp l
    rw [List.append_assoc, c_fwd _ _ (by simp only [List.length_append]; omega) hf.1, Option.bind_some]
    simp only
    rw [k_fwd h l t hf.2 _ (Nat.le_refl _)]
    simp
  · obtain ⟨⟨n, v⟩, h1, h2⟩ := bind_some hh
    obtain ⟨e1, hl⟩ := c_bwd h1
    have hk := k_len _ _ _ _ h2
    simp only at h2 hk
    rw [e1, k_bwd h _ _ _ _ h2]
    unfold eL
    rw [hk, List.append_assoc]
  · obtain ⟨⟨n, v⟩, h1, h2⟩ := bind_some hh
    unfold pL
    rw [c_ext u h1, Option.bind_some]
    exact k_ext h u _ _ _ _ h2
end
abbrev fN (n : Int) : Prop := -1 ≤ n ∧ n < 281474976710655
def fR (r : Ru) : Prop := fN r.id ∧ fN r.pr ∧ fN r.ac ∧ fN r.sc ∧ r.pat.size < 281474976710655
theorem pt_len (r : Ru) : (pt r).length = r.pat.size := by
  show r.pat.data.toList.length = r.pat.data.size
  simp
theorem eR_eq (r : Ru) : eR r = n6 r.id ++ (n6 r.pr ++ (n6 r.ac ++ (n6 r.sc ++ (fun x => n6 (x.length : Int) ++ x) (pt r)))) := by
  unfold eR
  rw [← pt_len]
theorem okR : Ok pR eR fR := by
  refine ⟨fun x t h => ?_, fun s x t h => ?_, fun s x t u h => ?_⟩
  · obtain ⟨h1, h2, h3, h4, h5⟩ := h
    unfold pR
    rw [eR_eq]
    simp only [List.append_assoc]
    rw [okN.fwd _ _ h1, Option.bind_some, okN.fwd _ _ h2, Option.bind_some, okN.fwd _ _ h3, Option.bind_some, okN.fwd _ _ h4, Option.bind_some]
    have := okT.fwd (pt x) t (by unfold fitT; rw [pt_len]; exact h5)
    simp only [List.append_assoc] at this
    rw [this]
    obtain ⟨id, pr, ac, sc, ⟨a⟩⟩ := x
    simp [pt]
  · unfold pR at h
    obtain ⟨⟨a, s1⟩, h1, h⟩ := bind_some h
    obtain ⟨⟨b, s2⟩, h2, h⟩ := bind_some h
    obtain ⟨⟨c, s3⟩, h3, h⟩ := bind_some h
    obtain ⟨⟨d, s4⟩, h4, h⟩ := bind_some h
    obtain ⟨⟨x5, s5⟩, h5, h⟩ := bind_some h
    injection h with h
    injection h with h6 h7
    subst h6 h7
    dsimp only at *
    rw [okN.bwd _ _ _ h1, okN.bwd _ _ _ h2, okN.bwd _ _ _ h3, okN.bwd _ _ _ h4, okT.bwd _ _ _ h5, eR_eq]
    simp [pt]
  · unfold pR at h ⊢
    obtain ⟨⟨a, s1⟩, h1, h⟩ := bind_some h
    obtain ⟨⟨b, s2⟩, h2, h⟩ := bind_some h
    obtain ⟨⟨c, s3⟩, h3, h⟩ := bind_some h
    obtain ⟨⟨d, s4⟩, h4, h⟩ := bind_some h
    obtain ⟨⟨x5, s5⟩, h5, h⟩ := bind_some h
    injection h with h
    injection h with h6 h7
    subst h6 h7
    dsimp only at *
    rw [okN.ext _ _ _ u h1, Option.bind_some, okN.ext _ _ _ u h2, Option.bind_some, okN.ext _ _ _ u h3, Option.bind_some, okN.ext _ _ _ u h4, Option.bind_some, okT.ext _ _ _ u h5]
    rfl
theorem eR_pos (r : Ru) : 0 < (eR r).length := by simp [eR, n6_len]; omega
theorem n6_pos (n : Int) : 0 < (n6 n).length := by simp [n6_len]
def fD (d : Dl) : Prop := fN d.de ∧ fN d.cl ∧ fN d.fu ∧ fN d.st ∧ (d.put.length < 281474976710655 ∧ ∀ r ∈ d.put, fR r) ∧ (d.drop.length < 281474976710655 ∧ ∀ n ∈ d.drop, fN n)
theorem okLR : Ok (pL pR) (eL eR) (fun l => l.length < 281474976710655 ∧ ∀ x ∈ l, fR x) := okL okR eR_pos
theorem okLN : Ok (pL pN) (eL n6) (fun l => l.length < 281474976710655 ∧ ∀ x ∈ l, fN x) := okL okN n6_pos
theorem okD : Ok pD eD fD := by
  refine ⟨fun x t h => ?_, fun s x t h => ?_, fun s x t u h => ?_⟩
  · obtain ⟨h1, h2, h3, h4, h5, h6⟩ := h
    unfold pD eD
    simp only [List.append_assoc]
    rw [okN.fwd _ _ h1, Option.bind_some, okN.fwd _ _ h2, Option.bind_some, okN.fwd _ _ h3, Option.bind_some, okN.fwd _ _ h4, Option.bind_some, okLR.fwd _ _ h5, Option.bind_some, okLN.fwd _ _ h6]
    rfl
  · unfold pD at h
    obtain ⟨⟨a, s1⟩, h1, h⟩ := bind_some h
    obtain ⟨⟨b, s2⟩, h2, h⟩ := bind_some h
    obtain ⟨⟨c, s3⟩, h3, h⟩ := bind_some h
    obtain ⟨⟨d, s4⟩, h4, h⟩ := bind_some h
    obtain ⟨⟨x5, s5⟩, h5, h⟩ := bind_some h
    obtain ⟨⟨x6, s6⟩, h6, h⟩ := bind_some h
    injection h with h
    injection h with h7 h8
    subst h7 h8
    dsimp only at *
    rw [okN.bwd _ _ _ h1, okN.bwd _ _ _ h2, okN.bwd _ _ _ h3, okN.bwd _ _ _ h4, okLR.bwd _ _ _ h5, okLN.bwd _ _ _ h6]
    simp [eD]
  · unfold pD at h ⊢
    obtain ⟨⟨a, s1⟩, h1, h⟩ := bind_some h
    obtain ⟨⟨b, s2⟩, h2, h⟩ := bind_some h
    obtain ⟨⟨c, s3⟩, h3, h⟩ := bind_some h
    obtain ⟨⟨d, s4⟩, h4, h⟩ := bind_some h
    obtain ⟨⟨x5, s5⟩, h5, h⟩ := bind_some h
    obtain ⟨⟨x6, s6⟩, h6, h⟩ := bind_some h
    injection h with h
    injection h with h7 h8
    subst h7 h8
    dsimp only at *
    rw [okN.ext _ _ _ u h1, Option.bind_some, okN.ext _ _ _ u h2, Option.bind_some, okN.ext _ _ _ u h3, Option.bind_some, okN.ext _ _ _ u h4, Option.bind_some, okLR.ext _ _ _ u h5, Option.bind_some, okLN.ext _ _ _ u h6]
    rfl
def fE (e : En) : Prop := fN e.vi ∧ fN e.cl ∧ fN e.re ∧ fD e.d
theorem okE : Ok pE eE fE := by
  refine ⟨fun x t h => ?_, fun s x t h => ?_, fun s x t u h => ?_⟩
  · obtain ⟨h1, h2, h3, h4⟩ := h
    unfold pE eE
    simp only [List.append_assoc]
    rw [okN.fwd _ _ h1, Option.bind_some, okN.fwd _ _ h2, Option.bind_some, okN.fwd _ _ h3, Option.bind_some, okD.fwd _ _ h4]
    rfl
  · unfold pE at h
    obtain ⟨⟨a, s1⟩, h1, h⟩ := bind_some h
    obtain ⟨⟨b, s2⟩, h2, h⟩ := bind_some h
    obtain ⟨⟨c, s3⟩, h3, h⟩ := bind_some h
    obtain ⟨⟨d, s4⟩, h4, h⟩ := bind_some h
    injection h with h
    injection h with h7 h8
    subst h7 h8
    dsimp only at *
    rw [okN.bwd _ _ _ h1, okN.bwd _ _ _ h2, okN.bwd _ _ _ h3, okD.bwd _ _ _ h4]
    simp [eE]
  · unfold pE at h ⊢
    obtain ⟨⟨a, s1⟩, h1, h⟩ := bind_some h
    obtain ⟨⟨b, s2⟩, h2, h⟩ := bind_some h
    obtain ⟨⟨c, s3⟩, h3, h⟩ := bind_some h
    obtain ⟨⟨d, s4⟩, h4, h⟩ := bind_some h
    injection h with h
    injection h with h7 h8
    subst h7 h8
    dsimp only at *
    rw [okN.ext _ _ _ u h1, Option.bind_some, okN.ext _ _ _ u h2, Option.bind_some, okN.ext _ _ _ u h3, Option.bind_some, okD.ext _ _ _ u h4]
    rfl
theorem eE_pos (e : En) : 0 < (eE e).length := by simp [eE, n6_len]; omega
theorem okLE : Ok (pL pE) (eL eE) (fun l => l.length < 281474976710655 ∧ ∀ x ∈ l, fE x) := okL okE eE_pos
abbrev fL (l : List En) : Prop := l.length < 281474976710655 ∧ ∀ e ∈ l, fE e
def fM (m : Ms) : Prop := fN m.k ∧ fN m.vi ∧ fN m.fr ∧ fN m.to ∧ fN m.op ∧ fN m.co ∧ fN m.no ∧ fL m.log
theorem okM : Ok pM eM fM := by
  refine ⟨fun x t h => ?_, fun s x t h => ?_, fun s x t u h => ?_⟩
  · obtain ⟨h1, h2, h3, h4, h5, h6, h7, h8⟩ := h
    unfold pM eM
    simp only [List.append_assoc]
    rw [okN.fwd _ _ h1, Option.bind_some, okN.fwd _ _ h2, Option.bind_some, okN.fwd _ _ h3, Option.bind_some, okN.fwd _ _ h4, Option.bind_some, okN.fwd _ _ h5, Option.bind_some, okN.fwd _ _ h6, Option.bind_some, okN.fwd _ _ h7, Option.bind_some, okLE.fwd _ _ h8]
    rfl
  · unfold pM at h
    obtain ⟨⟨a, s1⟩, h1, h⟩ := bind_some h
    obtain ⟨⟨b, s2⟩, h2, h⟩ := bind_some h
    obtain ⟨⟨c, s3⟩, h3, h⟩ := bind_some h
    obtain ⟨⟨d, s4⟩, h4, h⟩ := bind_some h
    obtain ⟨⟨x5, s5⟩, h5, h⟩ := bind_some h
    obtain ⟨⟨x6, s6⟩, h6, h⟩ := bind_some h
    obtain ⟨⟨x7, s7⟩, h7, h⟩ := bind_some h
    obtain ⟨⟨x8, s8⟩, h8, h⟩ := bind_some h
    injection h with h
    injection h with ha hb
    subst ha hb
    dsimp only at *
    rw [okN.bwd _ _ _ h1, okN.bwd _ _ _ h2, okN.bwd _ _ _ h3, okN.bwd _ _ _ h4, okN.bwd _ _ _ h5, okN.bwd _ _ _ h6, okN.bwd _ _ _ h7, okLE.bwd _ _ _ h8]
    simp [eM]
  · unfold pM at h ⊢
    obtain ⟨⟨a, s1⟩, h1, h⟩ := bind_some h
    obtain ⟨⟨b, s2⟩, h2, h⟩ := bind_some h
    obtain ⟨⟨c, s3⟩, h3, h⟩ := bind_some h
    obtain ⟨⟨d, s4⟩, h4, h⟩ := bind_some h
    obtain ⟨⟨x5, s5⟩, h5, h⟩ := bind_some h
    obtain ⟨⟨x6, s6⟩, h6, h⟩ := bind_some h
    obtain ⟨⟨x7, s7⟩, h7, h⟩ := bind_some h
    obtain ⟨⟨x8, s8⟩, h8, h⟩ := bind_some h
    injection h with h
    injection h with ha hb
    subst ha hb
    dsimp only at *
    rw [okN.ext _ _ _ u h1, Option.bind_some, okN.ext _ _ _ u h2, Option.bind_some, okN.ext _ _ _ u h3, Option.bind_some, okN.ext _ _ _ u h4, Option.bind_some, okN.ext _ _ _ u h5, Option.bind_some, okN.ext _ _ _ u h6, Option.bind_some, okN.ext _ _ _ u h7, Option.bind_some, okLE.ext _ _ _ u h8]
    rfl
def fC (r : Rc) : Prop := fN r.k ∧ fN r.a ∧ fN r.b ∧ fL r.log
theorem okC : Ok pRc eC fC := by
  refine ⟨fun x t h => ?_, fun s x t h => ?_, fun s x t u h => ?_⟩
  · obtain ⟨h1, h2, h3, h8⟩ := h
    unfold pRc eC
    simp only [List.append_assoc]
    rw [okN.fwd _ _ h1, Option.bind_some, okN.fwd _ _ h2, Option.bind_some, okN.fwd _ _ h3, Option.bind_some, okLE.fwd _ _ h8]
    rfl
  · unfold pRc at h
    obtain ⟨⟨a, s1⟩, h1, h⟩ := bind_some h
    obtain ⟨⟨b, s2⟩, h2, h⟩ := bind_some h
    obtain ⟨⟨c, s3⟩, h3, h⟩ := bind_some h
    obtain ⟨⟨x8, s8⟩, h8, h⟩ := bind_some h
    injection h with h
    injection h with ha hb
    subst ha hb
    dsimp only at *
    rw [okN.bwd _ _ _ h1, okN.bwd _ _ _ h2, okN.bwd _ _ _ h3, okLE.bwd _ _ _ h8]
    simp [eC]
  · unfold pRc at h ⊢
    obtain ⟨⟨a, s1⟩, h1, h⟩ := bind_some h
    obtain ⟨⟨b, s2⟩, h2, h⟩ := bind_some h
    obtain ⟨⟨c, s3⟩, h3, h⟩ := bind_some h
    obtain ⟨⟨x8, s8⟩, h8, h⟩ := bind_some h
    injection h with h
    injection h with ha hb
    subst ha hb
    dsimp only at *
    rw [okN.ext _ _ _ u h1, Option.bind_some, okN.ext _ _ _ u h2, Option.bind_some, okN.ext _ _ _ u h3, Option.bind_some, okLE.ext _ _ _ u h8]
    rfl

/-! ### What is right fits -/
theorem inR_iff {lo hi n : Int} : inR lo hi n = true ↔ lo ≤ n ∧ n ≤ hi := by simp [inR]
theorem Ru.ok_fit {r : Ru} (h : r.ok = true) : fR r := by
  simp only [Ru.ok, decide_eq_true_eq] at h
  exact ⟨by omega, by omega, by omega, by omega, by omega⟩
theorem Ru.ok_len {r : Ru} (h : r.ok = true) : (eR r).length ≤ 286 := by
  simp only [Ru.ok, decide_eq_true_eq] at h
  simp only [eR, List.length_append, n6_len, pt_len]
  omega
theorem flat_bound {α : Type} {e : α → S} {b : Nat} : ∀ {l : List α}, (∀ x ∈ l, (e x).length ≤ b) → (l.flatMap e).length ≤ l.length * b
  | [], _ => by simp
  | x :: l, h => by
    have h1 := flat_bound (l := l) fun y hy => h y (List.mem_cons_of_mem _ hy)
    have h2 := h x List.mem_cons_self
    simp only [List.flatMap_cons, List.length_append, List.length_cons, Nat.succ_mul]
    omega
theorem Dl.okP_iff {d : Dl} : d.okP = true ↔ ((-1 ≤ d.de ∧ d.de ≤ 1099511627776) ∧ (-1 ≤ d.cl ∧ d.cl ≤ 1099511627776) ∧ (-1 ≤ d.fu ∧ d.fu ≤ 1099511627776) ∧ (-1 ≤ d.st ∧ d.st ≤ 1099511627776)) ∧ d.put.length ≤ 16 ∧ (∀ r ∈ d.put, r.ok = true) ∧ d.drop.length ≤ 16 ∧ ∀ n ∈ d.drop, 1 ≤ n ∧ n ≤ 1099511627776 := by
  simp only [Dl.okP, Bool.and_eq_true, List.all_cons, List.all_nil, decide_eq_true_eq, List.all_eq_true, inR_iff, and_assoc, Bool.and_true]
theorem Dl.okP_fit {d : Dl} (h : d.okP = true) : fD d := by
  obtain ⟨⟨h1, h2, h3, h4⟩, h5, h6, h7, h8⟩ := Dl.okP_iff.1 h
  exact ⟨⟨by omega, by omega⟩, ⟨by omega, by omega⟩, ⟨by omega, by omega⟩, ⟨by omega, by omega⟩, ⟨by omega, fun r hr => Ru.ok_fit (h6 r hr)⟩, by omega, fun n hn => by have := h8 n hn; exact ⟨by omega, by omega⟩⟩
theorem Dl.okP_len {d : Dl} (h : d.okP = true) : (eD d).length ≤ 4708 := by
  obtain ⟨_, h5, h6, h7, _⟩ := Dl.okP_iff.1 h
  have a := flat_bound (e := eR) (b := 286) fun r hr => Ru.ok_len (h6 r hr)
  have b : (d.drop.flatMap n6).length ≤ d.drop.length * 6 := flat_bound fun n _ => by rw [n6_len]; omega
  simp only [eD, eL, List.length_append, n6_len]
  omega
theorem En.ok_iff {e : En} : e.ok = true ↔ (0 ≤ e.vi ∧ e.vi ≤ 1099511627776) ∧ (1 ≤ e.cl ∧ e.cl ≤ 1099511627776) ∧ (1 ≤ e.re ∧ e.re ≤ 1099511627776) ∧ e.d.okP = true := by
  simp only [En.ok, Bool.and_eq_true, inR_iff, and_assoc]
theorem En.ok_fit {e : En} (h : e.ok = true) : fE e := by
  obtain ⟨h1, h2, h3, h4⟩ := En.ok_iff.1 h
  exact ⟨⟨by omega, by omega⟩, ⟨by omega, by omega⟩, ⟨by omega, by omega⟩, Dl.okP_fit h4⟩
theorem En.ok_len {e : En} (h : e.ok = true) : (eE e).length ≤ 4726 := by
  obtain ⟨_, _, _, h4⟩ := En.ok_iff.1 h
  have := Dl.okP_len h4
  simp only [eE, List.length_append, n6_len]
  omega
theorem Ms.ok_iff {m : Ms} : m.ok = true ↔ (1 ≤ m.k ∧ m.k ≤ 8) ∧ (0 ≤ m.vi ∧ m.vi ≤ 1099511627776) ∧ (0 ≤ m.no ∧ m.no ≤ 1099511627776) ∧ (0 ≤ m.fr ∧ m.fr ≤ 6) ∧ (0 ≤ m.to ∧ m.to ≤ 6) ∧ (0 ≤ m.op ∧ m.op ≤ 64) ∧ (0 ≤ m.co ∧ m.co ≤ 64) ∧ (least m.k ≤ (m.log.length : Int) ∧ (m.log.length : Int) ≤ most m.k) ∧ ∀ e ∈ m.log, e.ok = true := by
  simp only [Ms.ok, Bool.and_eq_true, inR_iff, List.all_eq_true, and_assoc]
theorem most_le (k : Int) : most k ≤ 64 := by unfold most; split <;> (try split) <;> omega
theorem Ms.ok_fit {m : Ms} (h : m.ok = true) : fM m := by
  obtain ⟨h1, h2, h3, h4, h5, h6, h7, h8, h9⟩ := Ms.ok_iff.1 h
  have := most_le m.k
  exact ⟨⟨by omega, by omega⟩, ⟨by omega, by omega⟩, ⟨by omega, by omega⟩, ⟨by omega, by omega⟩, ⟨by omega, by omega⟩, ⟨by omega, by omega⟩, ⟨by omega, by omega⟩, by omega, fun e he => En.ok_fit (h9 e he)⟩
theorem Ms.ok_len {m : Ms} (h : m.ok = true) : m.log.length ≤ 64 ∧ (eM m).length ≤ 302512 := by
  obtain ⟨_, _, _, _, _, _, _, h8, h9⟩ := Ms.ok_iff.1 h
  have := most_le m.k
  have a := flat_bound (e := eE) (b := 4726) fun e he => En.ok_len (h9 e he)
  simp only [eM, eL, List.length_append, n6_len]
  omega
theorem Rc.ok_iff {r : Rc} : r.ok = true ↔ (1 ≤ r.k ∧ r.k ≤ 5) ∧ (0 ≤ r.a ∧ r.a ≤ 1099511627776) ∧ (0 ≤ r.b ∧ r.b ≤ 1099511627776) ∧ (r.log.length : Int) = many r.k ∧ ∀ e ∈ r.log, e.ok = true := by
  simp only [Rc.ok, Bool.and_eq_true, inR_iff, List.all_eq_true, decide_eq_true_eq, and_assoc]
theorem many_le (k : Int) : many k ≤ 1 := by unfold many; split <;> omega
theorem Rc.ok_fit {r : Rc} (h : r.ok = true) : fC r := by
  obtain ⟨h1, h2, h3, h4, h9⟩ := Rc.ok_iff.1 h
  have := many_le r.k
  exact ⟨⟨by omega, by omega⟩, ⟨by omega, by omega⟩, ⟨by omega, by omega⟩, by omega, fun e he => En.ok_fit (h9 e he)⟩
theorem Rc.ok_len {r : Rc} (h : r.ok = true) : r.log.length ≤ 1 ∧ (eC r).length ≤ 4750 := by
  obtain ⟨_, _, _, h4, h9⟩ := Rc.ok_iff.1 h
  have := many_le r.k
  have a := flat_bound (e := eE) (b := 4726) fun e he => En.ok_len (h9 e he)
  simp only [eC, eL, List.length_append, n6_len]
  omega

/-! ### Whole -/
def dM (b : S) : Option Ms := if 65536 < b.length then none else match pM b with
  | some (m, []) => if m.ok then some m else none
  | _ => none
def dC (b : S) : Option Rc := if 65536 < b.length then none else match pRc b with
  | some (m, []) => if m.ok then some m else none
  | _ => none
theorem dM_some {b : S} {m : Ms} : dM b = some m ↔ b.length ≤ 65536 ∧ m.ok = true ∧ b = eM m := by
  unfold dM
  constructor
  · intro h
    split at h
    · cases h
    · split at h
      · rename_i m' hp
        split at h
        · injection h with h
          subst h
          exact ⟨by omega, by assumption, by have := okM.bwd _ _ _ hp; simpa using this⟩
        · cases h
      · cases h
  · rintro ⟨h1, h2, rfl⟩
    have := okM.fwd m [] (Ms.ok_fit h2)
    rw [List.append_nil] at this
    rw [if_neg (by omega), this]
    simp [h2]
theorem dC_some {b : S} {m : Rc} : dC b = some m ↔ b.length ≤ 65536 ∧ m.ok = true ∧ b = eC m := by
  unfold dC
  constructor
  · intro h
    split at h
    · cases h
    · split at h
      · rename_i m' hp
        split at h
        · injection h with h
          subst h
          exact ⟨by omega, by assumption, by have := okC.bwd _ _ _ hp; simpa using this⟩
        · cases h
      · cases h
  · rintro ⟨h1, h2, rfl⟩
    have := okC.fwd m [] (Rc.ok_fit h2)
    rw [List.append_nil] at this
    rw [if_neg (by omega), this]
    simp [h2]
theorem eM_inj {a b : Ms} (ha : a.ok = true) (hb : b.ok = true) (h : eM a = eM b) : a = b := by
  have h1 := okM.fwd a [] (Ms.ok_fit ha)
  have h2 := okM.fwd b [] (Ms.ok_fit hb)
  rw [h, h2] at h1
  injection h1 with h1
  injection h1 with h1
  exact h1.symm
theorem dM_cut {m : Ms} (h : m.ok = true) (k : Nat) (hk : k < (eM m).length) : dM ((eM m).take k) = none := by
  cases hd : dM ((eM m).take k) with
  | none => rfl
  | some m' =>
    obtain ⟨_, h2, h3⟩ := dM_some.1 hd
    have a := okM.fwd m' [] (Ms.ok_fit h2)
    rw [List.append_nil, ← h3] at a
    have b := okM.ext _ _ _ ((eM m).drop k) a
    have c := okM.fwd m [] (Ms.ok_fit h)
    rw [List.append_nil] at c
    rw [List.take_append_drop, c] at b
    injection b with b
    injection b with _ b
    have := congrArg List.length b
    simp at this
    omega
theorem dM_more {m : Ms} (h : m.ok = true) (t : S) (ht : t ≠ []) : dM (eM m ++ t) = none := by
  cases hd : dM (eM m ++ t) with
  | none => rfl
  | some m' =>
    obtain ⟨_, h2, h3⟩ := dM_some.1 hd
    have a := okM.fwd m' [] (Ms.ok_fit h2)
    have b := okM.fwd m t (Ms.ok_fit h)
    rw [List.append_nil, ← h3, b] at a
    injection a with a
    injection a with _ a
    exact absurd a ht
end Go.Proofs.YtefgobmpleoafaaGreat

/- Layer 13 in plain mathematics: states, what a record makes of one, the records between two, what bytes are read as. No program is imported. -/
namespace Go.Proofs.YtefgobmpleoafaaGreat

structure St where
  vi : Int
  no : Int
  co : Int
  ac : Int
  log : List En
def St.zero : St := ⟨0, 0, 0, 0, []⟩
def St.ok (s : St) : Bool := inR 0 1099511627776 s.vi && inR 0 s.vi s.no && decide (s.log.length ≤ 64) && s.log.all En.ok && inR 0 (s.log.length : Int) s.co && inR 0 64 s.ac
theorem St.ok_iff {s : St} : s.ok = true ↔ (0 ≤ s.vi ∧ s.vi ≤ 1099511627776) ∧ (0 ≤ s.no ∧ s.no ≤ s.vi) ∧ s.log.length ≤ 64 ∧ (∀ e ∈ s.log, e.ok = true) ∧ (0 ≤ s.co ∧ s.co ≤ (s.log.length : Int)) ∧ (0 ≤ s.ac ∧ s.ac ≤ 64) := by
  simp only [St.ok, Bool.and_eq_true, inR_iff, decide_eq_true_eq, List.all_eq_true, and_assoc]
theorem St.zero_ok : St.zero.ok = true := by decide

/-- Can a record be applied? -/
def fits (s : St) (r : Rc) : Bool :=
  if r.k = 1 then decide (s.vi ≤ r.a) && inR s.no r.a r.b
  else if r.k = 2 then decide (s.log.length < 64)
  else if r.k = 3 ∨ r.k = 4 then inR s.co (s.log.length : Int) r.a
  else if r.k = 5 then decide (r.a ≤ 64) else false
/-- What comes of it. -/
def chg (s : St) (r : Rc) : St :=
  if r.k = 1 then { s with vi := r.a, no := r.b }
  else if r.k = 2 then { s with log := s.log ++ r.log }
  else if r.k = 3 then { s with log := s.log.take r.a.toNat }
  else if r.k = 4 then { s with co := r.a }
  else if r.k = 5 then { s with ac := r.a } else s
theorem chg_ok {s : St} {r : Rc} (hs : s.ok = true) (hr : r.ok = true) (hf : fits s r = true) : (chg s r).ok = true := by
  obtain ⟨⟨h1, h2⟩, ⟨h3, h4⟩, h5, h6, ⟨h7, h8⟩, h9, h10⟩ := St.ok_iff.1 hs
  obtain ⟨⟨k1, k2⟩, ⟨k3, k4⟩, ⟨k5, k6⟩, k7, k8⟩ := Rc.ok_iff.1 hr
  rw [St.ok_iff]
  unfold fits at hf
  unfold chg
  by_cases e1 : r.k = 1
  · rw [if_pos e1] at hf ⊢
    simp only [Bool.and_eq_true, decide_eq_true_eq, inR_iff] at hf
    exact ⟨⟨by omega, by omega⟩, ⟨by dsimp only; omega, by dsimp only; omega⟩, h5, h6, ⟨h7, h8⟩, h9, h10⟩
  rw [if_neg e1] at hf ⊢
  by_cases e2 : r.k = 2
  · rw [if_pos e2] at hf ⊢
    simp only [decide_eq_true_eq] at hf
    unfold many at k7
    rw [if_pos e2] at k7
    refine ⟨⟨h1, h2⟩, ⟨h3, h4⟩, ?_, ?_, ?_, h9, h10⟩
    · simp only [List.length_append]; omega
    · intro e he
      rcases List.mem_append.1 he with he | he
      · exact h6 e he
      · exact k8 e he
    · simp only [List.length_append]; omega
  rw [if_neg e2] at hf ⊢
  by_cases e3 : r.k = 3
  · rw [if_pos (Or.inl e3)] at hf
    rw [if_pos e3]
    rw [inR_iff] at hf
    refine ⟨⟨h1, h2⟩, ⟨h3, h4⟩, ?_, fun e he => h6 e (List.mem_of_mem_take he), ?_, h9, h10⟩
    · simp only [List.length_take]; omega
    · simp only [List.length_take]; omega
  rw [if_neg e3]
  by_cases e4 : r.k = 4
  · rw [if_pos (Or.inr e4), inR_iff] at hf
    rw [if_pos e4]
    exact ⟨⟨h1, h2⟩, ⟨h3, h4⟩, h5, h6, ⟨by simp only; omega, by simp only; omega⟩, h9, h10⟩
  rw [if_neg e4]
  rw [if_neg (by omega)] at hf
  by_cases e5 : r.k = 5
  · rw [if_pos e5, decide_eq_true_eq] at hf
    rw [if_pos e5]
    exact ⟨⟨h1, h2⟩, ⟨h3, h4⟩, h5, h6, ⟨h7, h8⟩, by simp only; omega, by simp only; omega⟩
  · rw [if_neg e5] at hf
    cases hf
/-- Records one behind the other. -/
def runs (s : St) : List Rc → Option St
  | [] => some s
  | r :: l => if fits s r = true then runs (chg s r) l else none
theorem runs_cons (s : St) (r : Rc) (l : List Rc) : runs s (r :: l) = if fits s r = true then runs (chg s r) l else none := rfl
theorem runs_app : ∀ (l : List Rc) (s : St) (m : List Rc), runs s (l ++ m) = (runs s l).bind fun t => runs t m
  | [], s, m => rfl
  | r :: l, s, m => by
    rw [List.cons_append, runs_cons, runs_cons]
    by_cases h : fits s r = true
    · rw [if_pos h, if_pos h, runs_app l]
    · rw [if_neg h, if_neg h]
      rfl
theorem runs_one {s : St} {r : Rc} (h : fits s r = true) : runs s [r] = some (chg s r) := by
  unfold runs
  rw [if_pos h]
  rfl
theorem runs_ok : ∀ {l : List Rc} {s t : St}, s.ok = true → (∀ r ∈ l, r.ok = true) → runs s l = some t → t.ok = true
  | [], s, t, hs, _, h => by cases h; exact hs
  | r :: l, s, t, hs, hl, h => by
    unfold runs at h
    split at h
    · rename_i hf
      exact runs_ok (chg_ok hs (hl r List.mem_cons_self) hf) (fun x hx => hl x (List.mem_cons_of_mem _ hx)) h
    · cases h
/-- The longest common beginning. -/
structure Com (n : Nat) (a b : List En) : Prop where
  le1 : n ≤ a.length
  le2 : n ≤ b.length
  same : a.take n = b.take n
  part : n < a.length → n < b.length → a[n]? ≠ b[n]?
def logR (n : Nat) (a b : List En) : List Rc := (if n < a.length then [⟨3, (n : Int), 0, []⟩] else []) ++ (b.drop n).map fun e => ⟨2, 0, 0, [e]⟩
def numR13 (a b : St) : List Rc := (if b.vi ≠ a.vi ∨ b.no ≠ a.no then [⟨1, b.vi, b.no, []⟩] else []) ++ ((if b.co ≠ a.co then [⟨4, b.co, 0, []⟩] else []) ++ (if b.ac ≠ a.ac then [⟨5, b.ac, 0, []⟩] else []))
def recs (n : Nat) (a b : St) : List Rc := logR n a.log b.log ++ numR13 a b
theorem adds_run : ∀ (l : List En) (s : St) (t : St), runs s (l.map fun e => (⟨2, 0, 0, [e]⟩ : Rc)) = some t → t = { s with log := s.log ++ l }
  | [], s, t, h => by cases h; simp
  | e :: l, s, t, h => by
    rw [List.map_cons] at h
    unfold runs at h
    split at h
    · have := adds_run l _ _ h
      rw [this]
      simp [chg]
    · cases h
theorem adds_can : ∀ (l : List En) (s : St), s.log.length + l.length ≤ 64 → runs s (l.map fun e => (⟨2, 0, 0, [e]⟩ : Rc)) = some { s with log := s.log ++ l }
  | [], s, h => by simp [runs]
  | e :: l, s, h => by
    rw [List.map_cons]
    unfold runs
    rw [List.length_cons] at h
    rw [if_pos (by unfold fits; rw [if_neg (by simp), if_pos rfl]; exact decide_eq_true (by omega)), adds_can l _ (by simp [chg]; omega)]
    simp [chg]
theorem nums_run {a b t : St} (h : runs a (numR13 a b) = some t) : t = { b with log := a.log } := by
  unfold numR13 at h
  rw [runs_app] at h
  obtain ⟨x, hx, h⟩ := bind_some h
  rw [runs_app] at h
  obtain ⟨y, hy, h⟩ := bind_some h
  have h1 : x = { a with vi := b.vi, no := b.no } := by
    by_cases c : b.vi ≠ a.vi ∨ b.no ≠ a.no
    · rw [if_pos c] at hx
      unfold runs at hx
      split at hx
      · cases hx; rfl
      · cases hx
    · rw [if_neg c] at hx
      cases hx
      have : b.vi = a.vi := by omega
      have : b.no = a.no := by omega
      cases a; simp_all
  subst h1
  have h2 : y = { a with vi := b.vi, no := b.no, co := b.co } := by
    by_cases c : b.co ≠ a.co
    · rw [if_pos c] at hy
      unfold runs at hy
      split at hy
      · cases hy; rfl
      · cases hy
    · rw [if_neg c] at hy
      cases hy
      have : b.co = a.co := by omega
      simp_all
  subst h2
  by_cases c : b.ac ≠ a.ac
  · rw [if_pos c] at h
    unfold runs at h
    split at h
    · cases h; rfl
    · cases h
  · rw [if_neg c] at h
    cases h
    have : b.ac = a.ac := by omega
    cases b; simp_all
/-- They lead from the one to the other. -/
theorem recs_lead {n : Nat} {a b t : St} (hc : Com n a.log b.log) (h : runs a (recs n a b) = some t) : t = b := by
  unfold recs logR at h
  rw [runs_app] at h
  obtain ⟨y, hy, h⟩ := bind_some h
  rw [runs_app] at hy
  obtain ⟨x, hx, hy⟩ := bind_some hy
  have h1 : x = { a with log := b.log.take n } := by
    rw [← hc.same]
    by_cases c : n < a.log.length
    · rw [if_pos c] at hx
      unfold runs at hx
      split at hx
      · cases hx; simp [chg]
      · cases hx
    · rw [if_neg c] at hx
      cases hx
      rw [List.take_of_length_le (by omega)]
  subst h1
  have h2 := adds_run _ _ _ hy
  simp only [List.take_append_drop] at h2
  subst h2
  exact nums_run (a := { a with log := b.log }) h
theorem recs_ok {n : Nat} {a b : St} (ha : a.ok = true) (hb : b.ok = true) : ∀ r ∈ recs n a b, r.ok = true := by
  obtain ⟨_, _, a5, _, _, _⟩ := St.ok_iff.1 ha
  obtain ⟨⟨h1, h2⟩, ⟨h3, h4⟩, h5, h6, ⟨h7, h8⟩, h9, h10⟩ := St.ok_iff.1 hb
  intro r hr
  rw [Rc.ok_iff]
  unfold recs logR numR13 at hr
  simp only [List.mem_append, List.mem_map] at hr
  rcases hr with (hr | ⟨e, he, rfl⟩) | (hr | (hr | hr))
  · split at hr
    · obtain rfl := List.mem_singleton.1 hr
      exact ⟨⟨by dsimp only; omega, by dsimp only; omega⟩, ⟨by dsimp only; omega, by dsimp only; omega⟩, ⟨by dsimp only; omega, by dsimp only; omega⟩, rfl, fun e h => by cases h⟩
    · cases hr
  · exact ⟨⟨by dsimp only; omega, by dsimp only; omega⟩, ⟨by dsimp only; omega, by dsimp only; omega⟩, ⟨by dsimp only; omega, by dsimp only; omega⟩, rfl, fun x h => by obtain rfl := List.mem_singleton.1 h; exact h6 x (List.mem_of_mem_drop he)⟩
  · split at hr
    · obtain rfl := List.mem_singleton.1 hr
      exact ⟨⟨by dsimp only; omega, by dsimp only; omega⟩, ⟨h1, h2⟩, ⟨h3, by dsimp only; omega⟩, rfl, fun e h => by cases h⟩
    · cases hr
  · split at hr
    · obtain rfl := List.mem_singleton.1 hr
      exact ⟨⟨by dsimp only; omega, by dsimp only; omega⟩, ⟨by dsimp only; omega, by dsimp only; omega⟩, ⟨by dsimp only; omega, by dsimp only; omega⟩, rfl, fun e h => by cases h⟩
    · cases hr
  · split at hr
    · obtain rfl := List.mem_singleton.1 hr
      exact ⟨⟨by dsimp only; omega, by dsimp only; omega⟩, ⟨by dsimp only; omega, by dsimp only; omega⟩, ⟨by dsimp only; omega, by dsimp only; omega⟩, rfl, fun e h => by cases h⟩
    · cases hr
theorem recs_len {n : Nat} {a b : St} (hb : b.ok = true) : (recs n a b).length ≤ 68 := by
  obtain ⟨_, _, h5, _, _, _⟩ := St.ok_iff.1 hb
  unfold recs logR numR13
  simp only [List.length_append, List.length_map, List.length_drop]
  have : (if n < a.log.length then [(⟨3, (n : Int), 0, []⟩ : Rc)] else []).length ≤ 1 := by split <;> simp
  have : (if b.vi ≠ a.vi ∨ b.no ≠ a.no then [(⟨1, b.vi, b.no, []⟩ : Rc)] else []).length ≤ 1 := by split <;> simp
  have : (if b.co ≠ a.co then [(⟨4, b.co, 0, []⟩ : Rc)] else []).length ≤ 1 := by split <;> simp
  have : (if b.ac ≠ a.ac then [(⟨5, b.ac, 0, []⟩ : Rc)] else []).length ≤ 1 := by split <;> simp
  omega
/-- From the first state each right one is reached. -/
theorem recs_zero {b : St} (hb : b.ok = true) : runs .zero (recs 0 .zero b) = some b := by
  obtain ⟨⟨h1, h2⟩, ⟨h3, h4⟩, h5, h6, ⟨h7, h8⟩, h9, h10⟩ := St.ok_iff.1 hb
  have h : ∃ t, runs .zero (recs 0 .zero b) = some t := by
    unfold recs logR numR13
    simp only [runs_app]
    rw [if_neg (by simp [St.zero])]
    show ∃ t, ((some St.zero).bind fun t => runs t _).bind _ = some t
    rw [Option.bind_some, List.drop_zero, adds_can _ _ (by simp [St.zero]; omega), Option.bind_some]
    have e1 : ∃ x : St, runs { St.zero with log := St.zero.log ++ b.log } (if b.vi ≠ St.zero.vi ∨ b.no ≠ St.zero.no then [(⟨1, b.vi, b.no, []⟩ : Rc)] else []) = some x ∧ x.log = b.log ∧ x.co = 0 := by
      split
      · refine ⟨_, runs_one ?_, ?_, ?_⟩
        · unfold fits
          rw [if_pos rfl]
          show (decide ((0 : Int) ≤ b.vi) && inR 0 b.vi b.no) = true
          rw [decide_eq_true h1, Bool.true_and, inR_iff]
          exact ⟨h3, h4⟩
        · simp [chg, St.zero]
        · simp [chg, St.zero]
      · exact ⟨_, rfl, by simp [St.zero], rfl⟩
    obtain ⟨x, hx, x1, x2⟩ := e1
    rw [hx, Option.bind_some]
    have e2 : ∃ y, runs x (if b.co ≠ St.zero.co then [(⟨4, b.co, 0, []⟩ : Rc)] else []) = some y := by
      split
      · refine ⟨_, runs_one ?_⟩
        unfold fits
        simp only [Int.reduceEq, if_false, or_true, if_true]
        rw [inR_iff, x1, x2]
        exact ⟨h7, h8⟩
      · exact ⟨_, rfl⟩
    obtain ⟨y, hy⟩ := e2
    rw [hy, Option.bind_some]
    split
    · refine ⟨_, runs_one ?_⟩
      unfold fits
      simp only [Int.reduceEq, if_false, or_self, if_true]
      exact decide_eq_true h10
    · exact ⟨_, rfl⟩
  obtain ⟨t, ht⟩ := h
  have e := recs_lead (n := 0) (a := .zero) (b := b) ⟨Nat.zero_le _, Nat.zero_le _, rfl, fun h => by simp [St.zero] at h⟩ ht
  rw [ht, e]

/-! ### Reading -/
def one13 (s : St) (b : List UInt8) : Option (St × Nat) := if rdE b = 0 then (dC (rdB b)).bind fun r => if fits s r = true then some (chg s r, 10 + (rdB b).length) else none else none
def pre (z : St) (b : List UInt8) : Nat → Option (St × Nat)
  | 0 => some (z, 0)
  | n + 1 => (pre z b n).bind fun x => (one13 x.1 (b.drop x.2)).map fun y => (y.1, x.2 + y.2)
/-- The state that bytes tell, and how many of them. -/
def Reads (b : List UInt8) (s : St) (u : Nat) : Prop := (∃ n, pre .zero b n = some (s, u)) ∧ one13 s (b.drop u) = none
theorem pre_down {z : St} {b : List UInt8} : ∀ {n k : Nat} {x : St × Nat}, pre z b (n + k) = some x → ∃ y, pre z b n = some y
  | n, 0, x, h => ⟨x, h⟩
  | n, k + 1, x, h => by
    rw [← Nat.add_assoc] at h
    unfold pre at h
    obtain ⟨y, hy, _⟩ := bind_some h
    exact pre_down hy
theorem pre_stop {z : St} {b : List UInt8} {n m : Nat} {x y : St × Nat} (h : pre z b n = some x) (h' : one13 x.1 (b.drop x.2) = none) (k : pre z b m = some y) : m ≤ n := by
  rcases Nat.lt_or_ge n m with hl | hl
  · obtain ⟨q, hq⟩ := pre_down (n := n + 1) (k := m - (n + 1)) (by rw [show n + 1 + (m - (n + 1)) = m by omega]; exact k)
    unfold pre at hq
    rw [h, Option.bind_some, h'] at hq
    cases hq
  · exact hl
theorem Reads.one {b : List UInt8} {s t : St} {u v : Nat} (h : Reads b s u) (k : Reads b t v) : s = t ∧ u = v := by
  obtain ⟨⟨n, hn⟩, h2⟩ := h
  obtain ⟨⟨m, hm⟩, k2⟩ := k
  have : n = m := Nat.le_antisymm (pre_stop hm k2 hn) (pre_stop hn h2 hm)
  subst this
  rw [hn] at hm
  cases hm
  exact ⟨rfl, rfl⟩
theorem one_ok {s t : St} {b : List UInt8} {u : Nat} (hs : s.ok = true) (h : one13 s b = some (t, u)) : t.ok = true ∧ 0 < u ∧ u ≤ b.length := by
  unfold one13 at h
  split at h
  · rename_i h0
    obtain ⟨r, hr, h⟩ := bind_some h
    split at h
    · rename_i hf
      cases h
      have h1 := (rdE_ok h0).2.2.2.2.1
      rw [← rdB_len h0] at h1
      exact ⟨chg_ok hs (dC_some.1 hr).2.1 hf, by omega, h1⟩
    · cases h
  · cases h
theorem pre_ok {z : St} {b : List UInt8} (hz : z.ok = true) : ∀ {n : Nat} {s : St} {u : Nat}, pre z b n = some (s, u) → s.ok = true ∧ u ≤ b.length
  | 0, s, u, h => by cases h; exact ⟨hz, Nat.zero_le _⟩
  | n + 1, s, u, h => by
    unfold pre at h
    obtain ⟨⟨t, v⟩, h1, h2⟩ := bind_some h
    obtain ⟨h3, h4⟩ := pre_ok hz h1
    obtain ⟨⟨y, q⟩, h5, h6⟩ := Option.map_eq_some_iff.1 h2
    cases h6
    obtain ⟨h7, _, h8⟩ := one_ok h3 h5
    simp only [List.length_drop] at h8
    exact ⟨h7, by simp only; omega⟩
theorem Reads.ok {b : List UInt8} {s : St} {u : Nat} (h : Reads b s u) : s.ok = true ∧ u ≤ b.length := by
  obtain ⟨⟨n, hn⟩, _⟩ := h
  exact pre_ok St.zero_ok hn
theorem rd_more {s : List UInt8} (t : List UInt8) (h : rdE s = 0) : rdE (s ++ t) = 0 ∧ rdB (s ++ t) = rdB s := by
  obtain ⟨h1, h2, h3, h4, h5, h6⟩ := rdE_ok h
  have e1 : rdN (s ++ t) = rdN s := by
    unfold rdN
    rw [List.drop_append_of_le_length (by omega), List.take_append_of_le_length (by simp; omega)]
  have e2 : rdK (s ++ t) = rdK s := by
    unfold rdK
    rw [List.drop_append_of_le_length (by omega), List.take_append_of_le_length (by simp; omega)]
  have e3 : rdB (s ++ t) = rdB s := by
    unfold rdB
    rw [e1, List.drop_append_of_le_length (by omega), List.take_append_of_le_length (by simp; omega)]
  have e4 : ∀ i, i < 2 → at_ (s ++ t) i = at_ s i := fun i hi => by
    simp only [at_, List.getD_eq_getElem?_getD]
    rw [List.getElem?_append_left (by omega)]
  refine ⟨?_, e3⟩
  unfold rdE
  rw [if_neg (by simp only [List.length_append]; omega), if_neg (by rw [e4 0 (by omega), e4 1 (by omega)]; omega), if_neg (by omega), if_neg (by simp only [List.length_append]; omega), if_neg (by rw [e3, e2]; omega)]
theorem one_more {s : St} {b : List UInt8} (t : List UInt8) {x : St × Nat} (h : one13 s b = some x) : one13 s (b ++ t) = some x := by
  unfold one13 at h ⊢
  split at h
  · rename_i h0
    obtain ⟨h1, h2⟩ := rd_more t h0
    rw [if_pos h1, h2]
    exact h
  · cases h
theorem pre_more {z : St} {b : List UInt8} (hz : z.ok = true) (t : List UInt8) : ∀ {n : Nat} {x : St × Nat}, pre z b n = some x → pre z (b ++ t) n = some x
  | 0, x, h => h
  | n + 1, x, h => by
    unfold pre at h ⊢
    obtain ⟨⟨y, v⟩, h1, h2⟩ := bind_some h
    obtain ⟨q, h5, h6⟩ := Option.map_eq_some_iff.1 h2
    have hl := (pre_ok hz h1).2
    rw [pre_more hz t h1, Option.bind_some, List.drop_append_of_le_length hl, one_more t h5]
    exact congrArg some h6
/-- Bytes that are read whole. -/
def Whole (b : List UInt8) (s : St) : Prop := ∃ n, pre .zero b n = some (s, b.length)
theorem Whole.nil : Whole [] .zero := ⟨0, rfl⟩
theorem one_end (s : St) : one13 s [] = none := by
  unfold one13
  rw [if_neg (by rw [rdE_nil]; decide)]
theorem Whole.reads {b : List UInt8} {s : St} (h : Whole b s) : Reads b s b.length := ⟨h, by rw [List.drop_length]; exact one_end s⟩
theorem Whole.ok {b : List UInt8} {s : St} (h : Whole b s) : s.ok = true := h.reads.ok.1
theorem Whole.step {b : List UInt8} {s : St} (h : Whole b s) {r : Rc} (hr : r.ok = true) (hf : fits s r = true) : Whole (b ++ frm (eC r)) (chg s r) := by
  obtain ⟨n, hn⟩ := h
  refine ⟨n + 1, ?_⟩
  have hl := (Rc.ok_len hr).2
  have h1 := rd_frm (eC r) [] (by omega)
  rw [List.append_nil] at h1
  unfold pre
  rw [pre_more St.zero_ok _ hn, Option.bind_some]
  simp only
  rw [List.drop_left]
  have e : one13 s (frm (eC r)) = some (chg s r, 10 + (eC r).length) := by
    unfold one13
    rw [if_pos h1.1, h1.2.1, dC_some.2 ⟨by omega, hr, rfl⟩, Option.bind_some, if_pos hf]
  rw [e]
  simp [frm_len]
theorem Whole.steps : ∀ {l : List Rc} {b : List UInt8} {s t : St}, Whole b s → (∀ r ∈ l, r.ok = true) → runs s l = some t → Whole (b ++ l.flatMap fun r => frm (eC r)) t
  | [], b, s, t, h, _, hr => by cases hr; simpa using h
  | r :: l, b, s, t, h, hl, hr => by
    unfold runs at hr
    split at hr
    · rename_i hf
      have := (h.step (hl r List.mem_cons_self) hf).steps (fun x hx => hl x (List.mem_cons_of_mem _ hx)) hr
      rw [List.flatMap_cons, ← List.append_assoc]
      exact this
    · cases hr
theorem frames_len {l : List Rc} (hl : ∀ r ∈ l, r.ok = true) : (l.flatMap fun r => frm (eC r)).length ≤ l.length * 4760 :=
  flat_bound fun r hr => by rw [frm_len]; have := (Rc.ok_len (hl r hr)).2; omega
end Go.Proofs.YtefgobmpleoafaaGreat

/- Layer 12 in plain mathematics: a tape, what each call makes of it, and the document's tape. No program is imported. -/
namespace Go.Proofs.YtefgobmpleoafaaGreat

/-- Bytes of which those from a on, k of them, are turned by those of t. -/
def xr (s : List UInt8) (a k : Nat) (t : List UInt8) : List UInt8 := s.mapIdx fun i c => if a ≤ i ∧ i < a + k then c ^^^ t.getD (i - a) 0 else c
theorem xr_len (s : List UInt8) (a k : Nat) (t : List UInt8) : (xr s a k t).length = s.length := by simp [xr]
theorem xr_zero (s : List UInt8) (a : Nat) (t : List UInt8) : xr s a 0 t = s := by
  apply List.ext_getElem?
  intro i
  simp only [xr, List.getElem?_mapIdx]
  have hn : ¬ (a ≤ i ∧ i < a + 0) := by omega
  simp only [hn, if_false]
  cases s[i]? <;> rfl
theorem xr_get {s : List UInt8} {a k : Nat} {t : List UInt8} {i : Nat} (h : i < s.length) : (xr s a k t)[i]? = some (if a ≤ i ∧ i < a + k then s[i] ^^^ t.getD (i - a) 0 else s[i]) := by
  simp [xr, h]
theorem xr_at {s : List UInt8} {a k : Nat} {t : List UInt8} (h : a + k < s.length) : at_ (xr s a k t) (a + k) = at_ s (a + k) := by
  simp only [at_, List.getD_eq_getElem?_getD]
  rw [xr_get h, if_neg (by omega)]
  simp [h]
theorem xr_succ {s : List UInt8} {a k : Nat} {t : List UInt8} (h : a + k < s.length) : xr s a (k + 1) t = (xr s a k t).set (a + k) (s[a + k] ^^^ t.getD k 0) := by
  apply List.ext_getElem?
  intro i
  by_cases hi : i < s.length
  · rw [xr_get hi]
    by_cases he : i = a + k
    · subst he
      rw [if_pos (by omega), List.getElem?_set_self (by rw [xr_len]; exact h)]
      simp
    · rw [List.getElem?_set_ne (by omega), xr_get hi]
      congr 1
      by_cases hc : a ≤ i ∧ i < a + k
      · rw [if_pos hc, if_pos (by omega)]
      · rw [if_neg hc, if_neg (by omega)]
  · rw [List.getElem?_eq_none (by rw [xr_len]; omega), List.getElem?_eq_none (by rw [List.length_set, xr_len]; omega)]
/-- The first bytes stay. -/
theorem xr_low (s : List UInt8) (a k : Nat) (t : List UInt8) (j : Nat) (h : j ≤ a) : (xr s a k t).take j = s.take j := by
  apply List.ext_getElem?
  intro i
  simp only [List.getElem?_take]
  by_cases hi : i < j
  · rw [if_pos hi, if_pos hi]
    by_cases hs : i < s.length
    · rw [xr_get hs, if_neg (by omega)]
      simp [hs]
    · rw [List.getElem?_eq_none (by rw [xr_len]; omega), List.getElem?_eq_none (by omega)]
  · rw [if_neg hi, if_neg hi]
/-- Bytes turned by those of another row. -/
def xo (l t : List UInt8) : List UInt8 := l.mapIdx fun i c => c ^^^ t.getD i 0
theorem xo_len (l t : List UInt8) : (xo l t).length = l.length := by simp [xo]
theorem xo_nil (l : List UInt8) : xo l [] = l := by
  apply List.ext_getElem?
  intro i
  simp only [xo, List.getElem?_mapIdx]
  cases l[i]? <;> simp
theorem xo_snoc (l : List UInt8) (c : UInt8) (t : List UInt8) : xo (l ++ [c]) t = xo l t ++ [c ^^^ t.getD l.length 0] := by
  simp [xo, List.mapIdx_append]
theorem xo_take_succ (l t : List UInt8) (k : Nat) (h : k < l.length) : xo (l.take (k + 1)) t = xo (l.take k) t ++ [l[k] ^^^ t.getD k 0] := by
  rw [take_snoc l k h, xo_snoc, List.length_take, Nat.min_eq_left (by omega)]
theorem xr_xo (s l t : List UInt8) (a k : Nat) (hl : l = s.drop a) (ha : a ≤ s.length) (hk : k = min l.length t.length) : xr s a k t = s.take a ++ xo l t := by
  subst hl
  apply List.ext_getElem?
  intro i
  by_cases hi : i < s.length
  · rw [xr_get hi]
    by_cases hia : i < a
    · rw [if_neg (by omega), List.getElem?_append_left (by simp; omega), List.getElem?_take, if_pos hia]
      simp [hi]
    · rw [List.getElem?_append_right (by simp; omega)]
      simp only [xo, List.getElem?_mapIdx, List.length_take, Nat.min_eq_left ha, List.getElem?_drop]
      rw [show a + (i - a) = i by omega, List.getElem?_eq_getElem hi]
      simp only [Option.map_some]
      congr 1
      by_cases hc : i < a + k
      · rw [if_pos ⟨by omega, hc⟩]
      · rw [if_neg (by omega)]
        have : t.length ≤ i - a := by
          rw [List.length_drop] at hk
          omega
        simp [List.getD_eq_getElem?_getD, List.getElem?_eq_none this]
  · rw [List.getElem?_eq_none (by rw [xr_len]; omega), List.getElem?_eq_none (by simp [xo_len]; omega)]

/-- A tape. -/
structure Tp where
  bs : List UInt8
  room : Int
  safe : Nat
  left : Int
  down : Bool
/-- What any tape is like. -/
structure Tp.ok (T : Tp) : Prop where
  safe : T.safe ≤ T.bs.length
  fits : (T.bs.length : Int) ≤ T.room
  room : T.room ≤ 1048576
  left : -9223372036854775808 ≤ T.left ∧ T.left ≤ 9223372036854775807
def Tp.new (room : Int) : Tp := ⟨[], room, 0, -1, false⟩
theorem Tp.new_ok {room : Int} (h : 0 ≤ room) (h' : room ≤ 1048576) : (Tp.new room).ok := ⟨Nat.le_refl _, h, h', by show -9223372036854775808 ≤ (-1 : Int) ∧ (-1 : Int) ≤ 9223372036854775807; decide⟩
/-- A call that counts: its answer (0, or 40), and the tape behind it. -/
def Tp.spendE (T : Tp) : Nat := if T.left = 0 then 40 else 0
def Tp.spent (T : Tp) : Tp := if T.left = 0 then { T with down := true } else if 0 < T.left then { T with left := T.left - 1 } else T
def Tp.kept (T : Tp) (n : Nat) : Tp := { T with bs := T.bs.take n, safe := n }
def Tp.more (T : Tp) (b : List UInt8) : Tp := { T with bs := T.bs ++ b }
def Tp.appE (T : Tp) (b : List UInt8) : Nat := if T.down then 40 else if T.room - (T.bs.length : Int) < (b.length : Int) then 41 else T.spendE
def Tp.app (T : Tp) (b : List UInt8) : Tp := if T.down then T else if T.room - (T.bs.length : Int) < (b.length : Int) then T else T.spent.more b
def Tp.syncE (T : Tp) : Nat := if T.down then 40 else T.spendE
def Tp.sync (T : Tp) : Tp := if T.down then T else if T.left = 0 then T.spent else T.spent.kept T.bs.length
def Tp.trimE (T : Tp) (n : Int) : Nat := if T.down then 40 else if n < 0 ∨ (T.bs.length : Int) < n then 13 else T.spendE
def Tp.trim (T : Tp) (n : Int) : Tp := if T.down then T else if n < 0 ∨ (T.bs.length : Int) < n then T else if T.left = 0 then T.spent else T.spent.kept n.toNat
def Tp.arm (T : Tp) (n : Int) : Tp := { T with left := n }
/-- How many bytes that aren't safe a crash leaves. -/
def Tp.stays (T : Tp) (keep : Int) : Nat := min keep.toNat (T.bs.length - T.safe)
def Tp.crash (T : Tp) (keep : Int) (t : List UInt8) : Tp := ⟨T.bs.take T.safe ++ xo ((T.bs.drop T.safe).take (T.stays keep)) t, T.room, T.safe + T.stays keep, -1, false⟩
section
variable {T : Tp}
theorem Tp.spent_bs : T.spent.bs = T.bs := by unfold Tp.spent; split <;> (try split) <;> rfl
theorem Tp.spent_room : T.spent.room = T.room := by unfold Tp.spent; split <;> (try split) <;> rfl
theorem Tp.spent_safe : T.spent.safe = T.safe := by unfold Tp.spent; split <;> (try split) <;> rfl
theorem Tp.ok.spent (h : T.ok) : T.spent.ok := by
  unfold Tp.spent
  split
  · exact ⟨h.safe, h.fits, h.room, h.left⟩
  · split
    · exact ⟨h.safe, h.fits, h.room, by have := h.left; simp only; omega⟩
    · exact h
theorem Tp.ok.kept (h : T.ok) {n : Nat} (hn : n ≤ T.bs.length) : (T.kept n).ok := ⟨by simp [Tp.kept, hn], by have := h.fits; simp [Tp.kept]; omega, h.room, h.left⟩
theorem Tp.ok.more (h : T.ok) {b : List UInt8} (hb : (T.bs.length : Int) + b.length ≤ T.room) : (T.more b).ok := ⟨by have := h.safe; simp [Tp.more]; omega, by simp [Tp.more]; omega, h.room, h.left⟩
theorem Tp.ok.app (h : T.ok) (b : List UInt8) : (T.app b).ok := by
  unfold Tp.app
  split
  · exact h
  · split
    · exact h
    · exact h.spent.more (by rw [Tp.spent_bs, Tp.spent_room]; omega)
theorem Tp.ok.sync (h : T.ok) : T.sync.ok := by
  unfold Tp.sync
  split
  · exact h
  · split
    · exact h.spent
    · exact h.spent.kept (by rw [Tp.spent_bs]; omega)
theorem Tp.ok.trim (h : T.ok) (n : Int) : (T.trim n).ok := by
  unfold Tp.trim
  split
  · exact h
  · split
    · exact h
    · split
      · exact h.spent
      · exact h.spent.kept (by rw [Tp.spent_bs]; omega)
theorem Tp.ok.arm (h : T.ok) {n : Int} (hn : -9223372036854775808 ≤ n ∧ n ≤ 9223372036854775807) : (T.arm n).ok := ⟨h.safe, h.fits, h.room, hn⟩
theorem Tp.crash_len (h : T.ok) (keep : Int) (t : List UInt8) : (T.crash keep t).bs.length = T.safe + T.stays keep := by
  have := h.safe
  simp only [Tp.crash, List.length_append, xo_len, List.length_take, List.length_drop, Tp.stays]
  omega
theorem Tp.ok.crash (h : T.ok) (keep : Int) (t : List UInt8) : (T.crash keep t).ok := by
  have h1 := Tp.crash_len h keep t
  have h2 := h.safe
  have h3 := h.fits
  have h4 : T.stays keep ≤ T.bs.length - T.safe := by unfold Tp.stays; omega
  exact ⟨by rw [h1]; exact Nat.le_refl _, by rw [h1]; show ((T.safe + T.stays keep : Nat) : Int) ≤ T.room; omega, h.room, by show -9223372036854775808 ≤ (-1 : Int) ∧ (-1 : Int) ≤ 9223372036854775807; decide⟩
end

/-- A step. -/
structure Op12 where
  k : Int
  n : Int
  d : List UInt8
/-- A step of the program. -/
def Tp.does (T : Tp) (o : Op12) : Tp := if o.k = 1 then T.app o.d else if o.k = 2 then T.sync else if o.k = 3 then T.trim o.n else if o.k = 4 then T.arm o.n else if o.k = 5 then T.crash o.n o.d else T
def Tp.doesE (T : Tp) (o : Op12) : Nat := if o.k = 1 then T.appE o.d else if o.k = 2 then T.syncE else if o.k = 3 then T.trimE o.n else 0
theorem Tp.ok.does {T : Tp} (h : T.ok) {o : Op12} (hn : -9223372036854775808 ≤ o.n ∧ o.n ≤ 9223372036854775807) : (T.does o).ok := by
  unfold Tp.does
  split
  · exact h.app _
  · split
    · exact h.sync
    · split
      · exact h.trim _
      · split
        · exact h.arm hn
        · split
          · exact h.crash _ _
          · exact h

/-- The document's tape. -/
structure Tw where
  safe : List UInt8
  loose : List UInt8
  room : Int
  left : Int
  armed : Bool
  down : Bool
def Tw.new (room : Int) : Tw := ⟨[], [], room, 0, false, false⟩
def Tw.fallsE (W : Tw) : Bool := W.armed && decide (W.left = 0)
def Tw.fallen (W : Tw) : Tw := if W.armed then if W.left = 0 then { W with armed := false, down := true } else { W with left := W.left - 1 } else W
def Tw.stays (W : Tw) (keep : Int) : Nat := if 0 < keep then min keep.toNat W.loose.length else 0
def Tw.stepE (W : Tw) (o : Op12) : Nat :=
  if o.k = 4 then 0 else if o.k = 5 then 0 else if o.k < 1 ∨ 5 < o.k then 0 else if W.down then 40
  else if o.k = 1 ∧ W.room - ((W.safe ++ W.loose).length : Int) < (o.d.length : Int) then 41
  else if o.k = 3 ∧ (o.n < 0 ∨ ((W.safe ++ W.loose).length : Int) < o.n) then 13
  else if W.fallsE then 40 else 0
def Tw.step (W : Tw) (o : Op12) : Tw :=
  if o.k = 4 then { W with armed := decide (0 ≤ o.n), left := o.n }
  else if o.k = 5 then { W with safe := W.safe ++ xo (W.loose.take (W.stays o.n)) o.d, loose := [], armed := false, down := false }
  else if o.k < 1 ∨ 5 < o.k then W else if W.down then W
  else if o.k = 1 ∧ W.room - ((W.safe ++ W.loose).length : Int) < (o.d.length : Int) then W
  else if o.k = 3 ∧ (o.n < 0 ∨ ((W.safe ++ W.loose).length : Int) < o.n) then W
  else if o.k = 1 then { W.fallen with loose := W.loose ++ o.d }
  else if W.fallsE then W.fallen
  else if o.k = 2 then { W.fallen with safe := W.safe ++ W.loose, loose := [] }
  else { W.fallen with safe := (W.safe ++ W.loose).take o.n.toNat, loose := [] }
/-- The program's tape is the document's. -/
structure Alike (T : Tp) (W : Tw) : Prop where
  bs : T.bs = W.safe ++ W.loose
  safe : T.safe = W.safe.length
  room : T.room = W.room
  down : T.down = W.down
  armed : T.down = false → W.armed = decide (0 ≤ T.left) ∧ (W.armed = true → W.left = T.left)
theorem Alike.new (room : Int) : Alike (Tp.new room) (Tw.new room) := ⟨rfl, rfl, rfl, rfl, fun _ => ⟨rfl, fun h => by cases h⟩⟩
theorem Alike.falls {T : Tp} {W : Tw} (h : Alike T W) (hd : T.down = false) : W.fallsE = decide (T.left = 0) := by
  obtain ⟨h1, h2⟩ := h.armed hd
  unfold Tw.fallsE
  by_cases h0 : 0 ≤ T.left
  · rw [decide_eq_true h0] at h1
    rw [h1, h2 h1, Bool.true_and]
  · rw [decide_eq_false h0] at h1
    rw [h1, Bool.false_and, decide_eq_false (by omega)]
theorem Alike.spent {T : Tp} {W : Tw} (h : Alike T W) (hd : T.down = false) : Alike T.spent W.fallen := by
  obtain ⟨h1, h2⟩ := h.armed hd
  unfold Tp.spent Tw.fallen
  by_cases h0 : 0 ≤ T.left
  · rw [decide_eq_true h0] at h1
    have h3 := h2 h1
    rw [if_pos h1]
    by_cases h4 : T.left = 0
    · rw [if_pos h4, if_pos (by omega)]
      exact ⟨h.bs, h.safe, h.room, rfl, fun h => by cases h⟩
    · rw [if_neg h4, if_pos (by omega), if_neg (by omega)]
      refine ⟨h.bs, h.safe, h.room, h.down, fun _ => ⟨?_, fun _ => ?_⟩⟩
      · simp only; rw [h1, decide_eq_true (by omega)]
      · simp only; omega
  · rw [decide_eq_false h0] at h1
    rw [if_neg (by omega), if_neg (by omega), if_neg (by rw [h1]; simp)]
    exact h
theorem Tw.fallen_safe (W : Tw) : W.fallen.safe = W.safe := by unfold Tw.fallen; split <;> (try split) <;> rfl
theorem Tw.fallen_loose (W : Tw) : W.fallen.loose = W.loose := by unfold Tw.fallen; split <;> (try split) <;> rfl
theorem Alike.more {T : Tp} {W : Tw} (h : Alike T W) (b : List UInt8) : Alike (T.more b) { W with loose := W.loose ++ b } :=
  ⟨by simp [Tp.more, h.bs], h.safe, h.room, h.down, h.armed⟩
theorem Alike.kept {T : Tp} {W : Tw} (h : Alike T W) {n : Nat} (hn : n ≤ T.bs.length) : Alike (T.kept n) { W with safe := (W.safe ++ W.loose).take n, loose := [] } :=
  ⟨by simp [Tp.kept, h.bs], by have := h.bs; simp only [Tp.kept, List.length_take]; rw [← this]; omega, h.room, h.down, h.armed⟩
theorem Alike.step {T : Tp} {W : Tw} (h : Alike T W) (o : Op12) : T.doesE o = W.stepE o ∧ Alike (T.does o) (W.step o) := by
  obtain ⟨k, n, d⟩ := o
  unfold Tp.doesE Tp.does Tw.stepE Tw.step
  simp only
  by_cases h4 : k = 4
  · subst h4
    simp only [if_true, Int.reduceEq, if_false]
    exact ⟨trivial, h.bs, h.safe, h.room, h.down, fun _ => ⟨rfl, fun _ => rfl⟩⟩
  by_cases h5 : k = 5
  · subst h5
    simp only [if_true, Int.reduceEq, if_false]
    refine ⟨trivial, ?_, ?_, h.room, rfl, fun _ => ⟨rfl, fun h => by cases h⟩⟩
    · simp only [Tp.crash, h.bs, h.safe, List.take_left, List.drop_left]
      have e : T.stays n = W.stays n := by
        simp only [Tp.stays, Tw.stays, h.bs, h.safe, List.length_append]
        split <;> omega
      rw [e, List.append_nil]
    · have h1 := h.bs
      simp only [Tp.crash, Tp.stays, Tw.stays, List.length_append, xo_len, List.length_take, h.safe, h.bs]
      split <;> omega
  rw [if_neg h4, if_neg h5, if_neg h4, if_neg h5]
  rw [if_neg h4, if_neg h5]
  by_cases hk : k < 1 ∨ 5 < k
  · rw [if_pos hk, if_pos hk, if_neg (by omega), if_neg (by omega), if_neg (by omega), if_neg (by omega), if_neg (by omega), if_neg (by omega)]
    exact ⟨rfl, h⟩
  rw [if_neg hk, if_neg hk]
  have hdd := h.down
  have hl : ((W.safe ++ W.loose).length : Int) = (T.bs.length : Int) := by rw [h.bs]
  rw [hl]
  rcases Bool.eq_false_or_eq_true W.down with hd | hd
  · rw [if_pos hd, if_pos hd]
    rw [hd] at hdd
    unfold Tp.appE Tp.app Tp.syncE Tp.sync Tp.trimE Tp.trim
    rw [if_pos hdd, if_pos hdd, if_pos hdd, if_pos hdd, if_pos hdd, if_pos hdd]
    rcases (show k = 1 ∨ k = 2 ∨ k = 3 by omega) with rfl | rfl | rfl
    · simp only [if_true]; exact ⟨trivial, h⟩
    · simp only [if_true, Int.reduceEq, if_false]; exact ⟨trivial, h⟩
    · simp only [if_true, Int.reduceEq, if_false]; exact ⟨trivial, h⟩
  have hn : ¬ W.down = true := by rw [hd]; simp
  have hT : T.down = false := by rw [hdd, hd]
  have hTn : ¬ T.down = true := by rw [hT]; simp
  have hf := h.falls hT
  have hs := h.spent hT
  have hsE : T.spendE = if W.fallsE = true then 40 else 0 := by
    unfold Tp.spendE
    rw [hf]
    by_cases h0 : T.left = 0
    · rw [if_pos h0, if_pos (decide_eq_true h0)]
    · rw [if_neg h0, if_neg (by simpa using h0)]
  rw [if_neg hn, if_neg hn]
  unfold Tp.appE Tp.app Tp.syncE Tp.sync Tp.trimE Tp.trim
  rw [if_neg hTn, if_neg hTn, if_neg hTn, if_neg hTn, if_neg hTn, if_neg hTn]
  rcases (show k = 1 ∨ k = 2 ∨ k = 3 by omega) with rfl | rfl | rfl
  · simp only [if_true, true_and, Int.reduceEq, false_and, if_false]
    rw [← h.room]
    by_cases hr : T.room - (T.bs.length : Int) < (d.length : Int)
    · rw [if_pos hr, if_pos hr, if_pos hr, if_pos hr]
      exact ⟨rfl, h⟩
    · rw [if_neg hr, if_neg hr, if_neg hr, if_neg hr]
      refine ⟨hsE, ?_⟩
      have := hs.more d
      rwa [Tw.fallen_loose] at this
  · simp only [if_true, Int.reduceEq, false_and, if_false]
    refine ⟨hsE, ?_⟩
    rw [hf]
    by_cases h0 : T.left = 0
    · rw [if_pos h0, if_pos (decide_eq_true h0)]
      exact hs
    · rw [if_neg h0, if_neg (by simpa using h0)]
      have := hs.kept (n := T.bs.length) (by rw [Tp.spent_bs]; exact Nat.le_refl _)
      rw [Tw.fallen_safe, Tw.fallen_loose, h.bs, List.take_length] at this
      rw [h.bs]
      exact this
  · simp only [if_true, Int.reduceEq, false_and, if_false, true_and]
    by_cases hr : n < 0 ∨ (T.bs.length : Int) < n
    · rw [if_pos hr, if_pos hr, if_pos hr, if_pos hr]
      exact ⟨rfl, h⟩
    · rw [if_neg hr, if_neg hr, if_neg hr, if_neg hr]
      refine ⟨hsE, ?_⟩
      rw [hf]
      by_cases h0 : T.left = 0
      · rw [if_pos h0, if_pos (decide_eq_true h0)]
        exact hs
      · rw [if_neg h0, if_neg (by simpa using h0)]
        have := hs.kept (n := n.toNat) (by rw [Tp.spent_bs]; omega)
        rwa [Tw.fallen_safe, Tw.fallen_loose] at this
end Go.Proofs.YtefgobmpleoafaaGreat

