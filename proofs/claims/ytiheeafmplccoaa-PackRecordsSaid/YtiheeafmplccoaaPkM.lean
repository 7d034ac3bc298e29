/- Layer 11 in plain mathematics: entries, messages, records; their bytes; what bytes are read as. No program is imported. -/
import Derived.Test.YtiheeafmplccoaaFrM
import Derived.Test.YtiheeafmplccoaaRuM
namespace Go.Proofs.Ytiheeafmplccoaa

structure En where
  vi : Int
  cl : Int
  re : Int
  d : Dl
structure Ms where
  k : Int
  vi : Int
  fr : Int
  to : Int
  op : Int
  co : Int
  no : Int
  log : List En
structure Rc where
  k : Int
  a : Int
  b : Int
  log : List En

/-! ### Right -/
def inR (lo hi n : Int) : Bool := decide (lo ≤ n ∧ n ≤ hi)
def Dl.okP (d : Dl) : Bool := [d.de, d.cl, d.fu, d.st].all (inR (-1) 1099511627776) && decide (d.put.length ≤ 16) && d.put.all Ru.ok && decide (d.drop.length ≤ 16) && d.drop.all (inR 1 1099511627776)
def En.ok (e : En) : Bool := inR 0 1099511627776 e.vi && inR 1 1099511627776 e.cl && inR 1 1099511627776 e.re && e.d.okP
def least (k : Int) : Int := if k = 1 then 1 else 0
def most (k : Int) : Int := if k = 1 then 1 else if k = 5 ∨ k = 6 ∨ k = 8 then 64 else 0
def Ms.ok (m : Ms) : Bool := inR 1 8 m.k && inR 0 1099511627776 m.vi && inR 0 1099511627776 m.no && inR 0 6 m.fr && inR 0 6 m.to && inR 0 64 m.op && inR 0 64 m.co && inR (least m.k) (most m.k) (m.log.length : Int) && m.log.all En.ok
def many (k : Int) : Int := if k = 2 then 1 else 0
def Rc.ok (r : Rc) : Bool := inR 1 5 r.k && inR 0 1099511627776 r.a && inR 0 1099511627776 r.b && decide ((r.log.length : Int) = many r.k) && r.log.all En.ok

/-! ### Bytes -/
def be6 (m : Nat) : List UInt8 := [(m / 1099511627776 % 256).toUInt8, (m / 4294967296 % 256).toUInt8, (m / 16777216 % 256).toUInt8, (m / 65536 % 256).toUInt8, (m / 256 % 256).toUInt8, (m % 256).toUInt8]
def n6 (n : Int) : List UInt8 := be6 (n + 1).toNat
def pt (r : Ru) : List UInt8 := r.pat.data.toList
def eR (r : Ru) : List UInt8 := n6 r.id ++ (n6 r.pr ++ (n6 r.ac ++ (n6 r.sc ++ (n6 (r.pat.size : Int) ++ pt r))))
def eL {α : Type} (e : α → List UInt8) (l : List α) : List UInt8 := n6 (l.length : Int) ++ l.flatMap e
def eD (d : Dl) : List UInt8 := n6 d.de ++ (n6 d.cl ++ (n6 d.fu ++ (n6 d.st ++ (eL eR d.put ++ eL n6 d.drop))))
def eE (e : En) : List UInt8 := n6 e.vi ++ (n6 e.cl ++ (n6 e.re ++ eD e.d))
def eM (m : Ms) : List UInt8 := n6 m.k ++ (n6 m.vi ++ (n6 m.fr ++ (n6 m.to ++ (n6 m.op ++ (n6 m.co ++ (n6 m.no ++ eL eE m.log))))))
def eC (r : Rc) : List UInt8 := n6 r.k ++ (n6 r.a ++ (n6 r.b ++ eL eE r.log))

theorem n6_len (n : Int) : (n6 n).length = 6 := rfl
theorem be6_len (n : Nat) : (be6 n).length = 6 := rfl
theorem num_be6 (m : Nat) (h : m < 281474976710656) : num (be6 m) = m := by
  simp only [num, be6, List.foldl_cons, List.foldl_nil]
  rw [u8 _ (by omega), u8 _ (by omega), u8 _ (by omega), u8 _ (by omega), u8 _ (by omega), u8 _ (by omega)]
  omega
theorem list6b {l : List UInt8} (h : l.length = 6) : ∃ a b c d e f, l = [a, b, c, d, e, f] := by
  match l, h with
  | [a, b, c, d, e, f], _ => exact ⟨a, b, c, d, e, f, rfl⟩
theorem toU (a : UInt8) (n : Nat) (h : n = a.toNat) : n.toUInt8 = a := by
  subst h
  exact UInt8.ofNat_toNat
theorem num_lt6 {l : List UInt8} (h : l.length = 6) : num l < 281474976710656 := by
  obtain ⟨a, b, c, d, e, f, rfl⟩ := list6b h
  have := a.toNat_lt; have := b.toNat_lt; have := c.toNat_lt; have := d.toNat_lt; have := e.toNat_lt; have := f.toNat_lt
  simp only [num, List.foldl_cons, List.foldl_nil]
  omega
theorem be6_num {l : List UInt8} (h : l.length = 6) : be6 (num l) = l := by
  obtain ⟨a, b, c, d, e, f, rfl⟩ := list6b h
  have := a.toNat_lt; have := b.toNat_lt; have := c.toNat_lt; have := d.toNat_lt; have := e.toNat_lt; have := f.toNat_lt
  simp only [num, List.foldl_cons, List.foldl_nil, be6]
  rw [toU a _ (by omega), toU b _ (by omega), toU c _ (by omega), toU d _ (by omega), toU e _ (by omega), toU f _ (by omega)]

/-! ### Reading -/
abbrev S := List UInt8
def pN (s : S) : Option (Int × S) := if s.length < 6 then none else some ((num (s.take 6) : Int) - 1, s.drop 6)
def pC (s : S) : Option (Nat × S) := (pN s).bind fun a => if 0 ≤ a.1 ∧ a.1 ≤ (a.2.length : Int) then some (a.1.toNat, a.2) else none
def pT (s : S) : Option (S × S) := (pC s).bind fun a => some (a.2.take a.1, a.2.drop a.1)
def pK {α : Type} (p : S → Option (α × S)) : Nat → S → Option (List α × S)
  | 0, s => some ([], s)
  | k + 1, s => (pK p k s).bind fun a => (p a.2).bind fun b => some (a.1 ++ [b.1], b.2)
def pL {α : Type} (p : S → Option (α × S)) (s : S) : Option (List α × S) := (pC s).bind fun a => pK p a.1 a.2
def pR (s : S) : Option (Ru × S) := (pN s).bind fun a => (pN a.2).bind fun b => (pN b.2).bind fun c => (pN c.2).bind fun d => (pT d.2).bind fun e => some (⟨a.1, b.1, c.1, d.1, ⟨e.1.toArray⟩⟩, e.2)
def pD (s : S) : Option (Dl × S) := (pN s).bind fun a => (pN a.2).bind fun b => (pN b.2).bind fun c => (pN c.2).bind fun d => (pL pR d.2).bind fun e => (pL pN e.2).bind fun f => some (⟨a.1, b.1, c.1, d.1, e.1, f.1⟩, f.2)
def pE (s : S) : Option (En × S) := (pN s).bind fun a => (pN a.2).bind fun b => (pN b.2).bind fun c => (pD c.2).bind fun d => some (⟨a.1, b.1, c.1, d.1⟩, d.2)
def pM (s : S) : Option (Ms × S) := (pN s).bind fun a => (pN a.2).bind fun b => (pN b.2).bind fun c => (pN c.2).bind fun d => (pN d.2).bind fun e => (pN e.2).bind fun f => (pN f.2).bind fun g => (pL pE g.2).bind fun h => some (⟨a.1, b.1, c.1, d.1, e.1, f.1, g.1, h.1⟩, h.2)
def pRc (s : S) : Option (Rc × S) := (pN s).bind fun a => (pN a.2).bind fun b => (pN b.2).bind fun c => (pL pE c.2).bind fun h => some (⟨a.1, b.1, c.1, h.1⟩, h.2)

/-- What a reading that may go wrong leaves: a thing, the rest, and whether it is wrong. -/
def Out {α : Type} (p : Option (α × S)) (wr : Bool) (x : α) (t : S) (wr' : Bool) : Prop := (wr' = false → wr = false ∧ p = some (x, t)) ∧ (wr' = true → wr = true ∨ p = none)
theorem Out.pure {α : Type} (x : α) (t : S) (wr : Bool) : Out (some (x, t)) wr x t wr := ⟨fun h => ⟨h, rfl⟩, fun h => .inl h⟩
theorem Out.bind {α β : Type} {p : Option (α × S)} {f : α × S → Option (β × S)} {wr wr1 wr2 : Bool} {x : α} {y : β} {t u : S} (h : Out p wr x t wr1) (k : Out (f (x, t)) wr1 y u wr2) : Out (p.bind f) wr y u wr2 := by
  refine ⟨fun h2 => ?_, fun h2 => ?_⟩
  · obtain ⟨a, b⟩ := k.1 h2
    obtain ⟨c, d⟩ := h.1 a
    exact ⟨c, by rw [d]; exact b⟩
  · cases hw : wr1 with
    | true =>
      rcases h.2 hw with c | c
      · exact .inl c
      · exact .inr (by rw [c]; rfl)
    | false =>
      obtain ⟨c, d⟩ := h.1 hw
      rcases k.2 h2 with e | e
      · rw [hw] at e; cases e
      · exact .inr (by rw [d]; exact e)
theorem Out.wrong {α : Type} {p : Option (α × S)} (x : α) (t : S) : Out p true x t true := ⟨fun h => Bool.noConfusion h, fun _ => .inl rfl⟩
theorem Out.none {α : Type} {p : Option (α × S)} (h : p = Option.none) (wr : Bool) (x : α) (t : S) : Out p wr x t true := ⟨fun h' => Bool.noConfusion h', fun _ => .inr h⟩

/-- Reads what e writes, of things that fit. -/
structure Ok {α : Type} (p : S → Option (α × S)) (e : α → S) (fit : α → Prop) : Prop where
  fwd : ∀ x t, fit x → p (e x ++ t) = some (x, t)
  bwd : ∀ s x t, p s = some (x, t) → s = e x ++ t
  ext : ∀ s x t u, p s = some (x, t) → p (s ++ u) = some (x, t ++ u)
theorem okN : Ok pN n6 (fun n => -1 ≤ n ∧ n < 281474976710655) := by
  refine ⟨fun x t h => ?_, fun s x t h => ?_, fun s x t u h => ?_⟩
  · have e1 : (n6 x ++ t).take 6 = n6 x := rfl
    have e2 : (n6 x ++ t).drop 6 = t := rfl
    unfold pN
    rw [if_neg (by simp [n6_len]), e1, e2]
    unfold n6
    rw [num_be6 _ (by omega)]
    simp; omega
  · unfold pN at h
    split at h
    · cases h
    · injection h with h
      injection h with h1 h2
      subst h1 h2
      unfold n6
      rw [show ((num (List.take 6 s) : Int) - 1 + 1).toNat = num (s.take 6) by omega, be6_num (by simp; omega), List.take_append_drop]
  · unfold pN at h ⊢
    split at h
    · cases h
    · rename_i hl
      injection h with h
      injection h with h1 h2
      subst h1 h2
      rw [if_neg (by simp; omega), List.take_append_of_le_length (by omega), List.drop_append_of_le_length (by omega)]
theorem bind_some {α β : Type} {p : Option α} {f : α → Option β} {y : β} (h : p.bind f = some y) : ∃ x, p = some x ∧ f x = some y := Option.bind_eq_some_iff.1 h
theorem c_fwd (n : Nat) (t : S) (h : n ≤ t.length) (h2 : n < 281474976710655) : pC (n6 n ++ t) = some (n, t) := by
  unfold pC
  rw [okN.fwd _ _ (by omega)]
  simp; omega
theorem c_bwd {s : S} {n : Nat} {t : S} (h : pC s = some (n, t)) : s = n6 n ++ t ∧ n ≤ t.length := by
  obtain ⟨⟨x, u⟩, h1, h2⟩ := bind_some h
  have := okN.bwd _ _ _ h1
  dsimp only at h2
  split at h2
  · rename_i hc
    injection h2 with h2
    injection h2 with h3 h4
    subst h3 h4
    rw [show ((x.toNat : Nat) : Int) = x by omega]
    exact ⟨this, by omega⟩
  · cases h2
theorem c_ext {s : S} {n : Nat} {t : S} (u : S) (h : pC s = some (n, t)) : pC (s ++ u) = some (n, t ++ u) := by
  obtain ⟨⟨x, v⟩, h1, h2⟩ := bind_some h
  have := okN.ext _ _ _ u h1
  unfold pC
  rw [this]
  simp only [Option.bind_some]
  split at h2
  · rename_i hc
    injection h2 with h2
    injection h2 with h3 h4
    subst h3 h4
    dsimp only at hc ⊢
    rw [if_pos (by simp only [List.length_append]; omega)]
  · cases h2
def fitT (x : S) : Prop := x.length < 281474976710655
theorem okT : Ok pT (fun x => n6 (x.length : Int) ++ x) fitT := by
  refine ⟨fun x t h => ?_, fun s x t h => ?_, fun s x t u h => ?_⟩
  · unfold pT
    rw [List.append_assoc, c_fwd _ _ (by simp) h]
    simp
  · obtain ⟨⟨n, v⟩, h1, h2⟩ := bind_some h
    obtain ⟨e, hl⟩ := c_bwd h1
    injection h2 with h2
    injection h2 with h3 h4
    subst h3 h4
    rw [e]
    simp [Nat.min_eq_left hl]
  · obtain ⟨⟨n, v⟩, h1, h2⟩ := bind_some h
    obtain ⟨e, hl⟩ := c_bwd h1
    injection h2 with h2
    injection h2 with h3 h4
    subst h3 h4
    unfold pT
    rw [c_ext u h1]
    simp only [Option.bind_some, List.take_append_of_le_length hl, List.drop_append_of_le_length hl]
section
variable {α : Type} {p : S → Option (α × S)} {e : α → S} {fit : α → Prop}
theorem k_fwd (h : Ok p e fit) (l : List α) (t : S) (hf : ∀ x ∈ l, fit x) : ∀ k, k ≤ l.length → pK p k (l.flatMap e ++ t) = some (l.take k, (l.drop k).flatMap e ++ t)
  | 0, _ => rfl
  | k + 1, hk => by
    have ih := k_fwd h l t hf k (by omega)
    have hd : l.drop k = l[k] :: l.drop (k + 1) := List.drop_eq_getElem_cons (by omega)
    unfold pK
    rw [ih, Option.bind_some]
    simp only
    rw [hd, List.flatMap_cons, List.append_assoc, h.fwd _ _ (hf _ (List.getElem_mem _)), take_snoc l k (by omega)]
    rfl
theorem k_len : ∀ (k : Nat) (s : S) (l : List α) (t : S), pK p k s = some (l, t) → l.length = k
  | 0, s, l, t, h => by
    injection h with h
    injection h with h1 h2
    subst h1
    rfl
  | k + 1, s, l, t, h => by
    obtain ⟨⟨a, v⟩, h1, h2⟩ := bind_some h
    obtain ⟨⟨b, z⟩, h3, h4⟩ := bind_some h2
    injection h4 with h4
    injection h4 with h5 h6
    subst h5
    have := k_len k s a v h1
    simp [this]
theorem k_bwd (h : Ok p e fit) : ∀ (k : Nat) (s : S) (l : List α) (t : S), pK p k s = some (l, t) → s = l.flatMap e ++ t
  | 0, s, l, t, hh => by
    injection hh with hh
    injection hh with h1 h2
    subst h1 h2
    rfl
  | k + 1, s, l, t, hh => by
    obtain ⟨⟨a, v⟩, h1, h2⟩ := bind_some hh
    obtain ⟨⟨b, z⟩, h3, h4⟩ := bind_some h2
    injection h4 with h4
    injection h4 with h5 h6
    subst h5 h6
    rw [k_bwd h k s a v h1]
    have := h.bwd _ _ _ h3
    simp only at this ⊢
    rw [this]
    simp
theorem k_ext (h : Ok p e fit) (u : S) : ∀ (k : Nat) (s : S) (l : List α) (t : S), pK p k s = some (l, t) → pK p k (s ++ u) = some (l, t ++ u)
  | 0, s, l, t, hh => by
    injection hh with hh
    injection hh with h1 h2
    subst h1 h2
    rfl
  | k + 1, s, l, t, hh => by
    obtain ⟨⟨a, v⟩, h1, h2⟩ := bind_some hh
    obtain ⟨⟨b, z⟩, h3, h4⟩ := bind_some h2
    injection h4 with h4
    injection h4 with h5 h6
    subst h5 h6
    unfold pK
    rw [k_ext h u k s a v h1, Option.bind_some]
    simp only
    rw [h.ext _ _ _ u h3]
    rfl
/-- Each thing has a byte at least. -/
theorem flat_len (hp : ∀ x, 0 < (e x).length) : ∀ l : List α, l.length ≤ (l.flatMap e).length
  | [] => Nat.zero_le _
  | x :: l => by
    have := flat_len hp l
    have := hp x
    simp only [List.flatMap_cons, List.length_append, List.length_cons]
    omega
theorem okL (h : Ok p e fit) (hp : ∀ x, 0 < (e x).length) : Ok (pL p) (eL e) (fun l => l.length < 281474976710655 ∧ ∀ x ∈ l, fit x) := by
  refine ⟨fun l t hf => ?_, fun s l t hh => ?_, fun s l t u hh => ?_⟩
  · unfold pL eL
    have := flat_len hp l
    rw [List.append_assoc, c_fwd _ _ (by simp only [List.length_append]; omega) hf.1, Option.bind_some]
    simp only
    rw [k_fwd h l t hf.2 _ (Nat.le_refl _)]
    simp
  · obtain ⟨⟨n, v⟩, h1, h2⟩ := bind_some hh
    obtain ⟨e1, hl⟩ := c_bwd h1
    have hk := k_len _ _ _ _ h2
    simp only at h2 hk
    rw [e1, k_bwd h _ _ _ _ h2]
    unfold eL
    rw [hk, List.append_assoc]
  · obtain ⟨⟨n, v⟩, h1, h2⟩ := bind_some hh
    unfold pL
    rw [c_ext u h1, Option.bind_some]
    exact k_ext h u _ _ _ _ h2
end
abbrev fN (n : Int) : Prop := -1 ≤ n ∧ n < 281474976710655
def fR (r : Ru) : Prop := fN r.id ∧ fN r.pr ∧ fN r.ac ∧ fN r.sc ∧ r.pat.size < 281474976710655
theorem pt_len (r : Ru) : (pt r).length = r.pat.size := by
  show r.pat.data.toList.length = r.pat.data.size
  simp
theorem eR_eq (r : Ru) : eR r = n6 r.id ++ (n6 r.pr ++ (n6 r.ac ++ (n6 r.sc ++ (fun x => n6 (x.length : Int) ++ x) (pt r)))) := by
  unfold eR
  rw [← pt_len]
theorem okR : Ok pR eR fR := by
  refine ⟨fun x t h => ?_, fun s x t h => ?_, fun s x t u h => ?_⟩
  · obtain ⟨h1, h2, h3, h4, h5⟩ := h
    unfold pR
    rw [eR_eq]
    simp only [List.append_assoc]
    rw [okN.fwd _ _ h1, Option.bind_some, okN.fwd _ _ h2, Option.bind_some, okN.fwd _ _ h3, Option.bind_some, okN.fwd _ _ h4, Option.bind_some]
    have := okT.fwd (pt x) t (by unfold fitT; rw [pt_len]; exact h5)
    simp only [List.append_assoc] at this
    rw [this]
    obtain ⟨id, pr, ac, sc, ⟨a⟩⟩ := x
    simp [pt]
  · unfold pR at h
    obtain ⟨⟨a, s1⟩, h1, h⟩ := bind_some h
    obtain ⟨⟨b, s2⟩, h2, h⟩ := bind_some h
    obtain ⟨⟨c, s3⟩, h3, h⟩ := bind_some h
    obtain ⟨⟨d, s4⟩, h4, h⟩ := bind_some h
    obtain ⟨⟨x5, s5⟩, h5, h⟩ := bind_some h
    injection h with h
    injection h with h6 h7
    subst h6 h7
    dsimp only at *
    rw [okN.bwd _ _ _ h1, okN.bwd _ _ _ h2, okN.bwd _ _ _ h3, okN.bwd _ _ _ h4, okT.bwd _ _ _ h5, eR_eq]
    simp [pt]
  · unfold pR at h ⊢
    obtain ⟨⟨a, s1⟩, h1, h⟩ := bind_some h
    obtain ⟨⟨b, s2⟩, h2, h⟩ := bind_some h
    obtain ⟨⟨c, s3⟩, h3, h⟩ := bind_some h
    obtain ⟨⟨d, s4⟩, h4, h⟩ := bind_some h
    obtain ⟨⟨x5, s5⟩, h5, h⟩ := bind_some h
    injection h with h
    injection h with h6 h7
    subst h6 h7
    dsimp only at *
    rw [okN.ext _ _ _ u h1, Option.bind_some, okN.ext _ _ _ u h2, Option.bind_some, okN.ext _ _ _ u h3, Option.bind_some, okN.ext _ _ _ u h4, Option.bind_some, okT.ext _ _ _ u h5]
    rfl
theorem eR_pos (r : Ru) : 0 < (eR r).length := by simp [eR, n6_len]; omega
theorem n6_pos (n : Int) : 0 < (n6 n).length := by simp [n6_len]
def fD (d : Dl) : Prop := fN d.de ∧ fN d.cl ∧ fN d.fu ∧ fN d.st ∧ (d.put.length < 281474976710655 ∧ ∀ r ∈ d.put, fR r) ∧ (d.drop.length < 281474976710655 ∧ ∀ n ∈ d.drop, fN n)
theorem okLR : Ok (pL pR) (eL eR) (fun l => l.length < 281474976710655 ∧ ∀ x ∈ l, fR x) := okL okR eR_pos
theorem okLN : Ok (pL pN) (eL n6) (fun l => l.length < 281474976710655 ∧ ∀ x ∈ l, fN x) := okL okN n6_pos
theorem okD : Ok pD eD fD := by
  refine ⟨fun x t h => ?_, fun s x t h => ?_, fun s x t u h => ?_⟩
  · obtain ⟨h1, h2, h3, h4, h5, h6⟩ := h
    unfold pD eD
    simp only [List.append_assoc]
    rw [okN.fwd _ _ h1, Option.bind_some, okN.fwd _ _ h2, Option.bind_some, okN.fwd _ _ h3, Option.bind_some, okN.fwd _ _ h4, Option.bind_some, okLR.fwd _ _ h5, Option.bind_some, okLN.fwd _ _ h6]
    rfl
  · unfold pD at h
    obtain ⟨⟨a, s1⟩, h1, h⟩ := bind_some h
    obtain ⟨⟨b, s2⟩, h2, h⟩ := bind_some h
    obtain ⟨⟨c, s3⟩, h3, h⟩ := bind_some h
    obtain ⟨⟨d, s4⟩, h4, h⟩ := bind_some h
    obtain ⟨⟨x5, s5⟩, h5, h⟩ := bind_some h
    obtain ⟨⟨x6, s6⟩, h6, h⟩ := bind_some h
    injection h with h
    injection h with h7 h8
    subst h7 h8
    dsimp only at *
    rw [okN.bwd _ _ _ h1, okN.bwd _ _ _ h2, okN.bwd _ _ _ h3, okN.bwd _ _ _ h4, okLR.bwd _ _ _ h5, okLN.bwd _ _ _ h6]
    simp [eD]
  · unfold pD at h ⊢
    obtain ⟨⟨a, s1⟩, h1, h⟩ := bind_some h
    obtain ⟨⟨b, s2⟩, h2, h⟩ := bind_some h
    obtain ⟨⟨c, s3⟩, h3, h⟩ := bind_some h
    obtain ⟨⟨d, s4⟩, h4, h⟩ := bind_some h
    obtain ⟨⟨x5, s5⟩, h5, h⟩ := bind_some h
    obtain ⟨⟨x6, s6⟩, h6, h⟩ := bind_some h
    injection h with h
    injection h with h7 h8
    subst h7 h8
    dsimp only at *
    rw [okN.ext _ _ _ u h1, Option.bind_some, okN.ext _ _ _ u h2, Option.bind_some, okN.ext _ _ _ u h3, Option.bind_some, okN.ext _ _ _ u h4, Option.bind_some, okLR.ext _ _ _ u h5, Option.bind_some, okLN.ext _ _ _ u h6]
    rfl
def fE (e : En) : Prop := fN e.vi ∧ fN e.cl ∧ fN e.re ∧ fD e.d
theorem okE : Ok pE eE fE := by
  refine ⟨fun x t h => ?_, fun s x t h => ?_, fun s x t u h => ?_⟩
  · obtain ⟨h1, h2, h3, h4⟩ := h
    unfold pE eE
    simp only [List.append_assoc]
    rw [okN.fwd _ _ h1, Option.bind_some, okN.fwd _ _ h2, Option.bind_some, okN.fwd _ _ h3, Option.bind_some, okD.fwd _ _ h4]
    rfl
  · unfold pE at h
    obtain ⟨⟨a, s1⟩, h1, h⟩ := bind_some h
    obtain ⟨⟨b, s2⟩, h2, h⟩ := bind_some h
    obtain ⟨⟨c, s3⟩, h3, h⟩ := bind_some h
    obtain ⟨⟨d, s4⟩, h4, h⟩ := bind_some h
    injection h with h
    injection h with h7 h8
    subst h7 h8
    dsimp only at *
    rw [okN.bwd _ _ _ h1, okN.bwd _ _ _ h2, okN.bwd _ _ _ h3, okD.bwd _ _ _ h4]
    simp [eE]
  · unfold pE at h ⊢
    obtain ⟨⟨a, s1⟩, h1, h⟩ := bind_some h
    obtain ⟨⟨b, s2⟩, h2, h⟩ := bind_some h
    obtain ⟨⟨c, s3⟩, h3, h⟩ := bind_some h
    obtain ⟨⟨d, s4⟩, h4, h⟩ := bind_some h
    injection h with h
    injection h with h7 h8
    subst h7 h8
    dsimp only at *
    rw [okN.ext _ _ _ u h1, Option.bind_some, okN.ext _ _ _ u h2, Option.bind_some, okN.ext _ _ _ u h3, Option.bind_some, okD.ext _ _ _ u h4]
    rfl
theorem eE_pos (e : En) : 0 < (eE e).length := by simp [eE, n6_len]; omega
theorem okLE : Ok (pL pE) (eL eE) (fun l => l.length < 281474976710655 ∧ ∀ x ∈ l, fE x) := okL okE eE_pos
abbrev fL (l : List En) : Prop := l.length < 281474976710655 ∧ ∀ e ∈ l, fE e
def fM (m : Ms) : Prop := fN m.k ∧ fN m.vi ∧ fN m.fr ∧ fN m.to ∧ fN m.op ∧ fN m.co ∧ fN m.no ∧ fL m.log
theorem okM : Ok pM eM fM := by
  refine ⟨fun x t h => ?_, fun s x t h => ?_, fun s x t u h => ?_⟩
  · obtain ⟨h1, h2, h3, h4, h5, h6, h7, h8⟩ := h
    unfold pM eM
    simp only [List.append_assoc]
    rw [okN.fwd _ _ h1, Option.bind_some, okN.fwd _ _ h2, Option.bind_some, okN.fwd _ _ h3, Option.bind_some, okN.fwd _ _ h4, Option.bind_some, okN.fwd _ _ h5, Option.bind_some, okN.fwd _ _ h6, Option.bind_some, okN.fwd _ _ h7, Option.bind_some, okLE.fwd _ _ h8]
    rfl
  · unfold pM at h
    obtain ⟨⟨a, s1⟩, h1, h⟩ := bind_some h
    obtain ⟨⟨b, s2⟩, h2, h⟩ := bind_some h
    obtain ⟨⟨c, s3⟩, h3, h⟩ := bind_some h
    obtain ⟨⟨d, s4⟩, h4, h⟩ := bind_some h
    obtain ⟨⟨x5, s5⟩, h5, h⟩ := bind_some h
    obtain ⟨⟨x6, s6⟩, h6, h⟩ := bind_some h
    obtain ⟨⟨x7, s7⟩, h7, h⟩ := bind_some h
    obtain ⟨⟨x8, s8⟩, h8, h⟩ := bind_some h
    injection h with h
    injection h with ha hb
    subst ha hb
    dsimp only at *
    rw [okN.bwd _ _ _ h1, okN.bwd _ _ _ h2, okN.bwd _ _ _ h3, okN.bwd _ _ _ h4, okN.bwd _ _ _ h5, okN.bwd _ _ _ h6, okN.bwd _ _ _ h7, okLE.bwd _ _ _ h8]
    simp [eM]
  · unfold pM at h ⊢
    obtain ⟨⟨a, s1⟩, h1, h⟩ := bind_some h
    obtain ⟨⟨b, s2⟩, h2, h⟩ := bind_some h
    obtain ⟨⟨c, s3⟩, h3, h⟩ := bind_some h
    obtain ⟨⟨d, s4⟩, h4, h⟩ := bind_some h
    obtain ⟨⟨x5, s5⟩, h5, h⟩ := bind_some h
    obtain ⟨⟨x6, s6⟩, h6, h⟩ := bind_some h
    obtain ⟨⟨x7, s7⟩, h7, h⟩ := bind_some h
    obtain ⟨⟨x8, s8⟩, h8, h⟩ := bind_some h
    injection h with h
    injection h with ha hb
    subst ha hb
    dsimp only at *
    rw [okN.ext _ _ _ u h1, Option.bind_some, okN.ext _ _ _ u h2, Option.bind_some, okN.ext _ _ _ u h3, Option.bind_some, okN.ext _ _ _ u h4, Option.bind_some, okN.ext _ _ _ u h5, Option.bind_some, okN.ext _ _ _ u h6, Option.bind_some, okN.ext _ _ _ u h7, Option.bind_some, okLE.ext _ _ _ u h8]
    rfl
def fC (r : Rc) : Prop := fN r.k ∧ fN r.a ∧ fN r.b ∧ fL r.log
theorem okC : Ok pRc eC fC := by
  refine ⟨fun x t h => ?_, fun s x t h => ?_, fun s x t u h => ?_⟩
  · obtain ⟨h1, h2, h3, h8⟩ := h
    unfold pRc eC
    simp only [List.append_assoc]
    rw [okN.fwd _ _ h1, Option.bind_some, okN.fwd _ _ h2, Option.bind_some, okN.fwd _ _ h3, Option.bind_some, okLE.fwd _ _ h8]
    rfl
  · unfold pRc at h
    obtain ⟨⟨a, s1⟩, h1, h⟩ := bind_some h
    obtain ⟨⟨b, s2⟩, h2, h⟩ := bind_some h
    obtain ⟨⟨c, s3⟩, h3, h⟩ := bind_some h
    obtain ⟨⟨x8, s8⟩, h8, h⟩ := bind_some h
    injection h with h
    injection h with ha hb
    subst ha hb
    dsimp only at *
    rw [okN.bwd _ _ _ h1, okN.bwd _ _ _ h2, okN.bwd _ _ _ h3, okLE.bwd _ _ _ h8]
    simp [eC]
  · unfold pRc at h ⊢
    obtain ⟨⟨a, s1⟩, h1, h⟩ := bind_some h
    obtain ⟨⟨b, s2⟩, h2, h⟩ := bind_some h
    obtain ⟨⟨c, s3⟩, h3, h⟩ := bind_some h
    obtain ⟨⟨x8, s8⟩, h8, h⟩ := bind_some h
    injection h with h
    injection h with ha hb
    subst ha hb
    dsimp only at *
    rw [okN.ext _ _ _ u h1, Option.bind_some, okN.ext _ _ _ u h2, Option.bind_some, okN.ext _ _ _ u h3, Option.bind_some, okLE.ext _ _ _ u h8]
    rfl

/-! ### What is right fits -/
theorem inR_iff {lo hi n : Int} : inR lo hi n = true ↔ lo ≤ n ∧ n ≤ hi := by simp [inR]
theorem Ru.ok_fit {r : Ru} (h : r.ok = true) : fR r := by
  simp only [Ru.ok, decide_eq_true_eq] at h
  exact ⟨by omega, by omega, by omega, by omega, by omega⟩
theorem Ru.ok_len {r : Ru} (h : r.ok = true) : (eR r).length ≤ 286 := by
  simp only [Ru.ok, decide_eq_true_eq] at h
  simp only [eR, List.length_append, n6_len, pt_len]
  omega
theorem flat_bound {α : Type} {e : α → S} {b : Nat} : ∀ {l : List α}, (∀ x ∈ l, (e x).length ≤ b) → (l.flatMap e).length ≤ l.length * b
  | [], _ => by simp
  | x :: l, h => by
    have h1 := flat_bound (l := l) fun y hy => h y (List.mem_cons_of_mem _ hy)
    have h2 := h x List.mem_cons_self
    simp only [List.flatMap_cons, List.length_append, List.length_cons, Nat.succ_mul]
    omega
theorem Dl.okP_iff {d : Dl} : d.okP = true ↔ ((-1 ≤ d.de ∧ d.de ≤ 1099511627776) ∧ (-1 ≤ d.cl ∧ d.cl ≤ 1099511627776) ∧ (-1 ≤ d.fu ∧ d.fu ≤ 1099511627776) ∧ (-1 ≤ d.st ∧ d.st ≤ 1099511627776)) ∧ d.put.length ≤ 16 ∧ (∀ r ∈ d.put, r.ok = true) ∧ d.drop.length ≤ 16 ∧ ∀ n ∈ d.drop, 1 ≤ n ∧ n ≤ 1099511627776 := by
  simp only [Dl.okP, Bool.and_eq_true, List.all_cons, List.all_nil, decide_eq_true_eq, List.all_eq_true, inR_iff, and_assoc, Bool.and_true]
theorem Dl.okP_fit {d : Dl} (h : d.okP = true) : fD d := by
  obtain ⟨⟨h1, h2, h3, h4⟩, h5, h6, h7, h8⟩ := Dl.okP_iff.1 h
  exact ⟨⟨by omega, by omega⟩, ⟨by omega, by omega⟩, ⟨by omega, by omega⟩, ⟨by omega, by omega⟩, ⟨by omega, fun r hr => Ru.ok_fit (h6 r hr)⟩, by omega, fun n hn => by have := h8 n hn; exact ⟨by omega, by omega⟩⟩
theorem Dl.okP_len {d : Dl} (h : d.okP = true) : (eD d).length ≤ 4708 := by
  obtain ⟨_, h5, h6, h7, _⟩ := Dl.okP_iff.1 h
  have a := flat_bound (e := eR) (b := 286) fun r hr => Ru.ok_len (h6 r hr)
  have b : (d.drop.flatMap n6).length ≤ d.drop.length * 6 := flat_bound fun n _ => by rw [n6_len]; omega
  simp only [eD, eL, List.length_append, n6_len]
  omega
theorem En.ok_iff {e : En} : e.ok = true ↔ (0 ≤ e.vi ∧ e.vi ≤ 1099511627776) ∧ (1 ≤ e.cl ∧ e.cl ≤ 1099511627776) ∧ (1 ≤ e.re ∧ e.re ≤ 1099511627776) ∧ e.d.okP = true := by
  simp only [En.ok, Bool.and_eq_true, inR_iff, and_assoc]
theorem En.ok_fit {e : En} (h : e.ok = true) : fE e := by
  obtain ⟨h1, h2, h3, h4⟩ := En.ok_iff.1 h
  exact ⟨⟨by omega, by omega⟩, ⟨by omega, by omega⟩, ⟨by omega, by omega⟩, Dl.okP_fit h4⟩
theorem En.ok_len {e : En} (h : e.ok = true) : (eE e).length ≤ 4726 := by
  obtain ⟨_, _, _, h4⟩ := En.ok_iff.1 h
  have := Dl.okP_len h4
  simp only [eE, List.length_append, n6_len]
  omega
theorem Ms.ok_iff {m : Ms} : m.ok = true ↔ (1 ≤ m.k ∧ m.k ≤ 8) ∧ (0 ≤ m.vi ∧ m.vi ≤ 1099511627776) ∧ (0 ≤ m.no ∧ m.no ≤ 1099511627776) ∧ (0 ≤ m.fr ∧ m.fr ≤ 6) ∧ (0 ≤ m.to ∧ m.to ≤ 6) ∧ (0 ≤ m.op ∧ m.op ≤ 64) ∧ (0 ≤ m.co ∧ m.co ≤ 64) ∧ (least m.k ≤ (m.log.length : Int) ∧ (m.log.length : Int) ≤ most m.k) ∧ ∀ e ∈ m.log, e.ok = true := by
  simp only [Ms.ok, Bool.and_eq_true, inR_iff, List.all_eq_true, and_assoc]
theorem most_le (k : Int) : most k ≤ 64 := by unfold most; split <;> (try split) <;> omega
theorem Ms.ok_fit {m : Ms} (h : m.ok = true) : fM m := by
  obtain ⟨h1, h2, h3, h4, h5, h6, h7, h8, h9⟩ := Ms.ok_iff.1 h
  have := most_le m.k
  exact ⟨⟨by omega, by omega⟩, ⟨by omega, by omega⟩, ⟨by omega, by omega⟩, ⟨by omega, by omega⟩, ⟨by omega, by omega⟩, ⟨by omega, by omega⟩, ⟨by omega, by omega⟩, by omega, fun e he => En.ok_fit (h9 e he)⟩
theorem Ms.ok_len {m : Ms} (h : m.ok = true) : m.log.length ≤ 64 ∧ (eM m).length ≤ 302512 := by
  obtain ⟨_, _, _, _, _, _, _, h8, h9⟩ := Ms.ok_iff.1 h
  have := most_le m.k
  have a := flat_bound (e := eE) (b := 4726) fun e he => En.ok_len (h9 e he)
  simp only [eM, eL, List.length_append, n6_len]
  omega
theorem Rc.ok_iff {r : Rc} : r.ok = true ↔ (1 ≤ r.k ∧ r.k ≤ 5) ∧ (0 ≤ r.a ∧ r.a ≤ 1099511627776) ∧ (0 ≤ r.b ∧ r.b ≤ 1099511627776) ∧ (r.log.length : Int) = many r.k ∧ ∀ e ∈ r.log, e.ok = true := by
  simp only [Rc.ok, Bool.and_eq_true, inR_iff, List.all_eq_true, decide_eq_true_eq, and_assoc]
theorem many_le (k : Int) : many k ≤ 1 := by unfold many; split <;> omega
theorem Rc.ok_fit {r : Rc} (h : r.ok = true) : fC r := by
  obtain ⟨h1, h2, h3, h4, h9⟩ := Rc.ok_iff.1 h
  have := many_le r.k
  exact ⟨⟨by omega, by omega⟩, ⟨by omega, by omega⟩, ⟨by omega, by omega⟩, by omega, fun e he => En.ok_fit (h9 e he)⟩
theorem Rc.ok_len {r : Rc} (h : r.ok = true) : r.log.length ≤ 1 ∧ (eC r).length ≤ 4750 := by
  obtain ⟨_, _, _, h4, h9⟩ := Rc.ok_iff.1 h
  have := many_le r.k
  have a := flat_bound (e := eE) (b := 4726) fun e he => En.ok_len (h9 e he)
  simp only [eC, eL, List.length_append, n6_len]
  omega

/-! ### Whole -/
def dM (b : S) : Option Ms := if 65536 < b.length then none else match pM b with
  | some (m, []) => if m.ok then some m else none
  | _ => none
def dC (b : S) : Option Rc := if 65536 < b.length then none else match pRc b with
  | some (m, []) => if m.ok then some m else none
  | _ => none
theorem dM_some {b : S} {m : Ms} : dM b = some m ↔ b.length ≤ 65536 ∧ m.ok = true ∧ b = eM m := by
  unfold dM
  constructor
  · intro h
    split at h
    · cases h
    · split at h
      · rename_i m' hp
        split at h
        · injection h with h
          subst h
          exact ⟨by omega, by assumption, by have := okM.bwd _ _ _ hp; simpa using this⟩
        · cases h
      · cases h
  · rintro ⟨h1, h2, rfl⟩
    have := okM.fwd m [] (Ms.ok_fit h2)
    rw [List.append_nil] at this
    rw [if_neg (by omega), this]
    simp [h2]
theorem dC_some {b : S} {m : Rc} : dC b = some m ↔ b.length ≤ 65536 ∧ m.ok = true ∧ b = eC m := by
  unfold dC
  constructor
  · intro h
    split at h
    · cases h
    · split at h
      · rename_i m' hp
        split at h
        · injection h with h
          subst h
          exact ⟨by omega, by assumption, by have := okC.bwd _ _ _ hp; simpa using this⟩
        · cases h
      · cases h
  · rintro ⟨h1, h2, rfl⟩
    have := okC.fwd m [] (Rc.ok_fit h2)
    rw [List.append_nil] at this
    rw [if_neg (by omega), this]
    simp [h2]
theorem eM_inj {a b : Ms} (ha : a.ok = true) (hb : b.ok = true) (h : eM a = eM b) : a = b := by
  have h1 := okM.fwd a [] (Ms.ok_fit ha)
  have h2 := okM.fwd b [] (Ms.ok_fit hb)
  rw [h, h2] at h1
  injection h1 with h1
  injection h1 with h1
  exact h1.symm
theorem dM_cut {m : Ms} (h : m.ok = true) (k : Nat) (hk : k < (eM m).length) : dM ((eM m).take k) = none := by
  cases hd : dM ((eM m).take k) with
  | none => rfl
  | some m' =>
    obtain ⟨_, h2, h3⟩ := dM_some.1 hd
    have a := okM.fwd m' [] (Ms.ok_fit h2)
    rw [List.append_nil, ← h3] at a
    have b := okM.ext _ _ _ ((eM m).drop k) a
    have c := okM.fwd m [] (Ms.ok_fit h)
    rw [List.append_nil] at c
    rw [List.take_append_drop, c] at b
    injection b with b
    injection b with _ b
    have := congrArg List.length b
    simp at this
    omega
theorem dM_more {m : Ms} (h : m.ok = true) (t : S) (ht : t ≠ []) : dM (eM m ++ t) = none := by
  cases hd : dM (eM m ++ t) with
  | none => rfl
  | some m' =>
    obtain ⟨_, h2, h3⟩ := dM_some.1 hd
    have a := okM.fwd m' [] (Ms.ok_fit h2)
    have b := okM.fwd m t (Ms.ok_fit h)
    rw [List.append_nil, ← h3, b] at a
    injection a with a
    injection a with _ a
    exact absurd a ht
end Go.Proofs.Ytiheeafmplccoaa
