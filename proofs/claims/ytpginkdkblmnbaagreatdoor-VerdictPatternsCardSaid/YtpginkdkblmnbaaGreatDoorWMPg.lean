import Derived.Test.YtpginkdkblmnbaaGreatDoorWMModel
namespace Go.Proofs.YtpginkdkblmnbaaGreatDoor
section
open Go.Proofs.YtpginkdkblmnbaaGreatDoor.Cl
structure In where
 op : Int
 a : Int
 b : Int
 c : Int
 d : Int
 set : List Rg
def In.i (op a b c d : Int) : In := ⟨op, a, b, c, d, []⟩
def sh (p q : Int) (x : In) : In :=
 if x.op = 2 then { x with a := x.a + p }
 else if x.op = 3 then { x with a := x.a + p, b := x.b + p }
 else if x.op = 7 ∨ x.op = 8 then { x with b := x.b + p }
 else if x.op = 10 ∨ x.op = 11 then { x with a := x.a + q }
 else x
theorem Àw (p q : Int) (x : In) : (sh p q x).op = x.op := by unfold sh; split <;> (try split) <;> (try split) <;> (try split) <;> rfl
theorem ÅG (p q : Int) (x : In) : (sh p q x).set = x.set := by unfold sh; split <;> (try split) <;> (try split) <;> (try split) <;> rfl
theorem ÇV (x : In) : sh 0 0 x = x := by unfold sh; cases x; simp
theorem Çc (p q p' q' : Int) (x : In) : sh p q (sh p' q' x) = sh (p' + p) (q' + q) x := by
 obtain ⟨op, a, b, c, d, s⟩ := x;unfold sh
 by_cases h2 : op = 2
 ·simp [h2]; omega
 by_cases h3 : op = 3
 ·simp [h3]; omega
 by_cases h7 : op = 7 ∨ op = 8
 ·simp [h2, h3, h7]; omega
 by_cases h10 : op = 10 ∨ op = 11
 ·simp [h2, h3, h7, h10]; omega
 ·simp [h2, h3, h7, h10]
def Ã (l : List In) : Nat := l.countP fun x => decide (x.op = 10)
theorem Än : Ã [] = 0 := rfl
theorem ô (l m : List In) : Ã (l ++ m) = Ã l + Ã m := by simp [Ã]
theorem Âe (x : In) (l : List In) : Ã (x :: l) = (if x.op = 10 then 1 else 0) + Ã l := by
 unfold Ã;rw [List.countP_cons]
 by_cases h : x.op = 10 <;> simp [h] <;> omega
theorem ÍM (l : List In) : Ã l ≤ l.length := List.countP_le_length
theorem ÈW (p q : Int) (l : List In) : Ã (l.map (sh p q)) = Ã l := by
 unfold Ã;rw [List.countP_map]
 congr 1
 funext x;simp [Àw]
def app (x y : List In) : List In := x ++ y.map (sh (x.length : Nat) (Ã x : Nat))
theorem Ø (x y : List In) : (app x y).length = x.length + y.length := by simp [app]
theorem ġ (x y : List In) : Ã (app x y) = Ã x + Ã y := by rw [app, ô, ÈW]
theorem ÍN (x : List In) : x.map (sh 0 0) = x := by
 rw [show sh 0 0 = id from funext ÇV, List.map_id]
theorem ÀV (x : List In) : app x [] = x := by simp [app]
theorem ËN (x : List In) : app [] x = x := by
 unfold app;simp only [Ď, Än, List.nil_append];exact ÍN x
theorem İ (x y z : List In) : app (app x y) z = app x (app y z) := by
 have e : app x (app y z) = x ++ (y ++ z.map (sh (y.length : Nat) (Ã y : Nat))).map (sh (x.length : Nat) (Ã x : Nat)) := rfl;have e' : app (app x y) z = app x y ++ z.map (sh ((app x y).length : Nat) (Ã (app x y) : Nat)) := rfl;rw [e, e', Ø, ġ, Ĕ, List.map_map];unfold app;rw [List.append_assoc]
 congr 2
 apply List.map_congr_left;intro i _;simp only [Function.comp];rw [Çc]
 congr 1 <;> omega
def Ÿ (n : Int) : In := .i 4 n 0 0 0
def ÁM : In := .i 9 0 0 0 0
def á (lz : Bool) (n : Int) : In := if lz then .i 3 n 1 0 0 else .i 3 1 n 0 0
def ÍO (l : List Rg) : List Rg := ť (l ++ Àn l)
def ÄL (fo : Bool) (s : List Rg) : In := ⟨1, 0, 0, 0, 0, if fo then ÍO s else s⟩
def Çd (fo : Bool) (r : Int) : In := .i 5 r (if fo then 1 else 0) 0 0
def ËO (m c d : Int) (n : Nat) : In := .i 7 m (n : Nat) (if m = 2 ∨ m = 3 then c else 0) (if m = 2 ∨ m = 3 then d else 0)
def ĸ : List (List In) → List In
 | [] => []
 | x :: l => app x (ĸ l)
def ÀA : List (List In) → List In
 | [] => []
 | [x] => x
 | x :: y :: l => app [á false ((x.length : Int) + 2)] (app x (app [.i 2 (((ÀA (y :: l)).length : Int) + 1) 0 0 0] (ÀA (y :: l))))
def š : Nat → List In → List In
 | 0, _ => []
 | n + 1, x => app x (š n x)
def Ź (lz : Bool) (x : List In) : List In :=
 app [á lz ((x.length : Int) + 4)] (app [.i 10 0 0 0 0] (app x (app [.i 11 (-(Ã x : Int) - 1) 0 0 0] [.i 2 (-(x.length : Int) - 3) 0 0 0])))
def Ám (lz : Bool) : Nat → List In → List In
 | 0, _ => []
 | n + 1, x => app [á lz (((n : Int) + 1) * ((x.length : Int) + 1))] (app x (Ám lz n x))
def Àp (lo hi m : Int) (x : List In) : List In := app (š lo.toNat x) (if hi = -1 then Ź (decide (m = 1)) x else Ám (decide (m = 1)) (hi - lo).toNat x)
def õ (i : In) (x : List In) : List In := app [{ i with b := (x.length : Int) + 2 }] (app x [ÁM])
def cF (fo : Bool) (k lo hi m r : Int) (set : List Rg) (c d : Int) (l : List (List In)) : List In :=
 if k = 1 then [ÄL fo set]
 else if k = 2 then ĸ l
 else if k = 3 then ÀA l
 else if k = 4 then (if m = 2 then õ (.i 8 0 0 0 0) (Àp lo hi m (ĸ l)) else Àp lo hi m (ĸ l))
 else if k = 5 then app [Ÿ (2 * r)] (app (ĸ l) [Ÿ (2 * r + 1)])
 else if k = 6 then [Çd fo r]
 else if k = 7 then õ (ËO m c d 0) (ĸ l)
 else if k = 8 then õ (.i 8 0 0 0 0) (ĸ l)
 else if k = 9 then [.i 6 r 0 0 0]
 else []
mutual
def â (fo : Bool) : Nd → List In
 | .mk k lo hi m r s kids => cF fo k lo hi m r s (û kids) (ê kids) (ËP fo kids)
def ËP (fo : Bool) : List Nd → List (List In)
 | [] => []
 | x :: l => â fo x :: ËP fo l
end
theorem Ìr (fo : Bool) (l : List Nd) : ËP fo l = l.map (â fo) := by induction l with | nil => rfl | cons x l ih => simp [ËP, ih]
theorem ËQ (fo : Bool) (k lo hi m r : Int) (s : List Rg) (l : List Nd) : â fo (.mk k lo hi m r s l) = cF fo k lo hi m r s (û l) (ê l) (l.map (â fo)) := by rw [â, Ìr]
def ÃJ (fo : Bool) (nd : Nd) : List In := app [Ÿ 0] (app (â fo nd) (app [Ÿ 1] [.i 0 0 0 0 0]))
def len (x : List In) : Int := (x.length : Nat)
theorem Ĵ (x y : List In) : len (app x y) = len x + len y := by unfold len; rw [Ø]; omega
theorem ŏ (x : List In) : 0 ≤ len x := by unfold len; omega
theorem ÍP (l : List (List In)) : len (ĸ l) = (l.map len).sum := by
 induction l with
 | nil => rfl
 | cons x l ih => rw [ĸ, Ĵ, ih]; simp
theorem ÃK : ∀ (l : List (List In)), l ≠ [] → len (ÀA l) = (l.map len).sum + 2 * ((l.length : Int) - 1)
 | [x], _ => by simp [ÀA]
 | x :: y :: l, _ => by
  have ih := ÃK (y :: l) (by simp)
  rw [ÀA, Ĵ, Ĵ, Ĵ, ih];simp [len];omega
theorem ÅH (n : Nat) (x : List In) : len (š n x) = (n : Int) * len x := by
 induction n with
 | zero => simp [š, len]
 | succ n ih =>
  rw [š, Ĵ, ih, Int.natCast_add, Int.add_mul];omega
theorem Äo (lz : Bool) (x : List In) : len (Ź lz x) = len x + 4 := by
 unfold Ź;simp only [Ĵ];simp [len];omega
theorem ÅI (lz : Bool) (n : Nat) (x : List In) : len (Ám lz n x) = (n : Int) * (len x + 1) := by
 induction n with
 | zero => simp [Ám, len]
 | succ n ih =>
  have e : ((n + 1 : Nat) : Int) * (len x + 1) = (n : Int) * (len x + 1) + 1 * (len x + 1) := by rw [Int.natCast_add, Int.add_mul]; rfl
  rw [Ám, Ĵ, Ĵ, ih, e];simp [len];omega
theorem Àg (i : In) (x : List In) : len (õ i x) = len x + 2 := by
 unfold õ;simp only [Ĵ];simp [len];omega
theorem Êw (lo hi m : Int) (h0 : 0 ≤ lo) (h1 : hi = -1 ∨ lo ≤ hi) (x : List In) : len (Àp lo hi m x) = lo * len x + (if hi = -1 then len x + 4 else (hi - lo) * (len x + 1)) := by
 unfold Àp;rw [Ĵ, ÅH, Int.toNat_of_nonneg h0]
 by_cases c : hi = -1
 ·rw [if_pos c, if_pos c, Äo]
 ·rw [if_neg c, if_neg c, ÅI, Int.toNat_of_nonneg (by omega)]
theorem ÀE {a b a' b' : Int} (h0 : 0 ≤ a) (h1 : 0 ≤ b) (h2 : 0 ≤ a') (h3 : 0 ≤ b') (h : Ï a = Ï a') (k : Ï b = Ï b') : Ï (a + b) = Ï (a' + b') := by
 have _ := h1;have _ := h2;unfold Ï far at *
 split at h <;> split at h <;> split at k <;> split at k <;> split <;> split <;> omega
theorem ÃL (x : Int) : Ï (Ï x) = Ï x := by
 by_cases h : far < x
 ·have e : Ï x = far := by unfold Ï; rw [if_pos h]
  rw [e]; exact if_neg (Int.lt_irrefl _)
 ·have e : Ï x = x := by unfold Ï; rw [if_neg h]
  rw [e]; exact e
theorem ËR {α : Type} (f g : α → Int) : ∀ (l : List α), (∀ x ∈ l, f x = Ï (g x)) → (∀ x ∈ l, 0 ≤ g x) → Ï (l.map f).sum = Ï (l.map g).sum ∧ 0 ≤ (l.map f).sum ∧ 0 ≤ (l.map g).sum
 | [], _, _ => by simp
 | x :: l, hf, hg => by
  obtain ⟨h1, h2, h3⟩ := ËR f g l (fun y hy => hf y (by simp [hy])) (fun y hy => hg y (by simp [hy]))
  have a := hf x (by simp)
  have b := hg x (by simp)
  have c := (į b).1;simp only [List.map_cons, List.sum_cons]
  refine ⟨ÀE (by omega) h2 b h3 (by rw [a, ÃL]) h1, by omega, by omega⟩
theorem Ïr {a b : Int} (h : far ≤ a) (k : far ≤ b) : Ï a = Ï b := by unfold Ï at *; split <;> split <;> omega
theorem ËS {c y : Int} (hc : 0 ≤ c) (hy : 0 ≤ y) : Ï (c * Ï y) = Ï (c * y) ∧ 0 ≤ c * Ï y ∧ 0 ≤ c * y := by
 have h0 := į hy;refine ⟨?_, Int.mul_nonneg hc h0.1, Int.mul_nonneg hc hy⟩
 by_cases h : far < y
 ·have e : Ï y = far := by unfold Ï; rw [if_pos h]
  rw [e]
  by_cases h1 : 0 < c
  ·refine Ïr ?_ ?_
   ·have : 1 * far ≤ c * far := Int.mul_le_mul_of_nonneg_right (by omega) (by simp [far])
    omega
   ·have : 1 * y ≤ c * y := Int.mul_le_mul_of_nonneg_right (by omega) hy
    omega
  ·obtain rfl : c = 0 := by omega
   simp
 ·have e : Ï y = y := by unfold Ï; rw [if_neg h]
  rw [e]
theorem ÅJ (fo : Bool) (l : List Nd) : ∀ x ∈ l, 0 ≤ (fun y => len (â fo y)) x := fun _ _ => ŏ _
theorem ËT (fo : Bool) (l : List Nd) : (l.map (â fo)).map len = l.map fun y => len (â fo y) := by rw [List.map_map]; rfl
section
variable (fo : Bool) (lo hi m r : Int) (s : List Rg) (c d : Int) (l : List (List In))
theorem cF0 : cF fo 0 lo hi m r s c d l = [] := by simp [cF]
theorem cF1 : cF fo 1 lo hi m r s c d l = [ÄL fo s] := by simp [cF]
theorem cF2 : cF fo 2 lo hi m r s c d l = ĸ l := by simp [cF]
theorem cF3 : cF fo 3 lo hi m r s c d l = ÀA l := by simp [cF]
theorem cF4 (h : m ≠ 2) : cF fo 4 lo hi m r s c d l = Àp lo hi m (ĸ l) := by simp [cF, h]
theorem Ñb : cF fo 4 lo hi 2 r s c d l = õ (.i 8 0 0 0 0) (Àp lo hi 2 (ĸ l)) := by simp [cF]
theorem cF5 : cF fo 5 lo hi m r s c d l = app [Ÿ (2 * r)] (app (ĸ l) [Ÿ (2 * r + 1)]) := by simp [cF]
theorem cF6 : cF fo 6 lo hi m r s c d l = [Çd fo r] := by simp [cF]
theorem cF7 : cF fo 7 lo hi m r s c d l = õ (ËO m c d 0) (ĸ l) := by simp [cF]
theorem cF8 : cF fo 8 lo hi m r s c d l = õ (.i 8 0 0 0 0) (ĸ l) := by simp [cF]
theorem cF9 : cF fo 9 lo hi m r s c d l = [.i 6 r 0 0 0] := by simp [cF]
end
theorem ÁN (x : List In) : ĸ [x] = x := by simp [ĸ, ÀV]
theorem ÍQ (fo : Bool) {nd : Nd} (h : Wf nd) : Å nd = Ï (len (â fo nd)) := by
 refine Wf.ind (P := fun nd => Å nd = Ï (len (â fo nd))) (fun k lo hi m r s l hs _ ih => ?_) h
 obtain ⟨c1, c2, c3⟩ := ËR Å (fun y => len (â fo y)) l ih (ÅJ fo l)
 rw [Äm, ËQ]
 rcases hs with ⟨rfl, _⟩ | ⟨rfl, _⟩ | ⟨rfl, _⟩ | ⟨rfl, hn⟩ | ⟨rfl, hn, h0, _, h1, _, h2, _, _⟩ | ⟨rfl, hn⟩ | ⟨rfl, _⟩ | ⟨rfl, hn, _⟩ | ⟨rfl, hn⟩ | ⟨rfl, _⟩
 ·rw [cF0]; simp [Ř, len]
 ·rw [cF1]; simp [Ř, len]
 ·rw [cF2, ÍP, ËT]
  have e : Ř 2 lo hi m (l.map Å) = Ï (l.map Å).sum := by simp [Ř]
  rw [e];exact c1
 ·have e : Ř 3 lo hi m (l.map Å) = Ï ((l.map Å).sum + 2 * ((l.length : Int) - 1)) := by simp [Ř]
  rw [cF3, e, ÃK _ (by intro e; have := congrArg List.length e; simp at this; rw [this] at hn; simp at hn), ËT, List.length_map]
  exact ÀE c2 (by omega) c3 (by omega) c1 rfl
 ·obtain ⟨x, rfl⟩ := Ào hn
  have hx := ih x (by simp)
  have e : Ř 4 lo hi m ([x].map Å) = Ï (lo * Å x + (if hi < 0 then Å x + 4 else (hi - lo) * (Å x + 1)) + (if m = 2 then 2 else 0)) := by simp [Ř, hd]
  have hy := ŏ (â fo x)
  have hT := Êw lo hi m h0 (by omega) (â fo x)
  rw [e, hx];simp only [List.map_cons, List.map_nil]
  have k1 : Ï (lo * Ï (len (â fo x)) + (if hi < 0 then Ï (len (â fo x)) + 4 else (hi - lo) * (Ï (len (â fo x)) + 1))) = Ï (len (Àp lo hi m (â fo x))) ∧ 0 ≤ lo * Ï (len (â fo x)) + (if hi < 0 then Ï (len (â fo x)) + 4 else (hi - lo) * (Ï (len (â fo x)) + 1)) := by
   rw [hT];generalize len (â fo x) = y at *;have hc := į hy;obtain ⟨p1, p2, p3⟩ := ËS h0 hy
   by_cases ch : hi = -1
   ·rw [if_pos ch, if_pos (by omega)]
    exact ⟨ÀE p2 (by omega) p3 (by omega) p1 (ÀE hc.1 (by omega) hy (by omega) (ÃL y) rfl), by omega⟩
   ·obtain ⟨q1, q2, q3⟩ := ËS (c := hi - lo) (by omega) hy
    rw [if_neg ch, if_neg (by omega), Int.mul_add, Int.mul_add]
    exact ⟨ÀE p2 (by omega) p3 (by omega) p1 (ÀE q2 (by omega) q3 (by omega) q1 rfl), by omega⟩
  by_cases hm : m = 2
  ·subst hm
   rw [Ñb, Àg, ÁN, if_pos rfl]
   exact ÀE k1.2 (by omega) (ŏ _) (by omega) k1.1 rfl
  ·rw [cF4 _ _ _ _ _ _ _ _ _ hm, ÁN, if_neg hm, Int.add_zero]
   exact k1.1
 ·obtain ⟨x, rfl⟩ := Ào hn
  have hx := ih x (by simp)
  have e : Ř 5 lo hi m ([x].map Å) = Ï (Å x + 2) := by simp [Ř, hd]
  have hy := ŏ (â fo x)
  have e2 : len [Ÿ (2 * r)] + (len (â fo x) + len [Ÿ (2 * r + 1)]) = len (â fo x) + 2 := by simp [len]; omega
  rw [e, hx, cF5, Ĵ, Ĵ];simp only [List.map_cons, List.map_nil];rw [ÁN, e2]
  exact ÀE (į hy).1 (by omega) hy (by omega) (ÃL _) rfl
 ·rw [cF6]; simp [Ř, len]
 ·obtain ⟨x, rfl⟩ := Ào hn
  have hx := ih x (by simp)
  have e : Ř 7 lo hi m ([x].map Å) = Ï (Å x + 2) := by simp [Ř, hd]
  have hy := ŏ (â fo x);rw [e, hx, cF7, Àg];simp only [List.map_cons, List.map_nil];rw [ÁN]
  exact ÀE (į hy).1 (by omega) hy (by omega) (ÃL _) rfl
 ·obtain ⟨x, rfl⟩ := Ào hn
  have hx := ih x (by simp)
  have e : Ř 8 lo hi m ([x].map Å) = Ï (Å x + 2) := by simp [Ř, hd]
  have hy := ŏ (â fo x);rw [e, hx, cF8, Àg];simp only [List.map_cons, List.map_nil];rw [ÁN]
  exact ÀE (į hy).1 (by omega) hy (by omega) (ÃL _) rfl
 ·rw [cF9]; simp [Ř, len]
end
section
open Go.Proofs.YtpginkdkblmnbaaGreatDoor.Cl
structure OkI (G : Int) (Z : List In) (i : Nat) (x : In) : Prop where
 go : x.op ≠ 0
 set : Ĩ x.set
 jump : x.op = 2 → 0 ≤ x.a ∧ x.a ≤ len Z
 split : x.op = 3 → (i : Int) < x.a ∧ (i : Int) < x.b ∧ x.a ≤ len Z ∧ x.b ≤ len Z ∧ min x.a x.b = (i : Int) + 1
 save : x.op = 4 → 0 ≤ x.a ∧ x.a < 2 * G + 2
 back : x.op = 5 → 1 ≤ x.a ∧ x.a ≤ G
 upto : x.op = 7 ∨ x.op = 8 → (i : Int) + 1 < x.b ∧ x.b ≤ len Z ∧ ∃ (j : Nat) (y : In), (j : Int) + 1 = x.b ∧ Z[j]? = some y ∧ y.op = 9
 mark : x.op = 10 → x.a = Ã (Z.take i)
 guard : x.op = 11 → x.a < Ã (Z.take i) ∧ ∃ (y z : In) (j : Nat), Z[i + 1]? = some y ∧ y.op = 2 ∧ y.a = (j : Int) ∧ Z[j]? = some z ∧ z.op = 3
structure Inn (X : List In) (p q : Nat) (Z : List In) : Prop where
 get : ∀ (j : Nat) (y : In), X[j]? = some y → Z[p + j]? = some (sh (p : Nat) (q : Nat) y)
 mks : ∀ (j : Nat), j ≤ X.length → Ã (Z.take (p + j)) = q + Ã (X.take j)
 le : p + X.length ≤ Z.length
theorem Inn.refl (Z : List In) : Inn Z 0 0 Z := ⟨fun j y h => by simp [ÇV, h], fun j _ => by simp, by simp⟩
theorem ÇW {x y : List In} {j : Nat} {i : In} (h : x[j]? = some i) : (app x y)[j]? = some i := by
 unfold app;rw [List.getElem?_append_left (List.getElem?_eq_some_iff.1 h).1];exact h
theorem ÆK {x y : List In} {j : Nat} {i : In} (h : y[j]? = some i) : (app x y)[x.length + j]? = some (sh (x.length : Nat) (Ã x : Nat) i) := by
 unfold app
 rw [List.getElem?_append_right (by omega), Nat.add_sub_cancel_left, List.getElem?_map, h]
 rfl
theorem Inn.left {x y Z : List In} {p q : Nat} (h : Inn (app x y) p q Z) : Inn x p q Z := by
 refine ⟨fun j i hi => h.get j i (ÇW hi), fun j hj => ?_, ?_⟩
 ·have := h.mks j (by rw [Ø]; omega)
  rw [this];unfold app;rw [List.take_append_of_le_length hj]
 ·have := h.le; rw [Ø] at this; omega
theorem Inn.right {x y Z : List In} {p q : Nat} (h : Inn (app x y) p q Z) : Inn y (p + x.length) (q + Ã x) Z := by
 refine ⟨fun j i hi => ?_, fun j hj => ?_, ?_⟩
 ·have := h.get _ _ (ÆK hi)
  rw [Çc] at this;rw [Nat.add_assoc, this]
  congr 2 <;> omega
 ·have := h.mks (x.length + j) (by rw [Ø]; omega)
  rw [Nat.add_assoc, this];unfold app;rw [List.take_length_add_append, ô, ← List.map_take, ÈW];omega
 ·have := h.le; rw [Ø] at this; omega
def ÀW (G : Int) (X : List In) (p q : Nat) (Z : List In) : Prop := ∀ (i : Nat) (x : In), X[i]? = some x → OkI G Z (p + i) (sh (p : Nat) (q : Nat) x)
def OkC (G : Int) (X : List In) : Prop := ÀW G X 0 0 X
theorem ÀW.two {G : Int} {x y Z : List In} {p q : Nat} (hx : ÀW G x p q Z) (hy : ÀW G y (p + x.length) (q + Ã x) Z) : ÀW G (app x y) p q Z := by
 intro i a ha;unfold app at ha;rw [List.getElem?_append] at ha;split at ha
 ·exact hx i a ha
 ·rename_i hi
  rw [List.getElem?_map] at ha;obtain ⟨b, hb, rfl⟩ := Option.map_eq_some_iff.1 ha;have := hy _ _ hb;rw [Çc]
  have e : p + x.length + (i - x.length) = p + i := by omega
  rw [e] at this
  have e1 : ((x.length : Nat) : Int) + (p : Nat) = ((p + x.length : Nat) : Int) := by omega
  have e2 : ((Ã x : Nat) : Int) + (q : Nat) = ((q + Ã x : Nat) : Int) := by omega
  rw [e1, e2];exact this
theorem ÀW.one {G : Int} {i : In} {Z : List In} {p q : Nat} (h : OkI G Z p (sh (p : Nat) (q : Nat) i)) : ÀW G [i] p q Z := by
 intro j x hj
 match j, hj with
 | 0, hj =>
  simp at hj;subst hj;exact h
theorem ÀW.nil {G : Int} {Z : List In} {p q : Nat} : ÀW G [] p q Z := by intro j x hj; simp at hj
theorem Ãt (p q : Int) (x : In) : (x.op = 2 → (sh p q x).a = x.a + p) ∧ (x.op = 3 → (sh p q x).a = x.a + p ∧ (sh p q x).b = x.b + p) ∧ (x.op = 4 → (sh p q x).a = x.a) ∧ (x.op = 5 → (sh p q x).a = x.a) ∧
 (x.op = 7 ∨ x.op = 8 → (sh p q x).b = x.b + p) ∧ (x.op = 10 → (sh p q x).a = x.a + q) ∧ (x.op = 11 → (sh p q x).a = x.a + q) := by
 obtain ⟨op, a, b, c, d, s⟩ := x;simp only [sh];refine ⟨?_, ?_, ?_, ?_, ?_, ?_, ?_⟩
 ·intro h; simp [h]
 ·intro h; simp [h]
 ·intro h; simp [h]
 ·intro h; simp [h]
 ·rintro (h | h) <;> simp [h]
 ·intro h; simp [h]
 ·intro h; simp [h]
theorem OkC.within {G : Int} {X Z : List In} {p q : Nat} (h : OkC G X) (hi : Inn X p q Z) : ÀW G X p q Z := by
 intro i x hx;have h1 := h i x hx
 rw [show ((0 : Nat) : Int) = 0 from rfl, ÇV, ĉ] at h1
 obtain ⟨s2, s3, s4, s5, s7, s10, s11⟩ := Ãt (p : Nat) (q : Nat) x;have hle := hi.le;have hil : i < X.length := (List.getElem?_eq_some_iff.1 hx).1;have lX : len X = (X.length : Nat) := rfl;have lZ : len Z = (Z.length : Nat) := rfl
 refine ⟨by rw [Àw]; exact h1.go, by rw [ÅG]; exact h1.set, ?_, ?_, ?_, ?_, ?_, ?_, ?_⟩
 ·intro ho; rw [Àw] at ho
  have := h1.jump ho;rw [s2 ho];omega
 ·intro ho; rw [Àw] at ho
  have := h1.split ho;rw [(s3 ho).1, (s3 ho).2];omega
 ·intro ho; rw [Àw] at ho
  rw [s4 ho]; exact h1.save ho
 ·intro ho; rw [Àw] at ho
  rw [s5 ho]; exact h1.back ho
 ·intro ho; rw [Àw] at ho
  obtain ⟨a1, a2, j, y, a3, a4, a5⟩ := h1.upto ho;rw [s7 ho]
  exact ⟨by omega, by omega, p + j, _, by omega, hi.get j y a4, by rw [Àw]; exact a5⟩
 ·intro ho; rw [Àw] at ho
  rw [s10 ho, h1.mark ho, hi.mks i (by omega)]
  omega
 ·intro ho; rw [Àw] at ho
  obtain ⟨a1, y, z, j, a2, a3, a4, a5, a6⟩ := h1.guard ho
  rw [s11 ho, hi.mks i (by omega)]
  refine ⟨by omega, _, _, p + j, hi.get (i + 1) y a2, by rw [Àw]; exact a3, ?_, hi.get j z a5, by rw [Àw]; exact a6⟩
  rw [(Ãt (p : Nat) (q : Nat) y).1 a3, a4];omega
theorem OkC.two {G : Int} {x y : List In} (hx : OkC G x) (hy : OkC G y) : OkC G (app x y) :=
 (hx.within (Inn.refl _).left).two (hy.within (Inn.refl _).right)
theorem OkC.nil {G : Int} : OkC G [] := ÀW.nil
theorem OkC.row {G : Int} : ∀ {l : List (List In)}, (∀ x ∈ l, OkC G x) → OkC G (ĸ l)
 | [], _ => OkC.nil
 | x :: l, h => (h x (by simp)).two (OkC.row fun y hy => h y (by simp [hy]))
theorem OkC.rep {G : Int} {x : List In} (h : OkC G x) : ∀ (n : Nat), OkC G (š n x)
 | 0 => OkC.nil
 | n + 1 => h.two (OkC.rep h n)
theorem ÍR {G : Int} {Z : List In} {p : Nat} {x : In} (h : x.op = 2) (hs : Ĩ x.set) (hj : 0 ≤ x.a ∧ x.a ≤ len Z) : OkI G Z p x :=
 ⟨by omega, hs, fun _ => hj, fun e => by omega, fun e => by omega, fun e => by omega, fun e => by omega, fun e => by omega, fun e => by omega⟩
theorem Ìs {G : Int} {Z : List In} {p : Nat} {x : In} (h : x.op = 3) (hs : Ĩ x.set) (hj : (p : Int) < x.a ∧ (p : Int) < x.b ∧ x.a ≤ len Z ∧ x.b ≤ len Z ∧ min x.a x.b = (p : Int) + 1) : OkI G Z p x :=
 ⟨by omega, hs, fun e => by omega, fun _ => hj, fun e => by omega, fun e => by omega, fun e => by omega, fun e => by omega, fun e => by omega⟩
theorem ÍS {G : Int} {Z : List In} {p : Nat} {x : In} (h : x.op = 10) (hs : Ĩ x.set) (hj : x.a = Ã (Z.take p)) : OkI G Z p x :=
 ⟨by omega, hs, fun e => by omega, fun e => by omega, fun e => by omega, fun e => by omega, fun e => by omega, fun _ => hj, fun e => by omega⟩
theorem Ìt {G : Int} {Z : List In} {p : Nat} {x : In} (h : x.op = 11) (hs : Ĩ x.set) (hj : x.a < Ã (Z.take p) ∧ ∃ (y z : In) (j : Nat), Z[p + 1]? = some y ∧ y.op = 2 ∧ y.a = (j : Int) ∧ Z[j]? = some z ∧ z.op = 3) : OkI G Z p x :=
 ⟨by omega, hs, fun e => by omega, fun e => by omega, fun e => by omega, fun e => by omega, fun e => by omega, fun e => by omega, fun _ => hj⟩
theorem Ïs (i : In) : len [i] = 1 := rfl
theorem Çe (lz : Bool) (n : Int) : (á lz n).op = 3 ∧ (á lz n).set = [] := by cases lz <;> exact ⟨rfl, rfl⟩
theorem Âw (lz : Bool) (n : Int) : Ã [á lz n] = 0 := by cases lz <;> rfl
theorem ÈX (G : Int) (Z : List In) (p q : Nat) (lz : Bool) (n : Int) (h1 : 1 ≤ n) (h2 : (p : Int) + n ≤ len Z) : OkI G Z p (sh (p : Nat) (q : Nat) (á lz n)) := by
 obtain ⟨e1, e2⟩ := Çe lz n;have e3 := (Ãt (p : Nat) (q : Nat) (á lz n)).2.1 e1
 refine Ìs (by rw [Àw]; exact e1) (by rw [ÅG, e2]; exact ż) ?_
 rw [e3.1, e3.2];cases lz
 ·show (p : Int) < 1 + p ∧ (p : Int) < n + p ∧ 1 + (p : Int) ≤ len Z ∧ n + (p : Int) ≤ len Z ∧ min (1 + (p : Int)) (n + p) = p + 1
  omega
 ·show (p : Int) < n + p ∧ (p : Int) < 1 + p ∧ n + (p : Int) ≤ len Z ∧ 1 + (p : Int) ≤ len Z ∧ min (n + (p : Int)) (1 + p) = p + 1
  omega
theorem Ït (G : Int) (Z : List In) (p q : Nat) (n : Int) (h1 : 0 ≤ p + n) (h2 : (p : Int) + n ≤ len Z) : OkI G Z p (sh (p : Nat) (q : Nat) (.i 2 n 0 0 0)) := by
 have e3 := (Ãt (p : Nat) (q : Nat) (.i 2 n 0 0 0)).1 rfl
 refine ÍR (by rw [Àw]; rfl) (by rw [ÅG]; exact ż) ?_
 rw [e3]
 show 0 ≤ n + (p : Int) ∧ n + (p : Int) ≤ len Z
 omega
theorem OkC.opt {G : Int} (lz : Bool) {x : List In} (hx : OkC G x) : ∀ (n : Nat), OkC G (Ám lz n x)
 | 0 => OkC.nil
 | n + 1 => by
  have hR := OkC.opt lz hx n;have hlR := ÅI lz n x;rw [Ám];generalize Ám lz n x = R at *;generalize hZ : app [á lz (((n : Int) + 1) * ((x.length : Int) + 1))] (app x R) = Z;have l1 : len x = (x.length : Nat) := rfl;have l0 := ŏ R
  have hm : ((n : Int) + 1) * ((x.length : Int) + 1) = len R + len x + 1 := by rw [Int.add_mul, hlR, l1]; omega
  have hl : len Z = len x + len R + 1 := by rw [← hZ]; simp only [Ĵ, Ïs]; omega
  have hI : Inn (app [á lz (((n : Int) + 1) * ((x.length : Int) + 1))] (app x R)) 0 0 Z := by rw [hZ]; exact Inn.refl _
  have key : ÀW G (app [á lz (((n : Int) + 1) * ((x.length : Int) + 1))] (app x R)) 0 0 Z :=
   ÀW.two (ÀW.one (ÈX _ _ _ _ _ _ (by omega) (by simp; omega))) (ÀW.two (hx.within hI.right.left) (hR.within hI.right.right))
  rw [hZ] at key;exact key
theorem OkC.loop {G : Int} (lz : Bool) {x : List In} (hx : OkC G x) : OkC G (Ź lz x) := by
 have hlen := Äo lz x;unfold Ź at hlen ⊢;generalize hZ : app [á lz ((x.length : Int) + 4)] (app [.i 10 0 0 0 0] (app x (app [.i 11 (-(Ã x : Int) - 1) 0 0 0] [.i 2 (-(x.length : Int) - 3) 0 0 0]))) = Z at hlen;have l1 : len x = (x.length : Nat) := rfl
 have hI : Inn (app [á lz ((x.length : Int) + 4)] (app [.i 10 0 0 0 0] (app x (app [.i 11 (-(Ã x : Int) - 1) 0 0 0] [.i 2 (-(x.length : Int) - 3) 0 0 0])))) 0 0 Z := by rw [hZ]; exact Inn.refl _
 have hs0 := hI.left.get 0 _ rfl
 have hms := hI.right.left.mks 0 (by simp)
 have hmg := hI.right.right.right.left.mks 0 (by simp)
 have hj := hI.right.right.right.right.get 0 _ rfl;have ms := Âw lz ((x.length : Int) + 4)
 have key : ÀW G (app [á lz ((x.length : Int) + 4)] (app [.i 10 0 0 0 0] (app x (app [.i 11 (-(Ã x : Int) - 1) 0 0 0] [.i 2 (-(x.length : Int) - 3) 0 0 0])))) 0 0 Z := by
  refine ÀW.two (ÀW.one (ÈX _ _ _ _ _ _ (by omega) (by simp; omega))) (ÀW.two (ÀW.one ?_) (ÀW.two (hx.within hI.right.right.left) (ÀW.two (ÀW.one ?_) (ÀW.one ?_))))
  ·refine ÍS (by rw [Àw]; rfl) (by rw [ÅG]; exact ż) ?_
   rw [(Ãt _ _ _).2.2.2.2.2.1 rfl];rw [Nat.add_zero] at hms;rw [hms];simp [In.i, Än]
  ·refine Ìt (by rw [Àw]; rfl) (by rw [ÅG]; exact ż) ?_
   rw [(Ãt _ _ _).2.2.2.2.2.2 rfl];rw [Nat.add_zero] at hmg;rw [hmg]
   refine ⟨?_, _, _, 0, hj, by rw [Àw]; rfl, ?_, hs0, by rw [Àw]; exact (Çe _ _).1⟩
   ·rw [ms]
    have e10 : Ã [In.i 10 0 0 0 0] = 1 := rfl;rw [e10];simp [In.i];omega
   ·rw [(Ãt _ _ _).1 rfl]
    simp [In.i];omega
  ·exact Ït _ _ _ _ _ (by simp; omega) (by simp; omega)
 rw [hZ] at key;exact key
theorem OkC.times {G : Int} (lo hi m : Int) {x : List In} (hx : OkC G x) : OkC G (Àp lo hi m x) := by
 unfold Àp;refine (hx.rep _).two ?_;split
 ·exact hx.loop _
 ·exact hx.opt _ _
end
section
open Go.Proofs.YtpginkdkblmnbaaGreatDoor.Cl
def Ns (l : List Rg) : Prop := Ĩ l ∧ l.length ≤ 2000
theorem Âx : Ns [] := ⟨ż, by simp⟩
inductive Wg (g : Nat) (bk : List (Nat × Nat)) : Nd → Prop
 | mk {k lo hi m r : Int} {set : List Rg} {kids : List Nd} (hs : Ns set) (h5 : k = 5 → 1 ≤ r ∧ r ≤ g) (h6 : k = 6 → ∃ b ∈ bk, r = (b.1 : Nat) ∧ 1 ≤ b.1) (hk : ∀ x ∈ kids, Wg g bk x) : Wg g bk (.mk k lo hi m r set kids)
theorem Wg.mono {g g' : Nat} {bk bk' : List (Nat × Nat)} (hg : g ≤ g') (hb : ∀ b ∈ bk, b ∈ bk') {nd : Nd} (h : Wg g bk nd) : Wg g' bk' nd := by
 induction h with
 | mk hs h5 h6 _ ih =>
  refine .mk hs (fun e => ?_) (fun e => ?_) ih
  ·have := h5 e; omega
  ·obtain ⟨b, h1, h2⟩ := h6 e
   exact ⟨b, hb b h1, h2⟩
theorem Wg.plain {g : Nat} {bk : List (Nat × Nat)} {k lo hi m r : Int} {set : List Rg} {kids : List Nd} (hs : Ns set) (h5 : k ≠ 5) (h6 : k ≠ 6) (hk : ∀ x ∈ kids, Wg g bk x) : Wg g bk (.mk k lo hi m r set kids) :=
 .mk hs (fun e => absurd e h5) (fun e => absurd e h6) hk
theorem Wg.leaf {g : Nat} {bk : List (Nat × Nat)} {k lo hi m r : Int} {set : List Rg} (hs : Ns set) (h5 : k ≠ 5) (h6 : k ≠ 6) : Wg g bk (.mk k lo hi m r set []) := .plain hs h5 h6 (fun _ h => by simp at h)
theorem Wg.set {g : Nat} {bk : List (Nat × Nat)} {l : List Rg} (h : Ns l) : Wg g bk (Âa l) := .leaf h (by decide) (by decide)
theorem Wg.edge {g : Nat} {bk : List (Nat × Nat)} (r : Int) : Wg g bk (Áw r) := .leaf Âx (by decide) (by decide)
theorem Wg.one {g : Nat} {bk : List (Nat × Nat)} {k lo hi m r : Int} {x : Nd} (h5 : k ≠ 5) (h6 : k ≠ 6) (hx : Wg g bk x) : Wg g bk (.mk k lo hi m r [] [x]) := .plain Âx h5 h6 (fun y hy => by rw [Ĉ] at hy; subst hy; exact hx)
theorem Wg.joinA {g : Nat} {bk : List (Nat × Nat)} {l : List Nd} (h : ∀ x ∈ l, Wg g bk x) : Wg g bk (joinA l) := by
 match l with
 | [] => exact .plain Âx (by decide) (by decide) h
 | [x] => exact h x (by simp)
 | x :: y :: l => exact .plain Âx (by decide) (by decide) h
theorem Wg.joinR {g : Nat} {bk : List (Nat × Nat)} {l : List Nd} (h : ∀ x ∈ l, Wg g bk x) : Wg g bk (joinR l) := by
 match l with
 | [] => exact .leaf Âx (by decide) (by decide)
 | [x] => exact h x (by simp)
 | x :: y :: l => exact .plain Âx (by decide) (by decide) h
theorem Äp {l : List Rg} (hr : ∀ r ∈ l, Rt r) : Ĩ (ť l) ∧ (∀ u, ũ (ť l) u = ũ l u) ∧ (ť l).length ≤ l.length := by
 have hq : (l.mergeSort fun a b => decide (a.1 ≤ b.1)).Perm l := List.mergeSort_perm _ _
 have hs2 : (l.mergeSort fun a b => decide (a.1 ≤ b.1)).Pairwise fun a b => a.1 ≤ b.1 := by
  have := List.pairwise_mergeSort (le := fun (a b : Rg) => decide (a.1 ≤ b.1)) (fun a b c h1 h2 => by simp at *; omega) (fun a b => by simp; omega) l
  exact this.imp (fun h => by simpa using h)
 have h2 := Áv _ (fun r h => hr r (hq.mem_iff.1 h)) hs2
 refine ⟨h2.1, fun u => (h2.2 u).trans (Äi hq u), ?_⟩
 have := ÃE (l.mergeSort fun a b => decide (a.1 ≤ b.1))
 rw [hq.length_eq] at this;exact this
theorem Çf {l : List Rg} (h : Ĩ l) : Ĩ (ò 0 l) := (ÇO l 0 (by omega) h (fun r hr => (h.1 r hr).1)).1
theorem ÈY {c : Nat} {l : List Rg} (h : Ť c = some l) : Ĩ l := by
 unfold Ť at h;split at h
 ·cases h; simp [Ĩ, Rt]
 split at h
 ·cases h; simp [Ĩ, Rt]
 split at h
 ·cases h; simp [Ĩ, Rt]
 ·cases h
theorem ÈZ {c : Nat} {l : List Rg} (h : units c = some l) : Ĩ l := by
 unfold units at h;split at h
 ·cases ho : Ť c with
  | none => rw [ho] at h; cases h
  | some m => rw [ho] at h; cases h; exact Çf (ÈY ho)
 ·exact ÈY h
theorem Êx {c : Nat} {l : List Rg} (h : units c = some l) : Ns l := ⟨ÈZ h, by have := (ÅB h).2; omega⟩
theorem Éa {u : Int} (h0 : 0 ≤ u) (h1 : u ≤ 1114367) : Ns [(u, u)] := ⟨by simp [Ĩ, Rt]; omega, by simp⟩
theorem Éb {σ σ1 : St} {u : Nat} (h : Ð σ = .ok (u, σ1)) : u ≤ 1114367 := by
 unfold Ð at h;split at h
 ·split at h
  ·cases h
  split at h
  ·rename_i hx
   simp only [Bool.and_eq_true] at hx;have a := hx.1;have b := hx.2;unfold ń at a b;simp only [decide_eq_true_eq] at a b;cases h;unfold Ày
   split <;> split <;> omega
  ·cases h
 split at h
 ·cases h; omega
 split at h
 ·cases h; omega
 split at h
 ·cases h; omega
 split at h
 ·rename_i hm
  unfold ð at hm;simp only [decide_eq_true_eq] at hm;cases h;omega
 ·cases h
theorem ÇX (op : Nat) (neg : Bool) : ∀ (n : Nat) (acc : List Rg) (σ σ1 : St) (l : List Rg), (∀ r ∈ acc, Rt r) → Ģ op neg n acc σ = .ok (l, σ1) → Ĩ l ∧ σ1.g = σ.g ∧ l.length ≤ acc.length + 5 * n + 1 := by
 intro n
 induction n with
 | zero => intro acc σ σ1 l _ h; simp [Ģ] at h
 | succ n ih =>
  intro acc σ σ1 l ha h;rw [Ģ] at h;split at h
  ·split at h
   ·cases h
   ·cases h
    have hl := (Äp ha).2.2;refine ⟨?_, rfl, ?_⟩
    ·split
     ·exact Çf (Äp ha).1
     ·exact (Äp ha).1
    ·split
     ·have := gaps_len (ť acc) 0; omega
     ·omega
  split at h
  ·cases h
  ·rename_i hne
   split at h
   ·cases h
   ·rename_i lm σm hm
    obtain ⟨_, h2, h3, h4⟩ := Áj hm (by simpa using hne)
    obtain ⟨k1, k2, k3⟩ := ih _ _ _ _ (by
     intro r hr
     rcases List.mem_append.1 hr with hr | hr
     ·exact ha r hr
     ·exact h2 r hr) h
    rw [ă] at k3
    exact ⟨k1, k2.trans h4, by omega⟩
section
variable {σ σ1 : St}
theorem Ðw (σ : St) (n : Nat) : (σ.adv n).bk = σ.bk := rfl
theorem ÅK {u : Nat} (h : Ð σ = .ok (u, σ1)) : σ1.bk = σ.bk := by
 unfold Ð at h
 repeat' split at h
 all_goals first
  | (cases h; rfl)
  | cases h
theorem Éc {u : Nat} (h : Ł σ = .ok (u, σ1)) : σ1.bk = σ.bk := by
 unfold Ł at h;split at h
 ·exact ÅK h
 ·cases h; rfl
theorem Ìu {l : List Rg} (h : Ú σ = .ok (l, σ1)) : σ1.bk = σ.bk := by
 unfold Ú at h;split at h
 ·cases h
 split at h
 ·cases h; rfl
 split at h
 ·cases h
 ·rename_i lo σa ha
  have ea := Éc ha;split at h
  ·split at h
   ·split at h
    ·cases h
    ·rename_i hi σb hb
     have eb := Éc hb;split at h
     ·cases h
     ·cases h; exact (eb.trans (Ðw σa 1)).trans ea
   ·cases h
  ·cases h; exact ea
theorem Êy {op : Nat} {neg : Bool} : ∀ {k : Nat} {acc l : List Rg} {σ σ1 : St}, Ģ op neg k acc σ = .ok (l, σ1) → σ1.bk = σ.bk := by
 intro k
 induction k with
 | zero => intro acc l σ σ1 h; simp [Ģ] at h
 | succ n ih =>
  intro acc l σ σ1 h;rw [Ģ] at h;split at h
  ·split at h
   ·cases h
   ·cases h; rfl
  split at h
  ·cases h
  split at h
  ·cases h
  ·rename_i lm σm hm
   exact (ih h).trans (Ìu hm)
theorem ÍT {x : Int × Int} (h : times σ = some (x, σ1)) : σ1.bk = σ.bk := by
 unfold times at h;split at h
 ·cases h; rfl
 split at h
 ·cases h; rfl
 split at h
 ·cases h; rfl
 unfold Àc at h
 repeat' split at h
 all_goals first
  | (cases h; rfl)
  | cases h
theorem ÆL (σ : St) : (È σ).bk = σ.bk ∧ (È σ).g = σ.g := by unfold È; split <;> exact ⟨rfl, rfl⟩
theorem ÇY (σ : St) : (é σ).bk = σ.bk ∧ (é σ).g = σ.g := by unfold é; split <;> exact ⟨rfl, rfl⟩
theorem Ïu {x : Int × Int} (h : times σ = some (x, σ1)) : σ1.g = σ.g := (ÆX h).2
theorem Ìv {r : Nd} (h : ó σ = .ok (r, σ1)) : Wg σ1.g σ1.bk r ∧ σ1.g = σ.g ∧ ∀ b ∈ σ.bk, b ∈ σ1.bk := by
 unfold ó at h;split at h
 ·cases h; exact ⟨.edge _, rfl, fun _ h => h⟩
 split at h
 ·cases h; exact ⟨.edge _, rfl, fun _ h => h⟩
 split at h
 ·rename_i hr
  cases h
  refine ⟨.mk Âx (fun e => absurd e (by decide)) (fun _ => ⟨(Í σ.t - 48, σ.pos), by simp [refAt], rfl, by simp only; omega⟩) (fun _ h => by simp at h), rfl, fun b hb => by simp [refAt, hb]⟩
 split at h
 ·rename_i l hu
  cases h; exact ⟨.set (Êx hu), rfl, fun _ h => h⟩
 split at h
 ·cases h
 ·rename_i u σu hu
  cases h
  exact ⟨.set (Éa (by omega) (by have := Éb hu; omega)), (Âs hu).2.2, fun b hb => by rw [ÅK hu]; exact hb⟩
theorem ÍU {r : Nd} (h : Ĥ σ = .ok (r, σ1)) (hn : σ.t ≠ []) : Wg σ1.g σ1.bk r ∧ σ1.g = σ.g ∧ ∀ b ∈ σ.bk, b ∈ σ1.bk := by
 unfold Ĥ at h;split at h
 ·unfold Ğ at h
  split at h
  ·cases h
  ·rename_i l σm hm
   cases h
   obtain ⟨k1, k2, k4⟩ := ÇX _ _ _ _ _ _ _ (by simp) hm
   have k3 := Êy hm;obtain ⟨b1, b2⟩ := ÇY σ
   exact ⟨.set ⟨k1, by simp only [Ď] at k4; omega⟩, k2.trans b2, fun b hb => by rw [k3, b1]; exact hb⟩
 split at h
 ·exact Ìv h
 split at h
 ·cases h
 split at h
 ·cases h
 split at h
 ·cases h; exact ⟨.set ⟨by simp [Ĩ, Rt], by simp⟩, rfl, fun _ h => h⟩
 split at h
 ·cases h; exact ⟨.edge _, rfl, fun _ h => h⟩
 split at h
 ·cases h; exact ⟨.edge _, rfl, fun _ h => h⟩
 ·cases h
  have := ÍJ σ.t hn
  exact ⟨.set (Éa (by omega) (by omega)), rfl, fun _ h => h⟩
theorem ÇZ {gr : Bool} {a r : Nd} (ha : Wg σ.g σ.bk a) (h : Ù gr a σ = .ok (r, σ1)) : Wg σ1.g σ1.bk r ∧ σ1.g = σ.g ∧ σ1.bk = σ.bk := by
 unfold Ù at h;split at h
 ·split at h
  ·cases h
  split at h
  ·cases h
  ·rename_i lo hi σ2 ht
   have e1 := ÍT ht;have e2 := Ïu ht;obtain ⟨b1, b2⟩ := ÆL σ2;cases h;rw [b1, b2, e1, e2]
   exact ⟨.one (by decide) (by decide) ha, rfl, rfl⟩
 ·cases h; exact ⟨ha, rfl, rfl⟩
theorem Êz {a b c : Int} (h : Ô σ = .ok ((a, b, c), σ1)) : σ.g ≤ σ1.g ∧ σ1.bk = σ.bk ∧ a ≠ 6 ∧ (a = 5 → 1 ≤ c ∧ c ≤ σ1.g) := by
 unfold Ô at h
 repeat' split at h
 all_goals first
  | (cases h; refine ⟨?_, rfl, by decide, ?_⟩ <;> simp [opened, St.adv] <;> omega)
  | (cases h; exact ⟨ŋ _, rfl, by decide, fun e => absurd e (by decide)⟩)
  | cases h
theorem Ðx : ∀ (n : Nat), (∀ d acc σ r σ1, (∀ x ∈ acc, Wg σ.g σ.bk x) → run n 0 d acc σ = .ok (r, σ1) → Wg σ1.g σ1.bk r ∧ σ.g ≤ σ1.g ∧ ∀ b ∈ σ.bk, b ∈ σ1.bk) ∧
 (∀ d acc σ r σ1, (∀ x ∈ acc, Wg σ.g σ.bk x) → run n 1 d acc σ = .ok (r, σ1) → Wg σ1.g σ1.bk r ∧ σ.g ≤ σ1.g ∧ ∀ b ∈ σ.bk, b ∈ σ1.bk) ∧
 (∀ d acc σ r σ1, σ.t ≠ [] → run n 2 d acc σ = .ok (r, σ1) → Wg σ1.g σ1.bk r ∧ σ.g ≤ σ1.g ∧ ∀ b ∈ σ.bk, b ∈ σ1.bk) ∧
 (∀ d acc σ r σ1, run n 3 d acc σ = .ok (r, σ1) → Wg σ1.g σ1.bk r ∧ σ.g ≤ σ1.g ∧ ∀ b ∈ σ.bk, b ∈ σ1.bk) := by
 intro n
 induction n with
 | zero => refine ⟨?_, ?_, ?_, ?_⟩ <;> intros <;> simp [run] at *
 | succ n ih =>
  obtain ⟨ih0, ih1, ih2, ih3⟩ := ih;refine ⟨?_, ?_, ?_, ?_⟩
  ·intro d acc σ r σ1 ha h
   rw [Ái] at h;split at h
   ·cases h
   ·rename_i ra σa hra
    obtain ⟨w1, g1, b1⟩ := ih1 _ _ _ _ _ (by simp) hra
    have ha' : ∀ x ∈ acc ++ [ra], Wg σa.g σa.bk x := by
     intro x hx
     rcases List.mem_append.1 hx with hx | hx
     ·exact (ha x hx).mono g1 b1
     ·rw [Ĉ] at hx; subst hx; exact w1
    split at h
    ·obtain ⟨w2, g2, b2⟩ := ih0 d _ (σa.adv 1) _ _ ha' h
     exact ⟨w2, ē g1 g2, fun b hb => b2 b (b1 b hb)⟩
    ·cases h; exact ⟨.joinA ha', g1, b1⟩
  ·intro d acc σ r σ1 ha h
   rw [Âb] at h;split at h
   ·cases h; exact ⟨.joinR ha, ŋ _, fun _ h => h⟩
   ·rename_i c
    have hn : σ.t ≠ [] := by
     intro e;rw [e] at c;exact c rfl
    split at h
    ·cases h
    ·rename_i ra σa hra
     obtain ⟨w1, g1, b1⟩ := ih2 _ _ _ _ _ hn hra
     obtain ⟨w2, g2, b2⟩ := ih1 d _ σa _ _ (by
      intro x hx
      rcases List.mem_append.1 hx with hx | hx
      ·exact (ha x hx).mono g1 b1
      ·rw [Ĉ] at hx; subst hx; exact w1) h
     exact ⟨w2, ē g1 g2, fun b hb => b2 b (b1 b hb)⟩
  ·intro d acc σ r σ1 hn h
   rw [Áb] at h;split at h
   ·cases h
   ·rename_i ra σa hra
    have key : Wg σa.g σa.bk ra ∧ σ.g ≤ σa.g ∧ ∀ b ∈ σ.bk, b ∈ σa.bk := by
     split at hra
     ·exact ih3 _ _ _ _ _ hra
     ·obtain ⟨k1, k2, k3⟩ := ÍU hra hn
      exact ⟨k1, by omega, k3⟩
    obtain ⟨q1, q2, q3⟩ := ÇZ key.1 h
    exact ⟨q1, by omega, fun b hb => by rw [q3]; exact key.2.2 b hb⟩
  ·intro d acc σ r σ1 h
   rw [Ác] at h;split at h
   ·cases h
   ·split at h
    ·cases h
    ·rename_i sh σa ho
     split at h
     ·cases h
     ·rename_i kid σb hk
      split at h
      ·cases h
       obtain ⟨a, b, c⟩ := sh;obtain ⟨o1, o2, o3, o4⟩ := Êz ho
       obtain ⟨k1, k2, k3⟩ := ih0 _ _ _ _ _ (by simp) hk
       refine ⟨?_, ē o1 k2, fun x hx => k3 x (by rw [o2]; exact hx)⟩
       unfold wrap;split
       ·exact k1
       ·refine .mk Âx (fun e => ?_) (fun e => absurd e o3) (fun y hy => by rw [Ĉ] at hy; subst hy; exact k1)
        have := o4 e;simp only [St.adv];omega
      ·cases h
inductive Wn (G : Int) : Nd → Prop
 | mk {k lo hi m r : Int} {set : List Rg} {kids : List Nd} (hs : Ns set) (h5 : k = 5 → 1 ≤ r ∧ r ≤ G) (h6 : k = 6 → 1 ≤ r ∧ r ≤ G) (hk : ∀ x ∈ kids, Wn G x) : Wn G (.mk k lo hi m r set kids)
theorem Ñc {g : Nat} {bk : List (Nat × Nat)} (hb : bk.find? (fun b => decide (g < b.1)) = none) {nd : Nd} (h : Wg g bk nd) : Wn (g : Nat) nd := by
 induction h with
 | mk hs h5 h6 _ ih =>
  refine .mk hs h5 (fun e => ?_) ih
  obtain ⟨b, h1, h2, h3⟩ := h6 e;have := List.find?_eq_none.1 hb b h1;simp at this;omega
theorem ÍV {N : Nat} {s : List UInt8} {nd : Nd} {g : Nat} {fo : Bool} (h : ñ N s = .ok (nd, g, fo)) : Wn (g : Nat) nd := by
 unfold ñ at h;split at h
 ·cases h
 ·split at h
  ·cases h
  ·rename_i r σ hr
   have hw := ((Ðx N).1 _ _ _ _ _ (by simp) hr).1
   unfold ended at h;split at h
   ·cases h
   ·split at h
    ·cases h
    ·rename_i hf
     cases h;exact Ñc hf hw
end
theorem Ãu (p q : Int) (x : In) (h : x.op = 0 ∨ x.op = 1 ∨ x.op = 4 ∨ x.op = 5 ∨ x.op = 6 ∨ x.op = 9) : sh p q x = x := by
 unfold sh
 rw [if_neg (by omega), if_neg (by omega), if_neg (by omega), if_neg (by omega)]
theorem Áy (x : List In) (i : In) (h : i.op = 0 ∨ i.op = 1 ∨ i.op = 4 ∨ i.op = 5 ∨ i.op = 6 ∨ i.op = 9) : app x [i] = x ++ [i] := by
 unfold app;rw [List.map_cons, List.map_nil, Ãu _ _ _ h]
end
section
open Go.Proofs.YtpginkdkblmnbaaGreatDoor.Cl
structure Hom (φ : In → In) : Prop where
 mv : ∀ (p q : Int) (x : In), φ (sh p q x) = sh p q (φ x)
 op : ∀ x, (φ x).op = x.op
 fix : ∀ x : In, x.set = [] → x.op ≠ 4 → x.op ≠ 5 → x.op ≠ 6 → φ x = x
section
variable {φ : In → In} (h : Hom φ)
include h
theorem Hom.marks_ (x : List In) : Ã (x.map φ) = Ã x := by
 unfold Ã;rw [List.countP_map]
 congr 1
 funext i;simp [h.op]
theorem Hom.two (x y : List In) : (app x y).map φ = app (x.map φ) (y.map φ) := by
 unfold app;rw [Ĕ, List.map_map, List.map_map, List.length_map, h.marks_]
 congr 1
 apply List.map_congr_left;intro i _;exact h.mv _ _ _
theorem Hom.one (i : In) (n : Int) (ho : i.op = n) (h1 : i.set = []) (hn : n ≠ 4 ∧ n ≠ 5 ∧ n ≠ 6) : [i].map φ = [i] := by
 rw [List.map_cons, List.map_nil, h.fix i h1 (by omega) (by omega) (by omega)]
theorem Hom.row (l : List (List In)) : (ĸ l).map φ = ĸ (l.map fun x => x.map φ) := by
 induction l with
 | nil => rfl
 | cons x l ih => rw [ĸ, h.two, ih]; rfl
theorem Hom.rep (n : Nat) (x : List In) : (š n x).map φ = š n (x.map φ) := by
 induction n with
 | zero => rfl
 | succ n ih => rw [š, h.two, ih]; rfl
theorem Hom.split (lz : Bool) (n : Int) : [á lz n].map φ = [á lz n] := by
 cases lz
 ·exact h.one _ 3 rfl rfl (by decide)
 ·exact h.one _ 3 rfl rfl (by decide)
theorem Hom.loop (lz : Bool) (x : List In) : (Ź lz x).map φ = Ź lz (x.map φ) := by
 unfold Ź
 rw [h.two, h.two, h.two, h.two, h.split, h.one (.i 10 0 0 0 0) 10 rfl rfl (by decide), h.one _ 11 rfl rfl (by decide), h.one _ 2 rfl rfl (by decide), List.length_map, h.marks_]
theorem Hom.opt (lz : Bool) (n : Nat) (x : List In) : (Ám lz n x).map φ = Ám lz n (x.map φ) := by
 induction n with
 | zero => rfl
 | succ n ih => rw [Ám, h.two, h.two, ih, h.split, Ám, List.length_map]
theorem Hom.times (lo hi m : Int) (x : List In) : (Àp lo hi m x).map φ = Àp lo hi m (x.map φ) := by
 unfold Àp;rw [h.two, h.rep]
 congr 1
 split
 ·exact h.loop _ _
 ·exact h.opt _ _ _
theorem Hom.within (i : In) (hi : i.op = 7 ∨ i.op = 8) (hs : i.set = []) (x : List In) : (õ i x).map φ = õ i (x.map φ) := by
 have e : ([{ i with b := (x.length : Int) + 2 }] : List In).map φ = [{ i with b := (x.length : Int) + 2 }] := h.one _ i.op rfl hs (by omega)
 unfold õ
 rw [h.two, h.two, e, h.one ÁM 9 rfl rfl (by decide), List.length_map]
end
section
variable {P : In → Prop} (hv : ∀ p q x, P x → P (sh p q x)) (hp : ∀ x : In, x.op ≠ 1 → x.op ≠ 5 → x.set = [] → P x)
include hv
end
end
section
open Go.Proofs.YtpginkdkblmnbaaGreatDoor.Cl
def ľ (T : Int) (Q x : List In) : List In := app (app Q [á false ((x.length : Int) + 2)]) x ++ [.i 2 T 0 0 0]
def ĝ (T : Int) : List In → List (List In) → List In
 | Q, [] => Q
 | Q, x :: l => ĝ T (ľ T Q x) l
def Áp : Nat → List (List In) → List Nat
 | _, [] => []
 | n, x :: l => (n + 1 + x.length) :: Áp (n + x.length + 2) l
theorem ÁA (T : Int) (Q x : List In) : (ľ T Q x).length = Q.length + x.length + 2 := by unfold ľ; rw [ă, Ø, Ø]; simp; omega
theorem ÁH (T : Int) (Q x : List In) : Ã (ľ T Q x) = Ã Q + Ã x := by
 unfold ľ;rw [ô, ġ, ġ];have e1 : Ã [á false ((x.length : Int) + 2)] = 0 := rfl;have e2 : Ã [In.i 2 T 0 0 0] = 0 := rfl;omega
theorem ÂT (T : Int) (x : List In) : ∀ (l : List (List In)) (Q : List In), ĝ T Q (l ++ [x]) = ľ T (ĝ T Q l) x
 | [], _ => rfl
 | y :: l, Q => by rw [List.cons_append, ĝ, ĝ, ÂT T x l]
theorem ÁQ (T : Int) : ∀ (l : List (List In)) (Q : List In), ((ĝ T Q l).length : Int) = Q.length + (l.map len).sum + 2 * (l.length : Int)
 | [], Q => by simp [ĝ]
 | x :: l, Q => by
  rw [ĝ, ÁQ T l, ÁA];simp [len];omega
theorem ÄQ (T T' : Int) (l : List (List In)) (Q : List In) : (ĝ T Q l).length = (ĝ T' Q l).length := by
 have a := ÁQ T l Q;have b := ÁQ T' l Q;omega
theorem Ãv (T T' : Int) : ∀ (l : List (List In)) (Q Q' : List In), Ã Q = Ã Q' → Ã (ĝ T Q l) = Ã (ĝ T' Q' l)
 | [], _, _, h => h
 | x :: l, Q, Q', h => by
  rw [ĝ, ĝ]
  exact Ãv T T' l _ _ (by rw [ÁH, ÁH, h])
theorem Ät (x : List In) : ∀ (l : List (List In)) (Q : List In) (T : Int), Áp Q.length (l ++ [x]) = Áp Q.length l ++ [(ĝ T Q l).length + 1 + x.length]
 | [], _, _ => rfl
 | y :: l, Q, T => by
  rw [List.cons_append, Áp, Áp, ĝ];have e : Q.length + y.length + 2 = (ľ T Q y).length := (ÁA T Q y).symm;rw [e, Ät x l _ T];rfl
theorem ÅV : ∀ (l : List (List In)) (n : Nat), (Áp n l).length = l.length
 | [], _ => rfl
 | _ :: l, _ => by rw [Áp, ć, ÅV l, ć]
theorem ËV (T : Int) : ∀ (l : List (List In)) (Q : List In), ∀ p ∈ Áp Q.length l, p < (ĝ T Q l).length
 | [], _ => by intro p hp; cases hp
 | x :: l, Q => by
  intro p hp;rw [Áp] at hp;rw [ĝ];have e : Q.length + x.length + 2 = (ľ T Q x).length := (ÁA T Q x).symm
  rcases List.mem_cons.1 hp with rfl | hp
  ·have := ÁQ T l (ľ T Q x)
   have h0 : 0 ≤ (l.map len).sum := by
    have : ∀ (l : List (List In)), 0 ≤ (l.map len).sum := by
     intro l
     induction l with
     | nil => simp
     | cons y l ih => simp only [List.map_cons, List.sum_cons]; have := ŏ y; omega
    exact this l
   omega
  ·rw [e] at hp
   exact ËV T l _ p hp
def ÂA (T : Int) (Z : List In) (p : Nat) : List In := Z.modify p fun x => { x with a := T }
def Ŵ (T : Int) (Z : List In) (ps : List Nat) : List In := ps.foldl (ÂA T) Z
theorem Ìx (T : Int) (Z : List In) (p : Nat) : (ÂA T Z p).length = Z.length := by simp [ÂA]
theorem ÂB (T : Int) : ∀ (ps : List Nat) (Z : List In), (Ŵ T Z ps).length = Z.length
 | [], _ => rfl
 | p :: ps, Z => by
  have := ÂB T ps (ÂA T Z p);rw [Ìx] at this;exact this
theorem Âj (T : Int) (Z : List In) (ps : List Nat) (p : Nat) : Ŵ T Z (ps ++ [p]) = ÂA T (Ŵ T Z ps) p := by simp [Ŵ]
theorem Çl (T : Int) {Z : List In} {p : Nat} {x : In} (h : Z[p]? = some x) : ÂA T Z p = Z.set p { x with a := T } := by
 unfold ÂA;apply List.ext_getElem?;intro i;rw [List.getElem?_modify, List.getElem?_set]
 by_cases e : p = i
 ·subst e
  have hl := (List.getElem?_eq_some_iff.1 h).1;rw [h, if_pos rfl, if_pos hl];simp
 ·rw [if_neg e]
  cases Z[i]? <;> simp [e]
theorem Él (T : Int) (Z : List In) (p : Nat) : Ã (ÂA T Z p) = Ã Z := by
 have e : (ÂA T Z p).map (·.op) = Z.map (·.op) := by
  unfold ÂA;apply List.ext_getElem?;intro i;rw [List.getElem?_map, List.getElem?_map, List.getElem?_modify]
  cases Z[i]? <;> simp
  split <;> rfl
 have k : ∀ l : List In, Ã l = (l.map (·.op)).countP fun o => decide (o = 10) := fun l => by unfold Ã; rw [List.countP_map]; rfl
 rw [k, k, e]
theorem Ìy (T : Int) (A B : List In) (i : In) : ÂA T (A ++ i :: B) A.length = A ++ { i with a := T } :: B := by
 rw [Çl (x := i) T (by simp), List.set_append_right _ _ (ŋ _), Nat.sub_self]
 rfl
theorem Îc {α : Type} {P : List α → Prop} (h0 : P []) (h1 : ∀ l x, P l → P (l ++ [x])) : ∀ (n : Nat) (l : List α), l.length = n → P l := by
 intro n
 induction n with
 | zero => intro l hl; rw [List.length_eq_zero_iff.1 hl]; exact h0
 | succ n ih =>
  intro l hl
  have hne : l ≠ [] := by rintro rfl; simp at hl
  rw [← List.dropLast_concat_getLast hne]
  exact h1 _ _ (ih _ (by rw [List.length_dropLast]; omega))
theorem Ém (T : Int) (M : List In) (l : List (List In)) : ∀ (R : List In), Ŵ T (ĝ 0 M l ++ R) (Áp M.length l) = ĝ T M l ++ R := by
 refine Îc (P := fun l => ∀ (R : List In), Ŵ T (ĝ 0 M l ++ R) (Áp M.length l) = ĝ T M l ++ R) ?_ ?_ _ l rfl
 ·intro R; rfl
 ·intro l x ih R
  rw [ÂT, ÂT, Ät x l M 0, Âj]
  have e0 : ∀ U, ľ U (ĝ U M l) x ++ R = ĝ U M l ++ (([á false ((x.length : Int) + 2)].map (sh ((ĝ U M l).length : Nat) (Ã (ĝ U M l) : Nat)) ++ x.map (sh ((app (ĝ U M l) [á false ((x.length : Int) + 2)]).length : Nat) (Ã (app (ĝ U M l) [á false ((x.length : Int) + 2)]) : Nat))) ++ (In.i 2 U 0 0 0 :: R)) := by
   intro U;unfold ľ
   conv => lhs; unfold app
   simp [List.append_assoc, app]
  have e1 : (ĝ 0 M l).length = (ĝ T M l).length := ÄQ 0 T l M;have e2 : Ã (ĝ 0 M l) = Ã (ĝ T M l) := Ãv 0 T l M M rfl;rw [e0 0, ih, e0 T, Ø, Ø, ġ, ġ, e1, e2];have key := Ìy T (ĝ T M l ++ ([á false ((x.length : Int) + 2)].map (sh ((ĝ T M l).length : Nat) (Ã (ĝ T M l) : Nat)) ++ x.map (sh (((ĝ T M l).length + [á false ((x.length : Int) + 2)].length : Nat) : Int) ((Ã (ĝ T M l) + Ã [á false ((x.length : Int) + 2)] : Nat) : Int)))) R (.i 2 0 0 0 0)
  have el : (ĝ T M l ++ ([á false ((x.length : Int) + 2)].map (sh ((ĝ T M l).length : Nat) (Ã (ĝ T M l) : Nat)) ++ x.map (sh (((ĝ T M l).length + [á false ((x.length : Int) + 2)].length : Nat) : Int) ((Ã (ĝ T M l) + Ã [á false ((x.length : Int) + 2)] : Nat) : Int)))).length = (ĝ T M l).length + 1 + x.length := by simp; omega
  rw [el] at key;rw [← List.append_assoc, key];simp only [List.append_assoc];rfl
theorem Çm (xl : List In) : ∀ (l : List (List In)) (M : List In), app (ĝ ((M.length : Int) + len (ÀA (l ++ [xl]))) M l) xl = app M (ÀA (l ++ [xl]))
 | [], M => by simp [ĝ, ÀA]
 | x :: l, M => by
  have ih := Çm xl l (ľ ((M.length : Int) + len (ÀA (x :: l ++ [xl]))) M x)
  have hc : ÀA (x :: l ++ [xl]) = app [á false ((x.length : Int) + 2)] (app x (app [.i 2 (((ÀA (l ++ [xl])).length : Int) + 1) 0 0 0] (ÀA (l ++ [xl])))) := by
   cases l with
   | nil => rfl
   | cons y l => rfl
  have hT : ((ľ ((M.length : Int) + len (ÀA (x :: l ++ [xl]))) M x).length : Int) + len (ÀA (l ++ [xl])) = (M.length : Int) + len (ÀA (x :: l ++ [xl])) := by
   rw [ÁA, hc, Ĵ, Ĵ, Ĵ];simp [len];omega
  rw [hT] at ih;rw [ĝ, ih, hc]
  conv => rhs; rw [← İ, ← İ, ← İ]
  congr 1
  unfold ľ;have e : app (app (app M [á false ((x.length : Int) + 2)]) x) [In.i 2 (((ÀA (l ++ [xl])).length : Int) + 1) 0 0 0] = app (app M [á false ((x.length : Int) + 2)]) x ++ [sh ((app (app M [á false ((x.length : Int) + 2)]) x).length : Nat) (Ã (app (app M [á false ((x.length : Int) + 2)]) x) : Nat) (In.i 2 (((ÀA (l ++ [xl])).length : Int) + 1) 0 0 0)] := rfl;rw [e]
  congr 2
  rw [Ø, Ø, Ĵ, Ĵ, Ĵ];simp [sh, In.i, len];omega
def Ån (Q x : List In) : List In := app (Q ++ [.i 3 0 0 0 0]) x
def Át : Nat → List In → List In → List In
 | 0, Q, _ => Q
 | n + 1, Q, x => Ån (Át n Q x) x
theorem ÅW (Q x : List In) : ∀ (n : Nat), (Át n Q x).length = Q.length + n * (x.length + 1)
 | 0 => by simp [Át]
 | n + 1 => by rw [Át, Ån, Ø, ă, ÅW Q x n, Nat.add_mul]; simp; omega
def ÅX (lz : Bool) (s T : Nat) : In := if lz then .i 3 (T : Nat) (((s : Nat) : Int) + 1) 0 0 else .i 3 (((s : Nat) : Int) + 1) (T : Nat) 0 0
def Àd (lz : Bool) (T : Nat) : Nat → List In → List In → List In
 | 0, Q, _ => Q
 | n + 1, Q, x => app (Àd lz T n Q x ++ [ÅX lz (Àd lz T n Q x).length T]) x
theorem ÃR (lz : Bool) (T : Nat) (Q x : List In) : ∀ (n : Nat), (Àd lz T n Q x).length = Q.length + n * (x.length + 1)
 | 0 => by simp [Àd]
 | n + 1 => by rw [Àd, Ø, ă, ÃR lz T Q x n, Nat.add_mul]; simp; omega
def ÂZ (lz : Bool) (T : Nat) (n m : Nat) (Q x : List In) : List In := Át (m - n) (Àd lz T n Q x) x
theorem Én (Q x : List In) (a : Nat) : ∀ (b : Nat), Át (a + b) Q x = Át b (Át a Q x) x
 | 0 => rfl
 | b + 1 => by rw [← Nat.add_assoc, Át, Én Q x a b, Át]
theorem ë (Q : List In) (i : In) (h : i.op ≠ 10) : Ã (Q ++ [i]) = Ã Q := by rw [ô, Âe, if_neg h]; rfl
theorem Èf (lz : Bool) (s T : Nat) : (ÅX lz s T).op = 3 := by cases lz <;> rfl
theorem Çn (x : List In) : ∀ (n : Nat) (A B A' : List In), A.length = A'.length → Ã A = Ã A' → ∃ R, Át n (A ++ B) x = A ++ R ∧ Át n (A' ++ B) x = A' ++ R
 | 0, A, B, A', _, _ => ⟨B, rfl, rfl⟩
 | n + 1, A, B, A', h1, h2 => by
  obtain ⟨R, e1, e2⟩ := Çn x n A B A' h1 h2;refine ⟨R ++ [.i 3 0 0 0 0] ++ x.map (sh ((A ++ R ++ [In.i 3 0 0 0 0]).length : Nat) (Ã (A ++ R ++ [In.i 3 0 0 0 0]) : Nat)), ?_, ?_⟩
  ·rw [Át, Ån, e1]
   unfold app;simp only [List.append_assoc]
  ·have k1 : (A' ++ R ++ [In.i 3 0 0 0 0]).length = (A ++ R ++ [In.i 3 0 0 0 0]).length := by simp [h1]
   have k2 : Ã (A' ++ R ++ [In.i 3 0 0 0 0]) = Ã (A ++ R ++ [In.i 3 0 0 0 0]) := by rw [ô, ô, ô, ô, h2]
   rw [Át, Ån, e2];unfold app;rw [k1, k2];simp only [List.append_assoc]
theorem Ìz (lz : Bool) (T n m : Nat) (Q x : List In) (h : n < m) : ∃ R, ÂZ lz T n m Q x = Àd lz T n Q x ++ In.i 3 0 0 0 0 :: R ∧ ÂZ lz T (n + 1) m Q x = Àd lz T n Q x ++ ÅX lz (Q.length + n * (x.length + 1)) T :: R := by
 unfold ÂZ
 have e : m - n = 1 + (m - (n + 1)) := by omega
 rw [e, Én];have hl := ÃR lz T Q x n;rw [Àd, ← hl]
 have a1 : Át 1 (Àd lz T n Q x) x = (Àd lz T n Q x ++ [In.i 3 0 0 0 0]) ++ x.map (sh ((Àd lz T n Q x).length + 1 : Nat) (Ã (Àd lz T n Q x) : Nat)) := by
  show app (Àd lz T n Q x ++ [In.i 3 0 0 0 0]) x = _
  unfold app
  rw [ă, ë _ _ (by decide)]
  rfl
 have a2 : app (Àd lz T n Q x ++ [ÅX lz (Àd lz T n Q x).length T]) x = (Àd lz T n Q x ++ [ÅX lz (Àd lz T n Q x).length T]) ++ x.map (sh ((Àd lz T n Q x).length + 1 : Nat) (Ã (Àd lz T n Q x) : Nat)) := by
  unfold app
  rw [ă, ë _ _ (by rw [Èf]; decide)]
  rfl
 rw [a1, a2]
 obtain ⟨R, r1, r2⟩ := Çn x (m - (n + 1)) (Àd lz T n Q x ++ [In.i 3 0 0 0 0]) (x.map (sh ((Àd lz T n Q x).length + 1 : Nat) (Ã (Àd lz T n Q x) : Nat))) (Àd lz T n Q x ++ [ÅX lz (Àd lz T n Q x).length T]) (by simp) (by rw [ë _ _ (by decide), ë _ _ (by rw [Èf]; decide)])
 exact ⟨R, by rw [r1, List.append_assoc]; rfl, by rw [r2, List.append_assoc]; rfl⟩
theorem ÌA (lz : Bool) (n : Nat) (x : List In) : Ám lz (n + 1) x = app [á lz (((n : Int) + 1) * ((x.length : Int) + 1))] (app x (Ám lz n x)) := rfl
theorem ÅY (lz : Bool) (T : Nat) (x : List In) : ∀ (n : Nat) (Q : List In), Àd lz T (n + 1) Q x = Àd lz T n (app (Q ++ [ÅX lz Q.length T]) x) x
 | 0, _ => rfl
 | n + 1, Q => by
  have ih := ÅY lz T x n Q;rw [Àd, ih, Àd]
theorem Ço (lz : Bool) (x : List In) : ∀ (n : Nat) (Q : List In), Àd lz (Q.length + n * (x.length + 1)) n Q x = app Q (Ám lz n x)
 | 0, Q => by rw [Àd, Ám, ÀV]
 | n + 1, Q => by
  rw [ÅY, ÌA, ← İ, ← İ]
  have e : Q ++ [ÅX lz Q.length (Q.length + (n + 1) * (x.length + 1))] = app Q [á lz (((n : Int) + 1) * ((x.length : Int) + 1))] := by
   unfold app
   congr 1
   rw [List.map_cons, List.map_nil]
   congr 1
   have hm : (((n + 1) * (x.length + 1) : Nat) : Int) = ((n : Int) + 1) * ((x.length : Int) + 1) := by simp
   cases lz
   ·simp only [ÅX, á, sh, In.i, Ċ, if_false]
    simp;omega
   ·simp only [ÅX, á, sh, In.i, if_true]
    simp;omega
  rw [e]
  have hl : Q.length + (n + 1) * (x.length + 1) = (app (app Q [á lz (((n : Int) + 1) * ((x.length : Int) + 1))]) x).length + n * (x.length + 1) := by
   rw [Ø, Ø, Nat.add_mul];simp;omega
  rw [hl];exact Ço lz x n _
end
end Go.Proofs.YtpginkdkblmnbaaGreatDoor
