/- Joined: HsM, HsJ. -/
import Derived.Test.YtefgobmpleoafaaGreatDoorJVd
import Derived.Test.YtefgobmpleoafaaGreatDoorJHpx
import Derived.Maps.Views
/- Layer 14 in plain mathematics: a history of entries, over a pattern's verdict. No program is imported. -/
namespace Go.Proofs.YtefgobmpleoafaaGreatDoor
open Go.Maps

structure Oc where
  ve : Int
  co : Int
  ru : Int
  at_ : Int
structure La where
  o : Oc
  re : Int
def Oc.zero : Oc := ⟨0, 0, 0, 0⟩
def La.zero : La := ⟨.zero, 0⟩
structure Hs where
  n : Nat
  q : Nat
  vs : List RS
  cl : Int → Option La
def Hs.start : Hs := ⟨0, 0, [.first], fun _ => none⟩
/-- the newest version's set -/
def Hs.top (h : Hs) : RS := h.vs.getLast?.getD .zero
/-- a client's last, or nothing -/
def Hs.la (h : Hs) (c : Int) : La := (h.cl c).getD .zero
def Hs.twice (h : Hs) (e : En) : Prop := e.re ≤ (h.la e.cl).re
instance (h : Hs) (e : En) : Decidable (h.twice e) := by unfold Hs.twice; infer_instance
section
variable (p : ByteArray → Int × Int)
def Hs.chg (h : Hs) (e : En) : RS × (Int × Int × Int) := changeM p h.top e.d
def Hs.out (h : Hs) (e : En) : Oc := if h.twice e then ⟨0, 31, 0, 0⟩ else if (h.chg p e).2.1 = 0 then ⟨(h.vs.length : Int), 0, 0, 0⟩ else ⟨0, (h.chg p e).2.1, (h.chg p e).2.2.1, (h.chg p e).2.2.2⟩
def Hs.add (h : Hs) (e : En) : Hs :=
  ⟨h.n + 1, h.q, if h.twice e then h.vs else if (h.chg p e).2.1 = 0 then h.vs ++ [(h.chg p e).1] else h.vs,
    if h.twice e then h.cl else fun c => if c = e.cl then some ⟨h.out p e, e.re⟩ else h.cl c⟩
/-- what comes of an entry, right or not -/
def Hs.put (h : Hs) (e : En) : Hs := if e.ok = true then h.add p e else h
def Hs.Ok (h : Hs) : Prop := h.vs ≠ [] ∧ ∀ s ∈ h.vs, (rulesM p s).1 = 0
end
section
variable {p : ByteArray → Int × Int} {h : Hs} {e : En}
theorem changeM_top {s : RS} {d : Dl} (h0 : (changeM p s d).2.1 = 0) : (rulesM p (changeM p s d).1).1 = 0 ∧ (changeM p s d).2 = (0, 0, 0) := by
  unfold changeM at h0 ⊢
  split
  · rename_i h1
    rw [if_pos h1] at h0
    split
    · rename_i h2
      exact ⟨h2, rfl⟩
    · rename_i h2
      rw [if_neg h2] at h0
      exact absurd h0 h2
  · rename_i h1
    rw [if_neg h1] at h0
    exact absurd h0 h1
theorem Hs.top_mem (hk : h.vs ≠ []) : h.top ∈ h.vs := by
  unfold Hs.top
  rw [List.getLast?_eq_some_getLast hk]
  exact List.getLast_mem hk
theorem Hs.top_get (hk : h.vs ≠ []) : h.vs[h.vs.length - 1]? = some h.top := by
  unfold Hs.top
  rw [List.getLast?_eq_getElem?]
  have hl : h.vs.length - 1 < h.vs.length := by have := List.length_pos_iff.2 hk; omega
  rw [List.getElem?_eq_getElem hl]
  rfl
theorem Hs.Ok.len (hk : h.Ok p) : 0 < h.vs.length := List.length_pos_iff.2 hk.1
theorem Hs.Ok.top (hk : h.Ok p) : (rulesM p h.top).1 = 0 := hk.2 _ (h.top_mem hk.1)
theorem Hs.Ok.few (hk : h.Ok p) {s : RS} (hs : s ∈ h.vs) : s.rs.length ≤ 16 := (rulesM_ok.1 (hk.2 s hs)).1.2.1
theorem Hs.Ok.add (hk : h.Ok p) (e : En) : (h.add p e).Ok p := by
  unfold Hs.add
  by_cases h1 : h.twice e
  · rw [if_pos h1]; exact hk
  · rw [if_neg h1]
    by_cases h2 : (h.chg p e).2.1 = 0
    · rw [if_pos h2]
      refine ⟨by simp, fun s hs => ?_⟩
      rcases List.mem_append.1 hs with hs | hs
      · exact hk.2 s hs
      · rw [List.mem_singleton.1 hs]; exact (changeM_top h2).1
    · rw [if_neg h2]; exact hk
theorem Hs.Ok.put (hk : h.Ok p) (e : En) : (h.put p e).Ok p := by
  unfold Hs.put
  split
  · exact hk.add e
  · exact hk
theorem Hs.add_n : (h.add p e).n = h.n + 1 := rfl
theorem Hs.add_len : h.vs.length ≤ (h.add p e).vs.length ∧ (h.add p e).vs.length ≤ h.vs.length + 1 := by
  unfold Hs.add
  by_cases h1 : h.twice e
  · simp only [if_pos h1]; omega
  · simp only [if_neg h1]
    by_cases h2 : (h.chg p e).2.1 = 0
    · simp only [if_pos h2, List.length_append, List.length_cons, List.length_nil]; omega
    · simp only [if_neg h2]; omega
theorem Hs.put_n : (h.put p e).n ≤ h.n + 1 := by
  unfold Hs.put
  split
  · exact Nat.le_refl _
  · omega
theorem Hs.put_len : h.vs.length ≤ (h.put p e).vs.length ∧ (h.put p e).vs.length ≤ h.vs.length + 1 := by
  unfold Hs.put
  split
  · exact Hs.add_len
  · omega
theorem Hs.start_ok (h1 : (rulesM p RS.first).1 = 0) : Hs.start.Ok p := ⟨by simp [Hs.start], fun s hs => by rw [List.mem_singleton.1 hs]; exact h1⟩
/-- The elder versions stay. -/
theorem Hs.add_old {k : Nat} {s : RS} (hs : h.vs[k]? = some s) : (h.add p e).vs[k]? = some s := by
  unfold Hs.add
  by_cases h1 : h.twice e
  · simpa only [if_pos h1] using hs
  · simp only [if_neg h1]
    by_cases h2 : (h.chg p e).2.1 = 0
    · simp only [if_pos h2]
      rw [List.getElem?_append_left (List.getElem?_eq_some_iff.1 hs).1]
      exact hs
    · simpa only [if_neg h2] using hs
theorem Hs.put_old {k : Nat} {s : RS} (hs : h.vs[k]? = some s) : (h.put p e).vs[k]? = some s := by
  unfold Hs.put
  split
  · exact Hs.add_old hs
  · exact hs

/-! ### the clients, as a map's datum -/
def laR (v : Value) : Option (DataW La × List MemPlace) :=
  match v with
  | .agg a => (match a.toList with | [.int .i64 v, .int .i64 c, .int .i64 r, .int .i64 t, .int .i64 q] => some (.held ⟨⟨v, c, r, t⟩, q⟩, []) | _ => none)
  | _ => none
def La.val (l : La) : Value := .agg #[.int .i64 l.o.ve, .int .i64 l.o.co, .int .i64 l.o.ru, .int .i64 l.o.at_, .int .i64 l.re]
theorem laR_val (l : La) : laR l.val = some (.held l, []) := rfl
theorem laR_inv {v : Value} {z : DataW La × List MemPlace} (h : laR v = some z) : ∃ l : La, v = l.val ∧ z = (.held l, []) := by
  unfold laR at h
  split at h
  · rename_i a
    split at h
    · rename_i v c r t q e
      refine ⟨⟨⟨v, c, r, t⟩, q⟩, ?_, by cases h; rfl⟩
      unfold La.val
      congr 1
      exact Array.toList_inj.1 e
    · cases h
  · cases h
/-- The map's datum says what the clients' function says. -/
def Cm (D : DataW La) (cl : Int → Option La) : Prop := IsMap D ∧ ∀ c, (Lit.int .i64 c).wf = true → Maps.has D (.int .i64 c) = (cl c).isSome ∧ D.atKey (.int .i64 c) (.held .zero) = .held ((cl c).getD .zero)
end
end Go.Proofs.YtefgobmpleoafaaGreatDoor

/- Layer 14's laws in plain mathematics: histories of a row of entries, of two rows. No program is imported. -/
namespace Go.Proofs.YtefgobmpleoafaaGreatDoor
open Go.Maps
section
variable {p : ByteArray → Int × Int} {G H : Hs} {x : En}
/-- A history of entries. -/
def runM (p : ByteArray → Int × Int) (l : List En) : Hs := l.foldl (fun H x => H.put p x) .start
theorem runM_snoc (l : List En) (x : En) : runM p (l ++ [x]) = (runM p l).put p x := by simp [runM, List.foldl_append]
theorem runM_take {l : List En} {k : Nat} (h : l[k]? = some x) : runM p (l.take (k + 1)) = (runM p (l.take k)).put p x := by
  obtain ⟨hk, rfl⟩ := List.getElem?_eq_some_iff.1 h
  rw [List.take_succ_eq_append_getElem hk, runM_snoc]
def goM (p : ByteArray → Int × Int) (H : Hs) (l : List En) : Hs := l.foldl (fun H x => H.put p x) H
theorem goM_cons (H : Hs) (x : En) (l : List En) : goM p H (x :: l) = goM p (H.put p x) l := rfl
theorem goM_n : ∀ (l : List En) (H : Hs), (goM p H l).n ≤ H.n + l.length ∧ H.vs.length ≤ (goM p H l).vs.length ∧ (goM p H l).vs.length ≤ H.vs.length + l.length
  | [], H => ⟨Nat.le_refl _, Nat.le_refl _, Nat.le_refl _⟩
  | x :: l, H => by
    have h1 := Hs.put_n (p := p) (h := H) (e := x)
    have h2 := Hs.put_len (p := p) (h := H) (e := x)
    have h3 := goM_n l (H.put p x)
    rw [goM_cons, List.length_cons]
    omega
theorem runM_n (l : List En) : (runM p l).n ≤ l.length ∧ 1 ≤ (runM p l).vs.length ∧ (runM p l).vs.length ≤ l.length + 1 := by
  have h := goM_n (p := p) l .start
  have e1 : Hs.start.n = 0 := rfl
  have e2 : Hs.start.vs.length = 1 := rfl
  have e : goM p .start l = runM p l := rfl
  rw [e, e1, e2] at h
  omega
theorem Hs.put_not (hx : x.ok = false) : H.put p x = H := by
  unfold Hs.put
  rw [if_neg (by rw [hx]; decide)]
theorem Hs.put_ok (hx : x.ok = true) : H.put p x = H.add p x := by
  unfold Hs.put
  rw [if_pos hx]
theorem Hs.add_cl (c : Int) : (H.add p x).cl c = if H.twice x then H.cl c else if c = x.cl then some ⟨H.out p x, x.re⟩ else H.cl c := by
  unfold Hs.add
  by_cases h : H.twice x
  · simp only [if_pos h]
  · simp only [if_neg h]
theorem Hs.put_re (c : Int) : (H.la c).re ≤ ((H.put p x).la c).re := by
  cases hx : x.ok with
  | false => rw [Hs.put_not hx]; exact Int.le_refl _
  | true =>
    rw [Hs.put_ok hx]
    unfold Hs.la
    rw [Hs.add_cl]
    by_cases h : H.twice x
    · rw [if_pos h]; exact Int.le_refl _
    · rw [if_neg h]
      by_cases hc : c = x.cl
      · rw [if_pos hc, hc]
        unfold Hs.twice Hs.la at h
        show _ ≤ x.re
        omega
      · rw [if_neg hc]; exact Int.le_refl _
theorem Hs.put_seen (hx : x.ok = true) : (H.put p x).twice x := by
  rw [Hs.put_ok hx]
  unfold Hs.twice Hs.la
  rw [Hs.add_cl]
  by_cases h : H.twice x
  · rw [if_pos h]; exact h
  · rw [if_neg h, if_pos rfl]
    exact Int.le_refl _
theorem goM_re (c : Int) : ∀ (l : List En) (H : Hs), (H.la c).re ≤ ((goM p H l).la c).re
  | [], _ => Int.le_refl _
  | x :: l, H => Int.le_trans (Hs.put_re c) (goM_re c l (H.put p x))
theorem goM_seen : ∀ {l : List En} {H : Hs} {x : En}, x ∈ l → x.ok = true → (goM p H l).twice x
  | y :: l, H, x, h, hx => by
    rw [goM_cons]
    rcases List.mem_cons.1 h with rfl | h
    · have := Hs.put_seen (p := p) (H := H) hx
      unfold Hs.twice at this ⊢
      exact Int.le_trans this (goM_re _ _ _)
    · exact goM_seen h hx
theorem runM_seen {l : List En} {x : En} (h : x ∈ l) (hx : x.ok = true) : (runM p l).twice x := goM_seen h hx
/-- Two histories that tell the same from here on. -/
def Alike14 (G H : Hs) : Prop := G.vs = H.vs ∧ G.cl = H.cl
theorem Alike14.refl (G : Hs) : Alike14 G G := ⟨rfl, rfl⟩
theorem Alike14.twice (h : Alike14 G H) : G.twice x ↔ H.twice x := by unfold Hs.twice Hs.la; rw [h.2]
theorem Alike14.out (h : Alike14 G H) : G.out p x = H.out p x := by
  have ht := h.twice (x := x)
  unfold Hs.out Hs.chg Hs.top
  rw [h.1]
  by_cases hh : H.twice x
  · rw [if_pos hh, if_pos (ht.2 hh)]
  · rw [if_neg hh, if_neg (fun e => hh (ht.1 e))]
theorem Alike14.put (h : Alike14 G H) : Alike14 (G.put p x) (H.put p x) := by
  cases hx : x.ok with
  | false => rw [Hs.put_not hx, Hs.put_not hx]; exact h
  | true =>
    rw [Hs.put_ok hx, Hs.put_ok hx]
    refine ⟨?_, ?_⟩
    · have ht := h.twice (x := x)
      unfold Hs.add Hs.chg Hs.top
      rw [h.1]
      by_cases hh : H.twice x
      · rw [if_pos hh, if_pos (ht.2 hh)]
      · rw [if_neg hh, if_neg (fun e => hh (ht.1 e))]
    · funext c
      have ht := h.twice (x := x)
      rw [Hs.add_cl, Hs.add_cl, h.out, h.2]
      by_cases hh : H.twice x
      · rw [if_pos hh, if_pos (ht.2 hh)]
      · rw [if_neg hh, if_neg (fun e => hh (ht.1 e))]
/-- What is there already changes nothing. -/
theorem Alike14.again (h : Alike14 G H) (hs : x.ok = true → H.twice x) : Alike14 G (H.put p x) := by
  cases hx : x.ok with
  | false => rw [Hs.put_not hx]; exact h
  | true =>
    rw [Hs.put_ok hx]
    refine ⟨?_, ?_⟩
    · unfold Hs.add
      rw [if_pos (hs hx)]
      exact h.1
    · funext c
      rw [Hs.add_cl, if_pos (hs hx), h.2]
theorem Hs.out_twice (h : H.twice x) : H.out p x = ⟨0, 31, 0, 0⟩ := by unfold Hs.out; rw [if_pos h]
end
end Go.Proofs.YtefgobmpleoafaaGreatDoor

