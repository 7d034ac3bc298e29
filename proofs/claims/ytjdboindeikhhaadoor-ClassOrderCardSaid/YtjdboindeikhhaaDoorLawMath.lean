/- What the laws say of sets of numbers, in plain mathematics; and what a walk through a law keeps. -/
import Derived.Test.YtjdboindeikhhaaDoorCount
import Derived.Test.YtjdboindeikhhaaDoorNot
import Derived.Test.YtjdboindeikhhaaDoorSame
namespace Go.Proofs.YtjdboindeikhhaaDoor
open Go.RowKit

/-- What a walk through a law keeps: below the first world's heap nothing turned; some values read as sets. -/
def Env (w₀ w : World) (L : List (Value × List Rg)) : Prop := Below w₀.heap.size w₀ w ∧ ∀ p ∈ L, SetV w.heap.size w p.1 p.2
section
variable {w₀ w w' : World} {L : List (Value × List Rg)} {v : Value} {l : List Rg}
theorem Env.step (h : Env w₀ w L) (hB : Below w.heap.size w w') : Env w₀ w' L := ⟨h.1.trans (hB.mono h.1.size), fun p hp => (h.2 p hp).on hB⟩
theorem Env.add (h : Env w₀ w L) (hS : SetV w.heap.size w v l) : Env w₀ w ((v, l) :: L) := ⟨h.1, fun p hp => by
  rcases List.mem_cons.1 hp with rfl | hp
  · exact hS
  · exact h.2 p hp⟩
theorem Env.alloc (h : Env w₀ w L) (o : Obj) : Env w₀ (w.alloc o) L := h.step ((Below.refl _ _).alloc (Nat.le_refl _) o)
theorem Env.size (h : Env w₀ w L) : w₀.heap.size ≤ w.heap.size := h.1.size
theorem Env.get (h : Env w₀ w L) (v : Value) (l : List Rg) (hp : (v, l) ∈ L) : SetV w.heap.size w v l := h.2 _ hp
end

def NN : Nat := 1114368
theorem countB_cnt {l : List Rg} (h : Norm l) : countB l = cnt (hasB l) NN := by rw [countB_norm h, total_cnt NN (by unfold NN; omega) h]
theorem countB_bound {l : List Rg} (h : Norm l) : 0 ≤ countB l ∧ countB l ≤ 1114368 * l.length := by rw [countB_norm h]; exact total_bound l h.1
theorem has_range {l : List Rg} (h : Norm l) {u : Int} (hu : hasB l u = true) : 0 ≤ u ∧ u ≤ 1114367 := by
  obtain ⟨r, hr, h1⟩ := (hasB_iff _ _).1 hu
  have := h.1 r hr
  unfold Rt at this
  omega
theorem has_inAll {l : List Rg} (h : Norm l) (u : Int) : (inAll u && hasB l u) = hasB l u := by
  by_cases hu : hasB l u = true
  · have := has_range h hu
    rw [hu, Bool.and_true]
    simpa [inAll] using this
  · rw [Bool.not_eq_true] at hu
    rw [hu, Bool.and_false]
theorem cnt_all (n : Nat) : (n : Int) ≤ 1114368 → cnt inAll n = n := by
  induction n with
  | zero => intro _; rfl
  | succ n ih =>
    intro h
    have hi : inAll (n : Int) = true := by
      unfold inAll
      exact decide_eq_true (by omega)
    have h2 := ih (by omega)
    rw [cnt, h2, hi]
    simp

/-! ### Not -/
section
variable {s n : List Rg}
theorem not_not {m : List Rg} (hs : Norm s) (hm : Norm m) (hn : ∀ u, hasB n u = (inAll u && !hasB s u)) (h2 : ∀ u, hasB m u = (inAll u && !hasB n u)) : m = s := by
  refine norm_ext hm hs fun u => ?_
  rw [h2, hn, ← has_inAll hs u]
  cases inAll u <;> cases hasB s u <;> rfl
theorem not_count (hs : Norm s) (hn : Norm n) (h : ∀ u, hasB n u = (inAll u && !hasB s u)) : countB s + countB n = 1114368 := by
  rw [countB_cnt hs, countB_cnt hn]
  have h1 := cnt_or_and (hasB s) (hasB n) NN
  have h2 : cnt (fun u => hasB s u || hasB n u) NN = cnt inAll NN := cnt_congr (fun u => by
    rw [h, ← has_inAll hs u]
    cases inAll u <;> cases hasB s u <;> rfl) NN
  have h3 : cnt (fun u => hasB s u && hasB n u) NN = 0 := by
    rw [cnt_congr (q := fun _ => false) (fun u => by rw [h]; cases inAll u <;> cases hasB s u <;> rfl), cnt_none]
  rw [h2, h3, cnt_all NN (by unfold NN; omega)] at h1
  have e : ((NN : Nat) : Int) = 1114368 := by unfold NN; rfl
  omega
end

/-! ### Or, And -/
section
variable {s o a b : List Rg}
theorem both_count (hs : Norm s) (ho : Norm o) (ha : Norm a) (hb : Norm b) (h1 : ∀ u, hasB a u = (hasB s u || hasB o u)) (h2 : ∀ u, hasB b u = (hasB s u && hasB o u)) : countB a + countB b = countB s + countB o := by
  rw [countB_cnt hs, countB_cnt ho, countB_cnt ha, countB_cnt hb, cnt_congr h1, cnt_congr h2]
  exact cnt_or_and _ _ _
theorem or_comm (ha : Norm a) (hb : Norm b) (h1 : ∀ u, hasB a u = (hasB s u || hasB o u)) (h2 : ∀ u, hasB b u = (hasB o u || hasB s u)) : a = b :=
  norm_ext ha hb fun u => by rw [h1, h2, Bool.or_comm]
theorem and_comm' (ha : Norm a) (hb : Norm b) (h1 : ∀ u, hasB a u = (hasB s u && hasB o u)) (h2 : ∀ u, hasB b u = (hasB o u && hasB s u)) : a = b :=
  norm_ext ha hb fun u => by rw [h1, h2, Bool.and_comm]
theorem or_self' (ha : Norm a) (hs : Norm s) (h1 : ∀ u, hasB a u = (hasB s u || hasB s u)) : a = s :=
  norm_ext ha hs fun u => by rw [h1, Bool.or_self]
theorem absorb {t : List Rg} (ht : Norm t) (hs : Norm s) (h1 : ∀ u, hasB a u = (hasB s u || hasB o u)) (h2 : ∀ u, hasB t u = (hasB s u && hasB a u)) : t = s :=
  norm_ext ht hs fun u => by rw [h2, h1]; cases hasB s u <;> simp
theorem de_morgan {p q x y : List Rg} (hp : Norm p) (hq : Norm q) (h1 : ∀ u, hasB a u = (hasB s u || hasB o u)) (h2 : ∀ u, hasB p u = (inAll u && !hasB a u)) (hx : ∀ u, hasB x u = (inAll u && !hasB s u)) (hy : ∀ u, hasB y u = (inAll u && !hasB o u))
    (h3 : ∀ u, hasB q u = (hasB x u && hasB y u)) : p = q :=
  norm_ext hp hq fun u => by rw [h2, h1, h3, hx, hy]; cases inAll u <;> cases hasB s u <;> cases hasB o u <;> rfl
end

/-! ### One unit more -/
section
variable {s more rest less : List Rg} {u : Int}
theorem one_norm (h0 : 0 ≤ u) (h1 : u ≤ 1114367) : Norm [(u, u)] := norm_cons.2 ⟨by unfold Rt; simp only; omega, by simp, norm_nil⟩
theorem one_has (v : Int) : hasB [(u, u)] v = decide (v = u) := by
  rw [Bool.eq_iff_iff]
  simp only [hasB, inB, List.any_cons, List.any_nil, Bool.or_false, decide_eq_true_eq]
  omega
theorem adds_more (h1 : ∀ v, hasB more v = (hasB s v || hasB [(u, u)] v)) : hasB more u = true := by rw [h1, one_has]; simp
theorem adds_less (h2 : ∀ v, hasB rest v = (inAll v && !hasB [(u, u)] v)) (h3 : ∀ v, hasB less v = (hasB s v && hasB rest v)) : hasB less u = false := by rw [h3, h2, one_has]; simp
theorem adds_in (hs : Norm s) (hm : Norm more) (h1 : ∀ v, hasB more v = (hasB s v || hasB [(u, u)] v)) (hu : hasB s u = true) : more = s :=
  norm_ext hm hs fun v => by
    rw [h1, one_has]
    by_cases e : v = u
    · subst e; rw [hu]; rfl
    · simp [e]
theorem adds_out (hs : Norm s) (hl : Norm less) (h2 : ∀ v, hasB rest v = (inAll v && !hasB [(u, u)] v)) (h3 : ∀ v, hasB less v = (hasB s v && hasB rest v)) (hu : hasB s u = false) : less = s :=
  norm_ext hl hs fun v => by
    have hv := has_inAll hs v
    rw [h3, h2, one_has]
    by_cases e : v = u
    · subst e; rw [hu]; rfl
    · rw [decide_eq_false e]
      revert hv
      cases inAll v <;> cases hasB s v <;> simp
theorem cnt_one (h0 : 0 ≤ u) (h1 : u ≤ 1114367) : cnt (hasB [(u, u)]) NN = 1 := by
  rw [← total_cnt NN (by unfold NN; omega) (one_norm h0 h1)]
  simp [total]
theorem adds_count_in (h0 : 0 ≤ u) (h9 : u ≤ 1114367) (hs : Norm s) (hl : Norm less) (h2 : ∀ v, hasB rest v = (inAll v && !hasB [(u, u)] v)) (h3 : ∀ v, hasB less v = (hasB s v && hasB rest v)) (hu : hasB s u = true) : countB less = countB s - 1 := by
  rw [countB_cnt hs, countB_cnt hl]
  have h := cnt_or_and (hasB less) (hasB [(u, u)]) NN
  have e1 : cnt (fun v => hasB less v || hasB [(u, u)] v) NN = cnt (hasB s) NN := cnt_congr (fun v => by
    rw [h3, h2, one_has]
    by_cases e : v = u
    · subst e; rw [hu]; simp
    · have hv := has_inAll hs v
      rw [decide_eq_false e]
      revert hv
      cases inAll v <;> cases hasB s v <;> simp) NN
  have e2 : cnt (fun v => hasB less v && hasB [(u, u)] v) NN = 0 := by
    rw [cnt_congr (q := fun _ => false) (fun v => by
      rw [h3, h2, one_has]
      by_cases e : v = u
      · subst e; simp
      · simp [e]), cnt_none]
  rw [e1, e2, cnt_one h0 h9] at h
  omega
theorem adds_count_out (h0 : 0 ≤ u) (h9 : u ≤ 1114367) (hs : Norm s) (hm : Norm more) (h1 : ∀ v, hasB more v = (hasB s v || hasB [(u, u)] v)) (hu : hasB s u = false) : countB more = countB s + 1 := by
  rw [countB_cnt hs, countB_cnt hm]
  have h := cnt_or_and (hasB s) (hasB [(u, u)]) NN
  have e2 : cnt (fun v => hasB s v && hasB [(u, u)] v) NN = 0 := by
    rw [cnt_congr (q := fun _ => false) (fun v => by
      rw [one_has]
      by_cases e : v = u
      · subst e; rw [hu]; rfl
      · simp [e]), cnt_none]
  rw [cnt_congr h1, ← cnt_one h0 h9]
  omega
end

/-! ### Fold -/
theorem fold_fold {s f g : List Rg} (hf : Norm f) (hg : Norm g) (h1 : ∀ u, hasB f u = (hasB s u || hasB s (tw u))) (h2 : ∀ u, hasB g u = (hasB f u || hasB f (tw u))) : f = g :=
  norm_ext hf hg fun u => by rw [h2, h1, h1, tw_tw]; cases hasB s u <;> cases hasB s (tw u) <;> rfl

/-! ### Make -/
theorem make_again {a c : List Rg} (ha : Norm a) (hc : Norm c) (h : ∀ u, hasB c u = hasB a u) : a = c := norm_ext ha hc fun u => (h u).symm
theorem make_turned {l a b : List Rg} (n : Nat) (ha : Norm a) (hb : Norm b) (h1 : ∀ u, hasB a u = hasB l u) (h2 : ∀ u, hasB b u = hasB ((l.drop n ++ l) ++ l.take n) u) : a = b :=
  norm_ext ha hb fun u => by
    rw [h1, h2, hasB_append, hasB_append]
    have : hasB l u = (hasB (l.take n) u || hasB (l.drop n) u) := by rw [← hasB_append, List.take_append_drop]
    rw [this]
    cases hasB (l.take n) u <;> cases hasB (l.drop n) u <;> rfl

end Go.Proofs.YtjdboindeikhhaaDoor
