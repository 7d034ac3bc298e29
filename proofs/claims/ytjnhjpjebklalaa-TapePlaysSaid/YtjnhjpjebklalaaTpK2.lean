/- What a step of the document's tape gives, case by case. No program. -/
import Derived.Test.YtjnhjpjebklalaaTpK
namespace Go.Proofs.Ytjnhjpjebklalaa
open Go.RowKit

theorem tw4 (W : Tw) (n : Int) (d : List UInt8) : W.stepE ⟨4, n, d⟩ = 0 ∧ W.step ⟨4, n, d⟩ = { W with armed := decide (0 ≤ n), left := n } := by simp [Tw.stepE, Tw.step]
theorem tw5 (W : Tw) (n : Int) (d : List UInt8) : W.stepE ⟨5, n, d⟩ = 0 ∧ W.step ⟨5, n, d⟩ = { W with safe := W.safe ++ xo (W.loose.take (W.stays n)) d, loose := [], armed := false, down := false } := by simp [Tw.stepE, Tw.step]
theorem twO (W : Tw) (k n : Int) (d : List UInt8) (h : k < 1 ∨ 5 < k) : W.stepE ⟨k, n, d⟩ = 0 ∧ W.step ⟨k, n, d⟩ = W := by
  have h4 : ¬ k = 4 := by omega
  have h5 : ¬ k = 5 := by omega
  simp [Tw.stepE, Tw.step, h4, h5, h]
theorem twD (W : Tw) (k n : Int) (d : List UInt8) (h : 1 ≤ k ∧ k ≤ 3) (hd : W.down = true) : W.stepE ⟨k, n, d⟩ = 40 ∧ W.step ⟨k, n, d⟩ = W := by
  have h4 : ¬ k = 4 := by omega
  have h5 : ¬ k = 5 := by omega
  have h6 : ¬ (k < 1 ∨ 5 < k) := by omega
  simp only [Tw.stepE, Tw.step, h4, h5, h6, hd, if_true, if_false]
  exact ⟨trivial, trivial⟩
theorem tw1b (W : Tw) (n : Int) (d : List UInt8) (hd : W.down = false) (hr : W.room - ((W.safe ++ W.loose).length : Int) < (d.length : Int)) : W.stepE ⟨1, n, d⟩ = 41 ∧ W.step ⟨1, n, d⟩ = W := by
  have h6 : ¬ ((1 : Int) < 1 ∨ 5 < (1 : Int)) := by decide
  simp only [Tw.stepE, Tw.step, hd, hr, h6, Int.reduceEq, if_true, if_false, true_and, false_and, Bool.false_eq_true]
theorem tw1 (W : Tw) (n : Int) (d : List UInt8) (hd : W.down = false) (hr : ¬ W.room - ((W.safe ++ W.loose).length : Int) < (d.length : Int)) : W.stepE ⟨1, n, d⟩ = (if W.fallsE = true then 40 else 0) ∧ W.step ⟨1, n, d⟩ = { W.fallen with loose := W.loose ++ d } := by
  have h6 : ¬ ((1 : Int) < 1 ∨ 5 < (1 : Int)) := by decide
  simp only [Tw.stepE, Tw.step, hd, hr, h6, Int.reduceEq, if_true, if_false, true_and, false_and, Bool.false_eq_true]
theorem tw2 (W : Tw) (n : Int) (d : List UInt8) (hd : W.down = false) : W.stepE ⟨2, n, d⟩ = (if W.fallsE = true then 40 else 0) ∧ W.step ⟨2, n, d⟩ = (if W.fallsE = true then W.fallen else { W.fallen with safe := W.safe ++ W.loose, loose := [] }) := by
  have h6 : ¬ ((2 : Int) < 1 ∨ 5 < (2 : Int)) := by decide
  simp only [Tw.stepE, Tw.step, hd, h6, Int.reduceEq, if_true, if_false, true_and, false_and, Bool.false_eq_true]
theorem tw3b (W : Tw) (n : Int) (d : List UInt8) (hd : W.down = false) (hr : n < 0 ∨ ((W.safe ++ W.loose).length : Int) < n) : W.stepE ⟨3, n, d⟩ = 13 ∧ W.step ⟨3, n, d⟩ = W := by
  have h6 : ¬ ((3 : Int) < 1 ∨ 5 < (3 : Int)) := by decide
  simp only [Tw.stepE, Tw.step, hd, hr, h6, Int.reduceEq, if_true, if_false, true_and, false_and, Bool.false_eq_true]
theorem tw3 (W : Tw) (n : Int) (d : List UInt8) (hd : W.down = false) (hr : ¬ (n < 0 ∨ ((W.safe ++ W.loose).length : Int) < n)) : W.stepE ⟨3, n, d⟩ = (if W.fallsE = true then 40 else 0) ∧ W.step ⟨3, n, d⟩ = (if W.fallsE = true then W.fallen else { W.fallen with safe := (W.safe ++ W.loose).take n.toNat, loose := [] }) := by
  have h6 : ¬ ((3 : Int) < 1 ∨ 5 < (3 : Int)) := by decide
  simp only [Tw.stepE, Tw.step, hd, hr, h6, Int.reduceEq, if_false, true_and, false_and, Bool.false_eq_true]
/-- Behind a step that makes all safe: what was put together is what is safe. -/
theorem trimS {w w5 : World} {h xb : Nat} {vs vl : Value} {W : Tw} {v : Value} {n : Nat} (hok : W.ok) (nx : ∀ i, Ft h vs vl i → i < xb) (lq : ∀ i, v.ownBlock = some i → xb ≤ i ∧ ¬ Ft h vs vl i ∧ i ≠ xb) (hx : xb = w.heap.size)
    (k : TwB w5 h vs vl W.fallen) (q : Own w5 xb v ((W.safe ++ W.loose).take n)) (f : Fr (Ft h vs vl) w w5) :
    DidW h vs vl { W.fallen with safe := (W.safe ++ W.loose).take n, loose := [] } w ((w5.setCell ⟨h, 0, none⟩ v).setCell ⟨h, 1, none⟩ (.slice none 0 0)) := by
  have hhx := nx h (.inl rfl)
  have k1 := k.putS (q.mono (Nat.le_of_lt hhx)) (fun i hi hj => (lq i hi).2.1 (.inr (.inr hj)))
  refine ⟨_, _, fun i hi => ?_, ⟨k1.nilL, ?_⟩, (f.set_ (q := ⟨h, 0, none⟩) (.inl (.inl rfl)) _).set_ (q := ⟨h, 1, none⟩) (.inl (.inl rfl)) _⟩
  · rcases hi with hi | hi | hi
    · exact .inl (.inl hi)
    · exact .inr (by have := (lq i hi).1; omega)
    · cases hi
  · have hf := hok.fallen
    refine ⟨?_, hf.room, hf.left, hf.arm⟩
    have := hok.fits
    show (((W.safe ++ W.loose).take n).length : Int) + (([] : List UInt8).length : Int) ≤ W.fallen.room
    rw [Tw.fallen_room, List.length_take, List.length_append, List.length_nil]
    omega
theorem allS {w w5 : World} {h xb : Nat} {vs vl : Value} {W : Tw} {v : Value} (hok : W.ok) (nx : ∀ i, Ft h vs vl i → i < xb) (lq : ∀ i, v.ownBlock = some i → xb ≤ i ∧ ¬ Ft h vs vl i ∧ i ≠ xb) (hx : xb = w.heap.size)
    (k : TwB w5 h vs vl W.fallen) (q : Own w5 xb v (W.safe ++ W.loose)) (f : Fr (Ft h vs vl) w w5) :
    DidW h vs vl { W.fallen with safe := W.safe ++ W.loose, loose := [] } w ((w5.setCell ⟨h, 0, none⟩ v).setCell ⟨h, 1, none⟩ (.slice none 0 0)) := by
  have := trimS (n := (W.safe ++ W.loose).length) hok nx lq hx k (by rw [List.take_length]; exact q) f
  rwa [List.take_length] at this
/-- Behind a crash. -/
theorem crashS {w w5 : World} {h r : Nat} {vs vl vs0 : Value} {W : Tw} {d : List UInt8} (hok : W.ok) (ft : ∀ i, vs.ownBlock = some i → Ft h vs0 vl i ∨ w.heap.size ≤ i)
    (k : TwB w5 h vs vl { W with safe := W.safe ++ xo (W.loose.take r) d }) (f : Fr (Ft h vs0 vl) w w5) :
    DidW h vs0 vl { W with safe := W.safe ++ xo (W.loose.take r) d, loose := [], armed := false, down := false } w (((w5.setCell ⟨h, 1, none⟩ (.slice none 0 0)).setCell ⟨h, 4, none⟩ (.bool false)).setCell ⟨h, 5, none⟩ (.bool false)) := by
  have k1 := (k.nilL.put 4 (.bool false) { W with safe := W.safe ++ xo (W.loose.take r) d, loose := [], armed := false } rfl rfl rfl).put 5 (.bool false) { W with safe := W.safe ++ xo (W.loose.take r) d, loose := [], armed := false, down := false } rfl rfl rfl
  refine ⟨_, _, fun i hi => ?_, ⟨k1, ?_⟩, ((f.set_ (q := ⟨h, 1, none⟩) (.inl (.inl rfl)) _).set_ (q := ⟨h, 4, none⟩) (.inl (.inl rfl)) _).set_ (q := ⟨h, 5, none⟩) (.inl (.inl rfl)) _⟩
  · rcases hi with hi | hi | hi
    · exact .inl (.inl hi)
    · exact ft i hi
    · cases hi
  · refine ⟨?_, hok.room, hok.left, fun e => by cases e⟩
    have := hok.fits
    show ((W.safe ++ xo (W.loose.take r) d).length : Int) + (([] : List UInt8).length : Int) ≤ W.room
    rw [List.length_append, xo_len, List.length_take, List.length_nil]
    omega
theorem _root_.Go.World.grownBy.cell_ {w w' : World} {row : Option Nat} (h : w.grownBy w' row) {p : Addr} (hp : p.block < w.heap.size) (hr : some p.block ≠ row) : w'.cell? p = w.cell? p := by
  unfold World.cell?
  rw [h.block p.block hp hr]
end Go.Proofs.Ytjnhjpjebklalaa
