/- The reader of bytes in memory; what a call of it keeps; take. -/
import Derived.Test.YtefgobmpleoafaaGreatPkG
namespace Go.Proofs.YtefgobmpleoafaaGreat
open Go.RowKit
variable {w w' w'' : World} {n₀ rb : Nat} {s : List UInt8} {wr : Bool}

/-- What a call of a reader keeps: all but the reader's own block. -/
structure FrR (rb : Nat) (w w' : World) : Prop where
  os : w'.os = w.os
  tape : w'.tape = w.tape
  output : w'.output = w.output
  size : w.heap.size ≤ w'.heap.size
  block : ∀ i, i < w.heap.size → i ≠ rb → w'.heap[i]? = w.heap[i]?
theorem FrR.refl (w : World) : FrR rb w w := ⟨rfl, rfl, rfl, Nat.le_refl _, fun _ _ _ => rfl⟩
theorem FrR.trans (h : FrR rb w w') (k : FrR rb w' w'') : FrR rb w w'' :=
  ⟨k.os.trans h.os, k.tape.trans h.tape, k.output.trans h.output, Nat.le_trans h.size k.size, fun i hi hc => (k.block i (Nat.lt_of_lt_of_le hi h.size) hc).trans (h.block i hi hc)⟩
theorem FrR.of_below (h : Below w.heap.size w w') : FrR rb w w' := ⟨h.os, h.tape, h.output, h.size, fun i hi _ => h.block i hi⟩
theorem FrR.alloc (h : FrR rb w w') (o : Obj) : FrR rb w (w'.alloc o) := h.trans (FrR.of_below ((Below.refl _ _).alloc (Nat.le_refl _) o))
theorem FrR.drew (h : FrR rb w w') : FrR rb w w'.drew := ⟨h.os, h.tape, h.output, h.size, h.block⟩
theorem FrR.old (h : FrR rb w w') (hn : rb ≤ w.heap.size) : Below rb w w' := ⟨h.os, h.tape, h.output, h.size, fun i hi => h.block i (by omega) (by omega)⟩
theorem FrR.blk (h : FrR rb w w') {g : Nat} {t : TypeId} {cs : Array Value} (hg : Blk w g t cs) (hw : g ≠ rb) : Blk w' g t cs := (h.block g hg.lt hw).trans hg
theorem FrR.set_ (h : FrR rb w w') {q : Addr} (hq : q.block = rb ∨ w.heap.size ≤ q.block) (u : Value) : FrR rb w (w'.setCell q u) :=
  ⟨h.os, h.tape, h.output, by simpa [World.setCell] using h.size, fun i hi hc => (Below.heap_setCell _ _ _ _ (by rcases hq with hq | hq <;> omega)).trans (h.block i hi hc)⟩
theorem FrR.own (h : FrR rb w w') {base : Nat} {e : TypeId} {size n : Nat} {v : Value} {xs : List Value} (ho : w.ownsRow base e size v n xs) (hb : rb < base) : w'.ownsRow base e size v n xs :=
  own_keep ho fun i hi => h.block i (World.ownsRow.lt ho i hi.symm).2 (by have := (World.ownsRow.lt ho i hi.symm).1; omega)
/-- The reader: its block, what stays to be read, and whether it is wrong. -/
def Rd (n₀ rb : Nat) (w : World) (s : List UInt8) (wr : Bool) : Prop :=
  ∃ v, Blk w rb 106 #[v, .bool wr] ∧ Bytes n₀ w v s ∧ n₀ ≤ rb ∧ s.length ≤ 65536
theorem Rd.lt (h : Rd n₀ rb w s wr) : rb < w.heap.size := by
  obtain ⟨v, hb, _⟩ := h
  exact hb.lt
theorem Rd.on (h : Rd n₀ rb w s wr) (hb : Below w.heap.size w w') : Rd n₀ rb w' s wr := by
  obtain ⟨v, h1, h2, h3, h4⟩ := h
  exact ⟨v, h1.on hb, h2.below (hb.mono (by have := h1.lt; omega)), h3, h4⟩
theorem Rd.alloc (h : Rd n₀ rb w s wr) (o : Obj) : Rd n₀ rb (w.alloc o) s wr := h.on ((Below.refl _ _).alloc (Nat.le_refl _) o)
theorem Rd.far (h : Rd n₀ rb w s wr) {q : Addr} (hq : rb < q.block) (u : Value) : Rd n₀ rb (w.setCell q u) s wr := by
  obtain ⟨v, h1, h2, h3, h4⟩ := h
  refine ⟨v, h1.far (by omega) u, ?_, h3, h4⟩
  exact h2.below ((Below.refl n₀ w).setCell (by omega) u)
theorem Rd.grown {row : Option Nat} (h : Rd n₀ rb w s wr) (hg : w.grownBy w' row) (hr : ∀ k, some k = row → rb < k) : Rd n₀ rb w' s wr := by
  obtain ⟨v, h1, h2, h3, h4⟩ := h
  have hlt := h1.lt
  refine ⟨v, h1.grown hg (fun e => by have := hr _ e; omega), ?_, h3, h4⟩
  exact h2.below ⟨hg.os, hg.tape, hg.output, hg.size, fun i hi => hg.block i (by omega) (fun e => by have := hr _ e; omega)⟩
theorem FrR.grown {row : Option Nat} (h : FrR rb w w') (hg : w'.grownBy w'' row) (hr : ∀ k, some k = row → w.heap.size ≤ k) : FrR rb w w'' :=
  ⟨hg.os.trans h.os, hg.tape.trans h.tape, hg.output.trans h.output, Nat.le_trans h.size hg.size, fun i hi hc => (hg.block i (Nat.lt_of_lt_of_le hi h.size) (fun e => by have := hr _ e; omega)).trans (h.block i hi hc)⟩
theorem bytes_pre {n₀ : Nat} {w : World} {A : Option Addr} {m cap n : Nat} {s : List UInt8} (h : Bytes n₀ w (.slice A m cap) s) (hn : n ≤ s.length) (A' : Option Addr) (c : Nat) (hA : s ≠ [] → A' = A) (hc : n ≤ c) : Bytes n₀ w (.slice A' n c) (s.take n) := by
  obtain ⟨A0, cap0, hv, hl, ht⟩ := h
  injection hv with h1 h2 h3
  subst h1 h2 h3
  refine ⟨A', c, by simp [Nat.min_eq_left hn], by simp; omega, fun hs => ?_⟩
  have hs0 : s ≠ [] := by rintro rfl; simp at hs
  obtain ⟨b, off, hA', hb, hc'⟩ := ht hs0
  refine ⟨b, off, by rw [hA hs0, hA'], hb, fun j hj => ?_⟩
  simp only [List.length_take] at hj
  rw [hc' j (by omega), at_take (by omega)]
set_option maxRecDepth 100000 in
set_option maxHeartbeats 2000000 in
theorem take_bad (n : Nat) (hn : s.length < n) (h : Rd n₀ rb w s wr) :
    Calls Tryz.prog 81 #[.pointer (some ⟨rb, 0, none⟩), .int .i64 (n : Int)] w fun e w' => e = .returned (.slice none 0 0) ∧ Rd n₀ rb w' s true ∧ FrR rb w w' := by
  obtain ⟨v, hB, hS, hn0, hl⟩ := h
  have HB := Lib.hid hB
  have HS := Lib.hid hS
  obtain ⟨A, cap, rfl, _, _⟩ := hS
  have c0 := hB.cell 0
  have f0 := hB.frozen 0
  have f1 := hB.frozen 1
  have c1 := hB.cell 1
  have hlt := hB.lt
  obtain ⟨m, hm⟩ : ∃ m, m = s.length := ⟨_, rfl⟩
  rw [← hm] at c0 hn
  rw [← hm] at HB HS
  have HM := Lib.hid hm
  clear hB hm
  go_enter Tryz.func81, Tryz.ntmps81
  go_wp2
  go_ret
  refine ⟨rfl, ⟨_, HB.out.set_ 1 _, HS.out.below ((Below.refl n₀ w).setCell (by omega) _), hn0, hl⟩, (FrR.refl w).set_ (q := ⟨rb, 1, none⟩) (.inl rfl) _⟩
set_option maxRecDepth 100000 in
set_option maxHeartbeats 2000000 in
theorem bytes_post {n₀ : Nat} {w : World} {b off : Nat} {sp : Option Nat} {m cap n : Nat} {s : List UInt8} (h : Bytes n₀ w (.slice (some ⟨b, off, sp⟩) m cap) s) (hn : n ≤ m) (A : Option Addr) (c : Nat) (hA : n < m → A = some ((⟨b, off, sp⟩ : Addr).add n)) (hc : m - n ≤ c) : Bytes n₀ w (.slice A (m - n) c) (s.drop n) := by
  obtain ⟨A0, cap0, hv, hl, ht⟩ := h
  injection hv with h1 h2 h3
  subst h2 h3
  refine ⟨A, c, by rw [List.length_drop], by rw [List.length_drop]; exact hc, fun hs => ?_⟩
  have hlt : n < s.length := by
    rcases Nat.lt_or_ge n s.length with h' | h'
    · exact h'
    · exact absurd (List.drop_of_length_le h') hs
  obtain ⟨b', off', hA', hb, hc'⟩ := ht (by rintro rfl; simp at hlt)
  rw [hA'] at h1
  injection h1 with h1
  injection h1 with h4 h5 h6
  subst h4 h5 h6
  have hadd : (⟨b, off, none⟩ : Addr).add n = ⟨b, off + n, none⟩ := by unfold Addr.add; split <;> simp_all
  refine ⟨b, off + n, by rw [hA hlt, hadd], hb, fun j hj => ?_⟩
  rw [List.length_drop] at hj
  rw [Nat.add_assoc, hc' (n + j) (by omega), at_drop]
theorem Bytes.noneE {n₀ : Nat} {w : World} {m cap : Nat} {s : List UInt8} (h : Bytes n₀ w (.slice none m cap) s) : s = [] ∧ m = 0 := by
  obtain ⟨A0, cap0, hv, hl, ht⟩ := h
  injection hv with h1 h2 h3
  have : s = [] := by
    rcases s with _ | ⟨a, s⟩
    · rfl
    · obtain ⟨_, _, hA, _⟩ := ht (by simp)
      rw [← h1] at hA
      cases hA
  subst this
  exact ⟨rfl, h2⟩
theorem take_ok (n : Nat) (hn : n ≤ s.length) (h : Rd n₀ rb w s wr) :
    Calls Tryz.prog 81 #[.pointer (some ⟨rb, 0, none⟩), .int .i64 (n : Int)] w fun e w' => ∃ v, e = .returned v ∧ Bytes n₀ w' v (s.take n) ∧ Rd n₀ rb w' (s.drop n) wr ∧ FrR rb w w' := by
  obtain ⟨v, hB, hS, hn0, hl⟩ := h
  have HB := Lib.hid hB
  have HS := Lib.hid hS
  obtain ⟨A, cap, rfl, hcap, _⟩ := hS
  have c0 := hB.cell 0
  have f0 := hB.frozen 0
  have hlt := hB.lt
  obtain ⟨m, hm⟩ : ∃ m, m = s.length := ⟨_, rfl⟩
  rw [← hm] at c0 hn hcap HB HS hl
  have HM := Lib.hid hm
  clear hB hm
  have fin : ∀ (v u : Value), Bytes n₀ w v (s.take n) → Bytes n₀ w u (s.drop n) → Bytes n₀ (w.setCell ⟨rb, 0, none⟩ u) v (s.take n) ∧ Rd n₀ rb (w.setCell ⟨rb, 0, none⟩ u) (s.drop n) wr ∧ FrR rb w (w.setCell ⟨rb, 0, none⟩ u) := fun v u h1 h2 =>
    ⟨h1.below ((Below.refl n₀ w).setCell hn0 _), ⟨u, by have := HB.out.set_ 0 u; simpa using this, h2.below ((Below.refl n₀ w).setCell hn0 _), hn0, by rw [List.length_drop, ← HM.out]; omega⟩, (FrR.refl w).set_ (q := ⟨rb, 0, none⟩) (.inl rfl) _⟩
  have FIN := Lib.hid fin
  have HP := fun c hc => bytes_pre HS.out (by rw [← HM.out]; exact hn) A c (fun _ => rfl) hc
  have HP := Lib.hid HP
  clear fin
  cases A with
  | none =>
    obtain ⟨he, rfl⟩ := HS.out.noneE
    have HE := Lib.hid he
    obtain rfl : n = 0 := by omega
    clear he
    go_enter Tryz.func81, Tryz.ntmps81
    go_wp2
    go_ret
    exact ⟨_, rfl, FIN.out _ _ (HP.out _ (by omega)) (by rw [HE.out]; exact ⟨_, _, rfl, Nat.zero_le _, fun h => absurd rfl h⟩)⟩
  | some a =>
    obtain ⟨b, off, sp⟩ := a
    by_cases hc : n < cap
    · go_enter Tryz.func81, Tryz.ntmps81
      go_wp2
      go_ret
      exact ⟨_, rfl, FIN.out _ _ (HP.out _ (by omega)) (bytes_post HS.out hn _ _ (fun _ => rfl) (by omega))⟩
    · obtain rfl : n = cap := by omega
      obtain rfl : m = n := by omega
      go_enter Tryz.func81, Tryz.ntmps81
      go_wp2
      go_ret
      refine ⟨_, rfl, FIN.out _ _ (HP.out _ (by omega)) ?_⟩
      have := bytes_post HS.out (Nat.le_refl m) (some ⟨b, off, sp⟩) 0 (fun h => by omega) (by omega)
      simpa using this
end Go.Proofs.YtefgobmpleoafaaGreat
