/- Layer 12 in plain mathematics: a tape, what each call makes of it, and the document's tape. No program is imported. -/
import Derived.Test.YtjnhjpjebklalaaFrM
namespace Go.Proofs.Ytjnhjpjebklalaa

/-- Bytes of which those from a on, k of them, are turned by those of t. -/
def xr (s : List UInt8) (a k : Nat) (t : List UInt8) : List UInt8 := s.mapIdx fun i c => if a ≤ i ∧ i < a + k then c ^^^ t.getD (i - a) 0 else c
theorem xr_len (s : List UInt8) (a k : Nat) (t : List UInt8) : (xr s a k t).length = s.length := by simp [xr]
theorem xr_zero (s : List UInt8) (a : Nat) (t : List UInt8) : xr s a 0 t = s := by
  apply List.ext_getElem?
  intro i
  simp only [xr, List.getElem?_mapIdx]
  have hn : ¬ (a ≤ i ∧ i < a + 0) := by omega
  simp only [hn, if_false]
  cases s[i]? <;> rfl
theorem xr_get {s : List UInt8} {a k : Nat} {t : List UInt8} {i : Nat} (h : i < s.length) : (xr s a k t)[i]? = some (if a ≤ i ∧ i < a + k then s[i] ^^^ t.getD (i - a) 0 else s[i]) := by
  simp [xr, h]
theorem xr_at {s : List UInt8} {a k : Nat} {t : List UInt8} (h : a + k < s.length) : at_ (xr s a k t) (a + k) = at_ s (a + k) := by
  simp only [at_, List.getD_eq_getElem?_getD]
  rw [xr_get h, if_neg (by omega)]
  simp [h]
theorem xr_succ {s : List UInt8} {a k : Nat} {t : List UInt8} (h : a + k < s.length) : xr s a (k + 1) t = (xr s a k t).set (a + k) (s[a + k] ^^^ t.getD k 0) := by
  apply List.ext_getElem?
  intro i
  by_cases hi : i < s.length
  · rw [xr_get hi]
    by_cases he : i = a + k
    · subst he
      rw [if_pos (by omega), List.getElem?_set_self (by rw [xr_len]; exact h)]
      simp
    · rw [List.getElem?_set_ne (by omega), xr_get hi]
      congr 1
      by_cases hc : a ≤ i ∧ i < a + k
      · rw [if_pos hc, if_pos (by omega)]
      · rw [if_neg hc, if_neg (by omega)]
  · rw [List.getElem?_eq_none (by rw [xr_len]; omega), List.getElem?_eq_none (by rw [List.length_set, xr_len]; omega)]
/-- The first bytes stay. -/
theorem xr_low (s : List UInt8) (a k : Nat) (t : List UInt8) (j : Nat) (h : j ≤ a) : (xr s a k t).take j = s.take j := by
  apply List.ext_getElem?
  intro i
  simp only [List.getElem?_take]
  by_cases hi : i < j
  · rw [if_pos hi, if_pos hi]
    by_cases hs : i < s.length
    · rw [xr_get hs, if_neg (by omega)]
      simp [hs]
    · rw [List.getElem?_eq_none (by rw [xr_len]; omega), List.getElem?_eq_none (by omega)]
  · rw [if_neg hi, if_neg hi]
/-- Bytes turned by those of another row. -/
def xo (l t : List UInt8) : List UInt8 := l.mapIdx fun i c => c ^^^ t.getD i 0
theorem xo_len (l t : List UInt8) : (xo l t).length = l.length := by simp [xo]
theorem xo_nil (l : List UInt8) : xo l [] = l := by
  apply List.ext_getElem?
  intro i
  simp only [xo, List.getElem?_mapIdx]
  cases l[i]? <;> simp
theorem xo_snoc (l : List UInt8) (c : UInt8) (t : List UInt8) : xo (l ++ [c]) t = xo l t ++ [c ^^^ t.getD l.length 0] := by
  simp [xo, List.mapIdx_append]
theorem xo_take_succ (l t : List UInt8) (k : Nat) (h : k < l.length) : xo (l.take (k + 1)) t = xo (l.take k) t ++ [l[k] ^^^ t.getD k 0] := by
  rw [take_snoc l k h, xo_snoc, List.length_take, Nat.min_eq_left (by omega)]
theorem xr_xo (s l t : List UInt8) (a k : Nat) (hl : l = s.drop a) (ha : a ≤ s.length) (hk : k = min l.length t.length) : xr s a k t = s.take a ++ xo l t := by
  subst hl
  apply List.ext_getElem?
  intro i
  by_cases hi : i < s.length
  · rw [xr_get hi]
    by_cases hia : i < a
    · rw [if_neg (by omega), List.getElem?_append_left (by simp; omega), List.getElem?_take, if_pos hia]
      simp [hi]
    · rw [List.getElem?_append_right (by simp; omega)]
      simp only [xo, List.getElem?_mapIdx, List.length_take, Nat.min_eq_left ha, List.getElem?_drop]
      rw [show a + (i - a) = i by omega, List.getElem?_eq_getElem hi]
      simp only [Option.map_some]
      congr 1
      by_cases hc : i < a + k
      · rw [if_pos ⟨by omega, hc⟩]
      · rw [if_neg (by omega)]
        have : t.length ≤ i - a := by
          rw [List.length_drop] at hk
          omega
        simp [List.getD_eq_getElem?_getD, List.getElem?_eq_none this]
  · rw [List.getElem?_eq_none (by rw [xr_len]; omega), List.getElem?_eq_none (by simp [xo_len]; omega)]

/-- A tape. -/
structure Tp where
  bs : List UInt8
  room : Int
  safe : Nat
  left : Int
  down : Bool
/-- What any tape is like. -/
structure Tp.ok (T : Tp) : Prop where
  safe : T.safe ≤ T.bs.length
  fits : (T.bs.length : Int) ≤ T.room
  room : T.room ≤ 1048576
  left : -9223372036854775808 ≤ T.left ∧ T.left ≤ 9223372036854775807
def Tp.new (room : Int) : Tp := ⟨[], room, 0, -1, false⟩
theorem Tp.new_ok {room : Int} (h : 0 ≤ room) (h' : room ≤ 1048576) : (Tp.new room).ok := ⟨Nat.le_refl _, h, h', by show -9223372036854775808 ≤ (-1 : Int) ∧ (-1 : Int) ≤ 9223372036854775807; decide⟩
/-- A call that counts: its answer (0, or 40), and the tape behind it. -/
def Tp.spendE (T : Tp) : Nat := if T.left = 0 then 40 else 0
def Tp.spent (T : Tp) : Tp := if T.left = 0 then { T with down := true } else if 0 < T.left then { T with left := T.left - 1 } else T
def Tp.kept (T : Tp) (n : Nat) : Tp := { T with bs := T.bs.take n, safe := n }
def Tp.more (T : Tp) (b : List UInt8) : Tp := { T with bs := T.bs ++ b }
def Tp.appE (T : Tp) (b : List UInt8) : Nat := if T.down then 40 else if T.room - (T.bs.length : Int) < (b.length : Int) then 41 else T.spendE
def Tp.app (T : Tp) (b : List UInt8) : Tp := if T.down then T else if T.room - (T.bs.length : Int) < (b.length : Int) then T else T.spent.more b
def Tp.syncE (T : Tp) : Nat := if T.down then 40 else T.spendE
def Tp.sync (T : Tp) : Tp := if T.down then T else if T.left = 0 then T.spent else T.spent.kept T.bs.length
def Tp.trimE (T : Tp) (n : Int) : Nat := if T.down then 40 else if n < 0 ∨ (T.bs.length : Int) < n then 13 else T.spendE
def Tp.trim (T : Tp) (n : Int) : Tp := if T.down then T else if n < 0 ∨ (T.bs.length : Int) < n then T else if T.left = 0 then T.spent else T.spent.kept n.toNat
def Tp.arm (T : Tp) (n : Int) : Tp := { T with left := n }
/-- How many bytes that aren't safe a crash leaves. -/
def Tp.stays (T : Tp) (keep : Int) : Nat := min keep.toNat (T.bs.length - T.safe)
def Tp.crash (T : Tp) (keep : Int) (t : List UInt8) : Tp := ⟨T.bs.take T.safe ++ xo ((T.bs.drop T.safe).take (T.stays keep)) t, T.room, T.safe + T.stays keep, -1, false⟩
section
variable {T : Tp}
theorem Tp.spent_bs : T.spent.bs = T.bs := by unfold Tp.spent; split <;> (try split) <;> rfl
theorem Tp.spent_room : T.spent.room = T.room := by unfold Tp.spent; split <;> (try split) <;> rfl
theorem Tp.spent_safe : T.spent.safe = T.safe := by unfold Tp.spent; split <;> (try split) <;> rfl
theorem Tp.ok.spent (h : T.ok) : T.spent.ok := by
  unfold Tp.spent
  split
  · exact ⟨h.safe, h.fits, h.room, h.left⟩
  · split
    · exact ⟨h.safe, h.fits, h.room, by have := h.left; simp only; omega⟩
    · exact h
theorem Tp.ok.kept (h : T.ok) {n : Nat} (hn : n ≤ T.bs.length) : (T.kept n).ok := ⟨by simp [Tp.kept, hn], by have := h.fits; simp [Tp.kept]; omega, h.room, h.left⟩
theorem Tp.ok.more (h : T.ok) {b : List UInt8} (hb : (T.bs.length : Int) + b.length ≤ T.room) : (T.more b).ok := ⟨by have := h.safe; simp [Tp.more]; omega, by simp [Tp.more]; omega, h.room, h.left⟩
theorem Tp.ok.app (h : T.ok) (b : List UInt8) : (T.app b).ok := by
  unfold Tp.app
  split
  · exact h
  · split
    · exact h
    · exact h.spent.more (by rw [Tp.spent_bs, Tp.spent_room]; omega)
theorem Tp.ok.sync (h : T.ok) : T.sync.ok := by
  unfold Tp.sync
  split
  · exact h
  · split
    · exact h.spent
    · exact h.spent.kept (by rw [Tp.spent_bs]; omega)
theorem Tp.ok.trim (h : T.ok) (n : Int) : (T.trim n).ok := by
  unfold Tp.trim
  split
  · exact h
  · split
    · exact h
    · split
      · exact h.spent
      · exact h.spent.kept (by rw [Tp.spent_bs]; omega)
theorem Tp.ok.arm (h : T.ok) {n : Int} (hn : -9223372036854775808 ≤ n ∧ n ≤ 9223372036854775807) : (T.arm n).ok := ⟨h.safe, h.fits, h.room, hn⟩
theorem Tp.crash_len (h : T.ok) (keep : Int) (t : List UInt8) : (T.crash keep t).bs.length = T.safe + T.stays keep := by
  have := h.safe
  simp only [Tp.crash, List.length_append, xo_len, List.length_take, List.length_drop, Tp.stays]
  omega
theorem Tp.ok.crash (h : T.ok) (keep : Int) (t : List UInt8) : (T.crash keep t).ok := by
  have h1 := Tp.crash_len h keep t
  have h2 := h.safe
  have h3 := h.fits
  have h4 : T.stays keep ≤ T.bs.length - T.safe := by unfold Tp.stays; omega
  exact ⟨by rw [h1]; exact Nat.le_refl _, by rw [h1]; show ((T.safe + T.stays keep : Nat) : Int) ≤ T.room; omega, h.room, by show -9223372036854775808 ≤ (-1 : Int) ∧ (-1 : Int) ≤ 9223372036854775807; decide⟩
end

/-- A step. -/
structure Op12 where
  k : Int
  n : Int
  d : List UInt8
/-- A step of the program. -/
def Tp.does (T : Tp) (o : Op12) : Tp := if o.k = 1 then T.app o.d else if o.k = 2 then T.sync else if o.k = 3 then T.trim o.n else if o.k = 4 then T.arm o.n else if o.k = 5 then T.crash o.n o.d else T
def Tp.doesE (T : Tp) (o : Op12) : Nat := if o.k = 1 then T.appE o.d else if o.k = 2 then T.syncE else if o.k = 3 then T.trimE o.n else 0
theorem Tp.ok.does {T : Tp} (h : T.ok) {o : Op12} (hn : -9223372036854775808 ≤ o.n ∧ o.n ≤ 9223372036854775807) : (T.does o).ok := by
  unfold Tp.does
  split
  · exact h.app _
  · split
    · exact h.sync
    · split
      · exact h.trim _
      · split
        · exact h.arm hn
        · split
          · exact h.crash _ _
          · exact h

/-- The document's tape. -/
structure Tw where
  safe : List UInt8
  loose : List UInt8
  room : Int
  left : Int
  armed : Bool
  down : Bool
def Tw.new (room : Int) : Tw := ⟨[], [], room, 0, false, false⟩
def Tw.fallsE (W : Tw) : Bool := W.armed && decide (W.left = 0)
def Tw.fallen (W : Tw) : Tw := if W.armed then if W.left = 0 then { W with armed := false, down := true } else { W with left := W.left - 1 } else W
def Tw.stays (W : Tw) (keep : Int) : Nat := if 0 < keep then min keep.toNat W.loose.length else 0
def Tw.stepE (W : Tw) (o : Op12) : Nat :=
  if o.k = 4 then 0 else if o.k = 5 then 0 else if o.k < 1 ∨ 5 < o.k then 0 else if W.down then 40
  else if o.k = 1 ∧ W.room - ((W.safe ++ W.loose).length : Int) < (o.d.length : Int) then 41
  else if o.k = 3 ∧ (o.n < 0 ∨ ((W.safe ++ W.loose).length : Int) < o.n) then 13
  else if W.fallsE then 40 else 0
def Tw.step (W : Tw) (o : Op12) : Tw :=
  if o.k = 4 then { W with armed := decide (0 ≤ o.n), left := o.n }
  else if o.k = 5 then { W with safe := W.safe ++ xo (W.loose.take (W.stays o.n)) o.d, loose := [], armed := false, down := false }
  else if o.k < 1 ∨ 5 < o.k then W else if W.down then W
  else if o.k = 1 ∧ W.room - ((W.safe ++ W.loose).length : Int) < (o.d.length : Int) then W
  else if o.k = 3 ∧ (o.n < 0 ∨ ((W.safe ++ W.loose).length : Int) < o.n) then W
  else if o.k = 1 then { W.fallen with loose := W.loose ++ o.d }
  else if W.fallsE then W.fallen
  else if o.k = 2 then { W.fallen with safe := W.safe ++ W.loose, loose := [] }
  else { W.fallen with safe := (W.safe ++ W.loose).take o.n.toNat, loose := [] }
/-- The program's tape is the document's. -/
structure Alike (T : Tp) (W : Tw) : Prop where
  bs : T.bs = W.safe ++ W.loose
  safe : T.safe = W.safe.length
  room : T.room = W.room
  down : T.down = W.down
  armed : T.down = false → W.armed = decide (0 ≤ T.left) ∧ (W.armed = true → W.left = T.left)
theorem Alike.new (room : Int) : Alike (Tp.new room) (Tw.new room) := ⟨rfl, rfl, rfl, rfl, fun _ => ⟨rfl, fun h => by cases h⟩⟩
theorem Alike.falls {T : Tp} {W : Tw} (h : Alike T W) (hd : T.down = false) : W.fallsE = decide (T.left = 0) := by
  obtain ⟨h1, h2⟩ := h.armed hd
  unfold Tw.fallsE
  by_cases h0 : 0 ≤ T.left
  · rw [decide_eq_true h0] at h1
    rw [h1, h2 h1, Bool.true_and]
  · rw [decide_eq_false h0] at h1
    rw [h1, Bool.false_and, decide_eq_false (by omega)]
theorem Alike.spent {T : Tp} {W : Tw} (h : Alike T W) (hd : T.down = false) : Alike T.spent W.fallen := by
  obtain ⟨h1, h2⟩ := h.armed hd
  unfold Tp.spent Tw.fallen
  by_cases h0 : 0 ≤ T.left
  · rw [decide_eq_true h0] at h1
    have h3 := h2 h1
    rw [if_pos h1]
    by_cases h4 : T.left = 0
    · rw [if_pos h4, if_pos (by omega)]
      exact ⟨h.bs, h.safe, h.room, rfl, fun h => by cases h⟩
    · rw [if_neg h4, if_pos (by omega), if_neg (by omega)]
      refine ⟨h.bs, h.safe, h.room, h.down, fun _ => ⟨?_, fun _ => ?_⟩⟩
      · simp only; rw [h1, decide_eq_true (by omega)]
      · simp only; omega
  · rw [decide_eq_false h0] at h1
    rw [if_neg (by omega), if_neg (by omega), if_neg (by rw [h1]; simp)]
    exact h
theorem Tw.fallen_safe (W : Tw) : W.fallen.safe = W.safe := by unfold Tw.fallen; split <;> (try split) <;> rfl
theorem Tw.fallen_loose (W : Tw) : W.fallen.loose = W.loose := by unfold Tw.fallen; split <;> (try split) <;> rfl
theorem Alike.more {T : Tp} {W : Tw} (h : Alike T W) (b : List UInt8) : Alike (T.more b) { W with loose := W.loose ++ b } :=
  ⟨by simp [Tp.more, h.bs], h.safe, h.room, h.down, h.armed⟩
theorem Alike.kept {T : Tp} {W : Tw} (h : Alike T W) {n : Nat} (hn : n ≤ T.bs.length) : Alike (T.kept n) { W with safe := (W.safe ++ W.loose).take n, loose := [] } :=
  ⟨by simp [Tp.kept, h.bs], by have := h.bs; simp only [Tp.kept, List.length_take]; rw [← this]; omega, h.room, h.down, h.armed⟩
theorem Alike.step {T : Tp} {W : Tw} (h : Alike T W) (o : Op12) : T.doesE o = W.stepE o ∧ Alike (T.does o) (W.step o) := by
  obtain ⟨k, n, d⟩ := o
  unfold Tp.doesE Tp.does Tw.stepE Tw.step
  simp only
  by_cases h4 : k = 4
  · subst h4
    simp only [if_true, Int.reduceEq, if_false]
    exact ⟨trivial, h.bs, h.safe, h.room, h.down, fun _ => ⟨rfl, fun _ => rfl⟩⟩
  by_cases h5 : k = 5
  · subst h5
    simp only [if_true, Int.reduceEq, if_false]
    refine ⟨trivial, ?_, ?_, h.room, rfl, fun _ => ⟨rfl, fun h => by cases h⟩⟩
    · simp only [Tp.crash, h.bs, h.safe, List.take_left, List.drop_left]
      have e : T.stays n = W.stays n := by
        simp only [Tp.stays, Tw.stays, h.bs, h.safe, List.length_append]
        split <;> omega
      rw [e, List.append_nil]
    · have h1 := h.bs
      simp only [Tp.crash, Tp.stays, Tw.stays, List.length_append, xo_len, List.length_take, h.safe, h.bs]
      split <;> omega
  rw [if_neg h4, if_neg h5, if_neg h4, if_neg h5]
  rw [if_neg h4, if_neg h5]
  by_cases hk : k < 1 ∨ 5 < k
  · rw [if_pos hk, if_pos hk, if_neg (by omega), if_neg (by omega), if_neg (by omega), if_neg (by omega), if_neg (by omega), if_neg (by omega)]
    exact ⟨rfl, h⟩
  rw [if_neg hk, if_neg hk]
  have hdd := h.down
  have hl : ((W.safe ++ W.loose).length : Int) = (T.bs.length : Int) := by rw [h.bs]
  rw [hl]
  rcases Bool.eq_false_or_eq_true W.down with hd | hd
  · rw [if_pos hd, if_pos hd]
    rw [hd] at hdd
    unfold Tp.appE Tp.app Tp.syncE Tp.sync Tp.trimE Tp.trim
    rw [if_pos hdd, if_pos hdd, if_pos hdd, if_pos hdd, if_pos hdd, if_pos hdd]
    rcases (show k = 1 ∨ k = 2 ∨ k = 3 by omega) with rfl | rfl | rfl
    · simp only [if_true]; exact ⟨trivial, h⟩
    · simp only [if_true, Int.reduceEq, if_false]; exact ⟨trivial, h⟩
    · simp only [if_true, Int.reduceEq, if_false]; exact ⟨trivial, h⟩
  have hn : ¬ W.down = true := by rw [hd]; simp
  have hT : T.down = false := by rw [hdd, hd]
  have hTn : ¬ T.down = true := by rw [hT]; simp
  have hf := h.falls hT
  have hs := h.spent hT
  have hsE : T.spendE = if W.fallsE = true then 40 else 0 := by
    unfold Tp.spendE
    rw [hf]
    by_cases h0 : T.left = 0
    · rw [if_pos h0, if_pos (decide_eq_true h0)]
    · rw [if_neg h0, if_neg (by simpa using h0)]
  rw [if_neg hn, if_neg hn]
  unfold Tp.appE Tp.app Tp.syncE Tp.sync Tp.trimE Tp.trim
  rw [if_neg hTn, if_neg hTn, if_neg hTn, if_neg hTn, if_neg hTn, if_neg hTn]
  rcases (show k = 1 ∨ k = 2 ∨ k = 3 by omega) with rfl | rfl | rfl
  · simp only [if_true, true_and, Int.reduceEq, false_and, if_false]
    rw [← h.room]
    by_cases hr : T.room - (T.bs.length : Int) < (d.length : Int)
    · rw [if_pos hr, if_pos hr, if_pos hr, if_pos hr]
      exact ⟨rfl, h⟩
    · rw [if_neg hr, if_neg hr, if_neg hr, if_neg hr]
      refine ⟨hsE, ?_⟩
      have := hs.more d
      rwa [Tw.fallen_loose] at this
  · simp only [if_true, Int.reduceEq, false_and, if_false]
    refine ⟨hsE, ?_⟩
    rw [hf]
    by_cases h0 : T.left = 0
    · rw [if_pos h0, if_pos (decide_eq_true h0)]
      exact hs
    · rw [if_neg h0, if_neg (by simpa using h0)]
      have := hs.kept (n := T.bs.length) (by rw [Tp.spent_bs]; exact Nat.le_refl _)
      rw [Tw.fallen_safe, Tw.fallen_loose, h.bs, List.take_length] at this
      rw [h.bs]
      exact this
  · simp only [if_true, Int.reduceEq, false_and, if_false, true_and]
    by_cases hr : n < 0 ∨ (T.bs.length : Int) < n
    · rw [if_pos hr, if_pos hr, if_pos hr, if_pos hr]
      exact ⟨rfl, h⟩
    · rw [if_neg hr, if_neg hr, if_neg hr, if_neg hr]
      refine ⟨hsE, ?_⟩
      rw [hf]
      by_cases h0 : T.left = 0
      · rw [if_pos h0, if_pos (decide_eq_true h0)]
        exact hs
      · rw [if_neg h0, if_neg (by simpa using h0)]
        have := hs.kept (n := n.toNat) (by rw [Tp.spent_bs]; omega)
        rwa [Tw.fallen_safe, Tw.fallen_loose] at this
end Go.Proofs.Ytjnhjpjebklalaa
