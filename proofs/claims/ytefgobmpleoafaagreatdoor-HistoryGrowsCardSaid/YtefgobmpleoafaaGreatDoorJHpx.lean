/- Joined: HpM, HpD, HpE, HpO. -/
import Derived.Test.YtefgobmpleoafaaGreatDoorJRa
import Derived.Test.YtefgobmpleoafaaGreatDoorJRb
/- Entries in plain mathematics (of layer 11). -/
namespace Go.Proofs.YtefgobmpleoafaaGreatDoor
structure En where
  vi : Int
  cl : Int
  re : Int
  d : Dl
def inR (lo hi n : Int) : Bool := decide (lo ≤ n ∧ n ≤ hi)
def Dl.okP (d : Dl) : Bool := [d.de, d.cl, d.fu, d.st].all (inR (-1) 1099511627776) && decide (d.put.length ≤ 16) && d.put.all Ru.ok && decide (d.drop.length ≤ 16) && d.drop.all (inR 1 1099511627776)
def En.ok (e : En) : Bool := inR 0 1099511627776 e.vi && inR 1 1099511627776 e.cl && inR 1 1099511627776 e.re && e.d.okP
theorem inR_iff {lo hi n : Int} : inR lo hi n = true ↔ lo ≤ n ∧ n ≤ hi := by simp [inR]
theorem Dl.okP_iff {d : Dl} : d.okP = true ↔ ((-1 ≤ d.de ∧ d.de ≤ 1099511627776) ∧ (-1 ≤ d.cl ∧ d.cl ≤ 1099511627776) ∧ (-1 ≤ d.fu ∧ d.fu ≤ 1099511627776) ∧ (-1 ≤ d.st ∧ d.st ≤ 1099511627776)) ∧ d.put.length ≤ 16 ∧ (∀ r ∈ d.put, r.ok = true) ∧ d.drop.length ≤ 16 ∧ ∀ n ∈ d.drop, 1 ≤ n ∧ n ≤ 1099511627776 := by
  simp only [Dl.okP, Bool.and_eq_true, List.all_cons, List.all_nil, decide_eq_true_eq, List.all_eq_true, inR_iff, and_assoc, Bool.and_true]
theorem En.ok_iff {e : En} : e.ok = true ↔ (0 ≤ e.vi ∧ e.vi ≤ 1099511627776) ∧ (1 ≤ e.cl ∧ e.cl ≤ 1099511627776) ∧ (1 ≤ e.re ∧ e.re ≤ 1099511627776) ∧ e.d.okP = true := by
  simp only [En.ok, Bool.and_eq_true, inR_iff, and_assoc]
end Go.Proofs.YtefgobmpleoafaaGreatDoor

/- Entries in memory. -/
namespace Go.Proofs.YtefgobmpleoafaaGreatDoor
open Go.RowKit
variable {w w' : World} {n₀ n₁ : Nat}

def En.cells (e : En) (p d : Value) : List Value := [.int .i64 e.vi, .int .i64 e.cl, .int .i64 e.re, .int .i64 e.d.de, .int .i64 e.d.cl, .int .i64 e.d.fu, .int .i64 e.d.st, p, d]
abbrev En.val (e : En) (p d : Value) : Value := .agg #[.int .i64 e.vi, .int .i64 e.cl, .int .i64 e.re, .int .i64 e.d.de, .int .i64 e.d.cl, .int .i64 e.d.fu, .int .i64 e.d.st, p, d]
abbrev Dl.val (x : Dl) (p d : Value) : Value := .agg #[.int .i64 x.de, .int .i64 x.cl, .int .i64 x.fu, .int .i64 x.st, p, d]
/-- The nine cells of an entry. -/
def EnAt (w : World) (b o : Nat) (e : En) (p d : Value) : Prop :=
  w.cell? ⟨b, o, none⟩ = some (.int .i64 e.vi) ∧ w.cell? ⟨b, o + 1, none⟩ = some (.int .i64 e.cl) ∧ w.cell? ⟨b, o + 2, none⟩ = some (.int .i64 e.re) ∧ w.cell? ⟨b, o + 3, none⟩ = some (.int .i64 e.d.de) ∧ w.cell? ⟨b, o + 4, none⟩ = some (.int .i64 e.d.cl) ∧ w.cell? ⟨b, o + 5, none⟩ = some (.int .i64 e.d.fu) ∧ w.cell? ⟨b, o + 6, none⟩ = some (.int .i64 e.d.st) ∧ w.cell? ⟨b, o + 7, none⟩ = some p ∧ w.cell? ⟨b, o + 8, none⟩ = some d
theorem EnAt.below {b o : Nat} {e : En} {p d : Value} (h : EnAt w b o e p d) (hb : b < n₀) (hB : Below n₀ w w') : EnAt w' b o e p d := by
  obtain ⟨h0, h1, h2, h3, h4, h5, h6, h7, h8⟩ := h
  exact ⟨(hB.cell (p := ⟨b, o, none⟩) hb).trans h0, (hB.cell (p := ⟨b, o + 1, none⟩) hb).trans h1, (hB.cell (p := ⟨b, o + 2, none⟩) hb).trans h2, (hB.cell (p := ⟨b, o + 3, none⟩) hb).trans h3, (hB.cell (p := ⟨b, o + 4, none⟩) hb).trans h4, (hB.cell (p := ⟨b, o + 5, none⟩) hb).trans h5, (hB.cell (p := ⟨b, o + 6, none⟩) hb).trans h6, (hB.cell (p := ⟨b, o + 7, none⟩) hb).trans h7, (hB.cell (p := ⟨b, o + 8, none⟩) hb).trans h8⟩
/-- A slice value that reads as a list of entries. -/
def EntsV (n₀ : Nat) (w : World) (v : Value) (l : List En) : Prop :=
  ∃ A cap, v = .slice A l.length cap ∧ l.length ≤ cap ∧ (l ≠ [] → ∃ b off, A = some ⟨b, off, none⟩ ∧ b < n₀ ∧ ∀ i e, l[i]? = some e → ∃ p d, EnAt w b (off + i * 9) e p d ∧ RulesV n₀ w p e.d.put ∧ Row n₀ w d (zI e.d.drop))
theorem EntsV.below {v : Value} {l : List En} (h : EntsV n₀ w v l) (hB : Below n₀ w w') : EntsV n₀ w' v l := by
  obtain ⟨A, cap, hv, hc, h⟩ := h
  refine ⟨A, cap, hv, hc, fun hs => ?_⟩
  obtain ⟨b, off, hA, hb, ht⟩ := h hs
  refine ⟨b, off, hA, hb, fun i e he => ?_⟩
  obtain ⟨p, d, h1, h2, h3⟩ := ht i e he
  exact ⟨p, d, h1.below hb hB, h2.below hB, h3.below hB⟩
theorem EntsV.more {v : Value} {l : List En} (h : EntsV n₀ w v l) (hn : n₀ ≤ n₁) : EntsV n₁ w v l := by
  obtain ⟨A, cap, hv, hc, h⟩ := h
  refine ⟨A, cap, hv, hc, fun hs => ?_⟩
  obtain ⟨b, off, hA, hb, ht⟩ := h hs
  refine ⟨b, off, hA, by omega, fun i e he => ?_⟩
  obtain ⟨p, d, h1, h2, h3⟩ := ht i e he
  exact ⟨p, d, h1, h2.more hn, h3.more hn⟩
theorem EntsV.on {v : Value} {l : List En} (h : EntsV w.heap.size w v l) (hB : Below w.heap.size w w') : EntsV w'.heap.size w' v l := (h.below hB).more hB.size
theorem EntsV.nil (n₀ : Nat) (w : World) : EntsV n₀ w (.slice none 0 0) [] := ⟨none, 0, rfl, Nat.le_refl _, fun h => absurd rfl h⟩
theorem EntsV.form {v : Value} {l : List En} (h : EntsV n₀ w v l) : ∃ A cap, v = .slice A l.length cap := by
  obtain ⟨A, cap, hv, _⟩ := h
  exact ⟨A, cap, hv⟩
theorem EntsV.at_ {n cap k : Nat} {A : Option Addr} {l : List En} (h : EntsV n₀ w (.slice A n cap) l) (hk : k < l.length) :
    ∃ b off p d, A = some ⟨b, off, none⟩ ∧ b < n₀ ∧ EnAt w b (off + k * 9) l[k] p d ∧ RulesV n₀ w p l[k].d.put ∧ Row n₀ w d (zI l[k].d.drop) := by
  obtain ⟨A', cap', hv, _, h⟩ := h
  have : A = A' := by injection hv
  subst this
  obtain ⟨b, off, hA, hb, ht⟩ := h (by rintro rfl; simp at hk)
  obtain ⟨p, d, h1, h2, h3⟩ := ht k l[k] (List.getElem?_eq_getElem hk)
  exact ⟨b, off, p, d, hA, hb, h1, h2, h3⟩
theorem RulesV.len {A : Option Addr} {n c : Nat} {l : List Ru} (h : RulesV n₀ w (.slice A n c) l) : n = l.length := by
  obtain ⟨_, _, hv, _⟩ := h
  injection hv
theorem Row.len {A : Option Addr} {n c : Nat} {l : List Int} (h : Row n₀ w (.slice A n c) (zI l)) : n = l.length := by
  obtain ⟨_, _, hv, _⟩ := h
  injection hv with _ h1 _
  rw [h1, zI_len]
end Go.Proofs.YtefgobmpleoafaaGreatDoor

/- Package pack: is an entry right? -/
namespace Go.Proofs.YtefgobmpleoafaaGreatDoor
open Go.RowKit
variable {w w' : World} {n₀ n₁ : Nat}

theorem pin_any (n lo hi : Int) (w : World) : Calls Tryz.prog 34 #[.int .i64 n, .int .i64 lo, .int .i64 hi] w fun e w' => e = .returned (.bool (inR lo hi n)) ∧ w' = w := by
  go_enter Tryz.func34, Tryz.ntmps34
  unfold inR
  by_cases h1 : lo ≤ n
  · by_cases h2 : n ≤ hi
    · rw [decide_eq_true ⟨h1, h2⟩]
      go_wp2
      go_ret
      exact ⟨rfl, rfl⟩
    · rw [decide_eq_false (fun h => h2 h.2)]
      go_wp2
      go_ret
      exact ⟨rfl, rfl⟩
  · rw [decide_eq_false (fun h => h1 h.1)]
    go_wp2
    go_ret
    exact ⟨rfl, rfl⟩
theorem Row.lit_at (w : World) (n : Nat) (h : w.heap.size = n) (cs : Array Value) (e : TypeId) (fr : Nat × Nat) : Row (n + 1) (w.alloc (.cells cs e fr)) (.slice (some ⟨n, 0, none⟩) cs.size cs.size) cs.toList := h ▸ Row.lit w cs e fr
theorem allB_take {α : Type} {f : α → Bool} {l : List α} {k : Nat} {r : α} (h : l[k]? = some r) : (l.take (k + 1)).all f = ((l.take k).all f && f r) := by
  obtain ⟨hk, rfl⟩ := List.getElem?_eq_some_iff.1 h
  rw [List.take_succ_eq_append_getElem hk, List.all_append]
  simp
theorem allB_false {α : Type} {f : α → Bool} {l : List α} {k : Nat} {r : α} (h : l[k]? = some r) (hr : f r = false) : l.all f = false := by
  rw [List.all_eq_false]
  exact ⟨r, List.mem_of_getElem? h, by simp [hr]⟩
set_option maxRecDepth 100000 in
set_option maxHeartbeats 4000000 in
theorem allWithin_any (l : List Int) (lo hi : Int) (n₀ : Nat) (v : Value) (w : World) (hV : Row n₀ w v (zI l)) (hm : l.length ≤ 1000000) :
    Calls Tryz.prog 45 #[v, .int .i64 lo, .int .i64 hi] w fun e w' => e = .returned (.bool (l.all (inR lo hi))) ∧ w' = w := by
  obtain ⟨A, cap, rfl⟩ := hV.form
  have HV := Lib.hid hV
  obtain ⟨n, hn⟩ : ∃ n, n = l.length := ⟨_, rfl⟩
  rw [zI_len] at HV ⊢
  rw [← hn] at HV hm ⊢
  have HL := Lib.hid hn
  clear hV hn
  go_enter Tryz.func45, Tryz.ntmps45
  go_wp2
  go_loop [11] (fun i => ∃ k : Nat, k ≤ n ∧ i = .int .i64 (k : Int) ∧ Hid ((l.take k).all (inR lo hi) = true)) (fun i => n - (intOf i).toNat)
  case atStart => exact ⟨0, by omega, rfl, Lib.hid rfl⟩
  case round =>
    obtain ⟨k, hk, rfl, HH⟩ := hrel
    by_cases hlt : k < n
    · have hkl : k < l.length := by rw [← HL.out]; exact hlt
      obtain ⟨b, off, rfl, hb, c0⟩ := HV.out.at_ hkl
      have HG := Lib.hid (List.getElem?_eq_getElem hkl)
      generalize l[k] = r at HG c0
      clear hkl
      cases hok : inR lo hi r
      · have HI := Lib.hid hok
        clear hok
        go_wp2_with fail
        refine (pin_any r lo hi _).mono ?_
        rintro e w1 ⟨rfl, rfl⟩
        rw [HI.out]
        go_wp2
        go_ret
        exact ⟨ret_bool (allB_false HG.out HI.out).symm, rfl⟩
      · have HI := Lib.hid hok
        clear hok
        go_wp2_with fail
        refine (pin_any r lo hi _).mono ?_
        rintro e w1 ⟨rfl, rfl⟩
        rw [HI.out]
        go_wp2
        go_round
        case rel => exact ⟨k + 1, by omega, by go_num, Lib.hid (by rw [allB_take HG.out, HH.out, HI.out]; rfl)⟩
        case measure => simp [intOf]; omega
    · obtain rfl : k = n := by omega
      go_wp2
      go_ret
      exact ⟨ret_bool (by have := HH.out; rw [List.take_of_length_le (by rw [← HL.out]; omega)] at this; exact this.symm), rfl⟩
set_option maxRecDepth 100000 in
set_option maxHeartbeats 4000000 in
theorem allRightR_any (v : Value) (l : List Ru) (w : World) (hmax : l.length ≤ 1000000) (hS : RulesV w.heap.size w v l) :
    Calls Tryz.prog 46 #[v] w fun e w' => e = .returned (.bool (l.all Ru.ok)) ∧ Below w.heap.size w w' := by
  obtain ⟨A, cap, rfl⟩ := hS.form
  go_enter Tryz.func46, Tryz.ntmps46
  go_wp2
  go_loopw [7] (fun i wr => ∃ k : Nat, k ≤ l.length ∧ i = .int .i64 k ∧ Hid ((l.take k).all Ru.ok = true) ∧ Below w.heap.size w wr) (fun i _ => l.length - (intOf i).toNat)
  case atStart => exact ⟨0, Nat.zero_le _, rfl, rfl, Below.refl _ _⟩
  case round =>
    obtain ⟨k, hk, rfl, HH, hbel⟩ := hrel
    have hsz := hbel.size
    by_cases hlt : k < l.length
    · obtain ⟨b, off, rfl, hb, c0, c1, c2, c3, c4⟩ := (hS.below hbel).at_ hlt
      have HG := Lib.hid (List.getElem?_eq_getElem hlt)
      generalize l[k] = r at HG c0 c1 c2 c3 c4
      cases hok : r.ok
      · have HI := Lib.hid hok
        clear hok
        go_wp2_with fail
        refine (ruleRight_any r _).mono ?_
        rintro e w1 ⟨rfl, hb1⟩
        rw [HI.out]
        go_wp2
        go_ret
        exact ⟨ret_bool (allB_false HG.out HI.out).symm, below_call hbel hsz hb1⟩
      · have HI := Lib.hid hok
        clear hok
        go_wp2_with fail
        refine (ruleRight_any r _).mono ?_
        rintro e w1 ⟨rfl, hb1⟩
        rw [HI.out]
        have HB := Lib.hid (below_call hbel hsz hb1)
        clear hb1
        go_wp2
        go_roundw
        case rel => exact ⟨k + 1, by omega, by go_num, Lib.hid (by rw [allB_take HG.out, HH.out, HI.out]; rfl), HB.out⟩
        case measure => simp [intOf]; omega
    · obtain rfl : k = l.length := by omega
      go_wp2
      go_ret
      exact ⟨ret_bool (by have := HH.out; rw [List.take_length] at this; exact this.symm), hbel⟩
set_option maxRecDepth 100000 in
set_option maxHeartbeats 4000000 in
theorem rightDelta_any (x : Dl) (p d : Value) (w : World) (hp : RulesV w.heap.size w p x.put) (hd : Row w.heap.size w d (zI x.drop)) :
    Calls Tryz.prog 35 #[x.val p d] w fun e w' => e = .returned (.bool x.okP) ∧ Below w.heap.size w w' := by
  obtain ⟨Ap, cp, rfl⟩ := hp.form
  obtain ⟨Ad, cd, rfl⟩ := hd.form
  obtain ⟨de, cl, fu, st, put, drop⟩ := x
  simp only at hp hd ⊢
  rw [zI_len] at hd ⊢
  obtain ⟨k, hk⟩ : ∃ k, k = Dl.okP ⟨de, cl, fu, st, put, drop⟩ := ⟨_, rfl⟩
  rw [← hk]
  unfold Dl.okP at hk
  simp only at hk
  have bel := (((Below.refl w.heap.size w).alloc (Nat.le_refl _) (.cells #[.int .i64 de, .int .i64 cl, .int .i64 fu, .int .i64 st, .slice Ap put.length cp, .slice Ad drop.length cd] 37)).alloc (by simp) (.cells #[.int .i64 de, .int .i64 cl, .int .i64 fu, .int .i64 st] 3))
  have BEL0 := Lib.hid bel
  have blk : Blk ((w.alloc (.cells #[.int .i64 de, .int .i64 cl, .int .i64 fu, .int .i64 st, .slice Ap put.length cp, .slice Ad drop.length cd] 37)).alloc (.cells #[.int .i64 de, .int .i64 cl, .int .i64 fu, .int .i64 st] 3)) w.heap.size 37 #[.int .i64 de, .int .i64 cl, .int .i64 fu, .int .i64 st, .slice Ap put.length cp, .slice Ad drop.length cd] := (Blk.new _ _ _).alloc _
  have BLK := Lib.hid blk
  have c1 := fun W n₀ v h => allWithin_any [de, cl, fu, st] (-1) 1099511627776 n₀ v W h (by simp)
  generalize List.all [de, cl, fu, st] (inR (-1) 1099511627776) = b1 at c1 hk
  have C1 := Lib.hid c1
  have c3 := fun (h : put.length ≤ 1000000) W v H => allRightR_any v put W h H
  generalize List.all put Ru.ok = b3 at c3 hk
  have C3 := Lib.hid c3
  have c5 := fun (h : drop.length ≤ 1000000) W n₀ v H => allWithin_any drop 1 1099511627776 n₀ v W H h
  generalize List.all drop (inR 1 1099511627776) = b5 at c5 hk
  have C5 := Lib.hid c5
  have HP := Lib.hid (hp.on bel)
  have HD := Lib.hid (hd.below bel)
  have hsz : w.heap.size ≤ ((w.alloc (.cells #[.int .i64 de, .int .i64 cl, .int .i64 fu, .int .i64 st, .slice Ap put.length cp, .slice Ad drop.length cd] 37)).alloc (.cells #[.int .i64 de, .int .i64 cl, .int .i64 fu, .int .i64 st] 3)).heap.size := bel.size
  clear bel blk c1 c3 c5 hp hd
  cases b1 with
  | false =>
    go_enter Tryz.func35, Tryz.ntmps35
    go_wp2_with fail
    refine (C1.out _ (w.heap.size + 1 + 1) _ (Row.lit_at _ _ (by simp) #[.int .i64 de, .int .i64 cl, .int .i64 fu, .int .i64 st] 3 (0, 0))).mono ?_
    rintro e w1 ⟨rfl, rfl⟩
    go_wp2
    go_ret
    exact ⟨ret_bool (by first | rfl | (rw [hk]; simp)), BEL0.out⟩
  | true =>
    by_cases h2 : put.length ≤ 16
    · rw [decide_eq_true h2] at hk
      have h2i : (put.length : Int) ≤ 16 := by omega
      cases b3 with
      | false =>
        go_enter Tryz.func35, Tryz.ntmps35
        go_wp2_with fail
        refine (C1.out _ (w.heap.size + 1 + 1) _ (Row.lit_at _ _ (by simp) #[.int .i64 de, .int .i64 cl, .int .i64 fu, .int .i64 st] 3 (0, 0))).mono ?_
        rintro e w1 ⟨rfl, rfl⟩
        go_wp2_with fail
        refine (C3.out (by omega) _ _ HP.out).mono ?_
        rintro e w3 ⟨rfl, hb3⟩
        have HB3 := Lib.hid (BEL0.out.trans (hb3.mono hsz))
        have l3 := (BLK.out.on hb3).cell 5
        have HD3 := Lib.hid (HD.out.below (hb3.mono hsz))
        clear hb3
        go_wp2
        go_ret
        exact ⟨ret_bool (by first | rfl | (rw [hk]; simp)), HB3.out⟩
      | true =>
        by_cases h4 : drop.length ≤ 16
        · rw [decide_eq_true h4] at hk
          have h4i : (drop.length : Int) ≤ 16 := by omega
          go_enter Tryz.func35, Tryz.ntmps35
          go_wp2_with fail
          refine (C1.out _ (w.heap.size + 1 + 1) _ (Row.lit_at _ _ (by simp) #[.int .i64 de, .int .i64 cl, .int .i64 fu, .int .i64 st] 3 (0, 0))).mono ?_
          rintro e w1 ⟨rfl, rfl⟩
          go_wp2_with fail
          refine (C3.out (by omega) _ _ HP.out).mono ?_
          rintro e w3 ⟨rfl, hb3⟩
          have HB3 := Lib.hid (BEL0.out.trans (hb3.mono hsz))
          have l3 := (BLK.out.on hb3).cell 5
          have HD3 := Lib.hid (HD.out.below (hb3.mono hsz))
          clear hb3
          go_wp2_with fail
          refine (C5.out (by omega) _ _ _ HD3.out).mono ?_
          rintro e w5 ⟨rfl, rfl⟩
          go_wp2
          go_ret
          exact ⟨ret_bool (by first | rfl | (rw [hk]; simp)), HB3.out⟩
        · rw [decide_eq_false h4] at hk
          have h4i : ¬ (drop.length : Int) ≤ 16 := by omega
          go_enter Tryz.func35, Tryz.ntmps35
          go_wp2_with fail
          refine (C1.out _ (w.heap.size + 1 + 1) _ (Row.lit_at _ _ (by simp) #[.int .i64 de, .int .i64 cl, .int .i64 fu, .int .i64 st] 3 (0, 0))).mono ?_
          rintro e w1 ⟨rfl, rfl⟩
          go_wp2_with fail
          refine (C3.out (by omega) _ _ HP.out).mono ?_
          rintro e w3 ⟨rfl, hb3⟩
          have HB3 := Lib.hid (BEL0.out.trans (hb3.mono hsz))
          have l3 := (BLK.out.on hb3).cell 5
          have HD3 := Lib.hid (HD.out.below (hb3.mono hsz))
          clear hb3
          go_wp2
          go_ret
          exact ⟨ret_bool (by first | rfl | (rw [hk]; simp)), HB3.out⟩
    · rw [decide_eq_false h2] at hk
      have h2i : ¬ (put.length : Int) ≤ 16 := by omega
      go_enter Tryz.func35, Tryz.ntmps35
      go_wp2_with fail
      refine (C1.out _ (w.heap.size + 1 + 1) _ (Row.lit_at _ _ (by simp) #[.int .i64 de, .int .i64 cl, .int .i64 fu, .int .i64 st] 3 (0, 0))).mono ?_
      rintro e w1 ⟨rfl, rfl⟩
      go_wp2
      go_ret
      exact ⟨ret_bool (by first | rfl | (rw [hk]; simp)), BEL0.out⟩
set_option maxRecDepth 100000 in
set_option maxHeartbeats 4000000 in
theorem pentry_any (x : En) (p d : Value) (w : World) (hp : RulesV w.heap.size w p x.d.put) (hd : Row w.heap.size w d (zI x.d.drop)) :
    Calls Tryz.prog 16 #[x.val p d] w fun e w' => e = .returned (.bool x.ok) ∧ Below w.heap.size w w' := by
  obtain ⟨Ap, cp, rfl⟩ := hp.form
  obtain ⟨Ad, cd, rfl⟩ := hd.form
  obtain ⟨vi, cl, re, x⟩ := x
  obtain ⟨de, dcl, fu, st, put, drop⟩ := x
  simp only at hp hd ⊢
  rw [zI_len] at hd ⊢
  obtain ⟨k, hk⟩ : ∃ k, k = En.ok ⟨vi, cl, re, ⟨de, dcl, fu, st, put, drop⟩⟩ := ⟨_, rfl⟩
  rw [← hk]
  unfold En.ok at hk
  simp only at hk
  have bel := ((Below.refl w.heap.size w).alloc (Nat.le_refl _) (.cells #[.int .i64 vi, .int .i64 cl, .int .i64 re, .int .i64 de, .int .i64 dcl, .int .i64 fu, .int .i64 st, .slice Ap put.length cp, .slice Ad drop.length cd] 39))
  have BEL0 := Lib.hid bel
  have c1 := pin_any vi 0 1099511627776
  generalize inR 0 1099511627776 vi = b1 at c1 hk
  have C1 := Lib.hid c1
  have c2 := pin_any cl 1 1099511627776
  generalize inR 1 1099511627776 cl = b2 at c2 hk
  have C2 := Lib.hid c2
  have c3 := pin_any re 1 1099511627776
  generalize inR 1 1099511627776 re = b3 at c3 hk
  have C3 := Lib.hid c3
  have c4 := fun W p d h1 h2 => rightDelta_any ⟨de, dcl, fu, st, put, drop⟩ p d W h1 h2
  generalize Dl.okP ⟨de, dcl, fu, st, put, drop⟩ = b4 at c4 hk
  have C4 := Lib.hid c4
  have HP := Lib.hid (hp.on bel)
  have HD := Lib.hid ((hd.below bel).more bel.size)
  have hsz : w.heap.size ≤ (w.alloc (.cells #[.int .i64 vi, .int .i64 cl, .int .i64 re, .int .i64 de, .int .i64 dcl, .int .i64 fu, .int .i64 st, .slice Ap put.length cp, .slice Ad drop.length cd] 39)).heap.size := bel.size
  clear bel c1 c2 c3 c4 hp hd
  cases b1 with
  | false =>
    go_enter Tryz.func16, Tryz.ntmps16
    go_wp2_with fail
    refine (C1.out _).mono ?_
    rintro e w1 ⟨rfl, rfl⟩
    go_wp2
    go_ret
    exact ⟨ret_bool (by first | rfl | (rw [hk]; simp)), BEL0.out⟩
  | true =>
    cases b2 with
    | false =>
      go_enter Tryz.func16, Tryz.ntmps16
      go_wp2_with fail
      refine (C1.out _).mono ?_
      rintro e w1 ⟨rfl, rfl⟩
      go_wp2_with fail
      refine (C2.out _).mono ?_
      rintro e w2 ⟨rfl, rfl⟩
      go_wp2
      go_ret
      exact ⟨ret_bool (by first | rfl | (rw [hk]; simp)), BEL0.out⟩
    | true =>
      cases b3 with
      | false =>
        go_enter Tryz.func16, Tryz.ntmps16
        go_wp2_with fail
        refine (C1.out _).mono ?_
        rintro e w1 ⟨rfl, rfl⟩
        go_wp2_with fail
        refine (C2.out _).mono ?_
        rintro e w2 ⟨rfl, rfl⟩
        go_wp2_with fail
        refine (C3.out _).mono ?_
        rintro e w3 ⟨rfl, rfl⟩
        go_wp2
        go_ret
        exact ⟨ret_bool (by first | rfl | (rw [hk]; simp)), BEL0.out⟩
      | true =>
        go_enter Tryz.func16, Tryz.ntmps16
        go_wp2_with fail
        refine (C1.out _).mono ?_
        rintro e w1 ⟨rfl, rfl⟩
        go_wp2_with fail
        refine (C2.out _).mono ?_
        rintro e w2 ⟨rfl, rfl⟩
        go_wp2_with fail
        refine (C3.out _).mono ?_
        rintro e w3 ⟨rfl, rfl⟩
        go_wp2_with fail
        refine (C4.out _ _ _ HP.out HD.out).mono ?_
        rintro e w4 ⟨rfl, hb4⟩
        have HB4 := Lib.hid (BEL0.out.trans (hb4.mono hsz))
        clear hb4
        go_wp2
        go_ret
        exact ⟨ret_bool (by first | rfl | (rw [hk]; simp)), HB4.out⟩
end Go.Proofs.YtefgobmpleoafaaGreatDoor

/- Can entries be gone through with? -/
namespace Go.Proofs.YtefgobmpleoafaaGreatDoor
open Go.RowKit
variable {w w' : World} {n₀ n₁ : Nat}

def smallE (e : En) : Bool := decide (e.d.put.length ≤ 20) && decide (e.d.drop.length ≤ 20) && e.d.put.all fun r => decide (r.pat.size ≤ 300)
def smallL (l : List En) : Bool := l.all smallE && decide (l.length ≤ 70)
set_option maxRecDepth 100000 in
set_option maxHeartbeats 4000000 in
theorem small_any (v : Value) (l : List En) (w : World) (hm : l.length ≤ 9223372036854775807) (hV : EntsV w.heap.size w v l) :
    Calls Tryz.prog 10 #[v] w fun e w' => e = .returned (.bool (smallL l)) ∧ Below w.heap.size w w' := by
  obtain ⟨A, cap, rfl⟩ := hV.form
  have HV := Lib.hid hV
  obtain ⟨n, hn⟩ : ∃ n, n = l.length := ⟨_, rfl⟩
  rw [← hn] at HV hm ⊢
  have HL := Lib.hid hn
  clear hV hn
  have bad : ∀ (k : Nat) (r : En), l[k]? = some r → smallE r = false → smallL l = false := fun _ _ h1 h2 => by unfold smallL; rw [allB_false h1 h2]; rfl
  have BAD := Lib.hid bad
  clear bad
  go_enter Tryz.func10, Tryz.ntmps10
  go_wp2
  go_loopw [9] (fun i wr => ∃ k : Nat, k ≤ n ∧ i = .int .i64 k ∧ Hid ((l.take k).all smallE = true) ∧ Hid (Below w.heap.size w wr)) (fun i _ => n - (intOf i).toNat)
  case atStart => exact ⟨0, Nat.zero_le _, rfl, Lib.hid rfl, Lib.hid (Below.refl _ _)⟩
  case round =>
    obtain ⟨k, hk, rfl, HH, HB⟩ := hrel
    have hsz : w.heap.size ≤ wr.heap.size := HB.out.size
    by_cases hlt : k < n
    · have hkl : k < l.length := by rw [← HL.out]; exact hlt
      obtain ⟨b, off, p, d, rfl, hb, ⟨c0, c1, c2, c3, c4, c5, c6, c7, c8⟩, hp, hd⟩ := (HV.out.below HB.out).at_ hkl
      have HG := Lib.hid (List.getElem?_eq_getElem hkl)
      generalize l[k] = r at HG c0 c1 c2 c3 c4 c5 c6 c7 c8 hp hd
      clear hkl
      obtain ⟨Ap, cp, rfl⟩ := hp.form
      obtain ⟨Ad, cd, rfl⟩ := hd.form
      obtain ⟨np, hnp⟩ : ∃ np, np = r.d.put.length := ⟨_, rfl⟩
      obtain ⟨nd, hnd⟩ : ∃ nd, nd = r.d.drop.length := ⟨_, rfl⟩
      have HP := Lib.hid hp
      rw [zI_len] at c8
      rw [← hnp] at c7 HP
      rw [← hnd] at c8
      have HNP := Lib.hid hnp
      have HND := Lib.hid hnd
      clear hp hd hnp hnd
      have HBe := Lib.hid (HB.out.alloc hsz (.cells #[.int .i64 r.vi, .int .i64 r.cl, .int .i64 r.re, .int .i64 r.d.de, .int .i64 r.d.cl, .int .i64 r.d.fu, .int .i64 r.d.st, .slice Ap np cp, .slice Ad nd cd] 39))
      by_cases h1 : np ≤ 20
      · by_cases h2 : nd ≤ 20
        · have hbe : wr.heap.size < (wr.alloc (.cells #[.int .i64 r.vi, .int .i64 r.cl, .int .i64 r.re, .int .i64 r.d.de, .int .i64 r.d.cl, .int .i64 r.d.fu, .int .i64 r.d.st, .slice Ap np cp, .slice Ad nd cd] 39)).heap.size := by simp
          have HPe := Lib.hid (HP.out.below ((Below.refl w.heap.size wr).alloc hsz (.cells #[.int .i64 r.vi, .int .i64 r.cl, .int .i64 r.re, .int .i64 r.d.de, .int .i64 r.d.cl, .int .i64 r.d.fu, .int .i64 r.d.st, .slice Ap np cp, .slice Ad nd cd] 39)))
          go_upto_region 6 with (fail)
          have x7 := (Blk.new wr 39 #[.int .i64 r.vi, .int .i64 r.cl, .int .i64 r.re, .int .i64 r.d.de, .int .i64 r.d.cl, .int .i64 r.d.fu, .int .i64 r.d.st, .slice Ap np cp, .slice Ad nd cd]).cell 7
          generalize wr.alloc _ = wx at *
          clear c0 c1 c2 c3 c4 c5 c6 c7 c8
          go_wp2
          go_loopw [29] (fun i wr => ∃ j : Nat, j ≤ np ∧ i = .int .i64 j ∧ Hid ((r.d.put.take j).all (fun r => decide (r.pat.size ≤ 300)) = true) ∧ Hid (Below wx.heap.size wx wr)) (fun i _ => np - (intOf i).toNat)
          case atStart => exact ⟨0, Nat.zero_le _, rfl, Lib.hid rfl, Lib.hid (Below.refl _ _)⟩
          case round =>
            obtain ⟨j, hj, rfl, HJ, HBj⟩ := hrel
            have hsx : wx.heap.size ≤ wr.heap.size := HBj.out.size
            by_cases hjl : j < np
            · have hjl2 : j < r.d.put.length := by rw [← HNP.out]; exact hjl
              obtain ⟨bj, oj, rfl, hbj, y0, y1, y2, y3, y4⟩ := (HPe.out.below (HBj.out.mono (by omega))).at_ hjl2
              have HGj := Lib.hid (List.getElem?_eq_getElem hjl2)
              generalize r.d.put[j] = q at HGj y0 y1 y2 y3 y4
              clear hjl2
              by_cases h3 : q.pat.size ≤ 300
              · go_wp2
                go_roundw
                case rel => exact ⟨j + 1, by omega, by go_num, Lib.hid (by rw [allB_take HGj.out, HJ.out, decide_eq_true h3]; rfl), Lib.hid (HBj.out.alloc hsx _)⟩
                case measure => simp [intOf]; omega
              · go_wp2
                go_ret
                refine ⟨ret_bool (BAD.out _ _ HG.out ?_).symm, HBe.out.trans ((HBj.out.alloc hsx _).mono (by omega))⟩
                unfold smallE
                rw [allB_false HGj.out (decide_eq_false h3)]
                simp
            · obtain rfl : j = np := by omega
              go_wp2
              go_roundw
              case rel =>
                refine ⟨k + 1, by omega, by go_num, Lib.hid ?_, Lib.hid (HBe.out.trans (HBj.out.mono (by omega)))⟩
                rw [allB_take HG.out, HH.out]
                unfold smallE
                have := HJ.out
                rw [List.take_of_length_le (by rw [← HNP.out]; omega)] at this
                rw [this, ← HNP.out, ← HND.out, decide_eq_true h1, decide_eq_true h2]
                rfl
              case measure => simp [intOf]; omega
        · go_wp2
          go_ret
          refine ⟨ret_bool (BAD.out _ _ HG.out ?_).symm, HBe.out⟩
          unfold smallE
          rw [← HND.out, decide_eq_false h2]
          simp
      · go_wp2
        go_ret
        refine ⟨ret_bool (BAD.out _ _ HG.out ?_).symm, HBe.out⟩
        unfold smallE
        rw [← HNP.out, decide_eq_false h1]
        simp
    · obtain rfl : k = n := by omega
      have hall : l.all smallE = true := by have := HH.out; rwa [List.take_of_length_le (by rw [← HL.out]; omega)] at this
      have HA := Lib.hid hall
      clear hall
      by_cases h70 : k ≤ 70
      · go_wp2
        go_ret
        exact ⟨ret_bool (by unfold smallL; rw [HA.out, ← HL.out, decide_eq_true h70]; simp; omega), HB.out⟩
      · go_wp2
        go_ret
        exact ⟨ret_bool (by unfold smallL; rw [HA.out, ← HL.out, decide_eq_false h70]; simp; omega), HB.out⟩
end Go.Proofs.YtefgobmpleoafaaGreatDoor

