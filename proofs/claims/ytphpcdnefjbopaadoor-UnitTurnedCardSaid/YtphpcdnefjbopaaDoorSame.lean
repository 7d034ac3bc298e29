/- Slices that read as a list of values; the law's own 'same'; its anchor. -/
import Derived.Test.YtphpcdnefjbopaaDoorSplit
import Derived.LoopTactic
import Derived.Lib.SlBytesConst
import Derived.WalkLawsBesides
namespace Go.Proofs.YtphpcdnefjbopaaDoor
open Go.RowKit Go.Shelf

/-- A slice value that reads as a list of values of one cell each; below n₀; one of no values may lie anywhere. -/
def Row (n₀ : Nat) (w : World) (v : Value) (xs : List Value) : Prop :=
  ∃ A cap, v = .slice A xs.length cap ∧ xs.length ≤ cap ∧ (xs ≠ [] → ∃ b off, A = some ⟨b, off, none⟩ ∧ b < n₀ ∧ ∀ j u, xs[j]? = some u → w.cell? ⟨b, off + j, none⟩ = some u)
theorem Row.below {n₀ : Nat} {w w' : World} {v : Value} {xs : List Value} (h : Row n₀ w v xs) (hB : Below n₀ w w') : Row n₀ w' v xs := by
  obtain ⟨A, cap, hv, hc, h⟩ := h
  exact ⟨A, cap, hv, hc, fun hs => by
    obtain ⟨b, off, hA, hb, ht⟩ := h hs
    exact ⟨b, off, hA, hb, fun j u hu => (hB.cell (p := ⟨b, off + j, none⟩) hb).trans (ht j u hu)⟩⟩
theorem Row.more {n₀ n₁ : Nat} {w : World} {v : Value} {xs : List Value} (h : Row n₀ w v xs) (hn : n₀ ≤ n₁) : Row n₁ w v xs := by
  obtain ⟨A, cap, hv, hc, h⟩ := h
  exact ⟨A, cap, hv, hc, fun hs => by
    obtain ⟨b, off, hA, hb, ht⟩ := h hs
    exact ⟨b, off, hA, by omega, ht⟩⟩
theorem Row.of_own {w : World} {base : Nat} {e : TypeId} {v : Value} {n : Nat} {xs : List Value} (h : w.ownsRow base e 1 v n xs) : Row w.heap.size w v xs := by
  have hl : xs.length = n := by simpa using h.1
  rcases h.2 with ⟨rfl, hn⟩ | ⟨g, cap, cur, rfl, hb, hg, hnc, _⟩
  · subst hn
    have : xs = [] := List.eq_nil_of_length_eq_zero hl
    subst this
    exact ⟨none, 0, rfl, Nat.le_refl _, fun h => absurd rfl h⟩
  · refine ⟨some ⟨g, 0, none⟩, cap, by rw [hl], by rw [hl]; exact hnc, fun _ => ⟨g, 0, rfl, (Array.getElem?_eq_some_iff.1 hg).1, fun j u hu => ?_⟩⟩
    have := h.cells (g := g) rfl j u hu
    have hadd : (⟨g, 0, none⟩ : Addr).add j = ⟨g, 0 + j, none⟩ := by unfold Addr.add; split <;> simp_all
    rwa [hadd] at this
theorem Row.lit (w : World) (cs : Array Value) (e : TypeId) (fr : Nat × Nat) : Row (w.heap.size + 1) (w.alloc (.cells cs e fr)) (.slice (some ⟨w.heap.size, 0, none⟩) cs.size cs.size) cs.toList :=
  ⟨some ⟨w.heap.size, 0, none⟩, cs.size, by simp, by simp, fun _ => ⟨w.heap.size, 0, rfl, by omega, fun j u hu => by
    simp only [Nat.zero_add]
    rw [cell_of_row _ w.heap.size j cs e fr (heap_alloc_new w _)]
    simpa using hu⟩⟩

theorem byteCells_get {s : List UInt8} {j : Nat} (h : j < s.length) : (Lib.byteCells s)[j]? = some (.int .u8 ((at_ s j : Nat) : Int)) := by
  simp [Lib.byteCells, at_, List.getD_eq_getElem?_getD, h]
theorem Bytes.of_row {n₀ : Nat} {w : World} {v : Value} {s : List UInt8} (h : Row n₀ w v (Lib.byteCells s)) : Bytes n₀ w v s := by
  obtain ⟨A, cap, hv, hc, h⟩ := h
  rw [Lib.byteCells_length] at hv hc
  exact ⟨A, cap, hv, hc, fun hs => by
    obtain ⟨b, off, hA, hb, ht⟩ := h (fun e => hs (by have := congrArg List.length e; rw [Lib.byteCells_length, List.length_nil] at this; exact List.eq_nil_of_length_eq_zero this))
    exact ⟨b, off, hA, hb, fun j hj => ht j _ (byteCells_get hj)⟩⟩
theorem Row.of_bytes {n₀ : Nat} {w : World} {v : Value} {s : List UInt8} (h : Bytes n₀ w v s) : Row n₀ w v (Lib.byteCells s) := by
  obtain ⟨A, cap, hv, hc, h⟩ := h
  rw [← Lib.byteCells_length s] at hv hc
  exact ⟨A, cap, hv, hc, fun hs => by
    obtain ⟨b, off, hA, hb, ht⟩ := h (fun e => hs (by rw [e]; rfl))
    exact ⟨b, off, hA, hb, fun j u hu => by
      have hj : j < s.length := by
        have := (List.getElem?_eq_some_iff.1 hu).1
        rwa [Lib.byteCells_length] at this
      rw [byteCells_get hj] at hu
      cases hu
      exact ht j hj⟩⟩

def zs (l : List Int) : List Value := l.map (Value.int .i64)
theorem zs_get {l : List Int} {j : Nat} (h : j < l.length) : (zs l)[j]? = some (.int .i64 (l[j]?.getD 0)) := by simp [zs, h]
theorem zs_len (l : List Int) : (zs l).length = l.length := by simp [zs]
theorem ints_zs (l : List Nat) : ints l = zs (l.map fun n => ((n : Nat) : Int)) := by simp [ints, zs]

set_option maxHeartbeats 1000000 in
/-- 'same' of two slices that read as one list of ints: true. -/
theorem same_true (l : List Int) (hmax : l.length ≤ 140737488351232) (n₁ n₂ : Nat) (v₁ v₂ : Value) (w : World) (h₁ : Row n₁ w v₁ (zs l)) (h₂ : Row n₂ w v₂ (zs l)) :
    Calls Tryd.prog 12 #[v₁, v₂] w fun e w' => e = .returned (.bool true) ∧ w = w' := by
  obtain ⟨A₁, c₁, rfl, hc₁, h₁⟩ := h₁
  obtain ⟨A₂, c₂, rfl, hc₂, h₂⟩ := h₂
  rw [zs_len] at hc₁ hc₂ ⊢
  by_cases hl : l = []
  · subst hl
    simp only [List.length_nil]
    clear h₁ h₂ hc₁ hc₂ hmax
    go_enter Tryd.func12, Tryd.ntmps12
    go_wp2
    go_loop [14] (fun i => i = .int .i64 0) (fun _ => 0)
    case atStart => rfl
    case round =>
      subst hrel
      go_wp2
      go_ret
      exact ⟨rfl, rfl⟩
  · have hne : zs l ≠ [] := fun e => hl (by have := congrArg List.length e; rw [zs_len, List.length_nil] at this; exact List.eq_nil_of_length_eq_zero this)
    obtain ⟨b₁, o₁, rfl, _, t₁⟩ := h₁ hne
    obtain ⟨b₂, o₂, rfl, _, t₂⟩ := h₂ hne
    obtain ⟨n, hn⟩ : ∃ n, n = l.length := ⟨_, rfl⟩
    have hneq : ((n : Int) != (n : Int)) = false := by simp
    rw [← hn] at hc₁ hc₂ hmax ⊢
    have HN := Lib.hid hn
    have T₁ := Lib.hid t₁
    have T₂ := Lib.hid t₂
    clear t₁ t₂ hn hne h₁ h₂ hl
    go_enter Tryd.func12, Tryd.ntmps12
    go_wp2
    go_loop [14] (fun i => ∃ k : Nat, k ≤ n ∧ i = .int .i64 k) (fun i => n - (intOf i).toNat)
    case atStart => exact ⟨0, Nat.zero_le _, rfl⟩
    case round =>
      obtain ⟨k, hk, rfl⟩ := hrel
      by_cases hlt : k < n
      · have g₁ := T₁.out k _ (zs_get (by rw [← HN.out]; exact hlt))
        have g₂ := T₂.out k _ (zs_get (by rw [← HN.out]; exact hlt))
        go_wp2
        go_round
        case rel => exact ⟨k + 1, by omega, by go_num⟩
        case measure => simp [intOf]; omega
      · go_wp2
        go_ret
        exact ⟨rfl, rfl⟩


theorem TabsAt.more {n₀ n₁ : Nat} {w : World} (h : TabsAt n₀ w) (hn : n₀ ≤ n₁) : TabsAt n₁ w := ⟨by have := h.1; omega, h.2⟩
/-- unit.Split, of a slice value that reads as a text. -/
theorem split_row (v : Value) (s : List UInt8) (hmax : s.length ≤ 1000000) (w : World) (n₀ : Nat) (hn : n₀ ≤ w.heap.size) (hT : TabsAt n₀ w) (hI : Bytes n₀ w v s) :
    Calls Tryd.prog 13 #[v] w fun e W' => ∃ v, e = .returned v ∧ Row W'.heap.size W' v (zs ((un s).map fun n => ((n : Nat) : Int))) ∧ Below w.heap.size w W' := by
  have hI' := hI.more hn
  obtain ⟨A, cap, rfl, _⟩ := hI
  refine (split_any A cap s hmax w (hT.more hn) hI').mono ?_
  rintro e W' ⟨v, rfl, hown, hB⟩
  have h := Row.of_own hown
  rw [ints_zs] at h
  exact ⟨v, rfl, h, hB⟩

theorem un_one : un [97, 195, 169, 255] = [97, 233, 1114367] := by decide
theorem un_two : un [192, 128] = [1114304, 1114240] := by decide

theorem bytes_lit (w : World) (cs : Array Value) (s : List UInt8) (fr : Nat × Nat) (n : Nat) (hn : cs.size = n) (h : cs.toList = Lib.byteCells s) : Bytes (w.heap.size + 1) (w.alloc (.cells cs 5 fr)) (.slice (some ⟨w.heap.size, 0, none⟩) n n) s := by
  have h1 := Row.lit w cs 5 fr
  rw [h, hn] at h1
  exact Bytes.of_row h1
theorem zs_lit (w : World) (cs : Array Value) (l : List Int) (n : Nat) (hn : cs.size = n) (h : cs.toList = zs l) : Row (w.heap.size + 1) (w.alloc (.cells cs 3)) (.slice (some ⟨w.heap.size, 0, none⟩) n n) (zs l) := by
  have h1 := Row.lit w cs 3 (0, 0)
  rw [h, hn] at h1
  exact h1

set_option maxHeartbeats 1000000 in
set_option maxRecDepth 100000 in
theorem anchor_any (w : World) (hT : TabsAt w.heap.size w) : Calls Tryd.prog 9 #[] w fun e w' => e = .returned (.bool true) ∧ Below w.heap.size w w' := by
  have kc := fun (W : World) (C : Array Value) (n c : Nat) => Lib.run_convert_bytes_const (P := Tryd.prog) W 22 5 C n c Tryd.underlying22 Tryd.underlying5
  have H := Lib.hid hT
  clear hT
  go_enter Tryd.func9, Tryd.ntmps9
  go_wp2_with fail
  have hB1 := (Below.refl w.heap.size w).alloc (Nat.le_refl _) (.cells #[.int .u8 97, .int .u8 195, .int .u8 169, .int .u8 255] 5 (4, 5))
  refine (split_row _ [97, 195, 169, 255] (by decide) _ (w.heap.size + 1) (by simp) ((H.out.below hB1).more (by omega)) (bytes_lit _ _ _ _ _ rfl rfl)).mono ?_
  rintro e w1 ⟨v1, rfl, r1, hB2⟩
  rw [un_one] at r1
  have hB2' : Below w.heap.size w w1 := hB1.trans (hB2.mono (by simp))
  clear hB1 hB2
  go_wp2_with fail
  have hB3 := (Below.refl w1.heap.size w1).alloc (Nat.le_refl _) (.cells #[.int .i64 97, .int .i64 233, .int .i64 1114367] 3)
  refine (same_true [97, 233, 1114367] (by decide) _ _ _ _ _ (r1.below hB3) (zs_lit _ _ _ _ rfl rfl)).mono ?_
  rintro e w2 ⟨rfl, rfl⟩
  have hB4 := hB2'.trans (hB3.mono hB2'.size)
  clear hB3
  obtain ⟨w2, hw2⟩ : ∃ w2, w2 = w1.alloc (.cells #[.int .i64 97, .int .i64 233, .int .i64 1114367] 3) := ⟨_, rfl⟩
  rw [← hw2] at hB4 ⊢
  clear hw2 r1 hB2'
  go_wp2_with fail
  have hB5 := (Below.refl w2.heap.size w2).alloc (Nat.le_refl _) (.cells #[.int .u8 192, .int .u8 128] 5 (2, 3))
  have hB6 := hB4.trans (hB5.mono hB4.size)
  refine (split_row _ [192, 128] (by decide) _ (w2.heap.size + 1) (by simp) ((H.out.below hB6).more (by have := hB4.size; omega)) (bytes_lit _ _ _ _ _ rfl rfl)).mono ?_
  rintro e w3 ⟨v3, rfl, r3, hB7⟩
  rw [un_two] at r3
  have hB8 : Below w.heap.size w w3 := hB6.trans (hB7.mono (by have := hB4.size; simp; omega))
  clear hB4 hB5 hB6 hB7
  go_wp2_with fail
  have hB9 := (Below.refl w3.heap.size w3).alloc (Nat.le_refl _) (.cells #[.int .i64 1114304, .int .i64 1114240] 3)
  refine (same_true [1114304, 1114240] (by decide) _ _ _ _ _ (r3.below hB9) (zs_lit _ _ _ _ rfl rfl)).mono ?_
  rintro e w4 ⟨rfl, rfl⟩
  have hB10 := hB8.trans (hB9.mono hB8.size)
  clear hB9 r3
  go_wp2
  go_ret
  exact ⟨rfl, hB10⟩

end Go.Proofs.YtphpcdnefjbopaaDoor
