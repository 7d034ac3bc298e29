/- All frames with which bytes begin, by the document's answer (colanderref10), as a contract. -/
import Derived.Test.YtcikdeknbkcggaaFrH
namespace Go.Proofs.Ytcikdeknbkcggaa
open Go.RowKit

/-- A row of the call's own whose values read as bodies, below n₀. -/
structure RBods (w : World) (base n₀ : Nat) (v : Value) (bs : List (List UInt8)) (vals : List Value) : Prop where
  len : vals.length = bs.length
  row : w.ownsRow base 22 1 v bs.length vals
  each : ∀ (i : Nat) x t, vals[i]? = some x → bs[i]? = some t → Bytes n₀ w x t
theorem RBods.nil (w : World) (base n₀ : Nat) : RBods w base n₀ (.slice none 0 0) [] [] := ⟨rfl, ⟨rfl, .inl ⟨rfl, rfl⟩⟩, fun i x t h => by simp at h⟩
theorem RBods.below {w w' : World} {base n₀ : Nat} {v : Value} {bs : List (List UInt8)} {vals : List Value} (h : RBods w base n₀ v bs vals) (hB : Below w.heap.size w w') (hn : n₀ ≤ w.heap.size) : RBods w' base n₀ v bs vals :=
  ⟨h.len, own_below h.row hB, fun i x t hx ht => (h.each i x t hx ht).below (hB.mono hn)⟩
theorem RBods.snoc {wr w1 w3 : World} {o : Obj} {base n₀ : Nat} {v v3 x : Value} {bs : List (List UInt8)} {t : List UInt8} {vals : List Value} (h : RBods wr base n₀ v bs vals) (hB : Below wr.heap.size wr w1) (hx : Bytes n₀ wr x t) (hn : n₀ ≤ base) (hb : base ≤ wr.heap.size)
    (h3 : w3.ownsRow base 22 1 v3 (bs.length + 1) (vals ++ [x])) (g3 : (w1.alloc o).grownBy w3 v.ownBlock) : RBods w3 base n₀ v3 (bs ++ [t]) (vals ++ [x]) := by
  have h1 := h.below hB (Nat.le_trans hn hb)
  have r1 : (w1.alloc o).ownsRow base 22 1 v bs.length vals := h1.row.alloc o
  have hz := hB.size
  have B1 : Below n₀ w1 w3 := ((Below.refl n₀ w1).alloc (by omega) o).grown g3 (by simp; omega) (fun k hk => by have := (World.ownsRow.lt r1 k hk).1; omega)
  have x1 : Bytes n₀ w1 x t := hx.below (hB.mono (Nat.le_trans hn hb))
  refine ⟨by simp [h.len], by rw [List.length_append]; exact h3, fun i y u hy hu => ?_⟩
  by_cases hi : i < vals.length
  · rw [List.getElem?_append_left hi] at hy
    rw [List.getElem?_append_left (by rw [← h.len]; exact hi)] at hu
    exact (h1.each i y u hy hu).below B1
  · rw [List.getElem?_append_right (by omega)] at hy
    rw [List.getElem?_append_right (by rw [← h.len]; omega), ← h.len] at hu
    have hi0 : i - vals.length = 0 := by
      have := (List.getElem?_eq_some_iff.1 hy).1
      simp at this; omega
    rw [hi0] at hy hu
    simp at hy hu
    subst hy hu
    exact x1.below B1
theorem one_bytes_slice {w : World} {n₀ : Nat} {v : Value} {s : List UInt8} (h : Bytes n₀ w v s) : ∃ A c, v = .slice A s.length c := by
  obtain ⟨A, c, rfl, _⟩ := h; exact ⟨A, c, rfl⟩
def RScanned (w : World) (n₀ : Nat) (s : List UInt8) (e : Ending) (w' : World) : Prop :=
  ∃ v u bs vals, e = .returned (.tuple #[v, .int .i64 ((u : Nat) : Int)]) ∧ Sc s u bs ∧ rdE (s.drop u) ≠ 0 ∧ RBods w' w.heap.size n₀ v bs vals ∧ Below w.heap.size w w'
theorem rbad_below {w w1 : World} {x : Nat} {e : Ending} (h : RfBad w x e w1) : e = .returned (.tuple #[.slice none 0 0, .int .i64 (x : Int)]) ∧ Below w.heap.size w w1 := by
  obtain ⟨he, m, rfl⟩ := h
  exact ⟨he, Below.drewN' (Below.refl _ _) _⟩
theorem rok_below {n₀ : Nat} {w w1 : World} {t : List UInt8} {e : Ending} (h : RfOk n₀ w t e w1) : ∃ v', e = .returned (.tuple #[v', .int .i64 0]) ∧ Bytes n₀ w v' t ∧ Below w.heap.size w w1 := by
  obtain ⟨v', he, hb, m, rfl⟩ := h
  exact ⟨v', he, hb, Below.drewN' (Below.refl _ _) _⟩
/-- What the loop has of each round's head. -/
def RScR (s : List UInt8) (n₀ : Nat) (w : World) (v i : Value) (wr : World) : Prop :=
  ∃ u bs vals, Sc s u bs ∧ i = .int .i64 ((u : Nat) : Int) ∧ RBods wr w.heap.size n₀ v bs vals ∧ Below w.heap.size w wr
set_option maxHeartbeats 1000000 in
theorem rscan_empty (n₀ : Nat) (A : Option Addr) (cap : Nat) (w : World) : Calls Try.prog 17 #[.slice A 0 cap] w (RScanned w n₀ []) := by
  have key : ∀ e w1, RfBad w 11 e w1 → e = .returned (.tuple #[.slice none 0 0, .int .i64 ((11 : Nat) : Int)]) ∧ Below w.heap.size w w1 := fun _ _ h => rbad_below h
  cases A with
  | none =>
    go_enter Try.func17, Try.ntmps17
    go_wp2
    refine wp_loop_rounds 1 ?_
    rw [rounds_succ]
    go_wp2_with fail
    refine (rf_11 _ 0 _ (by decide) w).mono ?_
    intro e w1 h1
    obtain ⟨rfl, hB1⟩ := key _ _ h1
    clear h1 key
    go_wp2
    go_ret2
    exact ⟨_, 0, [], [], rfl, sc_nil [], rd_empty, RBods.nil _ _ _, hB1⟩
  | some a =>
    obtain ⟨b, off, spot⟩ := a
    cases cap with
    | zero =>
      go_enter Try.func17, Try.ntmps17
      go_wp2
      refine wp_loop_rounds 1 ?_
      rw [rounds_succ]
      go_wp2_with fail
      refine (rf_11 _ 0 _ (by decide) w).mono ?_
      intro e w1 h1
      obtain ⟨rfl, hB1⟩ := key _ _ h1
      clear h1 key
      go_wp2
      go_ret2
      exact ⟨_, 0, [], [], rfl, sc_nil [], rd_empty, RBods.nil _ _ _, hB1⟩
    | succ cap =>
      go_enter Try.func17, Try.ntmps17
      go_wp2
      refine wp_loop_rounds 1 ?_
      rw [rounds_succ]
      go_wp2_with fail
      refine (rf_11 _ 0 _ (by decide) w).mono ?_
      intro e w1 h1
      obtain ⟨rfl, hB1⟩ := key _ _ h1
      clear h1 key
      go_wp2
      go_ret2
      exact ⟨_, 0, [], [], rfl, sc_nil [], rd_empty, RBods.nil _ _ _, hB1⟩
set_option maxHeartbeats 2000000 in
theorem rscan_any1 (n₀ b off cap n : Nat) (s : List UInt8) (hsn : s.length = n) (hm : n ≤ 58640620148043) (hc : n ≤ cap) (w : World) (hn : n₀ ≤ w.heap.size) (hb : b < n₀) (ht : ∀ j, j < n → w.cell? ⟨b, off + j, none⟩ = some (.int .u8 ((at_ s j : Nat) : Int))) :
    Calls Try.prog 17 #[.slice (some ⟨b, off, none⟩) n cap] w (RScanned w n₀ s) := by
  obtain ⟨i0, hi, hz0, hz1', hz2⟩ := info_three info_bytes
  have HN := Lib.hid hsn
  have HT := Lib.hid ht
  clear ht hsn
  have bad : ∀ wr x e w1, RfBad wr x e w1 → e = .returned (.tuple #[.slice none 0 0, .int .i64 (x : Int)]) ∧ Below wr.heap.size wr w1 := fun _ _ _ _ h => rbad_below h
  have BAD := Lib.hid bad
  clear bad
  go_enter Try.func17, Try.ntmps17
  go_wp2
  go_loopw [4, 5] (fun v i wr => RScR s n₀ w v i wr) (fun _ i _ => n - (intOf i).toNat)
  case atStart => exact ⟨0, [], [], sc_nil s, rfl, RBods.nil _ _ _, Below.refl _ _⟩
  case round =>
    obtain ⟨u, bs, vals, hsc, rfl, hbd, hbl⟩ := hrel
    have hu : u ≤ n := by have := hsc.le; have := HN.out; omega
    have HSC := Lib.hid hsc
    have HBD := Lib.hid hbd
    clear hsc hbd
    have cells : Hid (∀ j, j < n → wr.cell? ⟨b, off + j, none⟩ = some (.int .u8 ((at_ s j : Nat) : Int))) := Lib.hid fun j hj => (hbl.cell (p := ⟨b, off + j, none⟩) (by show b < _; omega)).trans (HT.out j hj)
    by_cases hE : rdE (s.drop u) = 0
    · have h10 := ten_le hE
      have hsl : u + 10 + (rdB (s.drop u)).length ≤ n := by have := HN.out; omega
      clear h10
      have HE := Lib.hid hE
      clear hE
      have hcap : u < cap := by omega
      obtain ⟨L, hL⟩ : ∃ L, L = (rdB (s.drop u)).length := ⟨_, rfl⟩
      rw [← hL] at hsl
      have HL := Lib.hid hL
      clear hL
      go_wp2_with fail
      refine (rf_ok n₀ _ (s.drop u) (by have := HN.out; simp; omega) wr (bytes_from HN.out hb cells.out hu hc _ (by omega)) HE.out).mono ?_
      intro e w1 h1
      obtain ⟨x, rfl, ox, B1⟩ := rok_below h1
      clear h1
      obtain ⟨A, c, rfl⟩ := one_bytes_slice ox
      obtain ⟨T, hT⟩ : ∃ T, T = rdB (s.drop u) := ⟨_, rfl⟩
      have hTl : T.length = L := by rw [hT, HL.out]
      rw [← hT, hTl] at ox
      rw [← hT, hTl]
      have hlen : bs.length ≤ 5864062014804 := sc_len HSC.out (by have := HN.out; omega)
      have OX := Lib.hid ox
      have HTT := Lib.hid hT
      have HTL := Lib.hid hTl
      have BB := Lib.hid B1
      have hz1 : wr.heap.size ≤ w1.heap.size := B1.size
      have hzb : w.heap.size ≤ wr.heap.size := hbl.size
      have HBL := Lib.hid hbl
      clear ox hT hTl B1 hbl
      go_wp2_with (at_builtin
                   refine wpList_append_row _ rfl (.tmp 19) (.tmp 21) 35 rfl w.heap.size 22 i0 (.slice none 0 0) 24 Try.underlying35 hi hz0 hz1' hz2 rfl _ bs.length vals rfl ((own_below HBD.out.row BB.out).alloc _) (w1.heap.size + 1) _ [.slice A L c] rfl (Row.lit w1 #[.slice A L c] 22 (0, 0)) (by intro y hy; simp at hy; subst hy; rfl) (by simp; unfold maxLen; omega) (by simp; omega) (by simp; omega) ?_
                   intro v3 w3 o3 g3
                   have D3 : Hid (RBods w3 w.heap.size n₀ v3 (bs ++ [T]) (vals ++ [.slice A L c])) := Lib.hid (HBD.out.snoc BB.out OX.out hn hzb o3 g3)
                   have C3 : Hid (Below w.heap.size w w3) := Lib.hid (below_append ((HBL.out.trans (BB.out.mono hzb)).alloc (by omega) _) ((own_below HBD.out.row BB.out).alloc _) (Nat.le_refl _) g3 (by simp; omega))
                   clear g3 o3)
      go_roundw
      case rel =>
        refine ⟨u + (10 + L), _, _, ?_, by go_num, D3.out, C3.out⟩
        have := HSC.out.snoc HE.out
        rw [← HTT.out, HTL.out] at this
        exact this
      case measure => simp [intOf]; omega
    · have HE := Lib.hid hE
      clear hE
      by_cases hcap : u < cap
      · go_wp2_with fail
        refine (rf_bad n₀ _ (s.drop u) (by have := HN.out; simp; omega) wr (bytes_from HN.out hb cells.out hu hc _ (by omega)) HE.out).mono ?_
        intro e w1 h1
        obtain ⟨rfl, hB1⟩ := BAD.out _ _ _ _ h1
        clear h1
        have BB := Lib.hid hB1
        have HBL := Lib.hid hbl
        have hzb : w.heap.size ≤ wr.heap.size := hbl.size
        have hx : ((rdE (s.drop u) : Int) != 0) = true := by have := HE.out; simp; omega
        clear hB1 hbl
        go_wp2
        go_ret2
        exact ⟨_, u, bs, vals, rfl, HSC.out, HE.out, HBD.out.below BB.out (Nat.le_trans hn hzb), HBL.out.trans (BB.out.mono hzb)⟩
      · obtain rfl : u = cap := by omega
        obtain rfl : u = n := by omega
        have hE : rdE (s.drop u) = 11 := by rw [List.drop_of_length_le (by have := HN.out; omega), rdE_nil]
        go_wp2_with fail
        refine (rf_11 _ _ _ (by omega) wr).mono ?_
        intro e w1 h1
        obtain ⟨rfl, hB1⟩ := BAD.out _ _ _ _ h1
        clear h1 hE
        have BB := Lib.hid hB1
        have HBL := Lib.hid hbl
        have hzb : w.heap.size ≤ wr.heap.size := hbl.size
        clear hB1 hbl
        go_wp2
        go_ret2
        exact ⟨_, u, bs, vals, rfl, HSC.out, HE.out, HBD.out.below BB.out (Nat.le_trans hn hzb), HBL.out.trans (BB.out.mono hzb)⟩
theorem rscan_any (n₀ : Nat) (v : Value) (s : List UInt8) (hm : s.length ≤ 58640620148043) (w : World) (hn : n₀ ≤ w.heap.size) (h : Bytes n₀ w v s) :
    Calls Try.prog 17 #[v] w (RScanned w n₀ s) := by
  obtain ⟨A, cap, rfl, hc, ht⟩ := h
  by_cases hs : s = []
  · subst hs; exact rscan_empty n₀ A cap w
  · obtain ⟨b, off, rfl, hb, ht⟩ := ht hs
    exact rscan_any1 n₀ b off cap _ s rfl hm hc w hn hb ht
end Go.Proofs.Ytcikdeknbkcggaa
