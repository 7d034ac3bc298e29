/- All frames with which bytes begin (package frame): the loop. -/
import Derived.Test.YtcikdeknbkcggaaFrG
namespace Go.Proofs.Ytcikdeknbkcggaa
open Go.RowKit

theorem bytes_from {n₀ : Nat} {w : World} {b off cap u n : Nat} {s : List UInt8} (hn : s.length = n) (hb : b < n₀) (ht : ∀ j, j < n → w.cell? ⟨b, off + j, none⟩ = some (.int .u8 ((at_ s j : Nat) : Int))) (hu : u ≤ n) (hc : n ≤ cap) (L : Nat) (hL : L = n - u) :
    Bytes n₀ w (.slice (some ⟨b, off + u, none⟩) L (cap - u)) (s.drop u) := by
  subst hn hL
  have h := Bytes.sub hb ht u (s.length - u) (cap - u) (by omega) (by omega)
  rwa [List.take_of_length_le (by simp)] at h
/-- What the loop has of each round's head. -/
def ScR (s : List UInt8) (w : World) (v i : Value) (wr : World) : Prop :=
  ∃ u bs vals, Sc s u bs ∧ i = .int .i64 ((u : Nat) : Int) ∧ Bods wr w.heap.size v bs vals ∧ Below w.heap.size w wr
theorem sc_len' : ∀ {bs : List (List UInt8)} {s : List UInt8} {u : Nat}, Sc s u bs → 10 * bs.length ≤ u
  | [], _, _, _ => by simp
  | b :: bs, s, u, h => by
    obtain ⟨_, _, h3, h4⟩ := h
    have := sc_len' h4
    simp only [List.length_cons]
    omega
theorem sc_len {bs : List (List UInt8)} {s : List UInt8} {u : Nat} (h : Sc s u bs) (hs : s.length ≤ 58640620148043) : bs.length ≤ 5864062014804 := by
  have := sc_len' h
  have := h.le
  omega
theorem ten_le {s : List UInt8} {u : Nat} (h : rdE (s.drop u) = 0) : u + 10 + (rdB (s.drop u)).length ≤ s.length := by
  have := rdE_ok h
  have hl := rdB_len h
  simp only [List.length_drop] at this
  omega
set_option maxHeartbeats 2000000 in
theorem scan_any1 (n₀ b off cap n : Nat) (s : List UInt8) (hsn : s.length = n) (hm : n ≤ 58640620148043) (hc : n ≤ cap) (w : World) (hn : n₀ ≤ w.heap.size) (hb : b < n₀) (ht : ∀ j, j < n → w.cell? ⟨b, off + j, none⟩ = some (.int .u8 ((at_ s j : Nat) : Int))) :
    Calls Try.prog 16 #[.slice (some ⟨b, off, none⟩) n cap] w (Scanned w s) := by
  obtain ⟨i0, hi, hz0, hz1', hz2⟩ := info_three info_bytes
  have HN := Lib.hid hsn
  have HT := Lib.hid ht
  clear ht hsn
  have bad : ∀ wr x e w1, RdBad wr x e w1 → e = .returned (.tuple #[.slice none 0 0, .int .i64 0, .int .i64 (x : Int)]) ∧ Below wr.heap.size wr w1 := fun _ _ _ _ h => bad_below h
  have BAD := Lib.hid bad
  clear bad
  go_enter Try.func16, Try.ntmps16
  go_wp2
  go_loopw [2, 3] (fun v i wr => ScR s w v i wr) (fun _ i _ => n - (intOf i).toNat)
  case atStart => exact ⟨0, [], [], sc_nil s, rfl, Bods.nil _ _, Below.refl _ _⟩
  case round =>
    obtain ⟨u, bs, vals, hsc, rfl, hbd, hbl⟩ := hrel
    have hu : u ≤ n := by have := hsc.le; have := HN.out; omega
    have HSC := Lib.hid hsc
    have HBD := Lib.hid hbd
    clear hsc hbd
    have cells : Hid (∀ j, j < n → wr.cell? ⟨b, off + j, none⟩ = some (.int .u8 ((at_ s j : Nat) : Int))) := Lib.hid fun j hj => (hbl.cell (p := ⟨b, off + j, none⟩) (by show b < _; omega)).trans (HT.out j hj)
    by_cases hE : rdE (s.drop u) = 0
    · have h10 := ten_le hE
      have hsl : u + 10 + (rdB (s.drop u)).length ≤ n := by have := HN.out; omega
      clear h10
      have HE := Lib.hid hE
      clear hE
      have hcap : u < cap := by omega
      obtain ⟨L, hL⟩ : ∃ L, L = (rdB (s.drop u)).length := ⟨_, rfl⟩
      rw [← hL] at hsl
      have HL := Lib.hid hL
      clear hL
      go_wp2_with fail
      refine (read_ok n₀ _ (s.drop u) (by have := HN.out; simp; omega) wr (by have := hbl.size; omega) (bytes_from HN.out hb cells.out hu hc _ (by omega)) HE.out).mono ?_
      rintro e w1 ⟨x, rfl, ox, B1⟩
      rw [← HL.out]
      obtain ⟨A, c, rfl⟩ := one_slice ox
      obtain ⟨T, hT⟩ : ∃ T, T = rdB (s.drop u) := ⟨_, rfl⟩
      have hTl : T.length = L := by rw [hT, HL.out]
      rw [← hT, hTl] at ox
      rw [← hT, hTl]
      have hlen : bs.length ≤ 5864062014804 := sc_len HSC.out (by have := HN.out; omega)
      have OX := Lib.hid ox
      have HTT := Lib.hid hT
      have HTL := Lib.hid hTl
      have BB := Lib.hid B1
      have hz1 : wr.heap.size ≤ w1.heap.size := B1.size
      have hzb : w.heap.size ≤ wr.heap.size := hbl.size
      have HBL := Lib.hid hbl
      clear ox hT hTl B1 hbl
      go_wp2_with (at_builtin
                   refine wpList_append_row _ rfl (.tmp 19) (.tmp 21) 35 rfl w.heap.size 22 i0 (.slice none 0 0) 24 Try.underlying35 hi hz0 hz1' hz2 rfl _ bs.length vals rfl ((own_below HBD.out.row BB.out).alloc _) (w1.heap.size + 1) _ [.slice A L c] rfl (Row.lit w1 #[.slice A L c] 22 (0, 0)) (by intro y hy; simp at hy; subst hy; rfl) (by simp; unfold maxLen; omega) (by simp; omega) (by simp; omega) ?_
                   intro v3 w3 o3 g3
                   have D3 : Hid (Bods w3 w.heap.size v3 (bs ++ [T]) (vals ++ [.slice A L c])) := Lib.hid (HBD.out.snoc BB.out OX.out hzb o3 g3)
                   have C3 : Hid (Below w.heap.size w w3) := Lib.hid (below_append ((HBL.out.trans (BB.out.mono hzb)).alloc (by omega) _) ((own_below HBD.out.row BB.out).alloc _) (Nat.le_refl _) g3 (by simp; omega))
                   clear g3 o3)
      go_roundw
      case rel =>
        refine ⟨u + (10 + L), _, _, ?_, by go_num, D3.out, C3.out⟩
        have := HSC.out.snoc HE.out
        rw [← HTT.out, HTL.out] at this
        exact this
      case measure => simp [intOf]; omega
    · have HE := Lib.hid hE
      clear hE
      by_cases hcap : u < cap
      · go_wp2_with fail
        refine (read_bad n₀ _ (s.drop u) (by have := HN.out; simp; omega) wr (bytes_from HN.out hb cells.out hu hc _ (by omega)) HE.out).mono ?_
        intro e w1 h1
        obtain ⟨rfl, hB1⟩ := BAD.out _ _ _ _ h1
        clear h1
        have BB := Lib.hid hB1
        have HBL := Lib.hid hbl
        have hzb : w.heap.size ≤ wr.heap.size := hbl.size
        have hx : ((rdE (s.drop u) : Int) != 0) = true := by have := HE.out; simp; omega
        clear hB1 hbl
        go_wp2
        go_ret2
        exact ⟨_, u, bs, vals, rfl, HSC.out, HE.out, HBD.out.below BB.out, HBL.out.trans (BB.out.mono hzb)⟩
      · obtain rfl : u = cap := by omega
        obtain rfl : u = n := by omega
        have hE : rdE (s.drop u) = 11 := by rw [List.drop_of_length_le (by have := HN.out; omega), rdE_nil]
        go_wp2_with fail
        refine (read_11 _ _ _ (by omega) wr).mono ?_
        intro e w1 h1
        obtain ⟨rfl, hB1⟩ := BAD.out _ _ _ _ h1
        clear h1 hE
        have BB := Lib.hid hB1
        have HBL := Lib.hid hbl
        have hzb : w.heap.size ≤ wr.heap.size := hbl.size
        clear hB1 hbl
        go_wp2
        go_ret2
        exact ⟨_, u, bs, vals, rfl, HSC.out, HE.out, HBD.out.below BB.out, HBL.out.trans (BB.out.mono hzb)⟩
theorem scan_any (n₀ : Nat) (v : Value) (s : List UInt8) (hm : s.length ≤ 58640620148043) (w : World) (hn : n₀ ≤ w.heap.size) (h : Bytes n₀ w v s) :
    Calls Try.prog 16 #[v] w (Scanned w s) := by
  obtain ⟨A, cap, rfl, hc, ht⟩ := h
  by_cases hs : s = []
  · subst hs; exact scan_empty A cap w
  · obtain ⟨b, off, rfl, hb, ht⟩ := ht hs
    exact scan_any1 n₀ b off cap _ s rfl hm hc w hn hb ht
end Go.Proofs.Ytcikdeknbkcggaa
