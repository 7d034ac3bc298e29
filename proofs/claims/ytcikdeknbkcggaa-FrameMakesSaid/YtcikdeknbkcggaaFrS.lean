/- The law FrameScans, as a contract: true, and nothing that lay has turned. -/
import Derived.Test.YtcikdeknbkcggaaFrJ
namespace Go.Proofs.Ytcikdeknbkcggaa
open Go.RowKit

theorem str_drewN {n₀ : Nat} {w : World} {v : Value} {s : List UInt8} (h : Bytes n₀ w v s) (m : Nat) : (convert 22 9 v).run Try.prog (w.drewN m) = .ok (.string ⟨s.toArray⟩) (w.drewN m) :=
  run_string_bytes (n₀ := n₀) (w := w.drewN m) h
/-- A row's places, one by one: where the value lies, and what it reads as. -/
def Places (w : World) (b off : Nat) (bs : List (List UInt8)) : Prop :=
  ∀ k, k < bs.length → ∃ A c, w.cell? ⟨b, off + k, none⟩ = some (.slice A (bs.getD k []).length c) ∧ Bytes w.heap.size w (.slice A (bs.getD k []).length c) (bs.getD k [])
theorem places {n₀ : Nat} {w : World} {b off : Nat} {bs : List (List UInt8)} {vals : List Value} (hl : vals.length = bs.length) (hc : ∀ j u, vals[j]? = some u → w.cell? ⟨b, off + j, none⟩ = some u)
    (he : ∀ (i : Nat) x t, vals[i]? = some x → bs[i]? = some t → Bytes n₀ w x t) (hn : n₀ ≤ w.heap.size) : Places w b off bs := fun k hk => by
  have h1 : vals[k]? = some (vals[k]'(by omega)) := by simp [hl, hk]
  have h2 : bs[k]? = some (bs.getD k []) := by simp [hk]
  have h3 := (he k _ _ h1 h2).more hn
  have h4 := hc k _ h1
  obtain ⟨A, c, e⟩ := one_bytes_slice h3
  rw [e] at h3 h4
  exact ⟨A, c, h4, h3⟩
/-- A slice of texts: of none, or at a place. -/
def Reads (w : World) (v : Value) (bs : List (List UInt8)) : Prop :=
  ∃ A c, v = .slice A bs.length c ∧ bs.length ≤ c ∧ (bs ≠ [] → ∃ b off, A = some ⟨b, off, none⟩ ∧ b < w.heap.size ∧ Places w b off bs)
theorem reads_of_row {n₀ : Nat} {w : World} {v : Value} {bs : List (List UInt8)} {vals : List Value} (hl : vals.length = bs.length) (hr : Row n₀ w v vals)
    (he : ∀ (i : Nat) x t, vals[i]? = some x → bs[i]? = some t → Bytes n₀ w x t) (hn : n₀ ≤ w.heap.size) : Reads w v bs := by
  obtain ⟨A, c, rfl, hc, h⟩ := hr
  rw [hl] at hc ⊢
  refine ⟨A, c, rfl, hc, fun hne => ?_⟩
  obtain ⟨b, off, rfl, hb, ht⟩ := h (by rintro rfl; exact hne (List.eq_nil_of_length_eq_zero hl.symm))
  exact ⟨b, off, rfl, by omega, places hl ht he hn⟩
theorem Bods.reads {w : World} {base : Nat} {v : Value} {bs : List (List UInt8)} {vals : List Value} (h : Bods w base v bs vals) : Reads w v bs :=
  reads_of_row h.len (Row.of_own h.row) (fun i x t hx ht => (h.own i x t hx ht).bytes) (Nat.le_refl _)
theorem RBods.reads {w : World} {base n₀ : Nat} {v : Value} {bs : List (List UInt8)} {vals : List Value} (h : RBods w base n₀ v bs vals) (hn : n₀ ≤ w.heap.size) : Reads w v bs :=
  reads_of_row h.len (Row.of_own h.row) (fun i x t hx ht => (h.each i x t hx ht).more hn) (Nat.le_refl _)
theorem Reads.below {w w' : World} {v : Value} {bs : List (List UInt8)} (h : Reads w v bs) (hB : Below w.heap.size w w') : Reads w' v bs := by
  obtain ⟨A, c, rfl, hc, h⟩ := h
  refine ⟨A, c, rfl, hc, fun hne => ?_⟩
  obtain ⟨b, off, rfl, hb, hp⟩ := h hne
  refine ⟨b, off, rfl, by have := hB.size; omega, fun k hk => ?_⟩
  obtain ⟨A', c', h1, h2⟩ := hp k hk
  exact ⟨A', c', (hB.cell (p := ⟨b, off + k, none⟩) hb).trans h1, (h2.below hB).more hB.size⟩
set_option maxHeartbeats 1000000 in
theorem scans_big (A : Option Addr) (n cap : Nat) (h : 3000 < n) (hm : n ≤ 9223372036854775807) (w : World) : Calls Try.prog 5 #[.slice A n cap] w fun e w' => e = .returned (.bool true) ∧ Below w.heap.size w w' := by
  go_enter Try.func5, Try.ntmps5
  go_wp2_with fail
  refine (anchor10_any w).mono ?_
  rintro e w1 ⟨rfl, hB1⟩
  go_wp2
  go_ret
  exact ⟨rfl, hB1⟩
theorem drewN_below {B : Nat} {a w : World} (h : Below B a w) (m : Nat) : Below B a (w.drewN m) := Below.drewN' h m
set_option maxHeartbeats 2000000 in
theorem scans_any (v : Value) (s : List UInt8) (hl : s.length ≤ 3000) (w : World) (h : Bytes w.heap.size w v s) : Calls Try.prog 5 #[v] w fun e w' => e = .returned (.bool true) ∧ Below w.heap.size w w' := by
  have H := Lib.hid h
  obtain ⟨A, c, rfl⟩ := one_bytes_slice h
  clear h
  go_enter Try.func5, Try.ntmps5
  go_wp2_with fail
  refine (anchor10_any w).mono ?_
  rintro e w1 ⟨rfl, hB1⟩
  have C1 := Lib.hid hB1
  clear hB1
  go_wp2_with fail
  refine (scan_any w.heap.size _ s (by omega) w1 C1.out.size (H.out.below C1.out)).mono ?_
  rintro e w2 ⟨v2, u2, bs, vals2, rfl, sc2, no2, bd2, hB2⟩
  have C2 := Lib.hid (C1.out.trans (hB2.mono C1.out.size))
  have r2 := bd2.reads
  clear hB2 C1 bd2
  have R2 := Lib.hid r2
  obtain ⟨A2, c2, rfl, hc2, _⟩ := r2
  go_wp2_with fail
  refine (rscan_any w.heap.size _ s (by omega) w2 C2.out.size (H.out.below C2.out)).mono ?_
  rintro e w3 ⟨v3, u3, bs3, vals3, rfl, sc3, no3, bd3, hB3⟩
  obtain ⟨rfl, rfl⟩ := Sc.one sc2 no2 sc3 no3
  have hbl := sc_len sc2 (by omega)
  have r3 := bd3.reads (Nat.le_trans C2.out.size hB3.size)
  have r2 := R2.out.below hB3
  have C3 := Lib.hid (C2.out.trans (hB3.mono C2.out.size))
  clear hB3 C2 bd3 sc2 no2 sc3 no3 R2
  obtain ⟨A3, c3, rfl, hc3, r3⟩ := r3
  obtain ⟨A2', c2', e2, hc2', r2⟩ := r2
  simp only [Value.slice.injEq] at e2
  obtain ⟨rfl, _, rfl⟩ := e2
  obtain ⟨n, hn⟩ : ∃ n, n = bs.length := ⟨_, rfl⟩
  rw [← hn] at hc2 hc3 hc2' hbl ⊢
  by_cases hb : bs = []
  · obtain rfl : n = 0 := by rw [hn, hb]; rfl
    clear r2 r3 hc2 hc3 hc2' hbl hn hb
    go_wp2
    go_loop [36] (fun i => i = .int .i64 0) (fun _ => 0)
    case atStart => rfl
    case round =>
      subst hrel
      go_wp2
      go_ret
      exact ⟨rfl, C3.out⟩
  · obtain ⟨b2, o2, rfl, _, p2⟩ := r2 hb
    obtain ⟨b3, o3, rfl, _, p3⟩ := r3 hb
    have HN := Lib.hid hn
    have P2 := Lib.hid p2
    have P3 := Lib.hid p3
    clear hn p2 p3 r2 r3 hb hc2'
    go_wp2
    go_loopw [36] (fun i wr => ∃ k m : Nat, k ≤ n ∧ i = .int .i64 k ∧ wr = w3.drewN m) (fun i _ => n - (intOf i).toNat)
    case atStart => exact ⟨0, 0, Nat.zero_le _, rfl, rfl⟩
    case round =>
      obtain ⟨k, m, hk, rfl, rfl⟩ := hrel
      by_cases hlt : k < n
      · obtain ⟨A4, c4, q4, y4⟩ := P2.out k (by rw [← HN.out]; exact hlt)
        obtain ⟨A5, c5, q5, y5⟩ := P3.out k (by rw [← HN.out]; exact hlt)
        have s4 := str_drewN y4
        have s5 := str_drewN y5
        clear y4 y5
        obtain ⟨T, hT⟩ : ∃ T, T = bs.getD k [] := ⟨_, rfl⟩
        rw [← hT] at q4 q5 s4 s5
        clear hT
        have i1 : (0 : Int) ≤ (k : Int) := by omega
        have i2 : (k : Int) < (n : Int) := by omega
        go_wp2
        go_quiet (fail)
        go_wp2
        go_roundw
        case rel => exact ⟨k + 1, _, by omega, by go_num, rfl⟩
        case measure => simp [intOf]; omega
      · go_wp2
        go_ret
        exact ⟨rfl, drewN_below C3.out m⟩
theorem frameScans_law (v : Value) (s : List UInt8) (w : World) (hm : s.length ≤ 9223372036854775807) (h : Bytes w.heap.size w v s) :
    Calls Try.prog 5 #[v] w fun e w' => e = .returned (.bool true) ∧ Below w.heap.size w w' := by
  by_cases hl : s.length ≤ 3000
  · exact scans_any v s hl w h
  · obtain ⟨A, c, rfl⟩ := one_bytes_slice h
    exact scans_big A _ c (by omega) hm w
end Go.Proofs.Ytcikdeknbkcggaa
