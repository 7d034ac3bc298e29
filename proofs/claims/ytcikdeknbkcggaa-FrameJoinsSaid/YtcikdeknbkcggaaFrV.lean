/- The law FrameCuts, as a contract: true, and nothing that lay has turned. -/
import Derived.Test.YtcikdeknbkcggaaFrN
import Derived.Test.YtcikdeknbkcggaaFrFr
namespace Go.Proofs.Ytcikdeknbkcggaa
open Go.RowKit

set_option maxHeartbeats 1000000 in
theorem cuts_out (A : Option Addr) (n cap : Nat) (a : Int) (hn : n ≤ 9223372036854775807) (ha : -9223372036854775808 ≤ a ∧ a ≤ 9223372036854775807) (ho : 30 < n ∨ a < 0) (w : World) :
    Calls Try.prog 6 #[.slice A n cap, .int .i64 a] w fun e w' => e = .returned (.bool true) ∧ Below w.heap.size w w' := by
  by_cases i1 : (30 : Int) < (n : Int)
  · go_enter Try.func6, Try.ntmps6
    go_wp2_with fail
    refine (anchor10_any w).mono ?_
    rintro e w1 ⟨rfl, hB1⟩
    go_wp2
    go_ret
    exact ⟨rfl, hB1⟩
  · have i2 : a < 0 := by omega
    go_enter Try.func6, Try.ntmps6
    go_wp2_with fail
    refine (anchor10_any w).mono ?_
    rintro e w1 ⟨rfl, hB1⟩
    go_wp2
    go_ret
    exact ⟨rfl, hB1⟩
theorem Bytes.take {n₀ : Nat} {w : World} {A : Option Addr} {L c : Nat} {s : List UInt8} (h : Bytes n₀ w (.slice A L c) s) (m : Nat) (hm : m ≤ s.length) : Bytes n₀ w (.slice A m c) (s.take m) := by
  obtain ⟨A', c', he, hc, ht⟩ := h
  simp only [Value.slice.injEq] at he
  obtain ⟨rfl, _, rfl⟩ := he
  refine ⟨A, c, by rw [List.length_take, Nat.min_eq_left hm], by simp; omega, fun hne => ?_⟩
  obtain ⟨b, off, hA, hb, hc⟩ := ht (by rintro rfl; simp at hne)
  refine ⟨b, off, hA, hb, fun j hj => ?_⟩
  simp at hj
  rw [hc j (by omega), at_take (by omega)]
/-- What the first loop has of each round's head. -/
def CutR (w : World) (bs : List (List UInt8)) (v5 v6 i : Value) (wr : World) : Prop :=
  ∃ k, k ≤ bs.length ∧ i = .int .i64 ((k : Nat) : Int) ∧ Own wr w.heap.size v5 (cat (bs.take k)) ∧ wr.ownsRow w.heap.size 3 1 v6 k (zI (ends bs k)) ∧ (∀ b ∈ bs.take k, b.length ≤ 300) ∧ Below w.heap.size w wr
theorem own_other {w w' : World} {base : Nat} {e e' : TypeId} (hne : e ≠ e') {v x : Value} {t : List Value} {m n : Nat} {xs : List Value} (h : w.ownsRow base e' 1 x m t) (hr : w.ownsRow base e 1 v n xs) (hg : w.grownBy w' v.ownBlock) : w'.ownsRow base e' 1 x m t :=
  own_kept h fun i hi _ ⟨_, _, hc⟩ => hg.block i hi (fun q => own_ne hr hc hne q.symm)
theorem mem_take_snoc {bs : List (List UInt8)} {k : Nat} (hk : k < bs.length) (h : ∀ b ∈ bs.take k, b.length ≤ 300) (h1 : (bs.getD k []).length ≤ 300) : ∀ b ∈ bs.take (k + 1), b.length ≤ 300 := by
  rw [take_snoc bs k hk]
  intro b hb
  rcases List.mem_append.1 hb with hb | hb
  · exact h b hb
  · have : b = bs.getD k [] := by simpa [hk] using hb
    rw [this]; exact h1
set_option maxRecDepth 100000 in
set_option maxHeartbeats 4000000 in
theorem cuts_any (v : Value) (bs : List (List UInt8)) (hl : bs.length ≤ 30) (hbl : ∀ t ∈ bs, t.length ≤ 9223372036854775807) (a : Nat) (ha : (a : Int) ≤ 9223372036854775807) (w : World) (hne : bs ≠ []) (h : Reads w v bs) :
    Calls Try.prog 6 #[v, .int .i64 (a : Int)] w fun e w' => e = .returned (.bool true) ∧ Below w.heap.size w w' := by
  obtain ⟨i0, hi, hz0, hz1, hz2⟩ := info_three info_u8
  obtain ⟨j0, hj, hy0, hy1, hy2⟩ := info_three info_int
  obtain ⟨A, c, rfl, hc, hp⟩ := h
  obtain ⟨b0, o0, rfl, hb0, hp⟩ := hp hne
  have HP := Lib.hid hp
  have HBL := Lib.hid hbl
  have HNE := Lib.hid hne
  obtain ⟨n, hn⟩ : ∃ n, n = bs.length := ⟨_, rfl⟩
  rw [← hn] at hc hl ⊢
  have HN := Lib.hid hn
  clear hp hbl hne hn
  go_enter Try.func6, Try.ntmps6
  go_wp2_with fail
  refine (anchor10_any w).mono ?_
  rintro e w1 ⟨rfl, hB1⟩
  have C1 := Lib.hid hB1
  clear hB1
  go_wp2
  go_loopw [5, 6, 27] (fun v5 v6 i wr => CutR w bs v5 v6 i wr) (fun _ _ i _ => n - (intOf i).toNat)
  case atStart => exact ⟨0, Nat.zero_le _, rfl, own_nil _ _, ⟨rfl, .inl ⟨rfl, rfl⟩⟩, by simp, C1.out⟩
  case round =>
    obtain ⟨k, hk, rfl, o5, o6, hsm, hB⟩ := hrel
    rw [← HN.out] at hk
    by_cases hlt : k < n
    · obtain ⟨Ak, ck, q4, y4⟩ := HP.out.bytes hb0 hB k (by rw [← HN.out]; exact hlt)
      obtain ⟨T, hT⟩ : ∃ T, T = bs.getD k [] := ⟨_, rfl⟩
      have hTm : T.length ≤ 9223372036854775807 := HBL.out T (by rw [hT]; have := HN.out; simp [show k < bs.length by omega])
      rw [← hT] at q4 y4
      have HT := Lib.hid hT
      have O5 := Lib.hid o5
      have O6 := Lib.hid o6
      have HSM := Lib.hid hsm
      have HB := Lib.hid hB
      have Y4 := Lib.hid y4
      have hzw : w.heap.size ≤ wr.heap.size := hB.size
      clear hT o5 o6 hsm hB y4
      by_cases hbig : (300 : Int) < (T.length : Int)
      · go_wp2
        go_ret
        exact ⟨rfl, HB.out⟩
      · have hEl : (cat (bs.take k)).length ≤ 9300 := by
          have := En_le (bs.take k) HSM.out
          simp at this
          have := HN.out
          omega
        go_wp2_with fail
        refine (make_ok w.heap.size _ T (by omega) wr hzw Y4.out).mono ?_
        rintro e w2 ⟨v2, rfl, o2, hB2⟩
        have O2 := Lib.hid o2
        have HB2 := Lib.hid hB2
        have hz2w : wr.heap.size ≤ w2.heap.size := hB2.size
        clear o2 hB2
        have hTl : T.length ≤ 300 := by omega
        have hkb : k < bs.length := by have := HN.out; omega
        have hfl := frm_len T
        obtain ⟨E1, hE1⟩ : ∃ E1, E1 = En bs (k + 1) := ⟨_, rfl⟩
        have hE1l : E1 ≤ 9610 := by
          have := En_le (bs.take (k + 1)) (mem_take_snoc hkb HSM.out (by rw [← HT.out]; exact hTl))
          have e : E1 = (cat (bs.take (k + 1))).length := hE1
          simp at this
          have := HN.out
          omega
        have HE1 := Lib.hid hE1
        have HFL := Lib.hid hfl
        clear hE1 hfl
        go_wp2_with (first
          | (at_builtin
             refine wpList_append_row _ rfl (.tmp 41) (.tmp 42) 22 rfl w.heap.size 5 i0 (.int .u8 0) 1 Try.underlying22 hi hz0 hz1 hz2 rfl _ _ _ rfl (O5.out.below HB2.out) w2.heap.size _ (Lib.byteCells (frm T)) rfl (Row.of_own O2.out) (one_bytes _) (by rw [Lib.byteCells_length, HFL.out]; unfold maxLen; omega) (by rw [Lib.byteCells_length, HFL.out]; omega) (by omega) ?_
             intro v3 w3 o3 g3
             have C3 : Hid (Below w.heap.size w w3) := Lib.hid (below_append (HB.out.trans (HB2.out.mono hzw)) (O5.out.below HB2.out) (Nat.le_refl _) g3 (by omega))
             have hz3 : w.heap.size ≤ w3.heap.size := C3.out.size
             have o3' : Own w3 w.heap.size v3 (cat (bs.take (k + 1))) := by rw [take_cat bs k hkb, ← HT.out]; unfold Own; rw [List.length_append, Lib.byteCells_append]; rw [Lib.byteCells_length] at o3; exact o3
             obtain ⟨A3, c3, hv3⟩ := one_slice o3'
             have hv3' : v3 = .slice A3 E1 c3 := by rw [hv3]; exact congrArg (fun z => Value.slice A3 z c3) HE1.out.symm
             clear hv3
             subst hv3'
             have O3 := Lib.hid o3'
             have P6 : Hid (w3.ownsRow w.heap.size 3 1 _ k (zI (ends bs k))) := Lib.hid (own_other (by decide) (own_below O6.out HB2.out) (O5.out.below HB2.out) g3)
             clear o3 g3 o3')
          | (at_builtin
             refine wpList_append_row _ rfl (.tmp 44) (.tmp 47) 38 rfl w.heap.size 3 j0 (.int .i64 0) 8 Try.underlying38 hj hy0 hy1 hy2 rfl _ _ _ rfl (P6.out.alloc _) (w3.heap.size + 1) _ [.int .i64 ((E1 : Nat) : Int)] rfl (Row.lit w3 #[.int .i64 ((E1 : Nat) : Int)] 3 (0, 0)) (by intro y hy; simp at hy; subst hy; rfl) (by simp; unfold maxLen; omega) (by simp; omega) (by simp; omega) ?_
             intro v4 w4 o4 g4
             have C4 : Hid (Below w.heap.size w w4) := Lib.hid (below_append (C3.out.alloc hz3 _) (P6.out.alloc _) (Nat.le_refl _) g4 (by simp; omega))
             have O4 : Hid (w4.ownsRow w.heap.size 3 1 v4 (k + 1) (zI (ends bs (k + 1)))) := Lib.hid (by rw [ends_snoc, ← HE1.out]; exact o4)
             have Q5 : Hid (Own w4 w.heap.size (.slice A3 E1 c3) (cat (bs.take (k + 1)))) := Lib.hid (own_other (by decide) (World.ownsRow.alloc O3.out _) (P6.out.alloc _) g4)
             clear o4 g4))
        go_roundw
        case rel => exact ⟨k + 1, by omega, by go_num, Q5.out, O4.out, mem_take_snoc hkb HSM.out (by rw [← HT.out]; exact hTl), C4.out⟩
        case measure => simp [intOf]; omega
    · have hkn : k = n := by omega
      have htk : bs.take n = bs := by rw [HN.out]; exact List.take_length
      rw [hkn, htk] at o5 hsm
      rw [hkn] at o6
      subst hkn
      clear htk hlt hk
      have hL0 := En_le bs hsm
      obtain ⟨L, hL⟩ : ∃ L, L = (cat bs).length := ⟨_, rfl⟩
      have hLl : L ≤ 9300 := by have := HN.out; omega
      have hEn : En bs k = L := by rw [HN.out, En_all, hL]
      have hLp : 0 < L := by
        have h1 := En_succ bs 0 (List.length_pos_iff.2 HNE.out)
        have h2 := En_mono bs (j := 0 + 1) (k := bs.length) (List.length_pos_iff.2 HNE.out) (Nat.le_refl _)
        rw [En_all] at h2
        omega
      have hkp : 0 < k := by have := List.length_pos_iff.2 HNE.out; have := HN.out; omega
      have ob := o5.bytes
      rcases own_at o5 with ⟨_, h0⟩ | ⟨g5, c5, rfl, hc5, _⟩
      · omega
      rcases own_at o6 with ⟨_, h0⟩ | ⟨g6, c6, rfl, hc6, hg6, ⟨_, _, hg6'⟩, hcell6, _⟩
      · omega
      have hg6l := lt_of_some hg6'
      obtain ⟨m, hm, hml⟩ : ∃ m : Nat, (a : Int) % ((L : Int) + 1) = (m : Int) ∧ m ≤ L := ⟨a % (L + 1), by rw [show (L : Int) + 1 = ((L + 1 : Nat) : Int) by omega]; rfl, by have := Nat.mod_lt a (show 0 < L + 1 by omega); omega⟩
      obtain ⟨i, hi1, hi2, hi3, hi4, hi5⟩ := cut_scan bs m (fun b hb => by have := hsm b hb; omega) (by omega)
      have hs1 := Lib.hid (ob.take m (by omega))
      have HB := Lib.hid hB
      have hzw : w.heap.size ≤ wr.heap.size := hB.size
      have CELL : Hid (∀ j, j < k → wr.cell? ⟨g6, j, none⟩ = some (.int .i64 ((En bs (j + 1) : Nat) : Int))) := Lib.hid fun j hj => by rw [hcell6 j (by omega)]; exact ends_get bs k j hj
      rw [← hL] at hc5 ⊢
      have HL := Lib.hid hL
      have HM := Lib.hid hml
      have HEN := Lib.hid hEn
      clear o5 o6 hsm hB hL0 hL ob hg6' hcell6 hEn
      go_wp2_with fail
      rw [hm]
      refine (scan_any wr.heap.size _ ((cat bs).take m) (by have := HL.out; simp; omega) wr (Nat.le_refl _) hs1.out).mono ?_
      rintro e w2 ⟨v2, u2, rs, vals2, rfl, sc2, no2, bd2, hB2⟩
      obtain ⟨hrs, hu2⟩ := Sc.one sc2 no2 hi4 hi5
      subst hrs hu2
      clear sc2 no2 hi4 hi5 hs1 hm
      have r2 := bd2.reads
      have C2 := Lib.hid (HB.out.trans (hB2.mono hzw))
      have P2 : Hid (∀ j, j < k → ∃ A c, w2.cell? ⟨b0, o0 + j, none⟩ = some (.slice A (bs.getD j []).length c) ∧ Bytes w.heap.size w2 (.slice A (bs.getD j []).length c) (bs.getD j [])) := Lib.hid fun j hj => HP.out.bytes hb0 C2.out j (by rw [← HN.out]; exact hj)
      have CELL2 : Hid (∀ j, j < k → w2.cell? ⟨g6, j, none⟩ = some (.int .i64 ((En bs (j + 1) : Nat) : Int))) := Lib.hid fun j hj => (hB2.cell (p := ⟨g6, j, none⟩) hg6l).trans (CELL.out j hj)
      obtain ⟨A2, c2, rfl, hc2, r2⟩ := r2
      have hil : (bs.take i).length = i := by simp; omega
      rw [hil] at hc2 ⊢
      have HIL := Lib.hid hil
      have hik : i ≤ k := by have := HN.out; omega
      have HI3 := Lib.hid hi3
      have HI1 := Lib.hid hi1
      obtain ⟨u2, hu2⟩ : ∃ u2, u2 = En bs i := ⟨_, rfl⟩
      rw [← hu2] at hi2 ⊢
      have HU := Lib.hid hu2
      have HCE : Hid (i = k → u2 = L) := Lib.hid fun e => by rw [HU.out, e, HEN.out]
      clear CELL bd2 hB2 HB hil hi3 hi1 hu2
      rcases Nat.eq_zero_or_pos i with hi0 | hip
      · subst hi0
        have hu0 : u2 = 0 := HU.out
        subst hu0
        have q6 := CELL2.out 0 hkp
        have hgt : m < En bs (0 + 1) := by
          rcases HI3.out with h | h
          · have := HN.out; omega
          · exact h
        obtain ⟨E1, hE1⟩ : ∃ E1, E1 = En bs (0 + 1) := ⟨_, rfl⟩
        rw [← hE1] at q6 hgt
        clear hE1 r2
        go_wp2
        go_loopw [64] (fun c wr2 => c = .int .i64 0 ∧ wr2 = w2) (fun _ _ => 0)
        case atStart => exact ⟨rfl, rfl⟩
        case round =>
          obtain ⟨rfl, rfl⟩ := hrel
          go_wp2
          go_ret
          exact ⟨rfl, C2.out⟩
      · obtain ⟨b2, o2, rfl, hb2, p2⟩ := r2 (by intro e; have := HIL.out; rw [e] at this; simp at this; omega)
        have R2 : Hid (Places w2 b2 o2 (bs.take i)) := Lib.hid p2
        clear r2 p2
        go_wp2
        go_loopw [64] (fun c wr2 => ∃ j mm : Nat, j ≤ k ∧ c = .int .i64 j ∧ En bs j ≤ m ∧ wr2 = w2.drewN mm) (fun c _ => k - (intOf c).toNat)
        case atStart => exact ⟨0, 0, Nat.zero_le _, rfl, Nat.zero_le _, rfl⟩
        case round =>
          obtain ⟨j, mm, hj, rfl, hEj, rfl⟩ := hrel
          by_cases hlt : j < k
          · have q6 := CELL2.out j hlt
            have hca := cut_at (bs := bs) (n := m) (i := i) (k := j) HI1.out (by rw [← HU.out]; exact hi2) HI3.out (by rw [← HN.out]; exact hlt) hEj
            have HEJ := Lib.hid hEj
            obtain ⟨E1, hE1⟩ : ∃ E1, E1 = En bs (j + 1) := ⟨_, rfl⟩
            rw [← hE1] at q6 hca
            have HE1 := Lib.hid hE1
            clear hE1 hEj
            by_cases hgt : m < E1
            · have hij : i = j := hca.1 hgt
              subst hij
              have q7 := CELL2.out (i - 1) (by omega)
              rw [show i - 1 + 1 = i by omega, ← HU.out] at q7
              clear hca
              obtain ⟨i1, hi1⟩ : ∃ i1, i1 = i - 1 := ⟨_, rfl⟩
              rw [← hi1] at q7
              have hsub : (i : Int) - 1 = (i1 : Int) := by omega
              have j1 : (0 : Int) ≤ (i1 : Int) := by omega
              have j2 : (i1 : Int) < (k : Int) := by omega
              have j3 : ((i : Int) == 0) = false := by simp; omega
              have j4 : (0 : Int) < (i : Int) := by omega
              clear hi1
              go_wp2
              go_ret
              exact ⟨rfl, drewN_below C2.out mm⟩
            · have hij : j < i := hca.2 (by omega)
              obtain ⟨A4, c4, q4, y4⟩ := R2.out j (by rw [HIL.out]; exact hij)
              obtain ⟨A5, c5', q5, y5⟩ := P2.out j hlt
              have hget : (bs.take i).getD j [] = bs.getD j [] := by simp [List.getD_eq_getElem?_getD, hij]
              rw [hget] at q4 y4
              have s4 := str_drewN y4
              have s5 := str_drewN y5
              obtain ⟨T, hT⟩ : ∃ T, T = bs.getD j [] := ⟨_, rfl⟩
              rw [← hT] at q4 q5 s4 s5
              clear y4 y5 hT hget hca
              have i1 : (0 : Int) ≤ (j : Int) := by omega
              have i2 : (j : Int) < (i : Int) := by omega
              have i3 : (j : Int) < (k : Int) := by omega
              have i4 : decide ((i : Int) ≤ (j : Int)) = false := by simp; omega
              go_wp2
              go_quiet (fail)
              go_wp2
              go_roundw
              case rel => exact ⟨j + 1, _, by omega, by go_num, by rw [← HE1.out]; omega, rfl⟩
              case measure => simp [intOf]; omega
          · have hjk : j = k := by omega
            subst hjk
            have hij : i = j := by have := cut_end HI1.out HI3.out (by rw [← HN.out]; exact hEj); have := HN.out; omega
            subst hij
            have hu : u2 = L := HCE.out rfl
            subst hu
            clear hEj
            go_wp2
            go_ret
            exact ⟨rfl, drewN_below C2.out mm⟩
theorem sc_empty {u : Nat} {bs : List (List UInt8)} (h : Sc [] u bs) : bs = [] ∧ u = 0 := by
  cases bs with
  | nil => exact ⟨rfl, h⟩
  | cons b bs => have := h.1; rw [rdE_nil] at this; cases this
set_option maxRecDepth 100000 in
set_option maxHeartbeats 1000000 in
theorem cuts_none (A : Option Addr) (c : Nat) (a : Nat) (ha : (a : Int) ≤ 9223372036854775807) (w : World) :
    Calls Try.prog 6 #[.slice A 0 c, .int .i64 (a : Int)] w fun e w' => e = .returned (.bool true) ∧ Below w.heap.size w w' := by
  have hm : (a : Int) % 1 = 0 := by omega
  go_enter Try.func6, Try.ntmps6
  go_wp2_with fail
  refine (anchor10_any w).mono ?_
  rintro e w1 ⟨rfl, hB1⟩
  have C1 := Lib.hid hB1
  clear hB1
  go_wp2
  go_loop [5, 6, 27] (fun a b i => a = .slice none 0 0 ∧ b = .slice none 0 0 ∧ i = .int .i64 0) (fun _ _ _ => 0)
  case atStart => exact ⟨rfl, rfl, rfl⟩
  case round =>
    obtain ⟨rfl, rfl, rfl⟩ := hrel
    go_wp2_with fail
    refine (scan_empty none 0 w1).mono ?_
    rintro e w2 ⟨v2, u2, rs, vals2, rfl, sc2, no2, bd2, hB2⟩
    obtain ⟨rfl, rfl⟩ := sc_empty sc2
    have r2 := bd2.reads
    have C2 := Lib.hid (C1.out.trans (hB2.mono C1.out.size))
    obtain ⟨A2, c2, rfl, hc2, _⟩ := r2
    clear sc2 no2 bd2 hB2
    simp only [List.length_nil]
    go_wp2
    go_loop [64] (fun i => i = .int .i64 0) (fun _ => 0)
    case atStart => rfl
    case round =>
      subst hrel
      go_wp2
      go_ret
      exact ⟨rfl, C2.out⟩
theorem frameCuts_law (v : Value) (bs : List (List UInt8)) (vals : List Value) (a : Int) (w : World) (hs : bs.length ≤ 9223372036854775807) (hbl : ∀ t ∈ bs, t.length ≤ 9223372036854775807) (h : Mat w.heap.size w v bs vals) (ha : -9223372036854775808 ≤ a ∧ a ≤ 9223372036854775807) :
    Calls Try.prog 6 #[v, .int .i64 a] w fun e w' => e = .returned (.bool true) ∧ Below w.heap.size w w' := by
  have hr := reads_of_row h.1 h.2.1 h.2.2 (Nat.le_refl _)
  by_cases ho : 30 < bs.length ∨ a < 0
  · obtain ⟨A, c, rfl, _⟩ := hr
    exact cuts_out A _ c a hs ha ho w
  · have h3 : ((a.toNat : Nat) : Int) = a := by omega
    rw [← h3]
    by_cases hne : bs = []
    · subst hne
      obtain ⟨A, c, rfl, _⟩ := hr
      exact cuts_none A c a.toNat (by omega) w
    · exact cuts_any v bs (by omega) hbl a.toNat (by omega) w hne hr
end Go.Proofs.Ytcikdeknbkcggaa
