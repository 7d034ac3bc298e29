/- unit.Join, as a contract. -/
import Derived.Test.YtphpcdnefjbopaaDoorEnc
namespace Go.Proofs.YtphpcdnefjbopaaDoor
open Go.RowKit Go.Shelf

/-- The bytes of a number that may be a unit. -/
def ub (u : Int) : List UInt8 := toB (bytesOf u.toNat)
def jn (l : List Int) : List UInt8 := l.flatMap ub
theorem ub_len (u : Int) : (ub u).length ≤ 4 := by unfold ub; rw [toB_len]; exact (bytesOf_len _).2
theorem jn_len (l : List Int) : (jn l).length ≤ 4 * l.length := by
  induction l with
  | nil => simp [jn]
  | cons u l ih =>
    have := ub_len u
    simp only [jn, List.flatMap_cons, List.length_append, List.length_cons] at ih ⊢
    omega
theorem jn_take (l : List Int) (k : Nat) (h : k < l.length) : jn (l.take (k + 1)) = jn (l.take k) ++ ub (l[k]?.getD 0) := by
  unfold jn
  rw [List.take_succ_eq_append_getElem h, List.flatMap_append]
  simp only [List.flatMap_cons, List.flatMap_nil, List.append_nil, List.getElem?_eq_getElem h, Option.getD_some]

theorem runeCells_ch {u : Int} (h : charB u = true) : Lib.runeCells u = Lib.byteCells (ub u) := by
  obtain ⟨c, rfl⟩ : ∃ c : Nat, u = (c : Int) := by simp [charB] at h; exact ⟨u.toNat, by omega⟩
  have hc : isCh c := by simp [charB] at h; exact ⟨by omega, by omega⟩
  obtain ⟨h1, h2⟩ := hc
  have hb := encN_byte c h1
  have e : ub (c : Int) = toB (encN c) := by unfold ub bytesOf; rw [Int.toNat_natCast, if_pos (by omega)]
  rw [e, byteCells_toB _ hb]
  unfold Lib.runeCells
  have : Lib.encodeRuneZ (c : Int) = (encN c).map fun x => ((x : Nat) : Int) := by
    unfold encN
    by_cases e1 : c < 128
    · rw [if_pos e1, Lib.encodeRuneZ_one (by omega) (by omega)]; simp
    · rw [if_neg e1]
      by_cases e2 : c < 2048
      · rw [if_pos e2, Lib.encodeRuneZ_two (by omega) (by omega)]; simp
      · rw [if_neg e2]
        by_cases e3 : c < 65536
        · rw [if_pos e3, Lib.encodeRuneZ_three (by omega)]; simp
        · rw [if_neg e3, Lib.encodeRuneZ_four (by omega) (by omega)]; simp
  rw [this, List.map_map]
  rfl
theorem stray_cells {u : Int} (h : strayB u = true) : Lib.byteCells (ub u) = [.int .u8 (u - 1114112)] := by
  obtain ⟨c, rfl⟩ : ∃ c : Nat, u = (c : Int) := by simp [strayB] at h; exact ⟨u.toNat, by omega⟩
  simp [strayB] at h
  unfold ub bytesOf
  rw [Int.toNat_natCast, if_neg (by omega), byteCells_toB _ (by simp; omega)]
  simp
  omega

def JoinPost (l : List Int) (w : World) (e : Ending) (w' : World) : Prop :=
  (((∀ u ∈ l, rightB u = true) ∧ ∃ v, e = .returned (.tuple #[v, .int .i64 0]) ∧ w'.ownsRow w.heap.size 5 1 v (jn l).length (Lib.byteCells (jn l))) ∨
   ((∃ u ∈ l, rightB u = false) ∧ e = .returned (.tuple #[.slice none 0 0, .int .i64 10]))) ∧ Below w.heap.size w w'

set_option maxHeartbeats 4000000 in
set_option maxRecDepth 100000 in
theorem join_any (v0 : Value) (l : List Int) (hmax : l.length ≤ 1000000) (hbd : ∀ n ∈ l, -9223372036854775808 ≤ n ∧ n ≤ 9223372036854775807) (n₀ : Nat) (w : World) (hn₀ : n₀ ≤ w.heap.size) (h : Row n₀ w v0 (zs l)) :
    Calls Tryd.prog 16 #[v0] w (JoinPost l w) := by
  obtain ⟨i0, hi, hz0, hz1, hz2⟩ := info_parts info5
  have h' := h.more hn₀
  obtain ⟨A, cap, rfl, _, hA⟩ := h'
  rw [zs_len]
  by_cases hl : l = []
  · subst hl
    simp only [List.length_nil]
    clear hA hbd h hmax
    go_enter Tryd.func16, Tryd.ntmps16
    go_wp2
    go_loop [4, 11] (fun v i => v = .slice none 0 0 ∧ i = .int .i64 0) (fun _ _ => 0)
    case atStart => exact ⟨rfl, rfl⟩
    case round =>
      obtain ⟨rfl, rfl⟩ := hrel
      go_wp2
      go_ret2
      exact ⟨.inl ⟨by simp, _, rfl, World.ownsRow_nil _ _ _ _⟩, Below.refl _ _⟩
  · have hne : zs l ≠ [] := fun e => hl (by have := congrArg List.length e; rw [zs_len, List.length_nil] at this; exact List.eq_nil_of_length_eq_zero this)
    obtain ⟨b, off, rfl, hb, ht⟩ := hA hne
    obtain ⟨n, hn⟩ : ∃ n, n = l.length := ⟨_, rfl⟩
    rw [← hn] at hmax ⊢
    have HN := Lib.hid hn
    have HT := Lib.hid ht
    have HB := Lib.hid hbd
    clear hn hA hbd h hl hne ht
    go_enter Tryd.func16, Tryd.ntmps16
    go_wp2
    go_loopw [4, 11] (fun v i wr => ∃ k : Nat, k ≤ n ∧ i = .int .i64 k ∧ wr.ownsRow w.heap.size 5 1 v (jn (l.take k)).length (Lib.byteCells (jn (l.take k))) ∧ (∀ u ∈ l.take k, rightB u = true) ∧ Below w.heap.size w wr) (fun _ i _ => n - (intOf i).toNat)
    case atStart => exact ⟨0, Nat.zero_le _, rfl, World.ownsRow_nil _ _ _ _, by simp, Below.refl _ _⟩
    case round =>
      obtain ⟨k, hk, rfl, hown, hR, hB⟩ := hrel
      by_cases hlt : k < n
      · have hkl : k < l.length := by rw [← HN.out]; exact hlt
        have hc := (hB.cell (p := ⟨b, off + k, none⟩) hb).trans (HT.out k _ (zs_get hkl))
        have hj := jn_take l k hkl
        have hbd := HB.out (l[k]?.getD 0) (by rw [List.getElem?_eq_getElem hkl]; exact List.getElem_mem hkl)
        have hmem : l[k]?.getD 0 ∈ l := by rw [List.getElem?_eq_getElem hkl]; exact List.getElem_mem hkl
        have hjl := jn_len (l.take k)
        have htl : (l.take k).length ≤ k := List.length_take_le _ _
        have hR' : rightB (l[k]?.getD 0) = true → ∀ u ∈ l.take (k + 1), rightB u = true := by
          intro hr u hu
          rw [List.take_succ_eq_append_getElem hkl] at hu
          rcases List.mem_append.1 hu with hu | hu
          · exact hR u hu
          · simp at hu
            rw [hu]
            rw [List.getElem?_eq_getElem hkl] at hr
            exact hr
        obtain ⟨u, hu⟩ : ∃ u, u = l[k]?.getD 0 := ⟨_, rfl⟩
        rw [← hu] at hc hj hbd hmem hR'
        have HJ := Lib.hid hj
        have HR := Lib.hid hR'
        have HM := Lib.hid hmem
        obtain ⟨m, hm⟩ : ∃ m, m = (jn (l.take k)).length := ⟨_, rfl⟩
        rw [← hm] at hown hjl
        have HMM := Lib.hid hm
        clear hj hR' hmem hu hm
        have hm4 : m + 4 ≤ 140737488355328 := by omega
        cases hch : charB u with
        | true =>
          have hr : rightB u = true := by simp [rightB, hch]
          have hcr : charR u = u := by simp [charB] at hch; simp [charR]; omega
          have hub : 0 ≤ u ∧ u ≤ 1114111 := by simp [charB] at hch; omega
          have HC := Lib.hid (runeCells_ch hch)
          have HAp := Lib.hid (Tryd.utf8_AppendRune_plain w.heap.size u4 m (Lib.byteCells (jn (l.take k))) u (by omega) (by omega) wr hown hm4 hB.size)
          have HRR := Lib.hid (HR.out hr)
          have HOwn := Lib.hid hown
          clear hr hown
          go_wp2_with fail
          refine (character_any u _).mono ?_
          rintro e wx ⟨rfl, rfl⟩
          rw [hch, hcr]
          go_wp2_with fail
          refine HAp.out.mono ?_
          rintro e w2 ⟨v2, rfl, o2, obj, g2⟩
          have hB2 : Below w.heap.size w w2 := below_append (hB.alloc hB.size _) (HOwn.out.alloc _) (Nat.le_refl _) g2 (by simp; have := hB.size; omega)
          rw [HC.out, ← Lib.byteCells_append, ← HJ.out, Lib.byteCells_length] at o2
          have hlen : m + (ub u).length = (jn (l.take (k + 1))).length := by rw [HJ.out, List.length_append, HMM.out]
          rw [hlen] at o2
          have O2 := Lib.hid o2
          clear o2 g2 hlen
          go_wp2
          go_roundw
          case rel => exact ⟨k + 1, by omega, by go_num, O2.out, HRR.out, hB2⟩
          case measure => simp [intOf]; omega
        | false =>
          cases hst : strayB u with
          | true =>
            have hr : rightB u = true := by simp [rightB, hst]
            have hub : 1114240 ≤ u ∧ u ≤ 1114367 := by simp [strayB] at hst; omega
            obtain ⟨hub1, hub2⟩ := hub
            have HC := Lib.hid (stray_cells hst)
            have HRR := Lib.hid (HR.out hr)
            clear hr
            go_wp2_with fail
            refine (character_any u _).mono ?_
            rintro e wx ⟨rfl, rfl⟩
            rw [hch]
            go_wp2_with fail
            refine (stray_any u _).mono ?_
            rintro e wx ⟨rfl, rfl⟩
            rw [hst]
            go_wp2_with (at_builtin
                         refine wpList_append_row _ rfl (.tmp 28) (.tmp 32) 22 rfl w.heap.size 5 i0 (.int .u8 0) 1 Tryd.underlying22 hi hz0 hz1 hz2 rfl _ _ (Lib.byteCells (jn (l.take k))) rfl (hown.alloc _) (wr.heap.size + 1) _ [.int .u8 (u - 1114112)] rfl (Row.lit wr #[.int .u8 (u - 1114112)] 5 (0, 0)) (by simp [Value.oneCell']) (by unfold maxLen; simp; omega) (by simp; omega) (by simp; have := hB.size; omega) ?_
                         intro v2 w2 o2 g2
                         have hB2 : Below w.heap.size w w2 := below_append (hB.alloc hB.size _) (hown.alloc _) (Nat.le_refl _) g2 (by simp; have := hB.size; omega)
                         rw [← HC.out, ← Lib.byteCells_append, ← HJ.out, Lib.byteCells_length] at o2
                         have hlen : m + (ub u).length = (jn (l.take (k + 1))).length := by rw [HJ.out, List.length_append, HMM.out]
                         rw [hlen] at o2
                         have O2 := Lib.hid o2
                         clear o2 g2 hlen hown)
            go_roundw
            case rel => exact ⟨k + 1, by omega, by go_num, O2.out, HRR.out, hB2⟩
            case measure => simp [intOf]; omega
          | false =>
            have hr : rightB u = false := by simp [rightB, hst, hch]
            have HRR := Lib.hid hr
            clear hr hown
            go_wp2_with fail
            refine (character_any u _).mono ?_
            rintro e wx ⟨rfl, rfl⟩
            rw [hch]
            go_wp2_with fail
            refine (stray_any u _).mono ?_
            rintro e wx ⟨rfl, rfl⟩
            rw [hst]
            go_wp2
            go_ret2
            exact ⟨.inr ⟨⟨u, HM.out, HRR.out⟩, rfl⟩, hB⟩
      · obtain rfl : k = n := by omega
        have hkl : l.length ≤ k := by rw [← HN.out]; exact Nat.le_refl _
        rw [List.take_of_length_le hkl] at hown hR
        have HR := Lib.hid hR
        have HOwn := Lib.hid hown
        clear hR hown
        go_wp2
        go_ret2
        exact ⟨.inl ⟨HR.out, _, rfl, HOwn.out⟩, hB⟩

end Go.Proofs.YtphpcdnefjbopaaDoor
