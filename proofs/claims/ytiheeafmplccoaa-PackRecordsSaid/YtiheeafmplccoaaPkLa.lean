/- PackCuts: the law's walk. -/
import Derived.Test.YtiheeafmplccoaaPkO
namespace Go.Proofs.Ytiheeafmplccoaa
open Go.RowKit
variable {w w' : World}

theorem eM_pos (m : Ms) : 48 ≤ (eM m).length := by simp only [eM, eL, List.length_append, n6_len]; omega
theorem EncP.cases {ok : Bool} {b : List UInt8} {e : Ending} {w w' : World} (h : EncP w ok b e w') : Below w.heap.size w w' ∧ ((ok = true ∧ b.length ≤ 65536 ∧ ∃ A c, e = .returned (.tuple #[.slice A b.length c, .int .i64 0]) ∧ Own w' w.heap.size (.slice A b.length c) b) ∨ (ok = false ∧ e = .returned (.tuple #[.slice none 0 0, .int .i64 10])) ∨ (ok = true ∧ 65536 < b.length ∧ e = .returned (.tuple #[.slice none 0 0, .int .i64 12]))) := by
  obtain ⟨hB, h⟩ := h
  refine ⟨hB, ?_⟩
  split at h
  · rename_i hc
    obtain ⟨v, he, ho⟩ := h
    obtain ⟨A, c, rfl⟩ := one_slice ho
    exact .inl ⟨hc.1, hc.2, A, c, he, ho⟩
  · rename_i hc
    cases ok
    · exact .inr (.inl ⟨rfl, h⟩)
    · exact .inr (.inr ⟨rfl, by rcases Nat.lt_or_ge 65536 b.length with h' | h'; exact h'; exact absurd ⟨rfl, h'⟩ hc, h⟩)
theorem DecPM.bad {e : Ending} {w w' : World} (h : DecPM w none e w') : Below w.heap.size w w' ∧ e = .returned (.tuple #[.agg #[.int .i64 0, .int .i64 0, .int .i64 0, .int .i64 0, .int .i64 0, .int .i64 0, .int .i64 0, .slice none 0 0], .int .i64 10]) := by
  obtain ⟨hB, ⟨_, _, h, _⟩ | ⟨_, h⟩⟩ := h
  · cases h
  · exact ⟨hB, h⟩
theorem own_block (g n c : Nat) : (Value.slice (some ⟨g, 0, none⟩) n c).ownBlock = some g := by simp [Value.ownBlock]
theorem own_on {w w' : World} {base : Nat} {v : Value} {s : List UInt8} (h : Own w base v s) (hb : Below w.heap.size w w') : Own w' base v s := own_below h hb
set_option maxRecDepth 100000 in
set_option maxHeartbeats 8000000 in
theorem packCuts_law (m : Ms) (c : Value) (cut : Int) (v2 : Value) (s2 : List UInt8) (W : World) (hV : EntsV W.heap.size W c m.log) (hm : m.log.length ≤ 9223372036854775807) (hcut : -9223372036854775808 ≤ cut ∧ cut ≤ 9223372036854775807) (hl2 : s2.length ≤ 9223372036854775807) (h2 : Bytes W.heap.size W v2 s2) :
    Calls Try.prog 7 #[m.val c, .int .i64 cut, v2] W fun e w' => e = .returned (.bool true) ∧ Below W.heap.size W w' := by
  obtain ⟨i0, hi, hz0, hz1, hz2⟩ := info_three info_u8
  obtain ⟨A, cp, rfl⟩ := hV.form
  have HS2 := Lib.hid h2
  obtain ⟨A2, c2, rfl, _, _⟩ := h2
  obtain ⟨n2, hn2⟩ : ∃ n2, n2 = s2.length := ⟨_, rfl⟩
  rw [← hn2] at HS2 hl2 ⊢
  have HN2 := Lib.hid hn2
  obtain ⟨hcut1, hcut2⟩ := hcut
  obtain ⟨arr, harr⟩ : ∃ arr : Array Value, arr = #[.int .i64 m.k, .int .i64 m.vi, .int .i64 m.fr, .int .i64 m.to, .int .i64 m.op, .int .i64 m.co, .int .i64 m.no, .slice A m.log.length cp] := ⟨_, rfl⟩
  have B0 := Lib.hid ((Below.refl W.heap.size W).alloc (Nat.le_refl _) (.cells arr 24))
  have HX := Lib.hid (Blk.new W 24 arr)
  have HV := Lib.hid hV
  have HM := Lib.hid hm
  have hs0 : W.heap.size < (W.alloc (.cells arr 24)).heap.size := by simp
  subst harr
  clear hV hm hn2
  go_enter Try.func7, Try.ntmps7
  go_upto_region 1 with (fail)
  generalize W.alloc _ = w0 at *
  go_wp2_with fail
  refine (anchor11_any _).mono ?_
  rintro e w1 ⟨rfl, b1⟩
  have B1 := Lib.hid (B0.out.trans (b1.mono (by omega)))
  have X1 := Lib.hid (HX.out.on b1)
  have x7 := X1.out.cell 7
  have hs1 : W.heap.size < w1.heap.size := Nat.lt_of_lt_of_le hs0 b1.size
  clear b1
  go_wp2_with fail
  refine (small_any _ m.log w1 HM.out ((HV.out.below B1.out).more (by omega))).mono ?_
  rintro e w2 ⟨rfl, b2⟩
  have B2 := Lib.hid (B1.out.trans (b2.mono (by omega)))
  have X2 := Lib.hid (X1.out.on b2)
  have hs2 : W.heap.size < w2.heap.size := Nat.lt_of_lt_of_le hs1 b2.size
  clear b2 x7
  cases hsm : smallL m.log
  · go_wp2
    go_ret
    exact ⟨rfl, B2.out⟩
  clear hsm
  by_cases hc0 : cut < 0
  · go_wp2
    go_ret
    exact ⟨rfl, B2.out⟩
  by_cases hc1 : n2 < 1
  · go_wp2
    go_ret
    exact ⟨rfl, B2.out⟩
  by_cases hc2 : 100 < n2
  · go_wp2
    go_ret
    exact ⟨rfl, B2.out⟩
  have x0 := X2.out.cell 0
  have x1 := X2.out.cell 1
  have x2 := X2.out.cell 2
  have x3 := X2.out.cell 3
  have x4 := X2.out.cell 4
  have x5 := X2.out.cell 5
  have x6 := X2.out.cell 6
  have x7 := X2.out.cell 7
  have HE := Lib.hid (encM_any m _ w2 ((HV.out.below B2.out).more (by omega)))
  go_wp2_with fail
  refine HE.out.mono ?_
  intro e w3 he
  obtain ⟨b3, he⟩ := he.cases
  have B3 := Lib.hid (B2.out.trans (b3.mono (by omega)))
  have hs3 : W.heap.size < w3.heap.size := Nat.lt_of_lt_of_le hs2 b3.size
  clear b3 x0 x1 x2 x3 x4 x5 x6 x7
  rcases he with ⟨hok, hl, A3, c3, rfl, ho⟩ | ⟨hok, rfl⟩ | ⟨hok, hl, rfl⟩
  rotate_left
  · go_wp2
    go_ret
    exact ⟨rfl, B3.out⟩
  · go_wp2
    go_ret
    exact ⟨rfl, B3.out⟩
  obtain ⟨n, hn⟩ : ∃ n, n = (eM m).length := ⟨_, rfl⟩
  rw [← hn] at ho hl ⊢
  have hpos : 48 ≤ n := by rw [hn]; exact eM_pos m
  have HK := Lib.hid hok
  have HO := Lib.hid ho
  have HN := Lib.hid hn
  obtain ⟨q, rfl⟩ : ∃ q : Nat, cut = (q : Int) := ⟨cut.toNat, by omega⟩
  obtain ⟨r, hr⟩ : ∃ r, r = q % n := ⟨_, rfl⟩
  have hrn : r < n := by rw [hr]; exact Nat.mod_lt _ (by omega)
  have hmod : (q : Int) % (n : Int) = (r : Int) := by rw [hr]; omega
  have htm : Int.tmod (q : Int) (n : Int) = (r : Int) := by rw [Int.tmod_eq_emod_of_nonneg (by omega), hmod]
  obtain ⟨g, rfl⟩ : ∃ g, A3 = some ⟨g, 0, none⟩ := by
    rcases ho.2 with ⟨hv, _⟩ | ⟨g, _, _, hv, _⟩
    · injection hv with h1 h2 h3; omega
    · injection hv with h1 h2 h3; exact ⟨g, h1⟩
  have hcap : n ≤ c3 := by
    obtain ⟨_, _, hv, hc, _⟩ := ho.bytes
    injection hv with h1 h2 h3; omega
  have HP := Lib.hid (bytes_pre ho.bytes (by rw [← hn]; omega : r ≤ (eM m).length) (some ⟨g, 0, none⟩) c3 (fun _ => rfl) (by omega))
  have HD : Hid (dM ((eM m).take r) = none) := Lib.hid (dM_cut hok r (by rw [← hn]; exact hrn))
  clear ho hok hn hr HE
  go_wp2_with fail
  refine (decM_any _ _ _ w3 (Nat.le_refl _) HP.out).mono ?_
  intro e w4 h4
  rw [HD.out] at h4
  obtain ⟨b4, rfl⟩ := DecPM.bad h4
  have B5 := Lib.hid ((B3.out.trans (b4.mono (by omega))).alloc (by have := b4.size; omega) (.cells #[.int .i64 0, .int .i64 0, .int .i64 0, .int .i64 0, .int .i64 0, .int .i64 0, .int .i64 0, .slice none 0 0] 24))
  have O5 := Lib.hid (own_on HO.out (b4.alloc b4.size (.cells #[.int .i64 0, .int .i64 0, .int .i64 0, .int .i64 0, .int .i64 0, .int .i64 0, .int .i64 0, .slice none 0 0] 24)))
  have hs5 : W.heap.size < (w4.alloc (.cells #[.int .i64 0, .int .i64 0, .int .i64 0, .int .i64 0, .int .i64 0, .int .i64 0, .int .i64 0, .slice none 0 0] 24)).heap.size := by have := b4.size; simp; omega
  clear b4 h4
  go_upto_region 9 with (fail)
  generalize w4.alloc _ = w5 at *
  have a5 : Below w5.heap.size w5 (w5.alloc (.cells #[] 5)) := (Below.refl _ _).alloc (Nat.le_refl _) _
  have R1 := Lib.hid (Row.of_bytes (O5.out.bytes.below a5))
  have hbl : (Lib.byteCells (eM m)).length = n := by rw [Lib.byteCells_length, ← HN.out]
  have hbl2 : (Lib.byteCells s2).length = n2 := by rw [Lib.byteCells_length, ← HN2.out]
  have B5a := Lib.hid (B5.out.trans (a5.mono (by omega)))
  clear a5
  go_wp2_with (first
    | (at_builtin
       refine wpList_append_row _ rfl (.tmp 51) (.tmp 52) 31 rfl w5.heap.size 5 i0 (.int .u8 0) 1 Try.underlying31 hi hz0 hz1 hz2 rfl (.slice (some ⟨w5.heap.size, 0, none⟩) 0 0) 0 [] rfl (own_empty w5 w5.heap.size 5 (Nat.le_refl _)) w5.heap.size _ (Lib.byteCells (eM m)) rfl R1.out (one_bytes _) (by rw [hbl]; unfold maxLen; omega) (by rw [hbl]; omega) (by simp) ?_
       intro v6 w6 o6 g6
       have O6 := Lib.hid o6
       have B6 := Lib.hid (B5a.out.grown g6 (by simp; omega) (fun k hk => by rw [own_block] at hk; injection hk with hk; omega))
       have R2 := Lib.hid (Row.of_bytes (HS2.out.below B6.out))
       have hs6 : w5.heap.size < w6.heap.size := by have := g6.size; simp at this; omega
       clear o6 g6)
    | (at_builtin
       refine wpList_append_row _ rfl (.tmp 53) (.tmp 54) 31 rfl w5.heap.size 5 i0 (.int .u8 0) 1 Try.underlying31 hi hz0 hz1 hz2 rfl v6 _ _ rfl O6.out W.heap.size _ (Lib.byteCells s2) rfl R2.out (one_bytes _) (by rw [hbl, hbl2]; unfold maxLen; omega) (by rw [hbl, hbl2]; omega) (by omega) ?_
       intro v7 w7 o7 g7
       have O7 : Hid (Own w7 w5.heap.size v7 (eM m ++ s2)) := Lib.hid (by
         unfold Own
         rw [List.length_append, Lib.byteCells_append, ← HN.out, ← HN2.out]
         rw [hbl, hbl2] at o7
         simpa using o7)
       have B7 := Lib.hid (B6.out.grown g7 (by omega) (fun k hk => by have := (World.ownsRow.lt O6.out k hk).1; omega))
       have hs7 : W.heap.size < w7.heap.size := by have := g7.size; omega
       clear o7 g7))
  refine (decM_any _ _ _ w7 (Nat.le_refl _) O7.out.bytes).mono ?_
  intro e w8 h8
  rw [dM_more HK.out s2 (by rintro rfl; have := HN2.out; simp at this; omega)] at h8
  obtain ⟨b8, rfl⟩ := DecPM.bad h8
  have B8 := Lib.hid (B7.out.trans (b8.mono (by omega)))
  have hs8 : W.heap.size < w8.heap.size := Nat.lt_of_lt_of_le hs7 b8.size
  clear b8 h8
  go_wp2
  go_ret
  exact ⟨rfl, B8.out.alloc (by omega) _⟩
end Go.Proofs.Ytiheeafmplccoaa
