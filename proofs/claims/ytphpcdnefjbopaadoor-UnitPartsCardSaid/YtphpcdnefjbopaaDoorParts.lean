/- The law UnitParts, as a contract: true, and nothing that lay has turned. -/
import Derived.Test.YtphpcdnefjbopaaDoorEnc
namespace Go.Proofs.YtphpcdnefjbopaaDoor
open Go.RowKit Go.Shelf

section
variable {P : Program} (w : World)
/-- .. where the operation is guarded, and the guard says yes. -/
theorem wpList_append_row_g {ops : Array Oper} {rest : List Oper} {o : Oper} {a : Act} {Q : Exit → Act → World → Prop} (hw : Region.wanted o (yielded ops a.tmps) = true) (s x : Operand) (t : TypeId)
    (ho : o.op = .call { callee := .builtin .append, args := #[s, x], argTypes := #[t, t] })
    (base : Nat) (e : TypeId) (i : TypeInfo) (z : Value) (bytes : Nat) (ht : P.underlying t = some (.slice e)) (hi : P.info? e = some i) (hz : i.zero = some z)
    (hsize : i.size = 1) (hby : i.bytes = bytes) (hzs : z.cells.size = 1) (v : Value) (n : Nat) (xs : List Value) (hs : a.eval s = v) (hown : w.ownsRow base e 1 v n xs)
    (n₀ : Nat) (u : Value) (ys : List Value) (hx : a.eval x = u) (hr : Row n₀ w u ys) (h1 : ∀ y ∈ ys, y.oneCell' = true) (h63 : n + ys.length ≤ maxLen) (hbytes : (n + ys.length) * bytes ≤ 140737488355328) (hbase : base ≤ w.heap.size)
    (h : ∀ v' w', w'.ownsRow base e 1 v' (n + ys.length) (xs ++ ys) → w.grownBy w' v.ownBlock → wpList P ops Q rest (a.put o.dst v') w') : wpList P ops Q (o :: rest) a w := by
  refine wpList_step fun K hK => ?_
  obtain ⟨v', w', hrun, h2, h3⟩ := run_append_row (P := P) w base t o.type e i z bytes ht hi hz hsize hby hzs v n xs hown n₀ u ys hr h1 h63 hbytes hbase
  rw [if_pos hw]
  unfold Oper.wp execOp
  simp only [ho, resolve, invoke, builtin, Sem.run_bind, Sem.run_pure, Result.andThen_ok, List.map_toArray, List.map_cons, List.map_nil, hs, hx, hrun]
  exact hK _ _ (h v' w' h2 h3)
end

theorem own_some {w : World} {base : Nat} {e : TypeId} {v : Value} {n : Nat} {xs : List Value} (h : w.ownsRow base e 1 v n xs) (hn : 0 < n) : ∃ g cap, v = .slice (some ⟨g, 0, none⟩) n cap := by
  obtain ⟨m, rfl⟩ : ∃ m, n = m + 1 := ⟨n - 1, by omega⟩
  exact ownsRow_succ h

set_option maxHeartbeats 4000000 in
set_option maxRecDepth 100000 in
theorem parts_small (v0 : Value) (s0 : List UInt8) (c : Nat) (v2 : Value) (s2 : List UInt8) (w : World) (hT : TabsAt w.heap.size w) (h0 : Bytes w.heap.size w v0 s0) (h2 : Bytes w.heap.size w v2 s2)
    (k0 : s0.length ≤ 300) (k2 : s2.length ≤ 300) (hc : isCh c) :
    Calls Tryd.prog 6 #[v0, .int .i64 (c : Int), v2] w fun e w' => e = .returned (.bool true) ∧ Below w.heap.size w w' := by
  obtain ⟨i0, hi, hz0, hz1, hz2⟩ := info_parts info5
  obtain ⟨j0, gi, gz0, gz1, gz2⟩ := info_parts info3
  have H0 := Lib.hid h0
  have H2 := Lib.hid h2
  have H := Lib.hid hT
  have hu0 := un_len s0
  have hu2 := un_len s2
  have HC := Lib.hid hc
  have hch : charB (c : Int) = true := by obtain ⟨q1, q2⟩ := hc; simp [charB]; omega
  have l0 : ¬ (300 : Int) < (s0.length : Int) := by omega
  have l2 : ¬ (300 : Int) < (s2.length : Int) := by omega
  obtain ⟨E, hE⟩ : ∃ E, E = toB (encN c) := ⟨_, rfl⟩
  have hEl : E.length ≤ 4 := by rw [hE, toB_len]; exact (encN_len c).2
  have HE := Lib.hid hE
  obtain ⟨A0, cap0, rfl, _⟩ := h0
  obtain ⟨A2, cap2, rfl, _⟩ := h2
  clear hT hc hE
  go_enter Tryd.func6, Tryd.ntmps6
  go_wp2_with fail
  refine (anchor_any w H.out).mono ?_
  rintro e w1 ⟨rfl, hB1⟩
  go_wp2_with (go_at_call 20; refine (char_any _ _).mono ?_; rintro e w' ⟨rfl, rfl⟩)
  refine (bytes_any c HC.out w1).mono ?_
  rintro e w2 ⟨x2, rfl, m2, hB2'⟩
  rw [← HE.out] at m2
  have hB2 : Below w.heap.size w w2 := hB1.trans (hB2'.mono hB1.size)
  have M2 := Lib.hid m2
  clear hB2' hB1 m2
  -- first
  go_wp2_with (first
    | (at_builtin
       refine wpList_append_row _ rfl (.tmp 28) (.tmp 29) 22 rfl w2.heap.size 5 i0 (.int .u8 0) 1 Tryd.underlying22 hi hz0 hz1 hz2 rfl _ 0 [] rfl (own_empty _ _ _ (Nat.le_refl _)) w.heap.size _ (Lib.byteCells s0) rfl (Row.of_bytes (H0.out.below (hB2.alloc hB2.size _))) (one_bytes _) (by rw [Lib.byteCells_length]; unfold maxLen; omega) (by rw [Lib.byteCells_length]; omega) (by simp) ?_
       intro x3 w3 o3 g3
       have C3 : Below w2.heap.size w2 w3 := below_append ((Below.refl _ _).alloc (Nat.le_refl _) _) (own_empty _ _ _ (Nat.le_refl _)) (Nat.le_refl _) g3 (by simp)
       rw [List.nil_append, Lib.byteCells_length, Nat.zero_add] at o3
       clear g3)
    | (at_builtin
       refine wpList_append_row _ rfl (.tmp 30) (.tmp 31) 22 rfl w2.heap.size 5 i0 (.int .u8 0) 1 Tryd.underlying22 hi hz0 hz1 hz2 rfl _ s0.length (Lib.byteCells s0) rfl o3 w2.heap.size _ (Lib.byteCells E) rfl (Row.of_bytes (M2.out.below C3)) (one_bytes _) (by rw [Lib.byteCells_length]; unfold maxLen; omega) (by rw [Lib.byteCells_length]; omega) C3.size ?_
       intro x4 w4 o4 g4
       have C4 : Below w2.heap.size w2 w4 := below_append C3 o3 (Nat.le_refl _) g4 C3.size
       have hB4 : Below w.heap.size w w4 := hB2.trans (C4.mono hB2.size)
       rw [← Lib.byteCells_append] at o4
       have f4 : Bytes w4.heap.size w4 x4 (s0 ++ E) := Bytes.of_row (Row.of_own o4)
       have F4 := Lib.hid f4
       clear g4 o3 C3 C4 o4 f4 hB2 M2)
    | (at_builtin
       refine wpList_append_row _ rfl (.tmp 33) (.tmp 34) 22 rfl w4.heap.size 5 i0 (.int .u8 0) 1 Tryd.underlying22 hi hz0 hz1 hz2 rfl _ 0 [] rfl (own_empty _ _ _ (Nat.le_refl _)) w4.heap.size _ (Lib.byteCells (s0 ++ E)) rfl (Row.of_bytes (F4.out.below ((Below.refl _ _).alloc (Nat.le_refl _) _))) (one_bytes _) (by rw [Lib.byteCells_length]; unfold maxLen; simp; omega) (by rw [Lib.byteCells_length]; simp; omega) (by simp) ?_
       intro x5 w5 o5 g5
       have D5 : Below w4.heap.size w4 w5 := below_append ((Below.refl _ _).alloc (Nat.le_refl _) _) (own_empty _ _ _ (Nat.le_refl _)) (Nat.le_refl _) g5 (by simp)
       rw [List.nil_append, Lib.byteCells_length, Nat.zero_add] at o5
       clear g5)
    | (at_builtin
       refine wpList_append_row _ rfl (.tmp 35) (.tmp 36) 22 rfl w4.heap.size 5 i0 (.int .u8 0) 1 Tryd.underlying22 hi hz0 hz1 hz2 rfl _ _ (Lib.byteCells (s0 ++ E)) rfl o5 w.heap.size _ (Lib.byteCells s2) rfl (Row.of_bytes (H2.out.below (hB4.trans (D5.mono hB4.size)))) (one_bytes _) (by rw [Lib.byteCells_length]; unfold maxLen; simp; omega) (by rw [Lib.byteCells_length]; simp; omega) D5.size ?_
       intro x6 w6 o6 g6
       have D6 : Below w4.heap.size w4 w6 := below_append D5 o5 (Nat.le_refl _) g6 D5.size
       have hB6 : Below w.heap.size w w6 := hB4.trans (D6.mono hB4.size)
       rw [← Lib.byteCells_append] at o6
       have a6 : Bytes w6.heap.size w6 x6 (s0 ++ E ++ s2) := Bytes.of_row (Row.of_own o6)
       have A6 := Lib.hid a6
       have f6 := (F4.out.below D6).more D6.size
       have F6 := Lib.hid f6
       clear g6 o5 D5 D6 o6 a6 f6 F4 hB4))
  -- want
  have oe := own_empty w6 w6.heap.size 3 (Nat.le_refl _)
  have hBe : Below w.heap.size w (w6.alloc (.cells #[] 3)) := hB6.alloc hB6.size _
  refine (split_own _ s0 (by omega) _ w.heap.size (by simp; have := hB6.size; omega) (H.out.below hBe) (H0.out.below hBe)).mono ?_
  rintro e w7 ⟨x7, rfl, o7, C7⟩
  have oe7 := own_below oe C7
  have C7' : Below w6.heap.size w6 w7 := ((Below.refl w6.heap.size w6).alloc (Nat.le_refl _) _).trans (C7.mono (by simp))
  clear oe C7 hBe
  go_wp2_with (first
    | (at_builtin
       refine wpList_append_row _ rfl (.tmp 38) (.tmp 40) 27 rfl w6.heap.size 3 j0 (.int .i64 0) 8 Tryd.underlying27 gi gz0 gz1 gz2 rfl _ 0 [] rfl oe7 w7.heap.size _ (ints (un s0)) rfl (Row.of_own o7) (one_ints _) (by rw [ints_len]; unfold maxLen; omega) (by rw [ints_len]; omega) C7'.size ?_
       intro x8 w8 o8 g8
       have C8 : Below w6.heap.size w6 w8 := below_append C7' oe7 (Nat.le_refl _) g8 C7'.size
       rw [List.nil_append, ints_len, Nat.zero_add] at o8
       clear g8 oe7 C7' o7)
    | (at_builtin
       refine wpList_append_row _ rfl (.tmp 41) (.tmp 43) 27 rfl w6.heap.size 3 j0 (.int .i64 0) 8 Tryd.underlying27 gi gz0 gz1 gz2 rfl _ _ (ints (un s0)) rfl (o8.alloc _) (w8.heap.size + 1) _ (ints [c]) rfl (Row.lit w8 #[.int .i64 (c : Int)] 3 (0, 0)) (one_ints _) (by rw [ints_len]; unfold maxLen; simp; omega) (by rw [ints_len]; simp; omega) (by simp; have := C8.size; omega) ?_
       intro x9 w9 o9 g9
       have C9 : Below w6.heap.size w6 w9 := below_append (C8.alloc C8.size _) (o8.alloc _) (Nat.le_refl _) g9 (by simp; have := C8.size; omega)
       rw [← ints_append, ints_len] at o9
       clear g9 o8 C8))
  have hB9 := hB6.trans (C9.mono hB6.size)
  have p1 := un_parts1 s0 c HC.out
  have p2 := un_parts2 s0 c HC.out s2
  rw [← HE.out] at p1 p2
  have P1 := Lib.hid p1
  have P2 := Lib.hid p2
  clear p1 p2
  have hl1 : (s0 ++ E).length ≤ 1000000 := by simp; omega
  have hl2 : (s0 ++ E ++ s2).length ≤ 1000000 := by simp; omega
  have hu1 := un_len (s0 ++ E)
  have hu3 := un_len (s0 ++ E ++ s2)
  refine (split_row x4 (s0 ++ E) hl1 w9 w6.heap.size C9.size ((H.out.below hB9).more hB6.size) (F6.out.below C9)).mono ?_
  rintro e w10 ⟨x10, rfl, r10, D10⟩
  have o10 := own_below o9 D10
  have hB10 := hB9.trans (D10.mono hB9.size)
  have C10 := C9.trans (D10.mono C9.size)
  have q10 := Row.of_own o10
  rw [← P1.out, ints_zs] at q10
  clear o9 D10 hB9 C9
  have R10 := Lib.hid r10
  have Q10 := Lib.hid q10
  clear r10 q10
  go_wp2_with fail
  refine (same_true _ (by rw [List.length_map]; omega) _ _ _ _ w10 R10.out Q10.out).mono ?_
  rintro e w10' ⟨rfl, rfl⟩
  go_wp2_with fail
  have hlt10 := o10.lt
  refine (split_own x6 (s0 ++ E ++ s2) hl2 w10 w6.heap.size C10.size ((H.out.below hB10).more hB6.size) (A6.out.below C10)).mono ?_
  rintro e w11 ⟨x11, rfl, o11x, D11⟩
  have o11 := own_below o10 D11
  have hB11 := hB10.trans (D11.mono hB10.size)
  have C11 := C10.trans (D11.mono C10.size)
  have L10 := Lib.hid hlt10
  clear o10 D11 hB10 C10 R10 Q10 hlt10
  go_wp2_with fail
  refine (split_own _ s2 (by omega) w11 w.heap.size hB11.size (H.out.below hB11) (H2.out.below hB11)).mono ?_
  rintro e w12 ⟨x12, rfl, o12, D12⟩
  have o12' := own_below o11 D12
  have o12x := own_below o11x D12
  have hB12 := hB11.trans (D12.mono hB11.size)
  have C12 := C11.trans (D12.mono C11.size)
  clear o11 o11x D12 hB11 C11
  go_wp2_with (at_builtin
               refine wpList_append_row_g _ rfl (.tmp 52) (.tmp 54) 27 rfl w6.heap.size 3 j0 (.int .i64 0) 8 Tryd.underlying27 gi gz0 gz1 gz2 rfl _ _ (ints (un s0 ++ [c])) rfl o12' w12.heap.size _ (ints (un s2)) rfl (Row.of_own o12) (one_ints _) (by rw [ints_len]; unfold maxLen; simp; omega) (by rw [ints_len]; simp; omega) C12.size ?_
               intro x13 w13 o13 g13
               have C13 : Below w6.heap.size w6 w13 := below_append C12 o12' (Nat.le_refl _) g13 C12.size
               have o13x := o12x.kept g13 (.inr (fun e => by
                 rcases hx : x9.ownBlock with _ | k
                 · obtain ⟨g', cap', hv⟩ := own_some o12' (by simp)
                   rw [hv] at hx
                   simp [Value.ownBlock] at hx
                 · have e1 : x11.ownBlock = some k := e.trans hx
                   have a1 := (o12x.lt k e1).1
                   have a2 := (L10.out k hx).2
                   omega))
               rw [← ints_append] at o13
               clear g13 o12' o12x C12 o12)
  have hB13 := hB6.trans (C13.mono hB6.size)
  have q13 := Row.of_own o13
  have r13 := Row.of_own o13x
  rw [← P2.out, ints_zs] at q13
  rw [ints_zs] at r13
  refine (same_true _ (by rw [List.length_map]; omega) _ _ _ _ w13 r13 q13).mono ?_
  rintro e w14 ⟨rfl, rfl⟩
  clear q13 r13 o13 o13x
  go_wp2
  go_ret
  exact ⟨rfl, hB13⟩

set_option maxHeartbeats 1000000 in
set_option maxRecDepth 100000 in
theorem unitParts_law (v0 : Value) (s0 : List UInt8) (a1 : Int) (v2 : Value) (s2 : List UInt8) (w : World) (hT : TabsAt w.heap.size w) (h0 : Bytes w.heap.size w v0 s0) (_h1 : -9223372036854775808 ≤ a1 ∧ a1 ≤ 9223372036854775807) (h2 : Bytes w.heap.size w v2 s2) :
    Calls Tryd.prog 6 #[v0, .int .i64 a1, v2] w fun e w' => e = .returned (.bool true) ∧ Below w.heap.size w w' := by
  by_cases k0 : s0.length ≤ 300
  · by_cases k2 : s2.length ≤ 300
    · cases hch : charB a1 with
      | true =>
        have hc : isCh a1.toNat := by simp [charB] at hch; exact ⟨by omega, by omega⟩
        have ha : ((a1.toNat : Nat) : Int) = a1 := by simp [charB] at hch; omega
        have h := parts_small v0 s0 a1.toNat v2 s2 w hT h0 h2 k0 k2 hc
        rw [ha] at h
        exact h
      | false =>
        have l0 : ¬ (300 : Int) < (s0.length : Int) := by omega
        have l2 : ¬ (300 : Int) < (s2.length : Int) := by omega
        obtain ⟨A0, cap0, rfl, _⟩ := h0
        obtain ⟨A2, cap2, rfl, _⟩ := h2
        have H := Lib.hid hT
        clear hT
        go_enter Tryd.func6, Tryd.ntmps6
        go_wp2_with fail
        refine (anchor_any w H.out).mono ?_
        rintro e w1 ⟨rfl, hB1⟩
        go_wp2_with (go_at_call 20; refine (char_any _ _).mono ?_; rintro e w' ⟨rfl, rfl⟩)
        go_ret
        exact ⟨rfl, hB1⟩
    · have l0 : ¬ (300 : Int) < (s0.length : Int) := by omega
      have l2 : (300 : Int) < (s2.length : Int) := by omega
      obtain ⟨A0, cap0, rfl, _⟩ := h0
      obtain ⟨A2, cap2, rfl, _⟩ := h2
      have H := Lib.hid hT
      clear hT
      go_enter Tryd.func6, Tryd.ntmps6
      go_wp2_with fail
      refine (anchor_any w H.out).mono ?_
      rintro e w1 ⟨rfl, hB1⟩
      go_wp2_with (go_at_call 20; refine (char_any _ _).mono ?_; rintro e w' ⟨rfl, rfl⟩)
      go_ret
      exact ⟨rfl, hB1⟩
  · have l0 : (300 : Int) < (s0.length : Int) := by omega
    obtain ⟨A0, cap0, rfl, _⟩ := h0
    obtain ⟨A2, cap2, rfl, _⟩ := h2
    have H := Lib.hid hT
    clear hT
    go_enter Tryd.func6, Tryd.ntmps6
    go_wp2_with fail
    refine (anchor_any w H.out).mono ?_
    rintro e w1 ⟨rfl, hB1⟩
    go_wp2_with (go_at_call 20; refine (char_any _ _).mono ?_; rintro e w' ⟨rfl, rfl⟩)
    go_ret
    exact ⟨rfl, hB1⟩

end Go.Proofs.YtphpcdnefjbopaaDoor
