/- Package tape: the small calls, as contracts. -/
import Derived.Test.YtjnhjpjebklalaaTpW
namespace Go.Proofs.Ytjnhjpjebklalaa
open Go.RowKit
variable {w w' : World} {S : Nat → Prop} {g : Nat} {T : Tp}

set_option maxRecDepth 100000 in
set_option maxHeartbeats 2000000 in
theorem spend_any (h : TapeAt w g S T) : Calls Try.prog 22 #[.pointer (some ⟨g, 0, none⟩)] w fun e w' => e = .returned (.int .i64 (T.spendE : Int)) ∧ TapeAt w' g S T.spent ∧ Fr S w w' := by
  obtain ⟨v, h⟩ := h
  have c3 := h.blk.cell 3
  have f3 := h.blk.frozen 3
  have c4 := h.blk.cell 4
  have f4 := h.blk.frozen 4
  have hlt := h.blk.lt
  have H := Lib.hid h
  obtain ⟨hl1, hl2⟩ := h.ok.left
  obtain ⟨bs, room, safe, left, down⟩ := T
  simp only at c3 c4 hl1 hl2
  have st : ∀ (i : Nat) (u : Value) (T' : Tp), T'.bs = bs → #[v, .int .i64 T'.room, .int .i64 (T'.safe : Int), .int .i64 T'.left, .bool T'.down] = (#[v, .int .i64 room, .int .i64 (safe : Int), .int .i64 left, .bool down] : Array Value).setIfInBounds i u → T'.ok → TapeAt (w.setCell ⟨g, i, none⟩ u) g S T' ∧ Fr S w (w.setCell ⟨g, i, none⟩ u) := fun i u T' hb hc hok =>
    ⟨⟨v, by rw [hc]; exact H.out.blk.set_ i u, by rw [hb]; exact H.out.own.keep fun j hj => Below.heap_setCell _ _ _ _ (by rintro rfl; exact H.out.own.kind H.out.blk (by decide) hj), H.out.foot, H.out.self, fun j hj => by have := H.out.old j hj; simpa [World.setCell] using this, hok⟩, (Fr.refl w).set_ (q := ⟨g, i, none⟩) (.inl H.out.self) u⟩
  have ST := Lib.hid st
  have HK := Lib.hid h.ok.spent
  clear h st
  by_cases h0 : left = 0
  · subst h0
    go_enter Try.func22, Try.ntmps22
    go_wp2
    go_ret
    exact ⟨rfl, ST.out 4 _ _ rfl rfl HK.out⟩
  · have h0' : (left == 0) = false := by simpa using h0
    by_cases h1 : 0 < left
    · have e1 : Tp.spent ⟨bs, room, safe, left, down⟩ = ⟨bs, room, safe, left - 1, down⟩ := by simp [Tp.spent, h0, h1]
      have e2 : Tp.spendE ⟨bs, room, safe, left, down⟩ = 0 := by simp [Tp.spendE, h0]
      rw [e1] at HK ⊢
      rw [e2]
      clear h0 e1 e2
      go_enter Try.func22, Try.ntmps22
      go_wp2
      go_ret
      exact ⟨rfl, ST.out 3 _ _ rfl rfl HK.out⟩
    · have e1 : Tp.spent ⟨bs, room, safe, left, down⟩ = ⟨bs, room, safe, left, down⟩ := by simp [Tp.spent, h0, h1]
      have e2 : Tp.spendE ⟨bs, room, safe, left, down⟩ = 0 := by simp [Tp.spendE, h0]
      rw [e1, e2]
      clear h0 e1 e2
      go_enter Try.func22, Try.ntmps22
      go_wp2
      go_ret
      exact ⟨rfl, ⟨v, H.out⟩, Fr.refl w⟩

set_option maxRecDepth 100000 in
set_option maxHeartbeats 2000000 in
theorem keep_any (n : Nat) (hn : n ≤ T.bs.length) (h : TapeAt w g S T) : Calls Try.prog 23 #[.pointer (some ⟨g, 0, none⟩), .int .i64 (n : Int)] w fun e w' => e = .returned (.tuple #[]) ∧ TapeAt w' g S (T.kept n) ∧ Fr S w w' := by
  obtain ⟨v, h⟩ := h
  have c0 := h.blk.cell 0
  have f0 := h.blk.frozen 0
  have c2 := h.blk.cell 2
  have f2 := h.blk.frozen 2
  have hlt := h.blk.lt
  have H := Lib.hid h
  have hok := h.ok.kept hn
  have fin : ∀ (A : Option Addr) (m c : Nat), v = .slice A m c → TapeAt ((w.setCell ⟨g, 0, none⟩ (.slice A n c)).setCell ⟨g, 2, none⟩ (.int .i64 (n : Int))) g S (T.kept n) ∧ Fr S w ((w.setCell ⟨g, 0, none⟩ (.slice A n c)).setCell ⟨g, 2, none⟩ (.int .i64 (n : Int))) := by
    rintro A m c rfl
    refine ⟨⟨.slice A n c, ?_, ?_, fun i hi => H.out.foot i (by cases A <;> simp_all [Value.ownBlock]), H.out.self, fun j hj => by have := H.out.old j hj; simpa [World.setCell] using this, hok⟩, ((Fr.refl w).set_ (q := ⟨g, 0, none⟩) (.inl H.out.self) _).set_ (q := ⟨g, 2, none⟩) (.inl H.out.self) _⟩
    · have := (H.out.blk.set_ 0 (.slice A n c)).set_ 2 (.int .i64 (n : Int))
      simpa [Tp.kept] using this
    · refine (H.out.own.take hn).keep fun j hj => ?_
      have hne : j ≠ g := by
        rintro rfl
        exact H.out.own.kind H.out.blk (by decide) (by cases A <;> simp_all [Value.ownBlock])
      exact (Below.heap_setCell _ _ _ _ hne).trans (Below.heap_setCell _ _ _ _ hne)
  have FIN := Lib.hid fin
  have ho := h.own
  clear h hok fin
  rcases ho.form with ⟨rfl, hb⟩ | ⟨b, c, rfl, hc⟩
  · obtain rfl : n = 0 := by rw [hb] at hn; simpa using hn
    clear hb ho hn
    go_enter Try.func23, Try.ntmps23
    go_wp2
    go_end0
    exact ⟨rfl, FIN.out _ _ _ rfl⟩
  · obtain ⟨m, hm⟩ : ∃ m, m = T.bs.length := ⟨_, rfl⟩
    rw [← hm] at hn hc c0 FIN
    clear ho hm
    go_enter Try.func23, Try.ntmps23
    go_wp2
    go_end0
    exact ⟨rfl, FIN.out _ _ _ rfl⟩

set_option maxRecDepth 100000 in
theorem safe_any (h : TapeAt w g S T) : Calls Try.prog 13 #[.pointer (some ⟨g, 0, none⟩)] w fun e w' => e = .returned (.int .i64 (T.safe : Int)) ∧ w' = w := by
  obtain ⟨v, h⟩ := h
  have c2 := h.blk.cell 2
  go_enter Try.func13, Try.ntmps13
  go_wp2
  go_ret
  exact ⟨rfl, rfl⟩
set_option maxRecDepth 100000 in
theorem down_any (h : TapeAt w g S T) : Calls Try.prog 15 #[.pointer (some ⟨g, 0, none⟩)] w fun e w' => e = .returned (.bool T.down) ∧ w' = w := by
  obtain ⟨v, h⟩ := h
  have c4 := h.blk.cell 4
  go_enter Try.func15, Try.ntmps15
  go_wp2
  go_ret
  exact ⟨rfl, rfl⟩
set_option maxRecDepth 100000 in
set_option maxHeartbeats 1000000 in
theorem room_any (h : TapeAt w g S T) : Calls Try.prog 14 #[.pointer (some ⟨g, 0, none⟩)] w fun e w' => e = .returned (.int .i64 (T.room - (T.bs.length : Int))) ∧ Below w.heap.size w w' := by
  obtain ⟨v, h⟩ := h
  have c1 := h.blk.cell 1
  have c0 := h.blk.cell 0
  obtain ⟨A, c, rfl⟩ := h.own.one
  have h1 := h.ok.fits
  have h2 := h.ok.room
  clear h
  generalize T.bs.length = m at *
  go_enter Try.func14, Try.ntmps14
  go_wp2_with fail
  go_quiet (fail)
  go_wp2
  go_ret
  exact ⟨rfl, Below.drewN' (Below.refl _ _) _⟩
set_option maxRecDepth 100000 in
theorem arm_any (n : Int) (hn : -9223372036854775808 ≤ n ∧ n ≤ 9223372036854775807) (h : TapeAt w g S T) : Calls Try.prog 21 #[.pointer (some ⟨g, 0, none⟩), .int .i64 n] w fun e w' => e = .returned (.tuple #[]) ∧ TapeAt w' g S (T.arm n) ∧ Fr S w w' := by
  obtain ⟨v, h⟩ := h
  have c3 := h.blk.cell 3
  have f3 := h.blk.frozen 3
  have hlt := h.blk.lt
  have H := Lib.hid h
  have hok := Lib.hid (h.ok.arm hn)
  clear h
  go_enter Try.func21, Try.ntmps21
  go_wp2
  go_end0
  exact ⟨rfl, ⟨v, H.out.blk.set_ 3 _, H.out.own.keep fun j hj => Below.heap_setCell _ _ _ _ (by rintro rfl; exact H.out.own.kind H.out.blk (by decide) hj), H.out.foot, H.out.self, fun j hj => by have := H.out.old j hj; simpa [World.setCell] using this, hok.out⟩, (Fr.refl w).set_ (q := ⟨g, 3, none⟩) (.inl H.out.self) _⟩
set_option maxRecDepth 100000 in
theorem new_bad (n : Int) (hn : n < 0 ∨ 1048576 < n) (w : World) : Calls Try.prog 9 #[.int .i64 n] w fun e w' => e = .returned (.pointer none) ∧ w' = w := by
  by_cases h0 : n < 0
  · go_enter Try.func9, Try.ntmps9
    go_wp2
    go_ret
    exact ⟨rfl, rfl⟩
  · have h1 : 1048576 < n := by omega
    go_enter Try.func9, Try.ntmps9
    go_wp2
    go_ret
    exact ⟨rfl, rfl⟩
set_option maxRecDepth 100000 in
theorem new_any (n : Int) (h1 : 0 ≤ n) (h2 : n ≤ 1048576) (w : World) : Calls Try.prog 9 #[.int .i64 n] w fun e w' => e = .returned (.pointer (some ⟨w.heap.size, 0, none⟩)) ∧ TapeAt w' w.heap.size (fun i => i = w.heap.size) (Tp.new n) ∧ Below w.heap.size w w' := by
  have e1 : ¬ n < 0 := by omega
  have e2 : ¬ 1048576 < n := by omega
  go_enter Try.func9, Try.ntmps9
  go_wp2
  go_ret
  refine ⟨rfl, ⟨.slice none 0 0, Blk.new w _ _, own_nil _ _, fun i hi => (by cases hi), rfl, fun i hi => (by subst hi; simp), Tp.new_ok h1 h2⟩, (Below.refl _ _).alloc (Nat.le_refl _) _⟩
set_option maxRecDepth 100000 in
set_option maxHeartbeats 2000000 in
theorem bytes_at (h : TapeAt w g S T) : Calls Try.prog 12 #[.pointer (some ⟨g, 0, none⟩)] w fun e w' => e = .returned (.slice (some ⟨w.heap.size, 0, none⟩) T.bs.length T.bs.length) ∧ Own w' w.heap.size (.slice (some ⟨w.heap.size, 0, none⟩) T.bs.length T.bs.length) T.bs ∧ Below w.heap.size w w' := by
  have HT := Lib.hid h
  obtain ⟨v, h⟩ := h
  have c0 := h.blk.cell 0
  obtain ⟨i0, hi, hz0, hz1, hz2⟩ := info_three info_u8
  have ho := h.own
  have hL := h.ok.fits
  have hL2 := h.ok.room
  have HO := Lib.hid ho.bytes
  clear h
  obtain ⟨A, c, rfl⟩ := ho.one
  obtain ⟨m, hm⟩ : ∃ m, m = T.bs.length := ⟨_, rfl⟩
  rw [← hm] at c0 HO hL ⊢
  have HM := Lib.hid hm
  have hmk : ∀ w : World, (Instr.makeSlice 27 (.int .i64 (m : Int)) (.int .i64 (m : Int))).run Try.prog w = .ok (.slice (some ⟨w.heap.size, 0, none⟩) m m) (w.alloc (.cells (madeCells #[Value.int .u8 0] m) 5)) :=
    run_make_row 27 5 i0 (.int .u8 0) Try.underlying27 hi hz0 hz1 rfl .i64 .i64 m (by rw [hz2]; omega) (by omega)
  have isz : (Try.prog.info? 5).map (·.size) = some 1 := by rw [hi]; simp [hz1]
  clear ho hm
  go_enter Try.func12, Try.ntmps12
  go_upto_region 2 with (fail)
  have HG : Hid ((w.alloc (.cells (madeCells #[Value.int .u8 0] m) 5)).heap[w.heap.size]? = some (.cells (List.replicate m (Value.int .u8 0)).toArray 5 (0, 0))) := Lib.hid (by rw [heap_alloc_new, made_cells])
  have HB := Lib.hid ((Below.refl w.heap.size w).alloc (Nat.le_refl _) (.cells (madeCells #[Value.int .u8 0] m) 5))
  have cg := (Below.cell HB.out (p := ⟨g, 0, none⟩) HT.out.lt).trans c0
  have HS : Hid (0 < T.bs.length → ∃ ad, A = some ad ∧ ∀ j v, (Lib.byteCells T.bs)[j]? = some v → (w.alloc (.cells (madeCells #[Value.int .u8 0] m) 5)).cell? (ad.add j) = some v) := Lib.hid fun hp => Bytes.src (HO.out.below HB.out) hp
  generalize w.alloc _ = w1 at *
  go_wp2_with (with_reducible refine wpList_copy_splice rfl (.tmp 10) (.tmp 14) 27 27 rfl 5 Try.underlying27 isz _ _ m m m c rfl rfl w.heap.size 0 _ 5 HG.out (Lib.byteCells T.bs) (by rw [Lib.byteCells_length, ← HM.out]; simp) (fun hp => ⟨rfl, HS.out (by simpa [Lib.byteCells_length] using hp)⟩) (by simp [Lib.byteCells_length, ← HM.out]) (one_bytes _) w.heap.size w HB.out (Nat.le_refl _) ?_; intro w4 hg4 hb4)
  go_ret
  exact ⟨rfl, own_whole (Nat.le_refl _) HM.out (by unfold maxLen; omega) (by simp) hg4.out, hb4⟩
theorem bytes_any (h : TapeAt w g S T) : Calls Try.prog 12 #[.pointer (some ⟨g, 0, none⟩)] w fun e w' => ∃ v, e = .returned v ∧ Own w' w.heap.size v T.bs ∧ Below w.heap.size w w' :=
  (bytes_at h).mono fun _ _ ⟨he, ho, hb⟩ => ⟨_, he, ho, hb⟩
end Go.Proofs.Ytjnhjpjebklalaa
