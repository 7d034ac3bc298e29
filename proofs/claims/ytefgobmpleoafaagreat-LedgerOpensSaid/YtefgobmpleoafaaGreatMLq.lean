/- Joined: LdP, LdQ. -/
import Derived.Test.YtefgobmpleoafaaGreatLdN
import Derived.Test.YtefgobmpleoafaaGreatLdM2
/- Layer 13: a ledger in memory; what it writes, what it tells. -/
namespace Go.Proofs.YtefgobmpleoafaaGreat
open Go.RowKit
variable {w w' : World} {S S' : Nat → Prop} {g gt : Nat}

/-- A tape that isn't armed, all of whose bytes are safe. -/
def Tq (room : Int) (bs : List UInt8) : Tp := ⟨bs, room, bs.length, -1, false⟩
theorem Tq.new (room : Int) : Tp.new room = Tq room [] := rfl
theorem Tq.ok {room : Int} {bs : List UInt8} (h : (bs.length : Int) ≤ room) (h' : room ≤ 1048576) : (Tq room bs).ok := ⟨Nat.le_refl _, h, h', by show -9223372036854775808 ≤ (-1 : Int) ∧ (-1 : Int) ≤ 9223372036854775807; decide⟩
theorem Tq.up (room : Int) (bs : List UInt8) : ¬ (Tq room bs).down = true := by intro h; cases h
theorem Tq.full {room : Int} {bs b : List UInt8} (h : room - (bs.length : Int) < (b.length : Int)) : (Tq room bs).appE b = 41 ∧ (Tq room bs).app b = Tq room bs := by
  unfold Tp.appE Tp.app
  have h' : (Tq room bs).room - ((Tq room bs).bs.length : Int) < (b.length : Int) := h
  exact ⟨by rw [if_neg (Tq.up room bs), if_pos h'], by rw [if_neg (Tq.up room bs), if_pos h']⟩
theorem Tq.room {room : Int} {bs b : List UInt8} (h : ¬ room - (bs.length : Int) < (b.length : Int)) : (Tq room bs).appE b = 0 ∧ ((Tq room bs).app b).syncE = 0 ∧ ((Tq room bs).app b).sync = Tq room (bs ++ b) := by
  have h' : ¬ (Tq room bs).room - ((Tq room bs).bs.length : Int) < (b.length : Int) := h
  have e : (Tq room bs).app b = ⟨bs ++ b, room, bs.length, -1, false⟩ := by
    unfold Tp.app
    rw [if_neg (Tq.up room bs), if_neg h']
    rfl
  refine ⟨?_, ?_, ?_⟩
  · unfold Tp.appE
    rw [if_neg (Tq.up room bs), if_neg h']
    rfl
  · rw [e]; rfl
  · rw [e]
    simp [Tp.sync, Tp.spent, Tp.kept, Tq]
    exact List.take_of_length_le (by simp)
/-- A ledger: its block; its state's log reads, whatever is turned in the tape's blocks. -/
def LedV (w : World) (g gt : Nat) (S : Nat → Prop) (s : St) (br : Bool) : Prop :=
  ∃ A n c, Blk w g 60 #[.pointer (some ⟨gt, 0, none⟩), .int .i64 s.vi, .int .i64 s.no, .int .i64 s.co, .int .i64 s.ac, .slice A n c, .bool br] ∧ LogV (fun i => S i ∨ i = g) w (.slice A n c) s.log ∧ n = s.log.length
section
variable {s : St} {br : Bool}
theorem LedV.on (h : LedV w g gt S s br) (k : Below w.heap.size w w') : LedV w' g gt S s br := by
  obtain ⟨A, n, c, h1, h2, h3⟩ := h
  exact ⟨A, n, c, h1.on k, h2.on k, h3⟩
theorem LedV.lt (h : LedV w g gt S s br) : g < w.heap.size := by
  obtain ⟨A, n, c, h1, _⟩ := h
  exact h1.lt
/-- A call on the tape alone. -/
theorem LedV.fr (h : LedV w g gt S s br) (k : Fr S w w') (hg : ¬ S g) (hs : ∀ i, S' i → S i ∨ w.heap.size ≤ i) : LedV w' g gt S' s br := by
  obtain ⟨A, n, c, h1, h2, h3⟩ := h
  refine ⟨A, n, c, k.blk h1 hg, ?_, h3⟩
  have h4 : LogV (fun i => S' i ∨ S i ∨ i = g) w (.slice A n c) s.log := h2.sub fun i hi => by
    rcases hi with hi | hi | hi
    · exact (hs i hi).imp .inl id
    · exact .inl (.inl hi)
    · exact .inl (.inr hi)
  exact (h4.next (k.sub fun i _ hi => .inr (.inl hi))).sub fun i hi => .inl (hi.imp id .inr)
end
set_option maxRecDepth 100000 in
set_option maxHeartbeats 4000000 in
theorem write_any {room : Int} {bs b : List UInt8} {n₀ : Nat} {cs : Array Value} (u : Value) (hT : TapeAt w gt S (Tq room bs)) (hL : Blk w g 60 cs) (h0 : cs[0]? = some (.pointer (some ⟨gt, 0, none⟩))) (hg : ¬ S g) (hu : ∀ w', Fr S w w' → Bytes n₀ w' u b) :
    Calls Tryz.prog 28 #[.pointer (some ⟨g, 0, none⟩), u] w fun e w' => ∃ bs' S', e = .returned (.int .i64 (if room - (bs.length : Int) < (b.length : Int) then 41 else 0)) ∧ bs' = (if room - (bs.length : Int) < (b.length : Int) then bs else bs ++ b) ∧ TapeAt w' gt S' (Tq room bs') ∧ (∀ i, S' i → S i ∨ w.heap.size ≤ i) ∧ Fr S w w' := by
  have AP := Lib.hid (append_any u b hu hT)
  have c0 := hL.cell 0
  rw [h0] at c0
  have hl := hL.lt
  have HG := Lib.hid hg
  have HL := Lib.hid hL
  have H0 := Lib.hid h0
  clear hT hg hu h0 hL
  by_cases hr : room - (bs.length : Int) < (b.length : Int)
  · have E := Lib.hid (Tq.full hr)
    rw [if_pos hr, if_pos hr]
    rw [E.out.1, E.out.2] at AP
    clear hr
    go_enter Tryz.func28, Tryz.ntmps28
    go_wp2_with fail
    refine AP.out.mono ?_
    rintro e w1 ⟨rfl, S1, hs1, ht1, hf1⟩
    have D1 := Lib.hid hs1
    have T1 := Lib.hid ht1
    have F1 := Lib.hid hf1
    clear hs1 ht1 hf1 c0 hl
    go_wp2
    go_ret
    exact ⟨_, S1, rfl, rfl, T1.out, D1.out, F1.out⟩
  · have E := Lib.hid (Tq.room hr)
    rw [if_neg hr, if_neg hr]
    rw [E.out.1] at AP
    clear hr
    go_enter Tryz.func28, Tryz.ntmps28
    go_wp2_with fail
    refine AP.out.mono ?_
    rintro e w1 ⟨rfl, S1, hs1, ht1, hf1⟩
    have D1 := Lib.hid hs1
    have F1 := Lib.hid hf1
    have SY := Lib.hid (sync_any ht1)
    rw [E.out.2.1, E.out.2.2] at SY
    have L1 := Lib.hid (hf1.blk HL.out HG.out)
    clear hs1 ht1 hf1 c0 hl
    have c0 := L1.out.cell 0
    rw [H0.out] at c0
    have hl := L1.out.lt
    go_wp2_with fail
    refine SY.out.mono ?_
    rintro e w2 ⟨rfl, ht2, hf2⟩
    have T2 := Lib.hid ht2
    have F2 := Lib.hid (F1.out.trans hf2 D1.out)
    clear ht2 hf2
    go_wp2
    go_ret
    exact ⟨_, S1, rfl, rfl, T2.out, D1.out, F2.out⟩
set_option maxRecDepth 100000 in
set_option maxHeartbeats 4000000 in
theorem state_any {s : St} {br : Bool} (hm : s.log.length ≤ 100000) (hsh : ∀ e ∈ s.log, short e) (h : LedV w g gt S s br) :
    Calls Tryz.prog 12 #[.pointer (some ⟨g, 0, none⟩)] w fun e w' => ∃ A c, e = .returned (s.val (.slice A s.log.length c)) ∧ LEntV w.heap.size w' (.slice A s.log.length c) s.log ∧ Below w.heap.size w w' := by
  obtain ⟨A, n, c, hB, hV, hn⟩ := h
  have b0 : Below w.heap.size w (w.alloc (.cells #[.int .i64 0, .int .i64 0, .int .i64 0, .int .i64 0, .slice none 0 0] 41)) := (Below.refl _ _).alloc (Nat.le_refl _) _
  have HB := Lib.hid (hB.on b0)
  have HZ := Lib.hid (Blk.new w 41 #[.int .i64 0, .int .i64 0, .int .i64 0, .int .i64 0, .slice none 0 0])
  have C := Lib.hid (own_any s (.slice A n c) _ hm hsh (hV.on b0).read)
  have hs0 : w.heap.size + 1 ≤ (w.alloc (.cells #[.int .i64 0, .int .i64 0, .int .i64 0, .int .i64 0, .slice none 0 0] 41)).heap.size := by simp
  clear hB hV hn hm hsh
  go_enter Tryz.func12, Tryz.ntmps12
  go_upto_region 1 with (fail)
  generalize w.alloc _ = w0 at *
  have B0 := Lib.hid b0
  clear b0
  have x1 := HB.out.cell 1
  have x2 := HB.out.cell 2
  have x3 := HB.out.cell 3
  have x4 := HB.out.cell 4
  have x5 := HB.out.cell 5
  have xl := HB.out.lt
  go_wp2_with fail
  refine C.out.mono ?_
  rintro e w6 ⟨A6, c6, rfl, o6, b6⟩
  obtain ⟨k, hk⟩ : ∃ k, k = s.log.length := ⟨_, rfl⟩
  rw [← hk] at o6 ⊢
  have HK := Lib.hid hk
  have O6 : Hid (LEntV (w.heap.size + 1) w6 (.slice A6 k c6) s.log) := Lib.hid (o6.low hs0)
  have Z6 := Lib.hid (HZ.out.on b6)
  have B6 := Lib.hid (B0.out.trans (b6.mono (by omega)))
  clear hk o6 b6 x1 x2 x3 x4 x5 xl C
  have z0 := Z6.out.cell 0
  have z1 := Z6.out.cell 1
  have z2 := Z6.out.cell 2
  have z3 := Z6.out.cell 3
  have z4 := Z6.out.cell 4
  have zf := Z6.out.frozen
  have zl := Z6.out.lt
  go_wp2
  refine bodyPost_ret (v := .agg #[.int .i64 s.vi, .int .i64 s.no, .int .i64 s.co, .int .i64 s.ac, .slice A6 k c6]) (by simp [results, Tryz.results12, go_sem, *]) rfl ⟨A6, c6, by rw [← HK.out], ?_, (((((B6.out.setCell (p := ⟨w.heap.size, 0, none⟩) (Nat.le_refl _) (.int .i64 s.vi)).setCell (p := ⟨w.heap.size, 1, none⟩) (Nat.le_refl _) (.int .i64 s.no)).setCell (p := ⟨w.heap.size, 2, none⟩) (Nat.le_refl _) (.int .i64 s.co)).setCell (p := ⟨w.heap.size, 3, none⟩) (Nat.le_refl _) (.int .i64 s.ac)).setCell (p := ⟨w.heap.size, 4, none⟩) (Nat.le_refl _) (.slice A6 k c6))⟩
  rw [← HK.out]
  exact OwnE.low (((((O6.out.set_ (q := ⟨w.heap.size, 0, none⟩) (by simp) (.int .i64 s.vi)).set_ (q := ⟨w.heap.size, 1, none⟩) (by simp) (.int .i64 s.no)).set_ (q := ⟨w.heap.size, 2, none⟩) (by simp) (.int .i64 s.co)).set_ (q := ⟨w.heap.size, 3, none⟩) (by simp) (.int .i64 s.ac)).set_ (q := ⟨w.heap.size, 4, none⟩) (by simp) (.slice A6 k c6)) (by omega)
end Go.Proofs.YtefgobmpleoafaaGreat

/- Layer 13: saving a state. (Written by genLdQ.py.) -/
namespace Go.Proofs.YtefgobmpleoafaaGreat
open Go.RowKit
variable {w w' : World} {S S' : Nat → Prop} {g gt : Nat}

theorem btw_form {base : Nat} {a b : St} {e : Ending} (h : BtwP base w a b e w') : ∃ V nv c x, e = .returned (.tuple #[.slice V nv c, .int .i64 x]) ∧ Below w.heap.size w w' ∧ ((x = 10 ∧ (a.ok && b.ok) = false) ∨ (a.ok && b.ok) = true ∧ ∃ n, Com n a.log b.log ∧ ((x = 54 ∧ runs a (recs n a b) = none) ∨ x = 0 ∧ runs a (recs n a b) = some b ∧ nv = (recs n a b).length ∧ RecsO base w' (.slice V nv c) (recs n a b))) := by
  obtain ⟨hB, ⟨h1, rfl⟩ | ⟨h1, n, hc, ⟨h2, rfl⟩ | ⟨h2, V, c, rfl, h3⟩⟩⟩ := h
  · exact ⟨_, _, _, _, rfl, hB, .inl ⟨rfl, h1⟩⟩
  · exact ⟨_, _, _, _, rfl, hB, .inr ⟨h1, n, hc, .inl ⟨rfl, h2⟩⟩⟩
  · exact ⟨_, _, _, _, rfl, hB, .inr ⟨h1, n, hc, .inr ⟨rfl, h2, rfl, h3⟩⟩⟩
/-- First what is new alone, then the tape's blocks, then the ledger's. -/
theorem Fr.join {w1 w2 w3 : World} (h : Fr (fun i => S i ∨ i = g) w w1) (k : Fr S w1 w2) (l : Fr (fun i => i = g) w2 w3) : Fr (fun i => S i ∨ i = g) w w3 :=
  (h.next (k.sub fun _ _ hi => .inl hi)).next (l.sub fun _ _ hi => .inr hi)
/-- What Save answers, and leaves. -/
structure SaveP (w : World) (g gt : Nat) (S : Nat → Prop) (s t : St) (br : Bool) (room : Int) (bs : List UInt8) (E : Int) (w' : World) (S' : Nat → Prop) (s2 : St) (br2 : Bool) (bs' : List UInt8) : Prop where
  tape : TapeAt w' gt S' (Tq room bs')
  led : LedV w' g gt S' s2 br2
  off : ¬ S' g
  foot : ∀ i, S' i → S i ∨ w.heap.size ≤ i
  fr : Fr (fun i => S i ∨ i = g) w w'
  what : (E = 0 ∧ br = false ∧ s2 = t ∧ br2 = false ∧ t.ok = true ∧ ∃ n, Com n s.log t.log ∧ runs s (recs n s t) = some t ∧ bs' = bs ++ fcat (recs n s t)) ∨ (E ≠ 0 ∧ s2 = s ∧ bs' = bs ∧ (br = true ∨ t.ok = false ∨ ∃ n, Com n s.log t.log ∧ (runs s (recs n s t) = none ∨ room - (bs.length : Int) < ((fcat (recs n s t)).length : Int))))
def SaveE (w : World) (g gt : Nat) (S : Nat → Prop) (s t : St) (br : Bool) (room : Int) (bs : List UInt8) (e : Ending) (w' : World) : Prop := ∃ E S' s2 br2 bs', e = .returned (.int .i64 E) ∧ SaveP w g gt S s t br room bs E w' S' s2 br2 bs'
theorem save_still {s t : St} {br : Bool} {room : Int} {bs : List UInt8} {E : Int} (hT : TapeAt w gt S (Tq room bs)) (hL : LedV w g gt S s br) (hg : ¬ S g) (hB : Below w.heap.size w w') (he : E ≠ 0) (hy : br = true ∨ t.ok = false ∨ ∃ n, Com n s.log t.log ∧ (runs s (recs n s t) = none ∨ room - (bs.length : Int) < ((fcat (recs n s t)).length : Int))) : SaveP w g gt S s t br room bs E w' S s br bs :=
  ⟨hT.on hB, hL.on hB, hg, fun _ e => .inl e, Fr.of_below hB, .inr ⟨he, rfl, rfl, hy⟩⟩
set_option maxRecDepth 100000 in
set_option maxHeartbeats 16000000 in
theorem save_any {s t : St} {br : Bool} {room : Int} {bs : List UInt8} (v : Value) (hT : TapeAt w gt S (Tq room bs)) (hL : LedV w g gt S s br) (hg : ¬ S g) (hso : s.ok = true) (hV : LogV S w v t.log) :
    Calls Tryz.prog 14 #[.pointer (some ⟨g, 0, none⟩), t.val v] w (SaveE w g gt S s t br room bs) := by
  obtain ⟨B, d, rfl⟩ := hV.form
  obtain ⟨m, hm⟩ : ∃ m, m = t.log.length := ⟨_, rfl⟩
  rw [← hm] at hV ⊢
  have NM := Lib.hid hm
  have HLed := Lib.hid hL
  obtain ⟨A, n, c, hB, hLV, hn⟩ := hL
  have b0 : Below w.heap.size w (w.alloc (.cells #[.int .i64 t.vi, .int .i64 t.no, .int .i64 t.co, .int .i64 t.ac, .slice B m d] 41)) := (Below.refl _ _).alloc (Nat.le_refl _) _
  have HX : Hid (Blk (w.alloc (.cells #[.int .i64 t.vi, .int .i64 t.no, .int .i64 t.co, .int .i64 t.ac, .slice B m d] 41)) w.heap.size 41 #[.int .i64 t.vi, .int .i64 t.no, .int .i64 t.co, .int .i64 t.ac, .slice B m d]) := Lib.hid (Blk.new _ _ _)
  have HB0 := Lib.hid (hB.on b0)
  have HT := Lib.hid hT
  have HV := Lib.hid hV
  have HLV := Lib.hid hLV
  have HG := Lib.hid hg
  have HO := Lib.hid hso
  have hgl : g < w.heap.size := hB.lt
  clear hm hB hLV hn hT hV hg hso
  cases br with
  | true =>
    go_enter Tryz.func14, Tryz.ntmps14
    go_upto_region 1 with (fail)
    generalize w.alloc _ = w0 at *
    have c6 := HB0.out.cell 6
    have cl := HB0.out.lt
    go_wp2
    go_ret
    exact ⟨40, S, s, true, bs, rfl, save_still HT.out HLed.out HG.out b0 (by decide) (.inl rfl)⟩
  | false =>
    go_enter Tryz.func14, Tryz.ntmps14
    go_upto_region 1 with (fail)
    generalize w.alloc _ = w0 at *
    have B0 := Lib.hid b0
    clear b0
    have c6 := HB0.out.cell 6
    have cl := HB0.out.lt
    go_upto_region 3 with (fail)
    clear c6 cl
    have CB : Hid (Calls Tryz.prog 27 #[s.val (.slice A n c), t.val (.slice B m d)] w0.drew (BtwP w0.drew.heap.size w0.drew s t)) := Lib.hid
      (between_any s t _ _ w0.drew ((HLV.out.on B0.out).drew).read ((HV.out.on B0.out).drew).read)
    have B0d : Hid (Below w.heap.size w w0.drew) := Lib.hid (Below.drewN' B0.out 1)
    refine wp_region_held_drew (S := fun w' => Blk w' g 60 #[.pointer (some ⟨gt, 0, none⟩), .int .i64 s.vi, .int .i64 s.no, .int .i64 s.co, .int .i64 s.ac, .slice A n c, .bool false] ∧ Blk w' w.heap.size 41 #[.int .i64 t.vi, .int .i64 t.no, .int .i64 t.co, .int .i64 t.ac, .slice B m d]) (by kernel_rfl) ⟨HB0.out, HX.out⟩ (fun hHeld => ?_)
    refine take_d 0 13 (.pointer (some ⟨g, 0, none⟩)) _ rfl rfl (by kernel_rfl) (by kernel_rfl) (by kernel_rfl) (fun _ _ _ h => h) (Or.inl ⟨by rfl, fun w' hSw => ?_⟩) hHeld ?_
    · go_simp
    simp only [List.setIfInBounds_toArray, List.set_cons_zero, List.set_cons_succ]
    refine take_d 1 14 (.pointer (some ⟨g, 0, none⟩)) _ rfl rfl (by kernel_rfl) (by kernel_rfl) (by kernel_rfl) (fun _ _ _ h => h) (Or.inl ⟨by rfl, fun w' hSw => ?_⟩) hHeld ?_
    · go_simp
    simp only [List.setIfInBounds_toArray, List.set_cons_zero, List.set_cons_succ]
    refine take_d 2 15 (.pointer (some ⟨g, 1, none⟩)) _ rfl rfl (by kernel_rfl) (by kernel_rfl) (by kernel_rfl) (fun _ _ _ h => h) (Or.inl ⟨by rfl, fun w' hSw => ?_⟩) hHeld ?_
    · go_simp
    simp only [List.setIfInBounds_toArray, List.set_cons_zero, List.set_cons_succ]
    refine take_d 3 16 (.agg #[.int .i64 s.vi, .int .i64 s.no, .int .i64 s.co, .int .i64 s.ac, .slice A n c]) _ rfl rfl (by kernel_rfl) (by kernel_rfl) (by kernel_rfl) (fun _ _ _ h => h) (Or.inl ⟨by rfl, fun w' hSw => ?_⟩) hHeld ?_
    · have q1 := hSw.1.cell 1
      have q2 := hSw.1.cell 2
      have q3 := hSw.1.cell 3
      have q4 := hSw.1.cell 4
      have q5 := hSw.1.cell 5
      go_simp
    simp only [List.setIfInBounds_toArray, List.set_cons_zero, List.set_cons_succ]
    refine take_d 4 17 (.agg #[.int .i64 t.vi, .int .i64 t.no, .int .i64 t.co, .int .i64 t.ac, .slice B m d]) _ rfl rfl (by kernel_rfl) (by kernel_rfl) (by kernel_rfl) (fun _ _ _ h => h) (Or.inl ⟨by rfl, fun w' hSw => ?_⟩) hHeld ?_
    · have q0 := hSw.2.cell 0
      have q1 := hSw.2.cell 1
      have q2 := hSw.2.cell 2
      have q3 := hSw.2.cell 3
      have q4 := hSw.2.cell 4
      go_simp
    simp only [List.setIfInBounds_toArray, List.set_cons_zero, List.set_cons_succ]
    refine wpAnyH_ready (rs := [5]) (by kernel_rfl) (by simp) ?_
    refine AllReadyH.cons rfl (fun K hK => ?_) AllReadyH.nil
    go_simp
    refine CB.out.mono ?_
    rintro e w5 hbt
    obtain ⟨V5, n5, c5, x5, rfl, hB5, hwh⟩ := btw_form hbt
    have WH := Lib.hid hwh
    have B5 := Lib.hid (B0d.out.trans (hB5.mono B0d.out.size))
    have hS5 : Blk w5 g 60 #[.pointer (some ⟨gt, 0, none⟩), .int .i64 s.vi, .int .i64 s.no, .int .i64 s.co, .int .i64 s.ac, .slice A n c, .bool false] ∧ Blk w5 w.heap.size 41 #[.int .i64 t.vi, .int .i64 t.no, .int .i64 t.co, .int .i64 t.ac, .slice B m d] := ⟨hHeld.1.on hB5, hHeld.2.on hB5⟩
    refine hK.out _ _ hS5 (fun hHeld => ?_)
    clear hK K hS5 hbt hwh hB5
    refine take_d 6 12 (.tuple #[.slice V5 n5 c5, .int .i64 x5]) _ rfl rfl (by kernel_rfl) (by kernel_rfl) (by kernel_rfl) (fun _ _ _ h => h) (Or.inl ⟨by rfl, fun w' hSw => ?_⟩) hHeld ?_
    · go_simp
    simp only [List.setIfInBounds_toArray, List.set_cons_zero, List.set_cons_succ]
    refine take_d 7 19 (.slice V5 n5 c5) _ rfl rfl (by kernel_rfl) (by kernel_rfl) (by kernel_rfl) (fun _ _ _ h => h) (Or.inl ⟨by rfl, fun w' hSw => ?_⟩) hHeld ?_
    · go_simp
    simp only [List.setIfInBounds_toArray, List.set_cons_zero, List.set_cons_succ]
    refine take_d 8 20 (.int .i64 x5) _ rfl rfl (by kernel_rfl) (by kernel_rfl) (by kernel_rfl) (fun _ _ _ h => h) (Or.inl ⟨by rfl, fun w' hSw => ?_⟩) hHeld ?_
    · go_simp
    simp only [List.setIfInBounds_toArray, List.set_cons_zero, List.set_cons_succ]
    refine take_d 9 5 (.slice V5 n5 c5) _ rfl rfl (by kernel_rfl) (by kernel_rfl) (by kernel_rfl) (fun _ _ _ h => h) (Or.inl ⟨by rfl, fun w' hSw => ?_⟩) hHeld ?_
    · go_simp
    simp only [List.setIfInBounds_toArray, List.set_cons_zero, List.set_cons_succ]
    refine take_d 10 6 (.int .i64 x5) _ rfl rfl (by kernel_rfl) (by kernel_rfl) (by kernel_rfl) (fun _ _ _ h => h) (Or.inl ⟨by rfl, fun w' hSw => ?_⟩) hHeld ?_
    · go_simp
    simp only [List.setIfInBounds_toArray, List.set_cons_zero, List.set_cons_succ]
    refine wpAnyH_done (by kernel_rfl) ?_ _
    have X5 := Lib.hid hHeld.2
    have G5 := Lib.hid hHeld.1
    have hs5 : w.heap.size ≤ w5.heap.size := B5.out.size
    clear hHeld
    have wh := WH.out
    rcases wh with ⟨rfl, hbad⟩ | ⟨hok, j, hc, ⟨rfl, hnone⟩ | ⟨rfl, hsome, hlen, hro⟩⟩
    · have HB := Lib.hid hbad
      clear hbad
      go_wp2
      go_ret
      exact ⟨10, S, s, false, bs, rfl, save_still HT.out HLed.out HG.out B5.out (by decide) (.inr (.inl (by have := HB.out; rw [HO.out] at this; simpa using this)))⟩
    · have HC := Lib.hid hc
      have HN := Lib.hid hnone
      clear hok hc hnone
      go_wp2
      go_ret
      exact ⟨54, S, s, false, bs, rfl, save_still HT.out HLed.out HG.out B5.out (by decide) (.inr (.inr ⟨j, HC.out, .inl HN.out⟩))⟩
    · have HC := Lib.hid hc
      have HS := Lib.hid hsome
      have HLn := Lib.hid hlen
      have HRO := Lib.hid hro
      have hto : t.ok = true := by rw [HO.out] at hok; simpa using hok
      have HTO := Lib.hid hto
      clear hok hc hsome hlen hro hto
      by_cases h0 : n5 = 0
      · subst h0
        have hnil : recs j s t = [] := List.eq_nil_of_length_eq_zero HLn.out.symm
        have HNil := Lib.hid hnil
        clear hnil
        go_wp2
        go_ret
        have e : s = t := by have h := HS.out; rw [HNil.out] at h; exact Option.some.inj h
        refine ⟨0, S, s, false, bs, rfl, HT.out.on B5.out, HLed.out.on B5.out, HG.out, fun _ e => .inl e, Fr.of_below B5.out, .inl ⟨rfl, rfl, e, rfl, HTO.out, j, HC.out, HS.out, ?_⟩⟩
        rw [HNil.out]
        simp [fcat]
      · have hn0 : ¬ (n5 : Int) = 0 := by omega
        have FRM := Lib.hid (frames_any (recs j s t) _ w5 (by have := recs_len (n := j) (a := s) HTO.out; omega) (recs_ok HO.out HTO.out) _ HRO.out)
        go_wp2_with fail
        refine FRM.out.mono ?_
        rintro e w6 ⟨v6, rfl, o6, b6⟩
        have T6 : TapeAt w6 gt S (Tq room bs) := (HT.out.on B5.out).on b6
        have G6 := Lib.hid (G5.out.on b6)
        have X6 := Lib.hid (X5.out.on b6)
        have B6 := Lib.hid (B5.out.trans (b6.mono hs5))
        have hs6 : w.heap.size ≤ w6.heap.size := B6.out.size
        have hold : ∀ i, S i → i < w.heap.size := fun i hi => (HT.out.old i hi).2
        have OLD := Lib.hid hold
        have WR := Lib.hid (write_any (g := g) (n₀ := w6.heap.size) v6 T6 G6.out rfl HG.out (fun w2 k2 => k2.bytes o6 (fun i hi e => by have h1 := (o6.lt i hi).1; have h2 := hold i e; omega)))
        clear FRM o6 b6 T6 hold
        by_cases hr : room - (bs.length : Int) < ((fcat (recs j s t)).length : Int)
        · have HR := Lib.hid hr
          rw [if_pos hr, if_pos hr] at WR
          clear hr
          go_wp2_with fail
          refine WR.out.mono ?_
          rintro e w7 ⟨bs7, S7, rfl, rfl, ht7, hs7, hf7⟩
          have T7 := Lib.hid ht7
          have F7 := Lib.hid hf7
          have D7 := Lib.hid hs7
          have G7 := Lib.hid (hf7.blk G6.out HG.out)
          have L7 := Lib.hid ((HLed.out.on B6.out).fr hf7 HG.out hs7)
          clear WR ht7 hf7 hs7
          have g6 := G7.out.cell 6
          have gf := G7.out.frozen 6
          have gl := G7.out.lt
          go_wp2
          go_ret
          have hng : ¬ S7 g := fun e => (D7.out g e).elim HG.out (by omega)
          have fg : Fr (fun i => i = g) w7 (w7.setCell ⟨g, 6, none⟩ (.bool true)) := (Fr.refl (S := fun i => i = g) w7).set_ (q := ⟨g, 6, none⟩) (.inl (show g = g from rfl)) _
          refine ⟨41, S7, s, true, bs7, rfl, T7.out.fr fg (fun i hi e => hng (by subst e; exact hi)), ?_, hng, fun i hi => (D7.out i hi).imp id (by omega), ?_, .inr ⟨by decide, rfl, rfl, .inr (.inr ⟨j, HC.out, .inr HR.out⟩)⟩⟩
          · obtain ⟨A', n', c', q1, q2, q3⟩ := L7.out
            have e := G7.out.symm.trans q1
            injection e with e
            injection e with e
            refine ⟨A', n', c', ?_, q2.next (fg.sub fun i _ hi => .inr hi), q3⟩
            have := q1.set_ 6 (.bool true)
            simpa using this
          · exact (Fr.of_below B6.out).join F7.out fg
        · have HR := Lib.hid hr
          rw [if_neg hr, if_neg hr] at WR
          clear hr
          go_wp2_with fail
          refine WR.out.mono ?_
          rintro e w7 ⟨bs7, S7, rfl, hbs, ht7, hs7, hf7⟩
          have HBS := Lib.hid hbs
          have T7 := Lib.hid ht7
          have F7 := Lib.hid hf7
          have D7 := Lib.hid hs7
          have G7 := Lib.hid (hf7.blk G6.out HG.out)
          have X7 := Lib.hid (hf7.blk X6.out (fun e => by have := OLD.out _ e; omega))
          have V7 : Hid (LogV S w7 (.slice B m d) t.log) := Lib.hid ((HV.out.on B6.out).next hf7)
          have hs7' : w6.heap.size ≤ w7.heap.size := hf7.size
          have OW := Lib.hid (own_any t _ w7 (by have := (St.ok_iff.1 HTO.out).2.2.1; omega) (short_ok (St.ok_iff.1 HTO.out).2.2.2.1) V7.out.read)
          rw [← NM.out] at OW
          clear WR ht7 hf7 hs7 hbs
          have x0 := X7.out.cell 0
          have x1 := X7.out.cell 1
          have x2 := X7.out.cell 2
          have x3 := X7.out.cell 3
          have x4 := X7.out.cell 4
          have xl := X7.out.lt
          go_wp2_with fail
          refine OW.out.mono ?_
          rintro e w8 ⟨A8, c8, rfl, o8, b8⟩
          have O8 := Lib.hid o8
          have G8 := Lib.hid (G7.out.on b8)
          have T8 := Lib.hid (T7.out.on b8)
          have F8 := Lib.hid (Fr.of_below (S := fun i => i = g) b8)
          clear x0 x1 x2 x3 x4 xl OW o8 b8
          have g1 := G8.out.cell 1
          have g2 := G8.out.cell 2
          have g3 := G8.out.cell 3
          have g4 := G8.out.cell 4
          have g5 := G8.out.cell 5
          have gf := G8.out.frozen
          have gl := G8.out.lt
          go_wp2
          go_ret
          have hng : ¬ S7 g := fun e => (D7.out g e).elim HG.out (by omega)
          have fg := ((((((Fr.refl (S := fun i => i = g) w8).set_ (q := ⟨g, 1, none⟩) (.inl (show g = g from rfl)) (.int .i64 t.vi)).set_ (q := ⟨g, 2, none⟩) (.inl (show g = g from rfl)) (.int .i64 t.no)).set_ (q := ⟨g, 3, none⟩) (.inl (show g = g from rfl)) (.int .i64 t.co)).set_ (q := ⟨g, 4, none⟩) (.inl (show g = g from rfl)) (.int .i64 t.ac)).set_ (q := ⟨g, 5, none⟩) (.inl (show g = g from rfl)) (.slice A8 m c8))
          refine ⟨0, S7, t, false, bs7, rfl, T8.out.fr fg (fun i hi e => hng (by subst e; exact hi)), ⟨A8, m, c8, by simpa using (((((G8.out.set_ 1 (.int .i64 t.vi)).set_ 2 (.int .i64 t.no)).set_ 3 (.int .i64 t.co)).set_ 4 (.int .i64 t.ac)).set_ 5 (.slice A8 m c8)), ?_, NM.out⟩, hng, fun i hi => (D7.out i hi).imp id (by omega), ?_, .inl ⟨rfl, rfl, rfl, rfl, HTO.out, j, HC.out, HS.out, HBS.out⟩⟩
          · exact LogV.of_own (((((O8.out.set_ (q := ⟨g, 1, none⟩) (show g < w7.heap.size by omega) (.int .i64 t.vi)).set_ (q := ⟨g, 2, none⟩) (show g < w7.heap.size by omega) (.int .i64 t.no)).set_ (q := ⟨g, 3, none⟩) (show g < w7.heap.size by omega) (.int .i64 t.co)).set_ (q := ⟨g, 4, none⟩) (show g < w7.heap.size by omega) (.int .i64 t.ac)).set_ (q := ⟨g, 5, none⟩) (show g < w7.heap.size by omega) (.slice A8 m c8)) (fun i hi => hi.elim (fun e => (T7.out.old i e).2) (by omega))
          · exact (Fr.of_below B6.out).join F7.out ((F8.out).next fg)
end Go.Proofs.YtefgobmpleoafaaGreat

