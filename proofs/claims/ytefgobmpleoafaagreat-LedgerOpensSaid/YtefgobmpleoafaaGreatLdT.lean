/- Layer 13: opening a ledger. -/
import Derived.Test.YtefgobmpleoafaaGreatLdO
namespace Go.Proofs.YtefgobmpleoafaaGreat
open Go.RowKit
variable {w w' : World} {S : Nat → Prop} {gt : Nat}

/-- What Open answers. -/
def OpenP (w : World) (gt : Nat) (S : Nat → Prop) (T : Tp) (e : Ending) (w' : World) : Prop :=
  ∃ (t : St) (u : Nat), Reads T.bs t u ∧ Fr S w w' ∧
    ((u < T.bs.length ∧ T.trimE (u : Int) ≠ 0 ∧ e = .returned (.tuple #[.pointer none, .int .i64 (T.trimE (u : Int) : Int)]) ∧ TapeAt w' gt S (T.trim (u : Int))) ∨
     (u < T.bs.length ∧ T.trimE (u : Int) = 0 ∧ ∃ g, e = .returned (.tuple #[.pointer (some ⟨g, 0, none⟩), .int .i64 0]) ∧ w.heap.size ≤ g ∧ LedV w' g gt S t false ∧ TapeAt w' gt S (T.trim (u : Int))) ∨
     (u = T.bs.length ∧ Below w.heap.size w w' ∧ ∃ g, e = .returned (.tuple #[.pointer (some ⟨g, 0, none⟩), .int .i64 0]) ∧ w.heap.size ≤ g ∧ LedV w' g gt S t false ∧ TapeAt w' gt S T))
theorem led_new {w3 : World} {t : St} {A : Option Addr} {m c b : Nat} (hL : LogV (fun i => i < b) w3 (.slice A m c) t.log) (hm : m = t.log.length) (hS : ∀ i, S i → i < b) : LedV (w3.alloc (.cells #[.pointer (some ⟨gt, 0, none⟩), .int .i64 t.vi, .int .i64 t.no, .int .i64 t.co, .int .i64 t.ac, .slice A m c, .bool false] 60)) w3.heap.size gt S t false :=
  ⟨A, m, c, Blk.new _ _ _, (hL.sub (S' := fun i => S i ∨ i = w3.heap.size) fun i hi => hi.elim (fun e => .inl (hS i e)) (fun e => .inr (by omega))).alloc _, hm⟩
set_option maxRecDepth 100000 in
set_option maxHeartbeats 16000000 in
theorem open_any {T : Tp} (hT : TapeAt w gt S T) : Calls Tryz.prog 10 #[.pointer (some ⟨gt, 0, none⟩)] w (OpenP w gt S T) := by
  have BY := Lib.hid (bytes_at hT)
  have HT := Lib.hid hT
  obtain ⟨n, hn⟩ : ∃ n, n = T.bs.length := ⟨_, rfl⟩
  have hmx : n ≤ 1100000 := by have h1 := hT.ok.fits; have h2 := hT.ok.room; omega
  rw [← hn] at BY
  have HN := Lib.hid hn
  have hold : ∀ i, S i → i < w.heap.size := fun i hi => (hT.old i hi).2
  have OLD := Lib.hid hold
  clear hT hn hold
  go_enter Tryz.func10, Tryz.ntmps10
  go_wp2_with fail
  refine BY.out.mono ?_
  rintro e w1 ⟨rfl, o1, b1⟩
  have B1 := Lib.hid b1
  have hlt : w.heap.size < w1.heap.size := (o1.lt w.heap.size rfl).2
  have RD := Lib.hid (read13_any w.heap.size n T.bs HN.out.symm hmx w1 hlt (fun j hj => o1.at_ HN.out.symm hj))
  clear b1 o1 BY
  go_wp2_with fail
  refine RD.out.mono ?_
  rintro e w2 ⟨t, u, A, m, c, rfl, hrd, hl, hm, b2⟩
  have HRD := Lib.hid hrd
  have hun : u ≤ n := by rw [HN.out]; exact hrd.ok.2
  have HM := Lib.hid hm
  have B2 := Lib.hid (B1.out.trans (b2.mono (by omega)))
  have b3 : Below w2.heap.size w2 (w2.alloc (.cells #[.int .i64 t.vi, .int .i64 t.no, .int .i64 t.co, .int .i64 t.ac, .slice A m c] 41)) := (Below.refl _ _).alloc (Nat.le_refl _) _
  have hs2 : w1.heap.size ≤ w2.heap.size := b2.size
  have B3 := Lib.hid (B2.out.trans (b3.mono (by omega)))
  have L3 := Lib.hid (hl.on b3)
  have X3 := Lib.hid (Blk.new w2 41 #[.int .i64 t.vi, .int .i64 t.no, .int .i64 t.co, .int .i64 t.ac, .slice A m c])
  have T3 := Lib.hid (HT.out.on B3.out)
  clear RD hrd hl hm b2 b3
  go_upto_region 3 with (fail)
  generalize w2.alloc _ = w3 at *
  have hs3 : w1.heap.size ≤ w3.heap.size := by have := X3.out.lt; omega
  by_cases hlu : u < n
  · have hlui : (u : Int) < (n : Int) := by omega
    have TR := Lib.hid (trim_any (u : Int) T3.out)
    obtain ⟨E, hE⟩ : ∃ E, E = T.trimE (u : Int) := ⟨_, rfl⟩
    rw [← hE] at TR
    have HE := Lib.hid hE
    clear hE
    by_cases he0 : E = 0
    · subst he0
      go_wp2_with fail
      refine TR.out.mono ?_
      rintro e w4 ⟨rfl, ht4, hf4⟩
      have T4 := Lib.hid ht4
      have F4 := Lib.hid hf4
      have X4 := Lib.hid (hf4.blk X3.out (fun e => by have := OLD.out _ e; omega))
      have L4 : Hid (LogV (fun i => i < w1.heap.size) w4 (.slice A m c) t.log) := Lib.hid (L3.out.next (hf4.sub fun i _ hi => by have := OLD.out i hi; omega))
      clear TR ht4 hf4
      have x0 := X4.out.cell 0
      have x1 := X4.out.cell 1
      have x2 := X4.out.cell 2
      have x3 := X4.out.cell 3
      have x4 := X4.out.cell 4
      have xl := X4.out.lt
      go_wp2
      go_ret2
      have LN := led_new (gt := gt) (S := S) L4.out HM.out (fun i hi => by have := OLD.out i hi; omega)
      refine ⟨t, u, HRD.out, ((Fr.of_below B3.out).next F4.out).alloc _, .inr (.inl ⟨by rw [← HN.out]; exact hlu, HE.out.symm, w4.heap.size, rfl, by have := F4.out.size; omega, LN, T4.out.alloc _⟩)⟩
    · have hei : ¬ (E : Int) = 0 := by omega
      go_wp2_with fail
      refine TR.out.mono ?_
      rintro e w4 ⟨rfl, ht4, hf4⟩
      have T4 := Lib.hid ht4
      have F4 := Lib.hid hf4
      clear TR ht4 hf4
      go_wp2
      go_ret2
      exact ⟨t, u, HRD.out, (Fr.of_below B3.out).next F4.out, .inl ⟨by rw [← HN.out]; exact hlu, by rw [← HE.out]; exact he0, by rw [← HE.out]; rfl, T4.out⟩⟩
  · have hge : ¬ (u : Int) < (n : Int) := by omega
    have x0 := X3.out.cell 0
    have x1 := X3.out.cell 1
    have x2 := X3.out.cell 2
    have x3 := X3.out.cell 3
    have x4 := X3.out.cell 4
    have xl := X3.out.lt
    go_wp2
    go_ret2
    have LN := led_new (gt := gt) (S := S) L3.out HM.out (fun i hi => by have := OLD.out i hi; omega)
    have B4 := B3.out.alloc (by omega) (.cells #[.pointer (some ⟨gt, 0, none⟩), .int .i64 t.vi, .int .i64 t.no, .int .i64 t.co, .int .i64 t.ac, .slice A m c, .bool false] 60)
    exact ⟨t, u, HRD.out, Fr.of_below B4, .inr (.inr ⟨by rw [← HN.out]; omega, B4, w3.heap.size, rfl, by omega, LN, T3.out.alloc _⟩)⟩
/-- Of a tape that is read whole. -/
theorem open_whole {room : Int} {bs : List UInt8} {s : St} (hT : TapeAt w gt S (Tq room bs)) (hW : Whole bs s) :
    Calls Tryz.prog 10 #[.pointer (some ⟨gt, 0, none⟩)] w fun e w' => ∃ g, e = .returned (.tuple #[.pointer (some ⟨g, 0, none⟩), .int .i64 0]) ∧ w.heap.size ≤ g ∧ LedV w' g gt S s false ∧ TapeAt w' gt S (Tq room bs) ∧ Below w.heap.size w w' := by
  refine (open_any hT).mono ?_
  rintro e w' ⟨t, u, h1, _, h2⟩
  obtain ⟨rfl, rfl⟩ := h1.one hW.reads
  rcases h2 with ⟨h, _⟩ | ⟨h, _⟩ | ⟨_, hb, g, rfl, hg, hl, ht⟩
  · exact absurd h (Nat.lt_irrefl _)
  · exact absurd h (Nat.lt_irrefl _)
  · exact ⟨g, rfl, hg, hl, ht, hb⟩
end Go.Proofs.YtefgobmpleoafaaGreat
