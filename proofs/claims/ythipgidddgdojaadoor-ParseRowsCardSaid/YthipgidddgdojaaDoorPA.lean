/- The reader's smallest steps, as contracts. -/
import Derived.Test.YthipgidddgdojaaDoorPWords
import Derived.Test.YthipgidddgdojaaDoorNext
import Derived.BigQuiet
import Derived.Deep.QuietTactic
import Derived.Deep.RegionHeld3
import Derived.Deep.RegionWith
import Derived.IntWalk
import Derived.Laws.BytesArg
import Derived.Laws.IdiomStrings
import Derived.Lib.SlBytesConst
import Derived.Lib.ConvBytes
namespace Go.Proofs.YthipgidddgdojaaDoor
open Go.RowKit
variable {n₀ rb tb cap d : Nat} {s : List UInt8} {w w' : World} {σ : St} {fc fa : Int} {bv : Value}

theorem refuse_any (c p : Int) (hR : Rd n₀ rb tb cap s w σ d fc fa bv) :
    Calls Tryd.prog 22 #[.pointer (some ⟨rb, 0, none⟩), .int .i64 c, .int .i64 p] w fun e w' => e = .returned (.bool false) ∧ w' = (w.setCell ⟨rb, 5, none⟩ (.int .i64 c)).setCell ⟨rb, 6, none⟩ (.int .i64 p) := by
  have c0 := hR.c0
  have c5 := hR.c5
  have c6 := hR.c6
  have f0 := hR.fz 0
  have f5 := hR.fz 5
  have f6 := hR.fz 6
  have HR := Lib.hid hR
  clear hR
  go_enter Tryd.func22, Tryd.ntmps22
  go_wp2
  go_ret
  exact ⟨rfl, rfl⟩

/-- string(b) of a slice value that reads as a text. -/
theorem run_string_bytes {n₀ : Nat} {w : World} {v : Value} {s : List UInt8} (h : Bytes n₀ w v s) : (convert 40 9 v).run Tryd.prog w = .ok (.string ⟨s.toArray⟩) w := by
  obtain ⟨A, cap, rfl, _, h⟩ := h
  by_cases hs : s = []
  · subst hs
    cases A with
    | none => exact run_convert_bytes_nil w 40 5 Tryd.underlying40 Tryd.underlying5 _ _ 9 Tryd.underlying9
    | some a => exact run_convert_bytes_back (P := Tryd.prog) w 40 9 5 a cap [] Tryd.underlying40 Tryd.underlying5 Tryd.underlying9 (fun j hj => by simp at hj)
  · obtain ⟨b, off, rfl, _, ht⟩ := h hs
    have e := run_convert_bytes_arg (P := Tryd.prog) w 40 5 Tryd.underlying40 Tryd.underlying5 b off s.length cap (s.map fun b => (b.toNat : Int)) (by simp) (fun i hi => by
      rw [ht i hi]
      simp [at_, List.getD_eq_getElem?_getD, hi]) 9 Tryd.underlying9
    rw [e]
    simp [strOfNums, Function.comp_def]

theorem equal_any (v1 v2 : Value) (a b : List UInt8) (n : Nat) (W : World) (h1 : Bytes n W v1 a) (h2 : Bytes n W v2 b) :
    Calls Tryd.prog 28 #[v1, v2] W fun e w' => e = .returned (.bool (a == b)) ∧ W = w' := by
  have k1 := run_string_bytes h1
  have k2 := run_string_bytes h2
  clear h1 h2
  by_cases hab : a = b
  · subst hab
    go_enter Tryd.func28, Tryd.ntmps28
    go_wp2
    go_ret
    exact ⟨by simp, rfl⟩
  · have hne : (a == b) = false := by simpa using hab
    have HN := Lib.hid hne
    clear hne
    go_enter Tryd.func28, Tryd.ntmps28
    go_wp2
    go_ret
    exact ⟨by rw [HN.out]; rfl, rfl⟩

theorem bytes_take {n : Nat} {W : World} {A : Option Addr} {len cap k : Nat} {t : List UInt8} (h : Bytes n W (.slice A len cap) t) (hk : k ≤ t.length) : Bytes n W (.slice A k cap) (t.take k) := by
  obtain ⟨A', cap', hv, hc, hx⟩ := h
  injection hv with e1 e2 e3
  subst e1 e3
  have hl : (t.take k).length = k := by rw [List.length_take]; omega
  refine ⟨A, cap, by rw [hl], by omega, fun hne => ?_⟩
  have hk0 : 0 < k := by rcases Nat.eq_zero_or_pos k with h0 | h0; (· subst h0; simp at hne); exact h0
  obtain ⟨b, off, hA, hb, ht⟩ := hx (by rintro rfl; simp at hk; omega)
  refine ⟨b, off, hA, hb, fun j hj => ?_⟩
  rw [hl] at hj
  rw [ht j (by omega)]
  simp [at_, List.getD_eq_getElem?_getD, hj]
theorem pre_take {p t : List UInt8} : pre p t = (t.take p.length == p) := by
  unfold pre
  rw [Bool.eq_iff_iff, List.isPrefixOf_iff_prefix, beq_iff_eq, List.prefix_iff_eq_take]
  exact ⟨fun e => e.symm, fun e => e.symm⟩
theorem pre_long {p t : List UInt8} (h : t.length < p.length) : pre p t = false := by
  cases e : pre p t
  · rfl
  · have := pre_len e
    omega
theorem bytes_len {n : Nat} {W : World} {v : Value} {t : List UInt8} (h : Bytes n W v t) : ∃ A cap, v = .slice A t.length cap ∧ t.length ≤ cap := by
  obtain ⟨A, cap, hv, hc, _⟩ := h
  exact ⟨A, cap, hv, hc⟩

theorem hasPrefix_any (v1 v2 : Value) (t p : List UInt8) (n : Nat) (W : World) (h1 : Bytes n W v1 t) (h2 : Bytes n W v2 p) :
    Calls Tryd.prog 26 #[v1, v2] W fun e w' => e = .returned (.bool (pre p t)) ∧ W = w' := by
  obtain ⟨A1, cap1, rfl, hc1⟩ := bytes_len h1
  obtain ⟨A2, cap2, rfl, hc2⟩ := bytes_len h2
  by_cases hl : p.length ≤ t.length
  · have he := equal_any _ _ _ _ n W (bytes_take h1 hl) h2
    rw [← pre_take] at he
    have HE := Lib.hid he
    clear he h1 h2
    go_enter Tryd.func26, Tryd.ntmps26
    go_wp2_with fail
    refine HE.out.mono ?_
    rintro e w' ⟨rfl, rfl⟩
    go_wp2
    go_ret
    exact ⟨rfl, rfl⟩
  · have hf := Lib.hid (pre_long (p := p) (t := t) (by omega))
    have hl' : t.length < p.length := by omega
    clear h1 h2
    go_enter Tryd.func26, Tryd.ntmps26
    go_wp2
    go_ret
    exact ⟨by rw [hf.out]; rfl, rfl⟩

theorem conv_run (W : World) (x : ByteArray) : (convert 9 40 (.string x)).run Tryd.prog W = .ok (.slice (some ⟨W.heap.size, 0, none⟩) x.size (grownCap W x.size 0 5)) (Lib.bytesWorld W 5 x) :=
  Lib.run_convert_string_bytes W 9 40 5 x Tryd.underlying9 Tryd.underlying40 Tryd.underlying5
theorem conv_cell (W : World) (x : ByteArray) (b o : Nat) (h : b < W.heap.size) : (Lib.bytesWorld W 5 x).cell? ⟨b, o, none⟩ = W.cell? ⟨b, o, none⟩ := cell_same (Lib.bytesWorld_at_old W 5 x b h) o
theorem conv_below (W : World) (x : ByteArray) : Below W.heap.size W (Lib.bytesWorld W 5 x) :=
  ⟨by unfold Lib.bytesWorld; rfl, by unfold Lib.bytesWorld; rfl, by unfold Lib.bytesWorld; rfl, by rw [Lib.bytesWorld_size]; omega, fun k hk => Lib.bytesWorld_at_old W 5 x k hk⟩
theorem grownCap_ge (W : World) (n : Nat) : n ≤ grownCap W n 0 5 := Go.grownCap_ge W n 0 5
theorem conv_bytes (W : World) (l : List UInt8) : Bytes (W.heap.size + 1) (Lib.bytesWorld W 5 ⟨l.toArray⟩) (.slice (some ⟨W.heap.size, 0, none⟩) l.length (grownCap W l.length 0 5)) l :=
  ⟨_, _, rfl, grownCap_ge _ _, fun _ => ⟨_, 0, rfl, by omega, fun j hj => by
    have := Lib.bytesWorld_cell W 5 ⟨l.toArray⟩ j (by simpa [ByteArray.size] using hj)
    rw [Nat.zero_add, this]
    simp [at_, List.getD_eq_getElem?_getD]⟩⟩

set_option maxRecDepth 100000 in
set_option maxHeartbeats 1000000 in
theorem sees_any (ws : List UInt8) (hR : Rd n₀ rb tb cap s w σ d fc fa bv) :
    Calls Tryd.prog 24 #[.pointer (some ⟨rb, 0, none⟩), .string ⟨ws.toArray⟩] w fun e w' => e = .returned (.bool (pre ws σ.t)) ∧ Below w.heap.size w w' := by
  have c0 := hR.c0
  have c1 := hR.c1
  have hpos := hR.pos
  have hl := hR.len
  have hlt := hR.blk.lt
  obtain ⟨o, hif, ho⟩ : ∃ o, (if cap = σ.pos then some (⟨tb, 0, none⟩ : Addr) else some ⟨tb, σ.pos, none⟩) = some ⟨tb, o, none⟩ ∧ (cap = σ.pos ∨ o = σ.pos) := by
    by_cases h : cap = σ.pos
    · exact ⟨0, by rw [if_pos h], .inl h⟩
    · exact ⟨σ.pos, by rw [if_neg h], .inr rfl⟩
  have hb1 : Bytes w.heap.size w (.slice (some ⟨tb, o, none⟩) (s.length - σ.pos) (cap - σ.pos)) σ.t := by
    have ht := hR.tl
    refine ⟨_, _, by rw [ht], by omega, fun hn => ⟨tb, o, rfl, ?_, fun j hj => ?_⟩⟩
    · obtain ⟨_, _, h⟩ := hR.tok
      exact lt_of_some h
    · have := hR.at_ hj
      have h1 := len_ne hn
      obtain rfl : o = σ.pos := by omega
      rwa [Nat.zero_add] at this
  have hb2 := conv_bytes w.drew ws
  obtain ⟨x, hx⟩ : ∃ x : ByteArray, x = ⟨ws.toArray⟩ := ⟨_, rfl⟩
  have hxs : ws.length = x.size := by rw [hx]; rfl
  have hbb : Below w.heap.size w (Lib.bytesWorld w.drew 5 x) := (⟨rfl, rfl, rfl, Nat.le_refl _, fun _ _ => rfl⟩ : Below w.heap.size w w.drew).trans (conv_below w.drew x)
  rw [← hx] at hb2 ⊢
  rw [hxs] at hb2
  have hp := Lib.hid (hasPrefix_any _ _ _ _ _ _ ((hb1.below hbb).more (Nat.le_succ _)) hb2)
  have HB := Lib.hid hbb
  clear hx hR hb1 hb2 hbb hxs ho
  have kc := conv_run
  have kcell : ∀ o, (Lib.bytesWorld w.drew 5 x).cell? ⟨rb, o, none⟩ = w.cell? ⟨rb, o, none⟩ := fun o => conv_cell w.drew x rb o hlt
  have h0 : (0 : Int) ≤ (σ.pos : Int) := by omega
  have h1 : (σ.pos : Int) ≤ (s.length : Int) := by omega
  have h2 : (s.length : Int) ≤ (cap : Int) := by omega
  go_enter Tryd.func24, Tryd.ntmps24
  go_wp2_with fail
  go_region_with (go_at_call 26; refine hp.out.mono ?_; rintro e w' ⟨rfl, rfl⟩)
  all_goals
    go_wp2
    go_ret
    exact ⟨rfl, HB.out⟩

end Go.Proofs.YthipgidddgdojaaDoor
