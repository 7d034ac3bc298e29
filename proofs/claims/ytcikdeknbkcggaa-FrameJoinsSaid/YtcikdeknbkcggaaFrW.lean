/- The law FrameJoins, as a contract: true, and nothing that lay has turned. -/
import Derived.Test.YtcikdeknbkcggaaFrV
import Derived.Test.YtcikdeknbkcggaaFrT
namespace Go.Proofs.Ytcikdeknbkcggaa
open Go.RowKit

set_option maxHeartbeats 1000000 in
theorem joins_out (A B : Option Addr) (n c m d : Nat) (hn : n ≤ 9223372036854775807) (hm : m ≤ 9223372036854775807) (ho : 20 < n ∨ 20 < m) (w : World) :
    Calls Try.prog 8 #[.slice A n c, .slice B m d] w fun e w' => e = .returned (.bool true) ∧ Below w.heap.size w w' := by
  by_cases i1 : (20 : Int) < (n : Int)
  · go_enter Try.func8, Try.ntmps8
    go_wp2_with fail
    refine (anchor10_any w).mono ?_
    rintro e w1 ⟨rfl, hB1⟩
    go_wp2
    go_ret
    exact ⟨rfl, hB1⟩
  · have i2 : (20 : Int) < (m : Int) := by omega
    go_enter Try.func8, Try.ntmps8
    go_wp2_with fail
    refine (anchor10_any w).mono ?_
    rintro e w1 ⟨rfl, hB1⟩
    go_wp2
    go_ret
    exact ⟨rfl, hB1⟩
/-- What was put together: the frames, and the bodies wanted. -/
structure JR (w : World) (v5 v6 : Value) (wr : World) (ds : List (List UInt8)) : Prop where
  all : Own wr w.heap.size v5 (cat ds)
  want : ∃ vals, RBods wr w.heap.size w.heap.size v6 ds vals
  small : ∀ b ∈ ds, b.length ≤ 300
  below : Below w.heap.size w wr
theorem JR.nil {w w1 : World} (h : Below w.heap.size w w1) : JR w (.slice none 0 0) (.slice none 0 0) w1 [] := ⟨own_nil _ _, ⟨[], RBods.nil _ _ _⟩, by simp, h⟩
theorem RBods.other {w w' : World} {base n₀ : Nat} {v va : Value} {bs : List (List UInt8)} {vals : List Value} {n : Nat} {xs : List Value} (h : RBods w base n₀ v bs vals) (hr : w.ownsRow base 5 1 va n xs) (hg : w.grownBy w' va.ownBlock) (hn : n₀ ≤ base) (hb : base ≤ w.heap.size) : RBods w' base n₀ v bs vals := by
  have B1 : Below n₀ w w' := (Below.refl n₀ w).grown hg (by omega) (fun k hk => by have := (World.ownsRow.lt hr k hk).1; omega)
  exact ⟨h.len, own_other (by decide) h.row hr hg, fun i x t hx ht => (h.each i x t hx ht).below B1⟩
/-- One list of the two, by its number. -/
theorem pick (va vb : Value) (a b : List (List UInt8)) (w : World) (ha : Reads w va a) (hb : Reads w vb b) (la : a.length ≤ 20) (lb : b.length ≤ 20) (sa : ∀ t ∈ a, t.length ≤ 9223372036854775807) (sb : ∀ t ∈ b, t.length ≤ 9223372036854775807) (o : Nat) (ho : o < 2) :
    ∃ (x : Value) (l ds es : List (List UInt8)), Reads w x l ∧ l.length ≤ 20 ∧ (∀ t ∈ l, t.length ≤ 9223372036854775807) ∧ ds = (if o = 0 then [] else a) ∧ es = (if o + 1 = 1 then a else a ++ b) ∧ es = ds ++ l ∧ ds.length ≤ 20 ∧
      ∀ w : World, (Instr.index 41 (.agg #[va, vb]) (.int .i64 (o : Int))).run Try.prog w = .ok x w := by
  have h : o = 0 ∨ o = 1 := by omega
  rcases h with rfl | rfl
  · refine ⟨va, a, [], a, ha, la, sa, rfl, rfl, rfl, by simp, fun W => ?_⟩
    obtain ⟨A, c, rfl, _⟩ := ha
    obtain ⟨B, d, rfl, _⟩ := hb
    kernel_rfl
  · refine ⟨vb, b, a, a ++ b, hb, lb, sb, rfl, rfl, rfl, la, fun W => ?_⟩
    obtain ⟨A, c, rfl, _⟩ := ha
    obtain ⟨B, d, rfl, _⟩ := hb
    kernel_rfl
def dn (a b : List (List UInt8)) (o : Nat) : List (List UInt8) := if o = 0 then [] else if o = 1 then a else a ++ b
theorem mem_snoc {ds l : List (List UInt8)} {k : Nat} (hk : k < l.length) (h : ∀ b ∈ ds ++ l.take k, b.length ≤ 300) (h1 : (l.getD k []).length ≤ 300) : ∀ b ∈ ds ++ l.take (k + 1), b.length ≤ 300 := by
  rw [take_snoc l k hk, ← List.append_assoc]
  intro b hb
  rcases List.mem_append.1 hb with hb | hb
  · exact h b hb
  · have : b = l.getD k [] := by simpa [hk] using hb
    rw [this]; exact h1
theorem cat_step {ds l : List (List UInt8)} {k : Nat} (hk : k < l.length) : cat (ds ++ l.take (k + 1)) = cat (ds ++ l.take k) ++ frm (l.getD k []) := by
  rw [cat_app, cat_app, take_cat l k hk, List.append_assoc]
theorem snoc_step {ds l : List (List UInt8)} {k : Nat} (hk : k < l.length) : ds ++ l.take (k + 1) = (ds ++ l.take k) ++ [l.getD k []] := by
  rw [take_snoc l k hk, List.append_assoc]; simp [hk]
def JLoop (w : World) (a b : List (List UInt8)) (v5 v6 i : Value) (wr : World) : Prop := ∃ o : Nat, o ≤ 2 ∧ i = .int .i64 (o : Int) ∧ JR w v5 v6 wr (dn a b o)
def JIn (w : World) (ds l : List (List UInt8)) (v5 v6 i : Value) (wr : World) : Prop := ∃ k : Nat, k ≤ l.length ∧ i = .int .i64 (k : Int) ∧ JR w v5 v6 wr (ds ++ l.take k)
/-- While the scanned bodies are turned, one by one: only the blocks of the first i are other than they were. -/
structure J3 (S : Nat) (vals : List Value) (w2 wr : World) (i : Nat) : Prop where
  below : Below S w2 wr
  keep : ∀ g, (∀ j, j < i → ∀ x, vals[j]? = some x → x.ownBlock ≠ some g) → g < w2.heap.size → wr.heap[g]? = w2.heap[g]?
theorem J3.start (S : Nat) (vals : List Value) (w2 : World) : J3 S vals w2 w2 0 := ⟨Below.refl _ _, fun _ _ _ => rfl⟩
theorem J3.draw {S : Nat} {vals : List Value} {w2 wr : World} {i : Nat} (h : J3 S vals w2 wr i) (m : Nat) : J3 S vals w2 (wr.drewN m) i := ⟨Below.drewN' h.below m, h.keep⟩
/-- While one body is turned. -/
structure J4 (S gx n : Nat) (wq wi : World) : Prop where
  below : Below S wq wi
  cells : ∀ j, j < n → ∃ z : Nat, z < 256 ∧ wi.cell? ⟨gx, j, none⟩ = some (.int .u8 (z : Int))
  free : ∀ j, wi.frozen? ⟨gx, j, none⟩ = false
  keep : ∀ g, g ≠ gx → wi.heap[g]? = wq.heap[g]?
theorem J4.set {S gx n : Nat} {wq wi : World} (h : J4 S gx n wq wi) (hS : S ≤ gx) (k : Nat) (hk : k < n) (y : UInt8) : J4 S gx n wq (wi.setCell ⟨gx, k, none⟩ (.int .u8 ((y.toNat : Nat) : Int))) := by
  refine ⟨h.below.setCell hS _, fun j hj => ?_, fun j => ?_, fun g hg => ?_⟩
  · by_cases e : j = k
    · subst e
      obtain ⟨z, _, hz⟩ := h.cells j hj
      exact ⟨y.toNat, y.toNat_lt, World.cell?_setCell_same _ _ _ hz⟩
    · obtain ⟨z, hz0, hz⟩ := h.cells j hj
      exact ⟨z, hz0, by rw [World.cell?_setCell_other _ _ _ _ (fun q => e (by injection q with _ q; exact q.symm))]; exact hz⟩
  · rw [World.frozen?_setCell]; exact h.free j
  · rw [← h.keep g hg]
    exact Below.heap_setCell wi _ _ g hg
theorem J3.step {S gx n : Nat} {vals : List Value} {w2 wq wi : World} {i : Nat} {x : Value} (h : J3 S vals w2 wq i) (hx : vals[i]? = some x) (hg : x.ownBlock = some gx) (h4 : J4 S gx n wq wi) : J3 S vals w2 wi (i + 1) :=
  ⟨h.below.trans h4.below, fun g hgj hgl => by
    rw [h4.keep g (fun e => hgj i (by omega) x hx (by rw [hg, e]))]
    exact h.keep g (fun j hj y hy => hgj j (by omega) y hy) hgl⟩
theorem J3.skip {S : Nat} {vals : List Value} {w2 wq : World} {i : Nat} (h : J3 S vals w2 wq i) : J3 S vals w2 wq (i + 1) :=
  ⟨h.below, fun g hgj hgl => h.keep g (fun j hj y hy => hgj j (by omega) y hy) hgl⟩
theorem J3.own {S : Nat} {v x : Value} {bs : List (List UInt8)} {vals : List Value} {w2 wr : World} {i : Nat} {t : List UInt8} (h : J3 S vals w2 wr i) (hb : Bods w2 S v bs vals) (hx : vals[i]? = some x) (ht : bs[i]? = some t) : Own wr S x t := by
  have ho := hb.own i x t hx ht
  refine own_keep ho fun g hg => h.keep g (fun j hj y hy e => ?_) (World.ownsRow.lt ho g hg.symm).2
  rcases hb.far j i y x hj hy hx with h0 | h0
  · rw [h0] at e; cases e
  · exact h0 (e.trans hg)
theorem J3.row {S : Nat} {v : Value} {bs : List (List UInt8)} {vals : List Value} {w2 wr : World} {i : Nat} (h : J3 S vals w2 wr i) (hb : Bods w2 S v bs vals) : wr.ownsRow S 22 1 v bs.length vals := by
  refine own_kept hb.row fun g hg _ ⟨cs, z, hc⟩ => h.keep g (fun j hj y hy => ?_) hg
  have hjv : j < vals.length := (List.getElem?_eq_some_iff.1 hy).1
  have hjb : j < bs.length := by rw [← hb.len]; exact hjv
  have ho := hb.own j y bs[j] hy (by simp [hjb])
  exact own_ne ho hc (by decide)
theorem J4.start {S gx c : Nat} {wq : World} {T : List UInt8} (h : Own wq S (.slice (some ⟨gx, 0, none⟩) T.length c) T) : J4 S gx T.length wq wq := by
  rcases own_at h with ⟨e, _⟩ | ⟨g, c', e, _, _, _, hc, hf⟩
  · cases e
  · simp only [Value.slice.injEq, Option.some.injEq, Addr.mk.injEq] at e
    obtain ⟨⟨rfl, _⟩, _⟩ := e
    exact ⟨Below.refl _ _, fun j hj => ⟨at_ T j, at_lt T j, by rw [hc j (by omega)]; exact byteCells_get hj⟩, hf, fun _ _ => rfl⟩
theorem row_cell {w : World} {base g c n : Nat} {e : TypeId} {xs : List Value} (h : w.ownsRow base e 1 (.slice (some ⟨g, 0, none⟩) n c) n xs) (j : Nat) (hj : j < n) : w.cell? ⟨g, j, none⟩ = xs[j]? :=
  World.ownsRow.cellAt h j (by omega)
theorem empty_of {s : List UInt8} (h : s.length = 0) : s = [] := List.eq_nil_of_length_eq_zero h
def JScan (S : Nat) (vals : List Value) (w2 : World) (n : Nat) (i : Value) (wr : World) : Prop := ∃ k : Nat, k ≤ n ∧ i = .int .i64 (k : Int) ∧ J3 S vals w2 wr k
def JTurn (S gx n : Nat) (wq : World) (i : Value) (wr : World) : Prop := ∃ k : Nat, k ≤ n ∧ i = .int .i64 (k : Int) ∧ J4 S gx n wq wr
set_option maxRecDepth 100000 in
set_option maxHeartbeats 4000000 in
theorem joins_any (va vb : Value) (a b : List (List UInt8)) (la : a.length ≤ 20) (lb : b.length ≤ 20) (sa : ∀ t ∈ a, t.length ≤ 9223372036854775807) (sb : ∀ t ∈ b, t.length ≤ 9223372036854775807) (w : World) (ha : Reads w va a) (hb : Reads w vb b) :
    Calls Try.prog 8 #[va, vb] w fun e w' => e = .returned (.bool true) ∧ Below w.heap.size w w' := by
  obtain ⟨i0, hi, hz0, hz1, hz2⟩ := info_three info_u8
  obtain ⟨j0, hj, hy0, hy1, hy2⟩ := info_three info_bytes
  have PICK := Lib.hid (pick va vb a b w ha hb la lb sa sb)
  obtain ⟨A, c, rfl, hc, _⟩ := ha
  obtain ⟨B, d, rfl, hd, _⟩ := hb
  clear sa sb
  go_enter Try.func8, Try.ntmps8
  go_wp2_with fail
  refine (anchor10_any w).mono ?_
  rintro e w1 ⟨rfl, hB1⟩
  have C1 := Lib.hid hB1
  clear hB1
  go_wp2
  go_loopw [5, 6, 33] (fun v5 v6 i wr => JLoop w a b v5 v6 i wr) (fun _ _ i _ => 2 - (intOf i).toNat)
  case atStart => exact ⟨0, by omega, rfl, JR.nil C1.out⟩
  case round =>
    obtain ⟨o, ho, rfl, jr⟩ := hrel
    by_cases hlt : o < 2
    · obtain ⟨x, l, ds, es, hx, ll, sl, hds, hes, hdl, hdn, hix⟩ := PICK.out o hlt
      obtain ⟨X, cx, rfl, hcx, hxp⟩ := hx
      have hd0 : dn a b o = ds := by
        rw [hds]
        rcases (by omega : o = 0 ∨ o = 1) with rfl | rfl <;> rfl
      have hd1 : dn a b (o + 1) = ds ++ l := by
        rw [← hdl, hes]
        rcases (by omega : o = 0 ∨ o = 1) with rfl | rfl <;> rfl
      rw [hd0] at jr
      have J0 := Lib.hid jr
      have HD1 := Lib.hid hd1
      have HIX := hix
      clear jr hds hes hdl hd0 hd1 hix
      have hdec : decide ((o : Int) < 2) = true := by simp; omega
      obtain ⟨wo, hwo⟩ : ∃ wo : World, wo = wr := ⟨_, rfl⟩
      subst hwo
      by_cases hl0 : l = []
      · subst hl0
        clear hxp
        simp only [List.length_nil] at HIX
        go_wp2
        go_loopw [5, 6, 38] (fun a5 a6 i wr2 => JIn w ds [] a5 a6 i wr2) (fun _ _ _ _ => 0)
        case atStart => exact ⟨0, Nat.le_refl _, rfl, by rw [List.take_zero, List.append_nil]; exact J0.out⟩
        case round =>
          obtain ⟨k, hk, rfl, jr⟩ := hrel
          obtain rfl : k = 0 := by simpa using hk
          have J1 := Lib.hid jr
          clear jr J0 hk
          go_wp2
          go_roundw
          case rel => exact ⟨o + 1, by omega, by go_num, by rw [HD1.out]; exact J1.out⟩
          case measure => simp [intOf]; omega
      · obtain ⟨b0, o0, rfl, hb0, hp⟩ := hxp hl0
        have HP := Lib.hid hp
        have SL := Lib.hid sl
        obtain ⟨n, hn⟩ : ∃ n, n = l.length := ⟨_, rfl⟩
        rw [← hn] at ll hcx HIX
        have HN := Lib.hid hn
        clear hp sl hxp hl0 hn
        go_wp2
        go_loopw [5, 6, 38] (fun a5 a6 i wr2 => JIn w ds l a5 a6 i wr2) (fun _ _ i _ => n - (intOf i).toNat)
        case atStart => exact ⟨0, Nat.zero_le _, rfl, by rw [List.take_zero, List.append_nil]; exact J0.out⟩
        case round =>
          obtain ⟨k, hk, rfl, jr⟩ := hrel
          rw [← HN.out] at hk
          obtain ⟨o5, ⟨vals, o6⟩, hsm, hB⟩ := jr
          clear J0
          by_cases hlt2 : k < n
          · obtain ⟨Ak, ck, q4, y4⟩ := HP.out.bytes hb0 hB k (by rw [← HN.out]; exact hlt2)
            obtain ⟨T, hT⟩ : ∃ T, T = l.getD k [] := ⟨_, rfl⟩
            have hTm : T.length ≤ 9223372036854775807 := SL.out T (by rw [hT]; have := HN.out; simp [show k < l.length by omega])
            rw [← hT] at q4 y4
            have HT := Lib.hid hT
            have O5 := Lib.hid o5
            have O6 := Lib.hid o6
            have HSM := Lib.hid hsm
            have HB := Lib.hid hB
            have Y4 := Lib.hid y4
            have hzw : w.heap.size ≤ wr.heap.size := hB.size
            clear hT o5 o6 hsm hB y4
            by_cases hbig : (300 : Int) < (T.length : Int)
            · go_wp2
              go_ret
              exact ⟨rfl, HB.out⟩
            · have hEl : (cat (ds ++ l.take k)).length ≤ 12400 := by
                have := En_le (ds ++ l.take k) HSM.out
                simp at this
                have := HN.out
                omega
              have hDl : (ds ++ l.take k).length ≤ 40 := by
                have := HN.out
                simp
                omega
              go_wp2_with fail
              refine (make_ok w.heap.size _ T (by omega) wr hzw Y4.out).mono ?_
              rintro e w2 ⟨v2, rfl, o2, hB2⟩
              have O2 := Lib.hid o2
              have HB2 := Lib.hid hB2
              have hz2w : wr.heap.size ≤ w2.heap.size := hB2.size
              clear o2 hB2
              have hTl : T.length ≤ 300 := by omega
              have hkb : k < l.length := by have := HN.out; omega
              have HFL := Lib.hid (frm_len T)
              obtain ⟨D0, hD0⟩ : ∃ D0, D0 = (ds ++ l.take k).length := ⟨_, rfl⟩
              rw [← hD0] at hDl
              have HD0 := Lib.hid hD0
              clear hD0
              go_wp2_with (first
                | (at_builtin
                   refine wpList_append_row _ rfl (.tmp 52) (.tmp 53) 22 rfl w.heap.size 5 i0 (.int .u8 0) 1 Try.underlying22 hi hz0 hz1 hz2 rfl _ _ _ rfl (O5.out.below HB2.out) w2.heap.size _ (Lib.byteCells (frm T)) rfl (Row.of_own O2.out) (one_bytes _) (by rw [Lib.byteCells_length, HFL.out]; unfold maxLen; omega) (by rw [Lib.byteCells_length, HFL.out]; omega) (by omega) ?_
                   intro v3 w3 o3 g3
                   have C3 : Hid (Below w.heap.size w w3) := Lib.hid (below_append (HB.out.trans (HB2.out.mono hzw)) (O5.out.below HB2.out) (Nat.le_refl _) g3 (by omega))
                   have hz3 : w.heap.size ≤ w3.heap.size := C3.out.size
                   have o3' : Own w3 w.heap.size v3 (cat (ds ++ l.take (k + 1))) := by rw [cat_step hkb, ← HT.out]; unfold Own; rw [List.length_append, Lib.byteCells_append]; rw [Lib.byteCells_length] at o3; exact o3
                   have O3 := Lib.hid o3'
                   have P6 := Lib.hid ((O6.out.below HB2.out hzw).other (O5.out.below HB2.out) g3 (Nat.le_refl _) (by omega))
                   have Y3 : Hid (Bytes w.heap.size w3 (.slice Ak T.length ck) T) := Lib.hid (Y4.out.below (below_append (HB2.out.mono hzw) (O5.out.below HB2.out) (Nat.le_refl _) g3 (by omega)))
                   clear o3 g3 o3')
                | (at_builtin
                   refine wpList_append_row _ rfl (.tmp 55) (.tmp 57) 35 rfl w.heap.size 22 j0 (.slice none 0 0) 24 Try.underlying35 hj hy0 hy1 hy2 rfl _ _ _ rfl (P6.out.row.alloc _) (w3.heap.size + 1) _ [.slice Ak T.length ck] rfl (Row.lit w3 #[.slice Ak T.length ck] 22 (0, 0)) (by intro y hy; simp at hy; subst hy; rfl) (by rw [← HD0.out]; simp; unfold maxLen; omega) (by rw [← HD0.out]; simp; omega) (by simp; omega) ?_
                   intro v4 w4 o4 g4
                   have C4 : Hid (Below w.heap.size w w4) := Lib.hid (below_append (C3.out.alloc hz3 _) (P6.out.row.alloc _) (Nat.le_refl _) g4 (by simp; omega))
                   have O4 := Lib.hid (P6.out.snoc (Below.refl _ _) Y3.out (Nat.le_refl _) hz3 o4 g4)
                   have Q5 := Lib.hid (own_other (by decide) (World.ownsRow.alloc O3.out _) (P6.out.row.alloc _) g4)
                   clear o4 g4))
              go_roundw
              case rel => exact ⟨k + 1, by have := HN.out; omega, by go_num, ⟨Q5.out, ⟨_, by rw [snoc_step hkb, ← HT.out]; exact O4.out⟩, mem_snoc hkb HSM.out (by rw [← HT.out]; exact hTl), C4.out⟩⟩
              case measure => simp [intOf]; omega
          · have hkn : k = n := by omega
            have htk : l.take n = l := by rw [HN.out]; exact List.take_length
            rw [hkn, htk] at o5 o6 hsm
            have J1 : Hid (JR w _ _ wr (dn a b (o + 1))) := Lib.hid (by rw [HD1.out]; exact ⟨o5, ⟨_, o6⟩, hsm, hB⟩)
            subst hkn
            clear o5 o6 hsm hB htk hlt2
            go_wp2
            go_roundw
            case rel => exact ⟨o + 1, by omega, by go_num, J1.out⟩
            case measure => simp [intOf]; omega
    · have ho2 : o = 2 := by omega
      subst ho2
      obtain ⟨wS, hwS⟩ : ∃ wS : World, wS = wr := ⟨_, rfl⟩
      subst hwS
      have hdn : dn a b 2 = a ++ b := rfl
      rw [hdn] at jr
      obtain ⟨bs, hbs⟩ : ∃ bs, bs = a ++ b := ⟨_, rfl⟩
      have hbl : bs.length ≤ 40 := by rw [hbs]; simp; omega
      rw [← hbs] at jr
      obtain ⟨o5, ⟨vals, o6⟩, hsm, hB⟩ := jr
      have hcl := En_le bs hsm
      have r6 := o6.reads hB.size
      have ob := o5.bytes
      obtain ⟨A5, c5, rfl⟩ := one_slice o5
      obtain ⟨A6, c6, rfl, hc6, r6⟩ := r6
      have HSM := Lib.hid hsm
      have HB := Lib.hid hB
      have hzw : w.heap.size ≤ wS.heap.size := hB.size
      obtain ⟨L, hL⟩ : ∃ L, L = (cat bs).length := ⟨_, rfl⟩
      obtain ⟨n, hn⟩ : ∃ n, n = bs.length := ⟨_, rfl⟩
      rw [← hL] at ob hcl ⊢
      rw [← hn] at hc6 hbl hcl ⊢
      have OB := Lib.hid ob
      have HL := Lib.hid hL
      have HN := Lib.hid hn
      clear o5 o6 ob hsm hB hL hn hbs hdn PICK C1 hlt ho
      go_wp2_with fail
      refine (scan_any wS.heap.size _ (cat bs) (by have := HL.out; omega) wS (Nat.le_refl _) OB.out).mono ?_
      rintro e w2 ⟨v2, u2, rs, vals2, rfl, sc2, no2, bd2, hB2⟩
      have hsc := Sc.cat bs [] (fun b hb => by have := HSM.out b hb; omega)
      rw [List.append_nil] at hsc
      obtain ⟨hrs, hu2⟩ := Sc.one sc2 no2 hsc (by rw [List.drop_length, rdE_nil]; decide)
      subst hrs hu2
      rw [← HL.out]
      have HB2 := Lib.hid hB2
      have hz2 : wS.heap.size ≤ w2.heap.size := hB2.size
      have BD2 := Lib.hid bd2
      have OB2 : Hid (Bytes wS.heap.size w2 (.slice A5 L c5) (cat rs)) := Lib.hid (OB.out.below hB2)
      clear sc2 no2 hsc hB2
      by_cases hbs : rs = []
      · subst hbs
        have hn0 : n = 0 := HN.out
        subst hn0
        have r2 := bd2.reads
        obtain ⟨A2, c2, rfl, _⟩ := r2
        clear bd2 r6
        simp only [List.length_nil]
        have hsc := sc_nil (cat [])
        go_wp2
        go_loop [79] (fun i => i = .int .i64 0) (fun _ => 0)
        case atStart => rfl
        case round =>
          subst hrel
          go_wp2_with fail
          refine (scan_any wS.heap.size _ (cat []) (by simp [cat]) w2 hz2 OB2.out).mono ?_
          rintro e w4 ⟨v4, u4, rs4, vals4, rfl, sc4, no4, bd4, hB4⟩
          obtain ⟨rfl, rfl⟩ := sc_empty (show Sc [] u4 rs4 from sc4)
          have r4 := bd4.reads
          obtain ⟨A4, c4, rfl, _⟩ := r4
          have C4 := Lib.hid (HB.out.trans ((HB2.out.trans (hB4.mono hz2)).mono hzw))
          clear sc4 no4 bd4 hB4 hsc
          simp only [List.length_nil]
          go_wp2
          go_quiet (fail)
          go_wp2
          go_ret
          exact ⟨rfl, drewN_below C4.out _⟩
      · obtain ⟨b6, p6o, rfl, hb6, p6⟩ := r6 hbs
        have P6 := Lib.hid p6
        have hnp : 0 < n := by rw [HN.out]; exact List.length_pos_iff.2 hbs
        rcases own_at bd2.row with ⟨_, h0⟩ | ⟨g2, c2, rfl, hc2, hg2, _⟩
        · exact absurd (List.eq_nil_of_length_eq_zero h0) hbs
        clear bd2 p6 r6 hbs
        rw [← HN.out] at hc2 ⊢
        have BD : Hid (Bods w2 wS.heap.size (.slice (some ⟨g2, 0, none⟩) rs.length c2) rs vals2) := BD2
        go_wp2
        go_loopw [79] (fun i w3 => JScan wS.heap.size vals2 w2 n i w3) (fun i _ => n - (intOf i).toNat)
        case atStart => exact ⟨0, Nat.zero_le _, rfl, J3.start _ _ _⟩
        case round =>
          obtain ⟨i, hin, rfl, j3⟩ := hrel
          obtain ⟨w3, hw3⟩ : ∃ w3 : World, w3 = wr := ⟨_, rfl⟩
          subst hw3
          have D3 := Lib.hid (HB2.out.trans j3.below)
          have OB3 : Hid (Bytes wS.heap.size w3 (.slice A5 L c5) (cat rs)) := Lib.hid (OB2.out.below j3.below)
          by_cases hlt : i < n
          · have hir : i < rs.length := by rw [← HN.out]; exact hlt
            obtain ⟨x, hx⟩ : ∃ x, vals2[i]? = some x := ⟨_, List.getElem?_eq_getElem (by rw [BD.out.len]; exact hir)⟩
            obtain ⟨T, hT⟩ : ∃ T, T = rs.getD i [] := ⟨_, rfl⟩
            have ht : rs[i]? = some T := by rw [hT]; simp [hir]
            have ox := j3.own BD.out hx ht
            have q2 := (row_cell (j3.row BD.out) i hir).trans hx
            obtain ⟨A7, c7, q7, y7⟩ := P6.out.bytes hb6 D3.out i hir
            rw [← hT] at q7 y7
            have s7 := str_drewN y7
            have s4 := str_drewN ox.bytes
            have J3' := Lib.hid j3
            have HX := Lib.hid hx
            have i1 : (0 : Int) ≤ (i : Int) := by omega
            have i2 : (i : Int) < (n : Int) := by omega
            rcases own_at ox with ⟨rfl, hT0⟩ | ⟨gx, cx, rfl, hcx, hgx, _⟩
            · rw [hT0] at q7 s7
              clear j3 hx hT ht y7 ox hir
              go_wp2
              go_quiet (fail)
              go_wp2
              go_loopw [94] (fun k w4 => k = .int .i64 0 ∧ w4 = w3.drewN nq) (fun _ _ => 0)
              case atStart => exact ⟨rfl, rfl⟩
              case round =>
                obtain ⟨rfl, rfl⟩ := hrel
                go_wp2
                go_roundw
                case rel => exact ⟨i + 1, by omega, by go_num, (J3'.out.draw nq).skip⟩
                case measure => simp [intOf]; omega
            · obtain ⟨m, hm⟩ : ∃ m, m = T.length := ⟨_, rfl⟩
              have hm3 : m ≤ 300 := by rw [hm]; exact HSM.out T (List.mem_of_getElem? ht)
              have hj4 := J4.start ox
              rw [← hm] at hj4
              have J4' := Lib.hid hj4
              have HX' : Hid (vals2[i]? = some (.slice (some ⟨gx, 0, none⟩) m cx)) := Lib.hid (by rw [hm]; exact HX.out)
              rw [← hm] at q2 q7 s7 s4 hcx
              have HMT := Lib.hid hm
              clear j3 hx hT ht y7 ox hir hj4 HX hm
              go_wp2
              go_quiet (fail)
              go_wp2
              have JQ : Hid (J4 wS.heap.size gx m (w3.drewN nq) (w3.drewN nq)) := Lib.hid ⟨Below.refl _ _, J4'.out.cells, J4'.out.free, fun _ _ => rfl⟩
              have JS := Lib.hid (J3'.out.draw nq)
              go_loopw [94] (fun k w4 => JTurn wS.heap.size gx m (w3.drewN nq) k w4) (fun k _ => m - (intOf k).toNat)
              case atStart => exact ⟨0, Nat.zero_le _, rfl, JQ.out⟩
              case round =>
                obtain ⟨k, hkm, rfl, j4⟩ := hrel
                by_cases hlt4 : k < m
                · obtain ⟨z, hz, qz⟩ := j4.cells k hlt4
                  have fz := j4.free k
                  obtain ⟨y, hy, _⟩ := xor_u8 z 255 hz (by decide) (by decide)
                  have hy' : bits .xor .u8 (z : Int) 255 = ((y.toNat : Nat) : Int) := hy
                  have JN := Lib.hid (j4.set hgx k hlt4 y)
                  clear hy j4
                  go_wp2
                  go_roundw
                  case rel => exact ⟨k + 1, by omega, by go_num, JN.out⟩
                  case measure => simp [intOf]; omega
                · have JN := Lib.hid (JS.out.step HX'.out rfl j4)
                  clear j4
                  go_wp2
                  go_roundw
                  case rel => exact ⟨i + 1, by omega, by go_num, JN.out⟩
                  case measure => simp [intOf]; omega
          · have D3' := Lib.hid j3.below
            have hz3 : wS.heap.size ≤ w3.heap.size := D3.out.size
            clear j3
            go_wp2_with fail
            refine (scan_any wS.heap.size _ (cat rs) (by have := HL.out; omega) w3 hz3 OB3.out).mono ?_
            rintro e w4 ⟨v4, u4, rs4, vals4, rfl, sc4, no4, bd4, hB4⟩
            have hsc := Sc.cat rs [] (fun b hb => by have := HSM.out b hb; omega)
            rw [List.append_nil] at hsc
            obtain ⟨hrs, hu2⟩ := Sc.one sc4 no4 hsc (by rw [List.drop_length, rdE_nil]; decide)
            subst hrs hu2
            have r4 := bd4.reads
            have C4 := Lib.hid (HB.out.trans ((D3.out.trans (hB4.mono hz3)).mono hzw))
            obtain ⟨A4, c4, rfl, hc4, r4⟩ := r4
            obtain ⟨b4, o4, rfl, hb4, p4⟩ := r4 (by intro e; have := HN.out; rw [e] at this; simp at this; omega)
            obtain ⟨A8, c8, q8, y8⟩ := p4 0 (by rw [← HN.out]; exact hnp)
            obtain ⟨A9, c9, q9, y9⟩ := P6.out.bytes hb6 (D3.out.trans (hB4.mono hz3)) 0 (by rw [← HN.out]; exact hnp)
            have s8 := str_drewN y8
            have s9 := str_drewN y9
            obtain ⟨T, hT⟩ : ∃ T, T = rs4.getD 0 [] := ⟨_, rfl⟩
            rw [← hT] at q8 q9 s8 s9
            rw [Nat.add_zero] at q8 q9
            rw [← HN.out] at hc4 ⊢
            clear sc4 no4 hsc bd4 hB4 r4 p4 y8 y9 hT
            have i0 : ((n : Int) == 0) = false := by simp; omega
            have i1 : (0 : Int) < (n : Int) := by omega
            go_wp2
            go_quiet (fail)
            go_wp2
            go_ret
            exact ⟨rfl, drewN_below C4.out _⟩
theorem frameJoins_law (va : Value) (a : List (List UInt8)) (valsa : List Value) (vb : Value) (b : List (List UInt8)) (valsb : List Value) (w : World) (ha : a.length ≤ 9223372036854775807) (hsa : ∀ t ∈ a, t.length ≤ 9223372036854775807) (ma : Mat w.heap.size w va a valsa)
    (hb : b.length ≤ 9223372036854775807) (hsb : ∀ t ∈ b, t.length ≤ 9223372036854775807) (mb : Mat w.heap.size w vb b valsb) :
    Calls Try.prog 8 #[va, vb] w fun e w' => e = .returned (.bool true) ∧ Below w.heap.size w w' := by
  have ra := reads_of_row ma.1 ma.2.1 ma.2.2 (Nat.le_refl _)
  have rb := reads_of_row mb.1 mb.2.1 mb.2.2 (Nat.le_refl _)
  by_cases ho : 20 < a.length ∨ 20 < b.length
  · obtain ⟨A, c, rfl, _⟩ := ra
    obtain ⟨B, d, rfl, _⟩ := rb
    exact joins_out A B _ c _ d ha hb ho w
  · exact joins_any va vb a b (by omega) (by omega) hsa hsb w ra rb
end Go.Proofs.Ytcikdeknbkcggaa
