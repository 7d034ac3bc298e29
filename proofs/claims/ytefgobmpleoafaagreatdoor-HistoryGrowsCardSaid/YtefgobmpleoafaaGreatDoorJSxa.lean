/- Joined: PmSn, Sb, Sc. -/
import Derived.Test.YtefgobmpleoafaaGreatDoorJModel
import Derived.Test.YtefgobmpleoafaaGreatDoorJPa
import Derived.Test.YtefgobmpleoafaaGreatDoorJSa
import Derived.Deep.QuietTactic
import Derived.Deep.RegionWith
import Derived.Deep.Cut
import Derived.WalkSmall
/- A node's widths and size, by its kids' as a row. Of no program. -/
namespace Go.Proofs.YtefgobmpleoafaaGreatDoor
open Go.Proofs.YtefgobmpleoafaaGreatDoor.Cl

/-! ### A node by its kids, as the code goes -/
section
variable {nd : Nd}
theorem Wf.shape (h : Wf nd) : shapeOk nd.kind nd.lo nd.hi nd.mode nd.kids.length := by cases h with | mk hs _ => exact hs
theorem Wf.kids (h : Wf nd) : ∀ x ∈ nd.kids, Wf x := by cases h with | mk _ hk => exact hk
theorem nd_least (nd : Nd) : least nd = leastF nd.kind nd.lo (nd.kids.map least) := by cases nd with | mk => exact least_eq ..
theorem nd_most (nd : Nd) : most nd = mostF nd.kind nd.hi (nd.kids.map most) := by cases nd with | mk => exact most_eq ..
theorem nd_size_ (nd : Nd) : ndSize nd = sizeF nd.kind nd.lo nd.hi nd.mode (nd.kids.map ndSize) := by cases nd with | mk => exact ndSize_eq ..
theorem nd_bounded (nd : Nd) : bounded nd = (boundF nd.kind nd.mode (nd.kids.map most) && nd.kids.all bounded) := by cases nd with | mk => exact bounded_eq ..
theorem widths_one (h : nd.kind = 1) : least nd = 1 ∧ most nd = 1 := by
  rw [nd_least, nd_most]; simp [leastF, mostF, h, capF, far]
theorem widths_back (h : nd.kind = 6) : least nd = 0 ∧ most nd = -1 := by
  rw [nd_least, nd_most]; simp [leastF, mostF, h, capF, far]
theorem widths_row (hw : Wf nd) (h : nd.kind = 2 ∨ nd.kind = 5 ∨ nd.kind = 8) : least nd = loSum nd.kids ∧ most nd = hiSum nd.kids := by
  rcases h with h | h
  · rw [nd_least, nd_most]
    simp [leastF, mostF, h, loSum, hiSum]
  · have hs := hw.shape
    have hl : nd.kids.length = 1 := by unfold shapeOk at hs; omega
    obtain ⟨x, hx⟩ := hd_one hl
    have hwx : Wf x := hw.kids x (by rw [hx]; simp)
    rw [nd_least, nd_most, hx, loSum_one hwx, hiSum_one hwx]
    have := (least_range hwx).2
    rcases h with h | h <;> simp [leastF, mostF, h, hd, capF_id this]
theorem widths_alt (hw : Wf nd) (h : nd.kind = 3) : least nd = loMin nd.kids ∧ most nd = hiMax nd.kids := by
  have hr := hiMax_range hw.kids
  rw [nd_least, nd_most]
  simp only [leastF, mostF, h, loMin]
  have := (loMin_range hw.kids).2
  refine ⟨?_, ?_⟩
  · simp; exact capF_id this
  · unfold hiMax at hr ⊢
    simp
    split
    · rfl
    · rename_i he
      rw [if_neg he] at hr
      unfold capE
      rw [if_neg (by omega)]
theorem widths_rep (hw : Wf nd) (h : nd.kind = 4) : least nd = capF (nd.lo * loSum nd.kids) ∧ most nd = mulE nd.hi (hiSum nd.kids) ∧ 0 ≤ nd.lo ∧ nd.lo ≤ 64 ∧ -1 ≤ nd.hi ∧ nd.hi ≤ 64 := by
  have hs := hw.shape
  have hl : nd.kids.length = 1 ∧ 0 ≤ nd.lo ∧ nd.lo ≤ 64 ∧ -1 ≤ nd.hi ∧ nd.hi ≤ 64 := by unfold shapeOk at hs; omega
  obtain ⟨x, hx⟩ := hd_one hl.1
  have hwx : Wf x := hw.kids x (by rw [hx]; simp)
  have := most_range hwx
  refine ⟨?_, ?_, hl.2⟩
  · rw [nd_least, hx, loSum_one hwx]; simp [leastF, h, hd]
  · have e : mostF 4 nd.hi ([x].map most) = if most x = 0 ∨ nd.hi = 0 then 0 else if most x < 0 ∨ nd.hi < 0 then -1 else capE (nd.hi * most x) := by simp [mostF, hd]
    rw [nd_most, hx, hiSum_one hwx, h, e]
    unfold mulE
    by_cases c1 : most x = 0 ∨ nd.hi = 0
    · rw [if_pos c1, if_pos c1.symm]
    · have c1' : ¬ (nd.hi = 0 ∨ most x = 0) := fun c => c1 c.symm
      rw [if_neg c1, if_neg c1']
      by_cases c2 : most x < 0 ∨ nd.hi < 0
      · have c2' : nd.hi = -1 ∨ most x = -1 := by omega
        rw [if_pos c2, if_pos c2']
      · have c2' : ¬ (nd.hi = -1 ∨ most x = -1) := by omega
        rw [if_neg c2, if_neg c2']
theorem widths_none (h1 : nd.kind ≠ 1) (h2 : nd.kind ≠ 2) (h3 : nd.kind ≠ 3) (h4 : nd.kind ≠ 4) (h5 : nd.kind ≠ 5) (h6 : nd.kind ≠ 6) (h8 : nd.kind ≠ 8) : least nd = 0 ∧ most nd = 0 := by
  rw [nd_least, nd_most]; simp [leastF, mostF, h1, h2, h3, h4, h5, h6, h8, capF, far]
theorem size_one (h : nd.kind = 1 ∨ nd.kind = 6 ∨ nd.kind = 9) : ndSize nd = 1 := by
  rw [nd_size_]; simp [sizeF, h, capF, far]
theorem size_row (h : nd.kind = 2) : ndSize nd = szSum nd.kids := by
  rw [nd_size_]; simp [sizeF, h, szSum]
theorem size_alts (hw : Wf nd) (h : nd.kind = 3) : ndSize nd = capF (szSum nd.kids + 2 * ((nd.kids.length : Int) - 1)) := by
  have h0 := sizes_nonneg hw.kids
  have hs := hw.shape
  have hl : 2 ≤ nd.kids.length := by unfold shapeOk at hs; omega
  rw [nd_size_]; simp [sizeF, h, szSum]
  unfold capF far
  split <;> split <;> (try split) <;> omega
theorem size_wrap (hw : Wf nd) (h : nd.kind = 5 ∨ nd.kind = 7 ∨ nd.kind = 8) : ndSize nd = capF (szSum nd.kids + 2) := by
  have hs := hw.shape
  have hl : nd.kids.length = 1 := by unfold shapeOk at hs; omega
  obtain ⟨x, hx⟩ := hd_one hl
  have hwx : Wf x := hw.kids x (by rw [hx]; simp)
  rw [nd_size_, hx, szSum_one hwx]
  rcases h with h | h | h <;> simp [sizeF, h, hd]
theorem size_rep (hw : Wf nd) (h : nd.kind = 4) : ndSize nd = capF (nd.lo * szSum nd.kids + (if nd.hi = -1 then szSum nd.kids + 4 else (nd.hi - nd.lo) * (szSum nd.kids + 1)) + (if nd.mode = 2 then 2 else 0)) ∧ 0 ≤ nd.lo ∧ nd.lo ≤ 64 ∧ -1 ≤ nd.hi ∧ nd.hi ≤ 64 ∧ (nd.hi ≠ -1 → nd.lo ≤ nd.hi) := by
  have hs := hw.shape
  have hl : nd.kids.length = 1 ∧ 0 ≤ nd.lo ∧ nd.lo ≤ 64 ∧ -1 ≤ nd.hi ∧ nd.hi ≤ 64 ∧ (0 ≤ nd.hi → nd.lo ≤ nd.hi) := by unfold shapeOk at hs; omega
  obtain ⟨x, hx⟩ := hd_one hl.1
  have hwx : Wf x := hw.kids x (by rw [hx]; simp)
  refine ⟨?_, by omega, by omega, by omega, by omega, by omega⟩
  rw [nd_size_, hx, szSum_one hwx]
  simp only [sizeF, h, hd]
  simp
  by_cases c : nd.hi = -1
  · rw [if_pos (by omega), if_pos c]
  · rw [if_neg (by omega), if_neg c]
theorem size_none (h1 : nd.kind ≠ 1) (h2 : nd.kind ≠ 2) (h3 : nd.kind ≠ 3) (h4 : nd.kind ≠ 4) (h5 : nd.kind ≠ 5) (h6 : nd.kind ≠ 6) (h7 : nd.kind ≠ 7) (h8 : nd.kind ≠ 8) (h9 : nd.kind ≠ 9) : ndSize nd = 0 := by
  rw [nd_size_]; simp [sizeF, h1, h2, h3, h4, h5, h6, h7, h8, h9, capF, far]
end

end Go.Proofs.YtefgobmpleoafaaGreatDoor

/- Widths: of rows of nodes and of alternatives, if the kids' are right. -/
namespace Go.Proofs.YtefgobmpleoafaaGreatDoor
open Go.RowKit
open Go.Proofs.YtefgobmpleoafaaGreatDoor.Cl (Rg SetV SetAt rgCells)
variable {w w' : World}

theorem Blk.c7 {g : Nat} {t : TypeId} {x0 x1 x2 x3 x4 x5 x6 : Value} (h : Blk w g t #[x0, x1, x2, x3, x4, x5, x6]) : w.cell? ⟨g, 0, none⟩ = some x0 ∧ w.cell? ⟨g, 1, none⟩ = some x1 ∧ w.cell? ⟨g, 2, none⟩ = some x2 ∧ w.cell? ⟨g, 3, none⟩ = some x3 ∧ w.cell? ⟨g, 4, none⟩ = some x4 ∧
    w.cell? ⟨g, 5, none⟩ = some x5 ∧ w.cell? ⟨g, 6, none⟩ = some x6 :=
  ⟨h.cell 0, h.cell 1, h.cell 2, h.cell 3, h.cell 4, h.cell 5, h.cell 6⟩
theorem Blk.c9 {g : Nat} {t : TypeId} {x0 x1 x2 x3 x4 x5 x6 x7 x8 : Value} (h : Blk w g t #[x0, x1, x2, x3, x4, x5, x6, x7, x8]) : w.cell? ⟨g, 0, none⟩ = some x0 ∧ w.cell? ⟨g, 1, none⟩ = some x1 ∧ w.cell? ⟨g, 2, none⟩ = some x2 ∧ w.cell? ⟨g, 3, none⟩ = some x3 ∧ w.cell? ⟨g, 4, none⟩ = some x4 ∧
    w.cell? ⟨g, 5, none⟩ = some x5 ∧ w.cell? ⟨g, 6, none⟩ = some x6 ∧ w.cell? ⟨g, 7, none⟩ = some x7 ∧ w.cell? ⟨g, 8, none⟩ = some x8 :=
  ⟨h.cell 0, h.cell 1, h.cell 2, h.cell 3, h.cell 4, h.cell 5, h.cell 6, h.cell 7, h.cell 8⟩

/-- Kids in memory. -/
def KidsV (w : World) (L : List Nd) (A : Option Addr) (b off : Nat) : Prop := ∀ i x, L[i]? = some x → A = some ⟨b, off, none⟩ ∧ b < w.heap.size ∧
  ∃ A1 A2 p1 p2, NodeV (fun b => b < w.heap.size) w x (.slice A1 x.set.length p1) (.slice A2 x.kids.length p2) ∧ NCells w b (off + i * 7) x (.slice A1 x.set.length p1) (.slice A2 x.kids.length p2)
theorem NodeV.on_ {nd : Nd} {sv kv : Value} (h : NodeV (fun b => b < w.heap.size) w nd sv kv) (hb : Below w.heap.size w w') : NodeV (fun b => b < w'.heap.size) w' nd sv kv :=
  h.keep fun b hk => ⟨Nat.lt_of_lt_of_le hk hb.size, hb.block b hk⟩
theorem KidsV.on {L : List Nd} {A : Option Addr} {b off : Nat} (h : KidsV w L A b off) (hb : Below w.heap.size w w') : KidsV w' L A b off := fun i x hx => by
  obtain ⟨h1, h2, A1, A2, p1, p2, h3, h4⟩ := h i x hx
  exact ⟨h1, Nat.lt_of_lt_of_le h2 hb.size, A1, A2, p1, p2, h3.on_ hb, h4.on (hb.block b h2)⟩
/-- A node's cells, as a call has them. -/
def ndArr (nd : Nd) (A1 A2 : Option Addr) (p1 p2 : Nat) : Array Value := #[.int .i64 nd.kind, .int .i64 nd.lo, .int .i64 nd.hi, .int .i64 nd.mode, .int .i64 nd.ref, .slice A1 nd.set.length p1, .slice A2 nd.kids.length p2]
def WidthC (n : Nat) : Prop := ∀ (nd : Nd), SizeOf.sizeOf nd ≤ n → Wf nd → ∀ (w : World) (A1 A2 : Option Addr) (p1 p2 : Nat), NodeV (fun b => b < w.heap.size) w nd (.slice A1 nd.set.length p1) (.slice A2 nd.kids.length p2) →
  Calls Tryz.prog 94 #[.agg #[.int .i64 nd.kind, .int .i64 nd.lo, .int .i64 nd.hi, .int .i64 nd.mode, .int .i64 nd.ref, .slice A1 nd.set.length p1, .slice A2 nd.kids.length p2]] w
    fun e w' => e = .returned (.tuple #[.int .i64 (least nd), .int .i64 (most nd)]) ∧ Below w.heap.size w w'
def RowWC (n : Nat) : Prop := ∀ (L : List Nd), (∀ x ∈ L, Wf x ∧ SizeOf.sizeOf x ≤ n) → L.length ≤ 1000000 → ∀ (w : World) (A : Option Addr) (p b off : Nat), KidsV w L A b off →
  Calls Tryz.prog 80 #[.slice A L.length p] w fun e w' => e = .returned (.tuple #[.int .i64 (loSum L), .int .i64 (hiSum L)]) ∧ Below w.heap.size w w'
def ChoiceC (n : Nat) : Prop := ∀ (L : List Nd), (∀ x ∈ L, Wf x ∧ SizeOf.sizeOf x ≤ n) → L ≠ [] → L.length ≤ 1000000 → ∀ (w : World) (A : Option Addr) (p b off : Nat), KidsV w L A b off →
  Calls Tryz.prog 115 #[.slice A L.length p] w fun e w' => e = .returned (.tuple #[.int .i64 (loMin L), .int .i64 (hiMax L)]) ∧ Below w.heap.size w w'
theorem take_snoc {L : List Nd} {k : Nat} (h : k < L.length) : L.take (k + 1) = L.take k ++ [L[k]] := by rw [List.take_succ_eq_append_getElem h]
theorem mem_take {L : List Nd} {k : Nat} {x : Nd} (h : x ∈ L.take k) : x ∈ L := List.mem_of_mem_take h

set_option maxRecDepth 100000 in
set_option maxHeartbeats 2000000 in
theorem rowW_step (n : Nat) (ih : WidthC n) : RowWC n := by
  intro L hL hm w A p b off hK
  have HK := Lib.hid hK
  have HIH := Lib.hid ih
  have HL := Lib.hid hL
  clear hK ih hL
  go_enter Tryz.func80, Tryz.ntmps80
  go_wp2
  go_loopw [2, 3, 10] (fun lo hi i wr => ∃ (k : Nat) (l0 h0 : Int), k ≤ L.length ∧ i = .int .i64 k ∧ lo = .int .i64 l0 ∧ hi = .int .i64 h0 ∧ Hid (l0 = loSum (L.take k) ∧ h0 = hiSum (L.take k)) ∧ Below w.heap.size w wr) (fun _ _ i _ => L.length - (intOf i).toNat)
  case atStart => exact ⟨0, 0, 0, Nat.zero_le _, rfl, rfl, rfl, Lib.hid ⟨rfl, rfl⟩, Below.refl _ _⟩
  case round =>
    obtain ⟨k, l0, h0, hk, rfl, rfl, rfl, HE, hbel⟩ := hrel
    have hsz := hbel.size
    by_cases hlt : k < L.length
    · have hlti : (k : Int) < L.length := by omega
      obtain ⟨hA, hb, a1, a2, r1, r2, hN, hC⟩ := HK.out k _ (List.getElem?_eq_getElem hlt)
      subst hA
      have HX := Lib.hid (HL.out _ (List.getElem_mem hlt))
      have HT := Lib.hid (take_snoc hlt)
      have HW := Lib.hid (fun x (hx : x ∈ L.take k) => (HL.out x (mem_take hx)).1)
      generalize L[k] = x at hN hC HX HT
      have h7 := (hC.on (hbel.block b hb)).seven_
      have HN := Lib.hid ((hN.on_ hbel).on_ ((Below.refl wr.heap.size wr).alloc (Nat.le_refl _) (.cells #[.int .i64 x.kind, .int .i64 x.lo, .int .i64 x.hi, .int .i64 x.mode, .int .i64 x.ref, .slice a1 x.set.length r1, .slice a2 x.kids.length r2] 117)))
      have HB := Lib.hid (Blk.new wr 117 #[.int .i64 x.kind, .int .i64 x.lo, .int .i64 x.hi, .int .i64 x.mode, .int .i64 x.ref, .slice a1 x.set.length r1, .slice a2 x.kids.length r2])
      have hb6 := hbel.alloc hsz (.cells #[.int .i64 x.kind, .int .i64 x.lo, .int .i64 x.hi, .int .i64 x.mode, .int .i64 x.ref, .slice a1 x.set.length r1, .slice a2 x.kids.length r2] 117)
      clear hN hC
      have hr0 : 0 ≤ l0 ∧ l0 ≤ 1048576 ∧ -1 ≤ h0 ∧ h0 ≤ 1048576 := by
        obtain ⟨e1, e2⟩ := HE.out
        have r1 := loSum_range HW.out
        have r2 := hiSum_range (l := L.take k)
        rw [e1, e2]
        unfold far at r1 r2
        omega
      obtain ⟨c1, c2, c3, c4⟩ := hr0
      obtain ⟨l1, hl1⟩ : ∃ l1, l1 = least x := ⟨_, rfl⟩
      obtain ⟨h1, hh1⟩ : ∃ h1, h1 = most x := ⟨_, rfl⟩
      have hr1 : 0 ≤ l1 ∧ l1 ≤ 1048576 ∧ -1 ≤ h1 ∧ h1 ≤ 1048576 := by
        have r1 := least_range HX.out.1
        have r2 := most_range HX.out.1
        rw [hl1, hh1]
        unfold far at r1 r2
        omega
      obtain ⟨d1, d2, d3, d4⟩ := hr1
      have HE1 := Lib.hid (show l1 = least x ∧ h1 = most x from ⟨hl1, hh1⟩)
      clear hl1 hh1
      go_upto_region 4 with (fail)
      have h77 := HB.out.c7
      generalize wr.alloc (.cells #[.int .i64 x.kind, .int .i64 x.lo, .int .i64 x.hi, .int .i64 x.mode, .int .i64 x.ref, .slice a1 x.set.length r1, .slice a2 x.kids.length r2] 117) = W at *
      go_wp2_with fail
      refine (HIH.out x HX.out.2 HX.out.1 W a1 a2 r1 r2 HN.out).mono ?_
      rw [← HE1.out.1, ← HE1.out.2]
      rintro e w1 ⟨rfl, hb1⟩
      have hbw := hb6.trans (hb1.mono hb6.size)
      clear HN HB h77
      go_wp2_with fail
      refine (bounded_any (l0 + l1)).mono ?_
      rintro e w2 ⟨rfl, rfl⟩
      go_wp2_with fail
      refine (together_any h0 h1 ⟨c3, c4⟩ ⟨d3, d4⟩).mono ?_
      rintro e w2 ⟨rfl, rfl⟩
      go_wp2
      go_roundw
      case rel =>
        refine ⟨k + 1, _, _, by omega, by go_num, rfl, rfl, Lib.hid ?_, hbw⟩
        rw [HT.out, loSum_snoc HW.out HX.out.1, hiSum_snoc HX.out.1, ← HE.out.1, ← HE.out.2, ← HE1.out.1, ← HE1.out.2]
        exact ⟨rfl, rfl⟩
      case measure => simp [intOf]; omega
    · obtain rfl : k = L.length := by omega
      go_wp2
      go_ret2
      refine ⟨?_, hbel⟩
      rw [HE.out.1, HE.out.2, List.take_length]
      rfl

set_option maxRecDepth 100000 in
set_option maxHeartbeats 2000000 in
theorem choice_step (n : Nat) (ih : WidthC n) : ChoiceC n := by
  intro L hL hne hm w A p b off hK
  have HK := Lib.hid hK
  have HIH := Lib.hid ih
  have HL := Lib.hid hL
  have hl0 : 0 < L.length := List.length_pos_iff.2 hne
  clear hK ih hL hne
  go_enter Tryz.func115, Tryz.ntmps115
  go_wp2
  go_loopw [2, 3, 10] (fun lo hi i wr => ∃ (k : Nat) (l0 h0 : Int), k ≤ L.length ∧ i = .int .i64 k ∧ lo = .int .i64 l0 ∧ hi = .int .i64 h0 ∧ Hid (k = 0 ∨ (l0 = loMin (L.take k) ∧ h0 = hiMax (L.take k))) ∧ Below w.heap.size w wr) (fun _ _ i _ => L.length - (intOf i).toNat)
  case atStart => exact ⟨0, 0, 0, Nat.zero_le _, rfl, rfl, rfl, Lib.hid (.inl rfl), Below.refl _ _⟩
  case round =>
    obtain ⟨k, l0, h0, hk, rfl, rfl, rfl, HE, hbel⟩ := hrel
    have hsz := hbel.size
    by_cases hlt : k < L.length
    · have hlti : (k : Int) < L.length := by omega
      obtain ⟨hA, hb, a1, a2, r1, r2, hN, hC⟩ := HK.out k _ (List.getElem?_eq_getElem hlt)
      subst hA
      have HX := Lib.hid (HL.out _ (List.getElem_mem hlt))
      have HT := Lib.hid (take_snoc hlt)
      have HW := Lib.hid (fun x (hx : x ∈ L.take k) => (HL.out x (mem_take hx)).1)
      generalize L[k] = x at hN hC HX HT
      have h7 := (hC.on (hbel.block b hb)).seven_
      have HN := Lib.hid ((hN.on_ hbel).on_ ((Below.refl wr.heap.size wr).alloc (Nat.le_refl _) (.cells #[.int .i64 x.kind, .int .i64 x.lo, .int .i64 x.hi, .int .i64 x.mode, .int .i64 x.ref, .slice a1 x.set.length r1, .slice a2 x.kids.length r2] 117)))
      have HB := Lib.hid (Blk.new wr 117 #[.int .i64 x.kind, .int .i64 x.lo, .int .i64 x.hi, .int .i64 x.mode, .int .i64 x.ref, .slice a1 x.set.length r1, .slice a2 x.kids.length r2])
      have hb6 := hbel.alloc hsz (.cells #[.int .i64 x.kind, .int .i64 x.lo, .int .i64 x.hi, .int .i64 x.mode, .int .i64 x.ref, .slice a1 x.set.length r1, .slice a2 x.kids.length r2] 117)
      clear hN hC
      obtain ⟨l1, hl1⟩ : ∃ l1, l1 = least x := ⟨_, rfl⟩
      obtain ⟨h1, hh1⟩ : ∃ h1, h1 = most x := ⟨_, rfl⟩
      have hr1 : 0 ≤ l1 ∧ l1 ≤ 1048576 ∧ -1 ≤ h1 ∧ h1 ≤ 1048576 := by
        have r1 := least_range HX.out.1
        have r2 := most_range HX.out.1
        rw [hl1, hh1]
        unfold far at r1 r2
        omega
      obtain ⟨d1, d2, d3, d4⟩ := hr1
      have HE1 := Lib.hid (show l1 = least x ∧ h1 = most x from ⟨hl1, hh1⟩)
      clear hl1 hh1
      go_upto_region 4 with (fail)
      have h77 := HB.out.c7
      generalize wr.alloc (.cells #[.int .i64 x.kind, .int .i64 x.lo, .int .i64 x.hi, .int .i64 x.mode, .int .i64 x.ref, .slice a1 x.set.length r1, .slice a2 x.kids.length r2] 117) = W at *
      go_wp2_with fail
      refine (HIH.out x HX.out.2 HX.out.1 W a1 a2 r1 r2 HN.out).mono ?_
      rw [← HE1.out.1, ← HE1.out.2]
      rintro e w1 ⟨rfl, hb1⟩
      have hbw := hb6.trans (hb1.mono hb6.size)
      clear HN HB h77
      by_cases hk0 : k = 0
      · subst hk0
        go_wp2
        go_roundw
        case rel =>
          refine ⟨1, _, _, by omega, by go_num, rfl, rfl, Lib.hid (.inr ?_), hbw⟩
          have e := HT.out
          simp only [List.take_zero, List.nil_append, Nat.zero_add] at e
          rw [e, loMin_one HX.out.1, hiMax_one HX.out.1]
          exact HE1.out
        case measure => simp [intOf]; omega
      · have hk1 : ((k : Int) == 0) = false := by simp; omega
        have HE' : Hid (l0 = loMin (L.take k) ∧ h0 = hiMax (L.take k)) := Lib.hid (by
          rcases HE.out with h | h
          · exact absurd h hk0
          · exact h)
        have hr0 : 0 ≤ l0 ∧ l0 ≤ 1048576 ∧ -1 ≤ h0 ∧ h0 ≤ 1048576 := by
          obtain ⟨e1, e2⟩ := HE'.out
          have r1 := loMin_range HW.out
          have r2 := hiMax_range HW.out
          rw [e1, e2]
          unfold far at r1 r2
          omega
        obtain ⟨c1, c2, c3, c4⟩ := hr0
        have hfin : ∀ z, z = min l0 l1 → Hid (k + 1 = 0 ∨ (z = loMin (L.take (k + 1)) ∧ maxE h0 h1 = hiMax (L.take (k + 1)))) := fun z hz => Lib.hid (.inr (by
          rw [HT.out, loMin_snoc HX.out.1, hiMax_snoc HX.out.1, ← HE'.out.1, ← HE'.out.2, ← HE1.out.1, ← HE1.out.2]
          exact ⟨hz, rfl⟩))
        have HFin := Lib.hid hfin
        clear hfin
        by_cases hmin : l1 < l0
        · go_wp2_with fail
          refine (wider_any h0 h1 ⟨c3, c4⟩ ⟨d3, d4⟩).mono ?_
          rintro e w2 ⟨rfl, rfl⟩
          go_wp2
          go_roundw
          case rel => exact ⟨k + 1, _, _, by omega, by go_num, rfl, rfl, HFin.out _ (by omega), hbw⟩
          case measure => simp [intOf]; omega
        · go_wp2_with fail
          refine (wider_any h0 h1 ⟨c3, c4⟩ ⟨d3, d4⟩).mono ?_
          rintro e w2 ⟨rfl, rfl⟩
          go_wp2
          go_roundw
          case rel => exact ⟨k + 1, _, _, by omega, by go_num, rfl, rfl, HFin.out _ (by omega), hbw⟩
          case measure => simp [intOf]; omega
    · obtain rfl : k = L.length := by omega
      go_wp2
      go_ret2
      refine ⟨?_, hbel⟩
      rcases HE.out with h | h
      · omega
      · rw [h.1, h.2, List.take_length]
        rfl

end Go.Proofs.YtefgobmpleoafaaGreatDoor

/- Width, of any node of a pattern. -/
namespace Go.Proofs.YtefgobmpleoafaaGreatDoor
open Go.RowKit
open Go.Proofs.YtefgobmpleoafaaGreatDoor.Cl (Rg SetV SetAt rgCells)
variable {w w' : World}

theorem kinds_of {k lo hi m : Int} {n : Nat} (h : shapeOk k lo hi m n) : (k = 0 ∨ k = 7 ∨ k = 9) ∨ k = 1 ∨ k = 6 ∨ (k = 2 ∨ k = 5 ∨ k = 8) ∨ k = 3 ∨ k = 4 := by unfold shapeOk at h; omega
theorem kids_ok {nd : Nd} {n : Nat} (hw : Wf nd) (hsz : SizeOf.sizeOf nd ≤ n + 1) : ∀ x ∈ nd.kids, Wf x ∧ SizeOf.sizeOf x ≤ n := fun x hx => by
  obtain ⟨i, hi⟩ := List.mem_iff_getElem?.1 hx
  have := nd_size hi
  exact ⟨hw.kids x hx, by omega⟩
theorem NodeV.kidsV {nd : Nd} {A1 A2 : Option Addr} {p1 p2 : Nat} (h : NodeV (fun b => b < w.heap.size) w nd (.slice A1 nd.set.length p1) (.slice A2 nd.kids.length p2)) : ∃ b off, KidsV w nd.kids A2 b off ∧ nd.kids.length ≤ 1000000 := by
  obtain ⟨_, _, b, off, he, _, hm, _, _, hk⟩ := h.parts
  obtain ⟨rfl, _, rfl⟩ := Value.slice.inj he
  exact ⟨b, off, fun i x hx => hk i x hx, hm⟩
theorem new_blk (w : World) (cs : Array Value) : Below w.heap.size w (w.alloc (.cells cs 117)) := (Below.refl _ _).alloc (Nat.le_refl _) _

set_option maxRecDepth 100000 in
set_option maxHeartbeats 2000000 in
theorem width_step (n : Nat) (ihr : RowWC n) (ihc : ChoiceC n) : WidthC (n + 1) := by
  intro nd hsz hw w A1 A2 p1 p2 hN
  obtain ⟨b, off, hkv, hm⟩ := hN.kidsV
  have HW := Lib.hid hw
  have HO := Lib.hid (kids_ok hw hsz)
  have HR := Lib.hid ihr
  have HC := Lib.hid ihc
  have hkd := kinds_of hw.shape
  obtain ⟨k, hk⟩ : ∃ k, k = nd.kind := ⟨_, rfl⟩
  rw [← hk] at hkd ⊢
  have hk' := hk.symm
  have HB0 := Lib.hid (Blk.new w 117 #[.int .i64 k, .int .i64 nd.lo, .int .i64 nd.hi, .int .i64 nd.mode, .int .i64 nd.ref, .slice A1 nd.set.length p1, .slice A2 nd.kids.length p2])
  have hb0 := new_blk w #[.int .i64 k, .int .i64 nd.lo, .int .i64 nd.hi, .int .i64 nd.mode, .int .i64 nd.ref, .slice A1 nd.set.length p1, .slice A2 nd.kids.length p2]
  have HV := Lib.hid (hkv.on hb0)
  clear hkv hN ihr ihc hw hsz hk
  rcases hkd with h | rfl | rfl | h | rfl | rfl
  · rcases h with rfl | rfl | rfl
    · have e := widths_none (nd := nd) (by omega) (by omega) (by omega) (by omega) (by omega) (by omega) (by omega)
      rw [e.1, e.2]
      have HK' := Lib.hid hk'
      clear e hk'
      go_enter Tryz.func94, Tryz.ntmps94
      go_upto_region 1 with (fail)
      have h7 := HB0.out.c7
      generalize w.alloc (.cells #[.int .i64 0, .int .i64 nd.lo, .int .i64 nd.hi, .int .i64 nd.mode, .int .i64 nd.ref, .slice A1 nd.set.length p1, .slice A2 nd.kids.length p2] 117) = W at *
      go_wp2
      go_ret2
      exact ⟨rfl, hb0⟩
    · have e := widths_none (nd := nd) (by omega) (by omega) (by omega) (by omega) (by omega) (by omega) (by omega)
      rw [e.1, e.2]
      have HK' := Lib.hid hk'
      clear e hk'
      go_enter Tryz.func94, Tryz.ntmps94
      go_upto_region 1 with (fail)
      have h7 := HB0.out.c7
      generalize w.alloc (.cells #[.int .i64 7, .int .i64 nd.lo, .int .i64 nd.hi, .int .i64 nd.mode, .int .i64 nd.ref, .slice A1 nd.set.length p1, .slice A2 nd.kids.length p2] 117) = W at *
      go_wp2
      go_ret2
      exact ⟨rfl, hb0⟩
    · have e := widths_none (nd := nd) (by omega) (by omega) (by omega) (by omega) (by omega) (by omega) (by omega)
      rw [e.1, e.2]
      have HK' := Lib.hid hk'
      clear e hk'
      go_enter Tryz.func94, Tryz.ntmps94
      go_upto_region 1 with (fail)
      have h7 := HB0.out.c7
      generalize w.alloc (.cells #[.int .i64 9, .int .i64 nd.lo, .int .i64 nd.hi, .int .i64 nd.mode, .int .i64 nd.ref, .slice A1 nd.set.length p1, .slice A2 nd.kids.length p2] 117) = W at *
      go_wp2
      go_ret2
      exact ⟨rfl, hb0⟩
  · have e := widths_one hk'
    rw [e.1, e.2]
    have HK' := Lib.hid hk'
    clear e hk'
    go_enter Tryz.func94, Tryz.ntmps94
    go_upto_region 1 with (fail)
    have h7 := HB0.out.c7
    generalize w.alloc (.cells #[.int .i64 1, .int .i64 nd.lo, .int .i64 nd.hi, .int .i64 nd.mode, .int .i64 nd.ref, .slice A1 nd.set.length p1, .slice A2 nd.kids.length p2] 117) = W at *
    go_wp2
    go_ret2
    exact ⟨rfl, hb0⟩
  · have e := widths_back hk'
    rw [e.1, e.2]
    have HK' := Lib.hid hk'
    clear e hk'
    go_enter Tryz.func94, Tryz.ntmps94
    go_upto_region 1 with (fail)
    have h7 := HB0.out.c7
    generalize w.alloc (.cells #[.int .i64 6, .int .i64 nd.lo, .int .i64 nd.hi, .int .i64 nd.mode, .int .i64 nd.ref, .slice A1 nd.set.length p1, .slice A2 nd.kids.length p2] 117) = W at *
    go_wp2
    go_ret2
    exact ⟨rfl, hb0⟩
  · rcases h with rfl | rfl | rfl
    · have e := widths_row HW.out (by omega)
      rw [e.1, e.2]
      have HK' := Lib.hid hk'
      clear e hk'
      go_enter Tryz.func94, Tryz.ntmps94
      go_upto_region 1 with (fail)
      have h7 := HB0.out.c7
      generalize w.alloc (.cells #[.int .i64 2, .int .i64 nd.lo, .int .i64 nd.hi, .int .i64 nd.mode, .int .i64 nd.ref, .slice A1 nd.set.length p1, .slice A2 nd.kids.length p2] 117) = W at *
      go_wp2_with fail
      refine (HR.out nd.kids HO.out hm W A2 p2 b off HV.out).mono ?_
      rintro e w1 ⟨rfl, hb1⟩
      have hbw := hb0.trans (hb1.mono hb0.size)
      go_wp2
      go_ret2
      exact ⟨rfl, hbw⟩
    · have e := widths_row HW.out (by omega)
      rw [e.1, e.2]
      have HK' := Lib.hid hk'
      clear e hk'
      go_enter Tryz.func94, Tryz.ntmps94
      go_upto_region 1 with (fail)
      have h7 := HB0.out.c7
      generalize w.alloc (.cells #[.int .i64 5, .int .i64 nd.lo, .int .i64 nd.hi, .int .i64 nd.mode, .int .i64 nd.ref, .slice A1 nd.set.length p1, .slice A2 nd.kids.length p2] 117) = W at *
      go_wp2_with fail
      refine (HR.out nd.kids HO.out hm W A2 p2 b off HV.out).mono ?_
      rintro e w1 ⟨rfl, hb1⟩
      have hbw := hb0.trans (hb1.mono hb0.size)
      go_wp2
      go_ret2
      exact ⟨rfl, hbw⟩
    · have e := widths_row HW.out (by omega)
      rw [e.1, e.2]
      have HK' := Lib.hid hk'
      clear e hk'
      go_enter Tryz.func94, Tryz.ntmps94
      go_upto_region 1 with (fail)
      have h7 := HB0.out.c7
      generalize w.alloc (.cells #[.int .i64 8, .int .i64 nd.lo, .int .i64 nd.hi, .int .i64 nd.mode, .int .i64 nd.ref, .slice A1 nd.set.length p1, .slice A2 nd.kids.length p2] 117) = W at *
      go_wp2_with fail
      refine (HR.out nd.kids HO.out hm W A2 p2 b off HV.out).mono ?_
      rintro e w1 ⟨rfl, hb1⟩
      have hbw := hb0.trans (hb1.mono hb0.size)
      go_wp2
      go_ret2
      exact ⟨rfl, hbw⟩
  · have hne : nd.kids ≠ [] := by
      have hs := HW.out.shape
      rw [hk'] at hs
      intro h0
      rw [h0] at hs
      unfold shapeOk at hs
      simp at hs
    have HNE := Lib.hid hne
    clear hne
    have e := widths_alt HW.out hk'
    rw [e.1, e.2]
    have HK' := Lib.hid hk'
    clear e hk'
    go_enter Tryz.func94, Tryz.ntmps94
    go_upto_region 1 with (fail)
    have h7 := HB0.out.c7
    generalize w.alloc (.cells #[.int .i64 3, .int .i64 nd.lo, .int .i64 nd.hi, .int .i64 nd.mode, .int .i64 nd.ref, .slice A1 nd.set.length p1, .slice A2 nd.kids.length p2] 117) = W at *
    go_wp2_with fail
    refine (HC.out nd.kids HO.out HNE.out hm W A2 p2 b off HV.out).mono ?_
    rintro e w1 ⟨rfl, hb1⟩
    have hbw := hb0.trans (hb1.mono hb0.size)
    go_wp2
    go_ret2
    exact ⟨rfl, hbw⟩
  · obtain ⟨e1, e2, g1, g2, g3, g4⟩ := widths_rep HW.out hk'
    rw [e1, e2]
    have hr1 := loSum_range HW.out.kids
    have hr2 := hiSum_range (l := nd.kids)
    unfold far at hr1 hr2
    obtain ⟨r1, r2⟩ := hr1
    obtain ⟨r3, r4⟩ := hr2
    have q0 : 0 ≤ nd.lo * loSum nd.kids := Int.mul_nonneg g1 r1
    have q1 : nd.lo * loSum nd.kids ≤ 64 * 1048576 := Int.mul_le_mul g2 r2 r1 (by omega)
    have hwr : IntKind.i64.wrap (nd.lo * loSum nd.kids) = nd.lo * loSum nd.kids := IntWalk.i64_in _ (by omega)
    have HRow := Lib.hid (fun W (hW : KidsV W nd.kids A2 b off) => HR.out nd.kids HO.out hm W A2 p2 b off hW)
    have HK' := Lib.hid hk'
    clear e1 e2 hk'
    generalize loSum nd.kids = ls at *
    generalize hiSum nd.kids = hs at *
    go_enter Tryz.func94, Tryz.ntmps94
    go_upto_region 1 with (fail)
    have h7 := HB0.out.c7
    generalize w.alloc (.cells #[.int .i64 4, .int .i64 nd.lo, .int .i64 nd.hi, .int .i64 nd.mode, .int .i64 nd.ref, .slice A1 nd.set.length p1, .slice A2 nd.kids.length p2] 117) = W at *
    go_wp2_with fail
    refine (HRow.out W HV.out).mono ?_
    rintro e w1 ⟨rfl, hb1⟩
    have hbw := hb0.trans (hb1.mono hb0.size)
    have h77 := (HB0.out.on hb1).c7
    clear h7
    go_upto_region 14 with (fail)
    go_quiet (first | (go_at_call 81; exact Calls.quiet_of_same ((bounded_any _).mono fun _ _ h => ⟨h.1, h.2.symm⟩)) | (go_at_call 116; exact Calls.quiet_of_same ((mulTimes_any _ _ ⟨g3, g4⟩ ⟨r3, r4⟩).mono fun _ _ h => ⟨h.1, h.2.symm⟩)))
    go_wp2
    go_ret2
    exact ⟨rfl, below_drewN hbw _⟩

theorem all_widths (n : Nat) : WidthC n ∧ RowWC n ∧ ChoiceC n := by
  induction n with
  | zero =>
    have h : WidthC 0 := by
      intro nd h
      cases nd with
      | mk a b c d e f g => simp only [Nd.mk.sizeOf_spec] at h; omega
    exact ⟨h, rowW_step 0 h, choice_step 0 h⟩
  | succ n ih =>
    have h := width_step n ih.2.1 ih.2.2
    exact ⟨h, rowW_step _ h, choice_step _ h⟩
theorem width_any (nd : Nd) (hw : Wf nd) (w : World) (A1 A2 : Option Addr) (p1 p2 : Nat) (h : NodeV (fun b => b < w.heap.size) w nd (.slice A1 nd.set.length p1) (.slice A2 nd.kids.length p2)) :
    Calls Tryz.prog 94 #[.agg #[.int .i64 nd.kind, .int .i64 nd.lo, .int .i64 nd.hi, .int .i64 nd.mode, .int .i64 nd.ref, .slice A1 nd.set.length p1, .slice A2 nd.kids.length p2]] w fun e w' => e = .returned (.tuple #[.int .i64 (least nd), .int .i64 (most nd)]) ∧ Below w.heap.size w w' :=
  (all_widths _).1 nd (Nat.le_refl _) hw w A1 A2 p1 p2 h
theorem rowWidth_any (L : List Nd) (hw : ∀ x ∈ L, Wf x) (hm : L.length ≤ 1000000) (w : World) (A : Option Addr) (p b off : Nat) (h : KidsV w L A b off) :
    Calls Tryz.prog 80 #[.slice A L.length p] w fun e w' => e = .returned (.tuple #[.int .i64 (loSum L), .int .i64 (hiSum L)]) ∧ Below w.heap.size w w' :=
  (all_widths (SizeOf.sizeOf L)).2.1 L (fun x hx => ⟨hw x hx, Nat.le_of_lt (List.sizeOf_lt_of_mem hx)⟩) hm w A p b off h

end Go.Proofs.YtefgobmpleoafaaGreatDoor

