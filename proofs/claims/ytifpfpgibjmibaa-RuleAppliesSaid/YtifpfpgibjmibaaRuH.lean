/- Package rule: byID, twice. -/
import Derived.Test.YtifpfpgibjmibaaRuG
import Derived.Maps.OwnSet
import Derived.Maps.OwnOps
namespace Go.Proofs.Ytifpfpgibjmibaa
open Go.RowKit Go.Maps
variable {w w' : World}

theorem run_makeMap_hint (t k e : TypeId) (n : Int) (w : World) (ht : Try.prog.underlying t = some (.map k e)) : (Instr.makeMap t (some (.int .i64 n))).run Try.prog w = .ok (.map (some w.heap.size)) (w.alloc (.map #[] 0)) := by
  simp [Instr.makeMap, run_underlying ht, asInt, asIntOf]
theorem wfI {z : Int} (h : -9223372036854775808 ≤ z ∧ z ≤ 9223372036854775807) : (Lit.int .i64 z).wf = true := by
  simp [Lit.wf, IntKind.min, IntKind.max, IntKind.signed, IntKind.bits]
  omega
theorem wfId {r : Ru} (h : r.ok = true) : (Lit.int .i64 r.id).wf = true := by
  simp only [Ru.ok, decide_eq_true_eq] at h
  exact wfI (by omega)
theorem keyI (z : Int) (h : (Lit.int .i64 z).wf = true) : keyOf Try.prog 3 (.int .i64 z) = some (.int .i64 z) := keyOf_int_mk Try.underlying3 h
theorem ruR_agg (r : Ru) : ruR (.agg #[.int .i64 r.id, .int .i64 r.pr, .int .i64 r.ac, .int .i64 r.sc, .string r.pat]) = some (.held r, []) := rfl
theorem take_put {l : List Ru} {k : Nat} {r : Ru} (hl : Rise l) (h : l[k]? = some r) : (dm (l.take k)).put (.int .i64 r.id) (.held r) = dm (l.take (k + 1)) := by
  obtain ⟨hk, rfl⟩ := List.getElem?_eq_some_iff.1 h
  rw [dm_put (hl.sublist (List.take_sublist _ _)), ins_end, List.take_succ_eq_append_getElem hk]
  intro x hx
  obtain ⟨i, hi, rfl⟩ := List.getElem_of_mem hx
  rw [List.length_take] at hi
  rw [List.getElem_take]
  exact List.pairwise_iff_getElem.1 hl i k (by omega) hk (by omega)

set_option maxRecDepth 100000 in
set_option maxHeartbeats 2000000 in
theorem byID_any (v : Value) (l : List Ru) (w : World) (hmax : l.length ≤ 1000000) (hok : ∀ r ∈ l, r.ok = true) (hl : Rise l) (hS : RulesV w.heap.size w v l) :
    Calls Try.prog 19 #[v] w fun e w' => e = .returned (.map (some w.heap.size)) ∧ w'.ownsMap Try.prog 3 ruR w.heap.size l.length (dm l) ∧ Below w.heap.size w w' := by
  obtain ⟨A, cap, rfl⟩ := hS.form
  have hmm := fun (n : Int) (w : World) => run_makeMap_hint 53 3 44 n w Try.underlying53
  have HO := Lib.hid hok
  have HL := Lib.hid hl
  go_enter Try.func19, Try.ntmps19
  go_wp2
  go_loopw [11] (fun i wr => ∃ k : Nat, k ≤ l.length ∧ i = .int .i64 k ∧ wr.ownsMap Try.prog 3 ruR w.heap.size k (dm (l.take k)) ∧ Below w.heap.size w wr) (fun i _ => l.length - (intOf i).toNat)
  case atStart => exact ⟨0, Nat.zero_le _, rfl, World.ownsMap_made _ _ _ _, (Below.refl _ _).alloc (Nat.le_refl _) _⟩
  case round =>
    obtain ⟨k, hk, rfl, hown, hbel⟩ := hrel
    have hsz := hbel.size
    by_cases hlt : k < l.length
    · obtain ⟨b, off, rfl, hb, c0, c1, c2, c3, c4⟩ := (hS.below hbel).at_ hlt
      have HG := Lib.hid (List.getElem?_eq_getElem hlt)
      have hro := HO.out _ (List.getElem_mem hlt)
      generalize l[k] = r at HG c0 c1 c2 c3 c4 hro
      have hkey := keyI r.id (wfId hro)
      have HK := Lib.hid hkey
      clear hkey hro
      go_wp2_with (first
        | (at_mapUpdate; refine wpList_mapUpdate_own _ rfl _ _ _ 53 rfl 3 44 (int_keyed Try.underlying3) Try.underlying53 _ w.heap.size k _ rfl (hown.alloc _) (by unfold maxLen; omega) _ _ _ rfl rfl HK.out _ [] (ruR_agg r) ?_; intro w1 hown1 hgrow1)
        | go_in)
      have hb1 : Below w.heap.size w w1 := (hbel.alloc hsz _).grown hgrow1 (by simp; omega) (fun j hj => by cases hj; exact Nat.le_refl _)
      rw [take_put HL.out HG.out] at hown1
      have HB := Lib.hid hb1
      have HW := Lib.hid hown1
      clear hb1 hown1 hgrow1
      go_roundw
      case rel => exact ⟨k + 1, by omega, by go_num, HW.out, HB.out⟩
      case measure => simp [intOf]; omega
    · obtain rfl : k = l.length := by omega
      rw [List.take_length] at hown
      go_wp2
      go_ret
      exact ⟨rfl, hown, hbel⟩

def uD : DataW Unit := .agg []
theorem lits_append (a b : List Int) : lits (a ++ b) = lits a ++ lits b := by simp [lits]
theorem setOf_put {xs : List Int} {x : Int} : (setOf uD (lits xs)).put (.int .i64 x) uD = setOf uD (lits (xs ++ [x])) := by rw [lits_append]; exact (setOf_snoc uD _ _).symm
theorem ids_take {l : List Ru} {k : Nat} {r : Ru} (h : l[k]? = some r) : (l.map Ru.id).take (k + 1) = (l.map Ru.id).take k ++ [r.id] := by
  obtain ⟨hk, rfl⟩ := List.getElem?_eq_some_iff.1 h
  rw [List.take_succ_eq_append_getElem (by simpa using hk), List.getElem_map]
theorem ints_take {l : List Int} {k : Nat} {z : Int} (h : l[k]? = some z) : l.take (k + 1) = l.take k ++ [z] := by
  obtain ⟨hk, rfl⟩ := List.getElem?_eq_some_iff.1 h
  rw [List.take_succ_eq_append_getElem hk]
theorem twice_ans (l : List Int) (n : Nat) (h : l.length = n) : decide ((Maps.size (setOf uD (lits l)) : Int) < (n : Int)) = !decide l.Nodup := by
  obtain ⟨h1, h2⟩ := size_named uD l
  by_cases hn : l.Nodup
  · rw [decide_eq_true hn]
    have := h2.2 hn
    simp
    omega
  · rw [decide_eq_false hn]
    have : Maps.size (setOf uD (lits l)) ≠ l.length := fun e => hn (h2.1 e)
    simp
    omega
theorem Row.form {n₀ : Nat} {v : Value} {xs : List Value} (h : Row n₀ w v xs) : ∃ A cap, v = .slice A xs.length cap := by
  obtain ⟨A, cap, hv, _⟩ := h
  exact ⟨A, cap, hv⟩
theorem Row.at_ {n₀ n cap k : Nat} {A : Option Addr} {l : List Int} (h : Row n₀ w (.slice A n cap) (zI l)) (hk : k < l.length) :
    ∃ b off, A = some ⟨b, off, none⟩ ∧ b < n₀ ∧ w.cell? ⟨b, off + k, none⟩ = some (.int .i64 l[k]) := by
  obtain ⟨A', cap', hv, _, h⟩ := h
  have : A = A' := by injection hv
  subst this
  obtain ⟨b, off, hA, hb, ht⟩ := h (by intro e; have := congrArg List.length e; simp [zI] at this; rw [this] at hk; simp at hk)
  exact ⟨b, off, hA, hb, ht k _ (zI_get (List.getElem?_eq_getElem hk))⟩
theorem zI_len (l : List Int) : (zI l).length = l.length := by simp [zI]

set_option maxRecDepth 100000 in
set_option maxHeartbeats 4000000 in
theorem twice_any (d : Dl) (pv dv : Value) (w : World) (hm1 : d.put.length ≤ 1000000) (hm2 : d.drop.length ≤ 1000000) (hok : ∀ r ∈ d.put, r.ok = true) (hdr : ∀ z ∈ d.drop, (Lit.int .i64 z).wf = true) (hP : RulesV w.heap.size w pv d.put) (hD : Row w.heap.size w dv (zI d.drop)) :
    Calls Try.prog 18 #[.agg #[.int .i64 d.de, .int .i64 d.cl, .int .i64 d.fu, .int .i64 d.st, pv, dv]] w fun e w' => e = .returned (.bool (!decide d.ids.Nodup)) ∧ Below w.heap.size w w' := by
  obtain ⟨de, cl, fu, st, pu, dr⟩ := d
  simp only at hm1 hm2 hok hdr hP hD ⊢
  obtain ⟨A, cap, rfl⟩ := hP.form
  obtain ⟨A2, cap2, rfl⟩ := hD.form
  rw [zI_len] at hD ⊢
  have hmm := @run_makeMap Try.prog
  have HO := Lib.hid hok
  have HDr := Lib.hid hdr
  obtain ⟨w0, hw0⟩ : ∃ w0, w0 = (w.alloc (.cells #[.int .i64 de, .int .i64 cl, .int .i64 fu, .int .i64 st, .slice A pu.length cap, .slice A2 dr.length cap2] 27)) := ⟨_, rfl⟩
  have hb0 : Below w.heap.size w w0 := by rw [hw0]; exact (Below.refl _ _).alloc (Nat.le_refl _) _
  have hx : Blk w0 w.heap.size 27 #[.int .i64 de, .int .i64 cl, .int .i64 fu, .int .i64 st, .slice A pu.length cap, .slice A2 dr.length cap2] := by rw [hw0]; exact Blk.new _ _ _
  have hs0 : w0.heap.size = w.heap.size + 1 := by rw [hw0]; simp
  have HW0 := Lib.hid hw0
  have HP0 := Lib.hid (hP.on hb0)
  have HD0 := Lib.hid ((hD.below hb0).more hb0.size)
  have HX := Lib.hid hx
  have HB0 := Lib.hid hb0
  clear hb0 hx hP hD hok hdr hw0
  go_enter Try.func18, Try.ntmps18
  go_wp2
  go_loopw [12] (fun i wr => ∃ k : Nat, k ≤ pu.length ∧ i = .int .i64 k ∧ wr.ownsMap Try.prog 3 unitElem (w.heap.size + 1) k (setOf uD (lits ((pu.map Ru.id).take k))) ∧ Below w0.heap.size w0 wr) (fun i _ => pu.length - (intOf i).toNat)
  case atStart => exact ⟨0, Nat.zero_le _, rfl, by have := World.ownsMap_made w0 Try.prog 3 (unitElem (H := Unit)); rw [hs0, HW0.out] at this; simpa [setOf, lits] using this, by rw [HW0.out]; exact (Below.refl _ _).alloc (Nat.le_refl _) _⟩
  case round =>
    obtain ⟨k, hk, rfl, hown, hbel⟩ := hrel
    have hsz := hbel.size
    by_cases hlt : k < pu.length
    · obtain ⟨b, off, rfl, hb, c0, c1, c2, c3, c4⟩ := (HP0.out.below hbel).at_ hlt
      have HG := Lib.hid (List.getElem?_eq_getElem hlt)
      have hro := HO.out _ (List.getElem_mem hlt)
      generalize pu[k] = r at HG c0 c1 c2 c3 c4 hro
      have HK := Lib.hid (keyI r.id (wfId hro))
      clear hro
      go_wp2_with (first
        | (at_mapUpdate; refine wpList_mapUpdate_own _ rfl _ _ _ 63 rfl 3 64 (int_keyed Try.underlying3) Try.underlying63 _ (w.heap.size + 1) k _ rfl (hown.alloc _) (by unfold maxLen; omega) _ _ _ rfl rfl HK.out uD [] unitElem_mk ?_; intro w1 hown1 hgrow1)
        | go_in)
      have hb1 : Below w0.heap.size w0 w1 := (hbel.alloc hsz _).grown hgrow1 (by simp; omega) (fun j hj => by cases hj; omega)
      rw [setOf_put, ← ids_take HG.out] at hown1
      have HB := Lib.hid hb1
      have HW := Lib.hid hown1
      clear hb1 hown1 hgrow1
      go_roundw
      case rel => exact ⟨k + 1, by omega, by go_num, HW.out, HB.out⟩
      case measure => simp [intOf]; omega
    · obtain rfl : k = pu.length := by omega
      rw [List.take_of_length_le (by simp)] at hown
      have e5 := (HX.out.on hbel).cell 5
      have HW := Lib.hid hown
      have HB := Lib.hid hbel
      clear hown hbel hlt
      go_wp2
      go_loopw [24] (fun i wx => ∃ k : Nat, k ≤ dr.length ∧ i = .int .i64 k ∧ wx.ownsMap Try.prog 3 unitElem (w.heap.size + 1) (pu.length + k) (setOf uD (lits (pu.map Ru.id ++ dr.take k))) ∧ Below w0.heap.size w0 wx) (fun i _ => dr.length - (intOf i).toNat)
      case atStart => exact ⟨0, Nat.zero_le _, rfl, by simpa using HW.out, HB.out⟩
      case round =>
        clear e5 hsz
        obtain ⟨k, hk, rfl, hown, hbel⟩ := hrel
        have hsz := hbel.size
        by_cases hlt : k < dr.length
        · obtain ⟨b, off, rfl, hb, c0⟩ := (HD0.out.below hbel).at_ hlt
          have HG := Lib.hid (List.getElem?_eq_getElem hlt)
          have hro := HDr.out _ (List.getElem_mem hlt)
          generalize dr[k] = z at HG c0 hro
          have HK := Lib.hid (keyI z hro)
          clear hro
          go_wp2_with (first
            | (at_mapUpdate; refine wpList_mapUpdate_own _ rfl _ _ _ 63 rfl 3 64 (int_keyed Try.underlying3) Try.underlying63 _ (w.heap.size + 1) (pu.length + k) _ rfl hown (by unfold maxLen; omega) _ _ _ rfl rfl HK.out uD [] unitElem_mk ?_; intro w1 hown1 hgrow1)
            | go_in)
          have hb1 : Below w0.heap.size w0 w1 := hbel.grown hgrow1 hsz (fun j hj => by cases hj; omega)
          rw [setOf_put, List.append_assoc, ← ints_take HG.out] at hown1
          have HB := Lib.hid hb1
          have HW := Lib.hid hown1
          clear hb1 hown1 hgrow1
          go_roundw
          case rel => exact ⟨k + 1, by omega, by go_num, by rw [← Nat.add_assoc]; exact HW.out, HB.out⟩
          case measure => simp [intOf]; omega
        · obtain rfl : k = dr.length := by omega
          rw [List.take_of_length_le (Nat.le_refl _)] at hown
          have e4 := (HX.out.on hbel).cell 4
          have e5 := (HX.out.on hbel).cell 5
          have ha := twice_ans (pu.map Ru.id ++ dr) (pu.length + dr.length) (by simp)
          have hs : Maps.size (setOf uD (lits (pu.map Ru.id ++ dr))) ≤ pu.length + dr.length := hown.size_le
          have hle := fun ty => hown.len Try.underlying63 ty
          go_wp2
          go_ret
          refine ⟨ret_bool ?_, HB0.out.trans (hbel.mono HB0.out.size)⟩
          unfold Dl.ids
          simp only
          rw [← ha]
          simp

end Go.Proofs.Ytifpfpgibjmibaa
