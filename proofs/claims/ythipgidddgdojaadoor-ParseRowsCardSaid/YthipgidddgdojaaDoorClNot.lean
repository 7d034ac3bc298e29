/- Set.Not, of any set. -/
import Derived.Test.YthipgidddgdojaaDoorClNorm
import Derived.Test.YthipgidddgdojaaDoorClBox
namespace Go.Proofs.YthipgidddgdojaaDoor.Cl
open Go.RowKit

def inAll (u : Int) : Bool := decide (0 ≤ u ∧ u ≤ 1114367)
theorem gaps_drop (l : List Rg) (k : Nat) (r : Rg) (f : Int) (h : l[k]? = some r) : gaps f (l.drop k) = (if f < r.1 then [(f, r.1 - 1)] else []) ++ gaps (r.2 + 1) (l.drop (k + 1)) := by
  obtain ⟨hk, rfl⟩ := List.getElem?_eq_some_iff.1 h
  rw [List.drop_eq_getElem_cons hk, gaps]

set_option maxHeartbeats 1000000 in
theorem not_wrong (v : Value) (l : List Rg) (w : World) (hmax : l.length ≤ 1000000) (hS : SetV w.heap.size w v l) (hN : ¬ Norm l) :
    Calls Tryd.prog 43 #[v] w fun e w' => e = .returned (.tuple #[.slice none 0 0, .int .i64 10]) ∧ Below w.heap.size w w' := by
  have HS := Lib.hid hS
  obtain ⟨A, cap, rfl, _, _⟩ := id hS
  have b1 := normB_false hN
  clear hN hS
  go_enter Tryd.func43, Tryd.ntmps43
  go_wp2_with fail
  refine (normal_any _ l _ hmax HS.out).mono ?_
  rintro e w1 ⟨rfl, hb1⟩
  go_wp2
  go_ret2
  exact ⟨rfl, hb1⟩

set_option maxRecDepth 100000 in
set_option maxHeartbeats 2000000 in
theorem not_right (v : Value) (l : List Rg) (w : World) (hmax : l.length ≤ 1000000) (hS : SetV w.heap.size w v l) (hN : Norm l) :
    Calls Tryd.prog 43 #[v] w (Gives (fun m => Norm m ∧ (∀ u, hasB m u = (inAll u && !hasB l u)) ∧ m.length ≤ l.length + 1) w) := by
  have HS := Lib.hid hS
  obtain ⟨A, cap, rfl, _, _⟩ := id hS
  have b1 := normB_true hN
  have HN := Lib.hid hN
  clear hN hS
  obtain ⟨i0, hi, hz0, hz1, hz2⟩ := info_three info46
  go_enter Tryd.func43, Tryd.ntmps43
  go_wp2_with fail
  refine (normal_any _ l _ hmax HS.out).mono ?_
  rintro e w1 ⟨rfl, hb1⟩
  go_wp2
  go_loopw [4, 5, 13] (fun s f i wr => ∃ (k : Nat) (acc : List Rg) (f0 : Int), k ≤ l.length ∧ i = .int .i64 k ∧ f = .int .i64 f0 ∧ 0 ≤ f0 ∧ f0 ≤ 1114368 ∧ acc.length ≤ k ∧ Own wr w.heap.size 39 s acc ∧ Hid (gaps 0 l = acc ++ gaps f0 (l.drop k)) ∧ Below w.heap.size w wr) (fun _ _ i _ => l.length - (intOf i).toNat)
  case atStart => exact ⟨0, [], 0, Nat.zero_le _, rfl, rfl, by omega, by omega, Nat.le_refl _, Own.nil _ _ _, Lib.hid rfl, hb1⟩
  case round =>
    obtain ⟨k, acc, f0, hk, rfl, rfl, hf0, hf1, hacc, hown, HH, hbel⟩ := hrel
    have hsz := hbel.size
    by_cases hlt : k < l.length
    · obtain ⟨b, off, lo, hi', rfl, hb, hget, c0, c1⟩ := (HS.out.below hbel).at_ hlt
      have hr := HN.out.1 _ (List.mem_of_getElem? hget)
      unfold Rt at hr
      simp only at hr
      obtain ⟨r0, r1, r2⟩ := hr
      have HG := Lib.hid (gaps_drop l k _ f0 hget)
      clear hget
      have hx := Box2.new wr lo hi'
      by_cases hfl : f0 < lo
      · go_wp2_with (at_builtin; refine wpList_append_one _ rfl _ _ 24 rfl w.heap.size 39 i0 (.agg #[.int .i64 0, .int .i64 0]) 16 Tryd.underlying24 hi hz0 hz1 hz2 rfl _ _ rfl ((hown.alloc _).alloc _) (wr.heap.size + 1) 1 (f0, lo - 1) rfl (cell_two_at _ _ _ _ _ (by simp)) (by omega) rfl (by simp; omega) ?_; intro v' w2 hown' hgrow; have hxk := (hx.alloc _).kept hgrow (Own.far hown (.inr (Nat.le_refl _))); have x1 := hxk.cell1)
        go_roundw
        case rel =>
          exact ⟨k + 1, acc ++ [(f0, lo - 1)], hi' + 1, by omega, by go_num, rfl, by omega, by omega, by simp; omega, hown', Lib.hid (by rw [HH.out, HG.out]; simp only; rw [if_pos hfl, List.append_assoc]),
            below_append ((hbel.alloc hsz _).alloc (by simp; omega) _) ((hown.alloc _).alloc _) (Nat.le_refl _) hgrow (by simp; omega)⟩
        case measure => simp [intOf]; omega
      · go_wp2
        go_roundw
        case rel =>
          exact ⟨k + 1, acc, hi' + 1, by omega, by go_num, rfl, by omega, by omega, by omega, hown.alloc _, Lib.hid (by rw [HH.out, HG.out]; simp only; rw [if_neg (by omega), List.nil_append]), hbel.alloc hsz _⟩
        case measure => simp [intOf]; omega
    · have hk' : k = l.length := by omega
      have HK := Lib.hid hk'
      clear hk'
      obtain ⟨g1, _, g3⟩ := gaps_ok l 0 (by omega) HN.out (fun r hr => (HN.out.1 r hr).1)
      have hgl := gaps_len l 0
      have GG := Lib.hid (And.intro g1 (And.intro g3 hgl))
      clear g1 g3 hgl
      by_cases hfl : f0 ≤ 1114367
      · have HE : Hid (gaps 0 l = acc ++ [(f0, 1114367)]) := Lib.hid (by rw [HH.out, HK.out, List.drop_length, gaps, if_pos hfl])
        go_wp2_with (at_builtin; refine wpList_append_one _ rfl _ _ 24 rfl w.heap.size 39 i0 (.agg #[.int .i64 0, .int .i64 0]) 16 Tryd.underlying24 hi hz0 hz1 hz2 rfl _ _ rfl (hown.alloc _) wr.heap.size 1 (f0, 1114367) rfl (cell_two_at _ _ _ _ _ rfl) (by omega) rfl (by simp; omega) ?_; intro v' w2 hown' hgrow)
        go_ret2
        exact ⟨_, gaps 0 l, rfl, by rw [HE.out]; exact hown'.set, ⟨GG.out.1, GG.out.2.1, GG.out.2.2⟩, below_append (hbel.alloc hsz _) (hown.alloc _) (Nat.le_refl _) hgrow (by simp; omega)⟩
      · have HE : Hid (gaps 0 l = acc) := Lib.hid (by rw [HH.out, HK.out, List.drop_length, gaps, if_neg hfl, List.append_nil])
        go_wp2
        go_ret2
        exact ⟨_, gaps 0 l, rfl, by rw [HE.out]; exact hown.set, ⟨GG.out.1, GG.out.2.1, GG.out.2.2⟩, hbel⟩

end Go.Proofs.YthipgidddgdojaaDoor.Cl
