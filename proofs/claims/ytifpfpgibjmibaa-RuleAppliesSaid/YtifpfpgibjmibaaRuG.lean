/- Package rule: inOrder: a map's rules by rising ID. -/
import Derived.Test.YtifpfpgibjmibaaRuE
import Derived.Test.YtifpfpgibjmibaaRuF
namespace Go.Proofs.Ytifpfpgibjmibaa
open Go.RowKit Go.Shelf

/-- a slice that lies in no block below base -/
def Far (base : Nat) (v : Value) : Prop := ∀ b, v.ownBlock = some b → base ≤ b
theorem OwnU.far {w : World} {base : Nat} {e : TypeId} {v : Value} {l : List Ru} (h : OwnU w base e v l) : Far base v := fun b hb => (World.ownsRow.lt h b hb).1
theorem sorted_one {l l' : List Ru} (hp : l'.Perm l) (hs : l'.Pairwise fun a b => a.id ≤ b.id) (hl : Rise l) : l' = l := by
  have hn : (l'.map Ru.id).Nodup := (hp.map Ru.id).nodup_iff.2 (List.pairwise_map.2 (hl.imp fun h => by omega))
  have hne : l'.Pairwise fun a b => a.id ≠ b.id := List.pairwise_map.1 hn
  exact rise_ext (hs.imp₂ (fun a b h1 h2 => by omega) hne) hl fun x => hp.mem_iff

set_option maxRecDepth 100000 in
set_option maxHeartbeats 2000000 in
theorem collect_any (Bm b nn : Nat) (L : List Ru) (hL : Rise L) (hmax : L.length ≤ 1000000) (w : World) (hBm : Bm < w.heap.size) (hm : w.cell? ⟨Bm, 0, none⟩ = some (.map (some b))) (hown : w.ownsMap Try.prog 3 ruR b nn (dm L)) :
    Calls Try.prog 34 #[.func (.func 36) #[] #[.pointer (some ⟨Bm, 0, none⟩)]] w fun e W' => ∃ v ss, e = .returned v ∧ ss.Perm L ∧ OwnU W' w.heap.size 44 v ss ∧ Below w.heap.size w W' := by
  have C := Lib.hid ((callsIn_wide (n := 5)).1 (appendSeq_in 5 (by omega) Bm b nn L hL hmax w hBm hm hown))
  go_enter Try.func34, Try.ntmps34
  go_wp2_with fail
  refine C.out.mono ?_
  rintro e W' ⟨v, ss, rfl, h1, h2, h3⟩
  have H := Lib.hid (And.intro h1 (And.intro h2 h3))
  clear h1 h2 h3
  go_wp2
  go_ret
  exact ⟨v, ss, rfl, H.out⟩

set_option maxRecDepth 100000 in
set_option maxHeartbeats 2000000 in
theorem sortedFunc_any (Bm b nn : Nat) (L : List Ru) (hL : Rise L) (hmax : L.length ≤ 1000000) (w : World) (hBm : Bm < w.heap.size) (hm : w.cell? ⟨Bm, 0, none⟩ = some (.map (some b))) (hown : w.ownsMap Try.prog 3 ruR b nn (dm L)) :
    Calls Try.prog 30 #[.func (.func 36) #[] #[.pointer (some ⟨Bm, 0, none⟩)], .func (.func 32) #[] #[]] w fun e W' => ∃ v, e = .returned v ∧ RulesV W'.heap.size W' v L ∧ Far w.heap.size v ∧ Below w.heap.size w W' := by
  have C := Lib.hid (collect_any Bm b nn L hL hmax w hBm hm hown)
  go_enter Try.func30, Try.ntmps30
  go_wp2_with fail
  refine C.out.mono ?_
  rintro e w1 ⟨v, ss, rfl, h1, h2, h3⟩
  have S := Lib.hid (sort_ownU v ss w.heap.size w1 h3.size (by have := h1.length_eq; omega) h2)
  have H := Lib.hid (And.intro h1 (And.intro h2.far h3))
  clear h1 h2 h3
  go_wp2_with fail
  refine S.out.mono ?_
  rintro e w2 ⟨rfl, l', p1, p2, p3, p4⟩
  have H2 := Lib.hid (And.intro p1 (And.intro p2 (And.intro p3 p4)))
  clear p1 p2 p3 p4
  go_wp2
  go_ret
  obtain ⟨p1, p2, p3, p4⟩ := H2.out
  obtain ⟨h1, h2, h3⟩ := H.out
  obtain rfl := sorted_one (p1.trans h1) p2 hL
  exact ⟨v, rfl, p3, h2, h3.trans p4⟩

set_option maxRecDepth 100000 in
set_option maxHeartbeats 2000000 in
theorem inOrder_any (b nn : Nat) (L : List Ru) (hL : Rise L) (hmax : L.length ≤ 1000000) (w : World) (hown : w.ownsMap Try.prog 3 ruR b nn (dm L)) :
    Calls Try.prog 20 #[.map (some b)] w fun e W' => ∃ v, e = .returned v ∧ RulesV W'.heap.size W' v L ∧ Far w.heap.size v ∧ Below w.heap.size w W' := by
  have V := Lib.hid ((callsIn_wide (n := 5)).1 (values_in 5 (some b) w))
  have hb0 := (Below.refl w.heap.size w).alloc (Nat.le_refl _) (.cells #[.map (some b)] 53)
  have S := Lib.hid (sortedFunc_any w.heap.size b nn L hL hmax (w.alloc (.cells #[.map (some b)] 53)) (by simp) (by simp) (hown.alloc _))
  have HB := Lib.hid hb0
  clear hb0
  go_enter Try.func20, Try.ntmps20
  go_wp2_with fail
  refine V.out.mono ?_
  rintro e w1 ⟨rfl, rfl⟩
  go_wp2_with fail
  refine S.out.mono ?_
  rintro e w2 ⟨v, rfl, h1, h2, h3⟩
  have H := Lib.hid (And.intro h1 (And.intro h2 h3))
  clear h1 h2 h3
  go_wp2
  go_ret
  obtain ⟨h1, h2, h3⟩ := H.out
  exact ⟨v, rfl, h1, fun b hb => by have := h2 b hb; simp at this; omega, HB.out.trans (h3.mono (by simp))⟩

end Go.Proofs.Ytifpfpgibjmibaa
