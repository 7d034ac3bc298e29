/- The writer: a set. -/
import Derived.Test.YtdbddbelhgkelaaGreatDoorZGl
namespace Go.Proofs.YtdbddbelhgkelaaGreatDoor
open Go.RowKit
open Go.Proofs.YtdbddbelhgkelaaGreatDoor.Cl (Rg SetV SetAt rgCells info_three)
variable {w w' w0 : World} {n₀ wb lp lp' base : Nat} {fo : Bool} {M : List In} {G : Int}
theorem nd_code (fo : Bool) (nd : Nd) : code fo nd = cF fo nd.kind nd.lo nd.hi nd.mode nd.ref nd.set (loSum nd.kids) (hiSum nd.kids) (nd.kids.map (code fo)) := by cases nd with | mk => exact code_eq ..
theorem Wn.ref5 {nd : Nd} (h : Wn G nd) (hk : nd.kind = 5) : 1 ≤ nd.ref ∧ nd.ref ≤ G := by cases h with | mk _ h5 _ _ => exact h5 hk
theorem setK_of {K : Nat → Prop} {nd : Nd} {sv kv : Value} (h : NodeV K w nd sv kv) : SetK K w sv nd.set := by cases h with | mk F G hs' _ _ _ _ _ => exact hs'
theorem nodeB_set {nd : Nd} {A1 A2 : Option Addr} {p1 p2 : Nat} (h : NodeB n₀ w nd A1 A2 p1 p2) : True ∧ SetV n₀ w (.slice A1 nd.set.length p1) nd.set := ⟨trivial, setK_of h⟩
theorem ptr_cell {b : Nat} {t : TypeId} {v : Value} (h : Blk w b t #[v]) : w.cell? ⟨b, 0, none⟩ = some v := h.cell 0
theorem below_of_drew {W W' : World} (h : Below W.drew.heap.size W.drew W') : Below W.heap.size W W' := ⟨h.os, h.tape, h.output, h.size, h.block⟩
theorem undrew_below {W : World} : Below W.heap.size W W.drew := ⟨rfl, rfl, rfl, Nat.le_refl _, fun _ _ => rfl⟩
set_option maxRecDepth 100000 in
set_option maxHeartbeats 1000000 in
theorem node_unit (n : Nat) {nd : Nd} (hx : Nx G n nd) (hkd : nd.kind = 1) {A1 A2 : Option Addr} {p1 p2 : Nat} (hE : Env5 n₀ w) (hN : NodeB n₀ w nd A1 A2 p1 p2) (hW : Wm n₀ wb fo w M) (hlen : M.length + (code fo nd).length ≤ 90000) :
    Calls Tryz.prog 68 #[.pointer (some ⟨wb, 0, none⟩), .agg #[.int .i64 1, .int .i64 nd.lo, .int .i64 nd.hi, .int .i64 nd.mode, .int .i64 nd.ref, .slice A1 nd.set.length p1, .slice A2 nd.kids.length p2]] w (WmP n₀ wb fo w (app M (code fo nd))) := by
  obtain ⟨hlow1, hlow2⟩ := Wr.low hW
  have HE := Lib.hid hE
  have HN := Lib.hid hN
  have HX := Lib.hid hx
  have hb0 := (Below.refl w.heap.size w).alloc (Nat.le_refl _) (.cells #[.pointer (some ⟨wb, 0, none⟩)] 137)
  have hs0 : (w.alloc (.cells #[.pointer (some ⟨wb, 0, none⟩)] 137)).heap.size = w.heap.size + 1 := by simp
  have hb1 := hb0.alloc (by omega) (.cells #[.int .i64 nd.kind, .int .i64 nd.lo, .int .i64 nd.hi, .int .i64 nd.mode, .int .i64 nd.ref, .slice A1 nd.set.length p1, .slice A2 nd.kids.length p2] 27)
  have HBw := Lib.hid ((Blk.new w 137 #[.pointer (some ⟨wb, 0, none⟩)]).alloc (.cells #[.int .i64 nd.kind, .int .i64 nd.lo, .int .i64 nd.hi, .int .i64 nd.mode, .int .i64 nd.ref, .slice A1 nd.set.length p1, .slice A2 nd.kids.length p2] 27))
  have HBn := Lib.hid (Blk.new (w.alloc (.cells #[.pointer (some ⟨wb, 0, none⟩)] 137)) 27 #[.int .i64 nd.kind, .int .i64 nd.lo, .int .i64 nd.hi, .int .i64 nd.mode, .int .i64 nd.ref, .slice A1 nd.set.length p1, .slice A2 nd.kids.length p2])
  rw [hs0] at HBn
  have HW0 := Lib.hid (hW.on hb1)
  have HF0 := Lib.hid (FrW.of_below (n₀ := n₀) (wb := wb) hb1)
  have HCo := Lib.hid (nd_code fo nd)
  clear hs0 hE hN hW hx hb0
  have HKd := Lib.hid hkd
  rw [hkd] at HBn HBw hb1 HW0 HF0 HCo
  clear hkd
  rw [show code fo nd = [unitI fo nd.set] by rw [HCo.out, cF1], app_one M (unitI fo nd.set) (.inr (.inl rfl))]
  have hc1 : M.length + 1 ≤ 90000 := by have := hlen; rw [HCo.out, cF1] at this; exact this
  obtain ⟨_, hSet⟩ := nodeB_set HN.out
  go_enter Tryz.func68, Tryz.ntmps68
  go_upto_region 1 with (fail)
  generalize (w.alloc _).alloc _ = W at *
  have hs1 := hb1.size
  have h7 := HBn.out.c7
  have c0 := HBw.out.cell 0
  simp at c0
  have HU := Lib.hid (fun (W' : World) (hb : Below W.heap.size W W') => units_any (fo := fo) HX.out.wn.set (HE.out.low (HF0.out.trans (FrW.of_below hb) |>.old (by omega))) (hSet.below (HF0.out.trans (FrW.of_below (n₀ := n₀) (wb := wb) hb) |>.old (by omega))) (HW0.out.on hb))
  go_wp2_with fail
  go_region_with (first
    | (go_at_call 85; refine (HU.out _ undrew_below).mono ?_; rintro e w1 ⟨Au, cu, rfl, hO, hb⟩; have HOu := Lib.hid hO; have hb' := below_of_drew hb; have c01 := ptr_cell (HBw.out.on hb'); clear hO hb)
    | (go_at_call 67; refine (put_any (unitI fo nd.set) HOu.out (HW0.out.on hb') (by omega)).mono ?_; rintro e w2 ⟨rfl, hW2, hF2⟩))
  all_goals
    have HW1 : Hid (Wm n₀ wb fo w2 (M ++ [unitI fo nd.set])) := Lib.hid (by unfold Wm; rw [marks_snoc _ (unitI fo nd.set) (show (1 : Int) ≠ 10 by decide)]; exact hW2)
    have HF1 := Lib.hid ((HF0.out.trans (FrW.of_below hb')).trans hF2)
    clear hW2 hF2 hb' c01 HOu h7 c0
    go_wp2
    exact ⟨rfl, .tuple #[], by simp [results, Tryz.results68, go_sem], rfl, HW1.out, HF1.out⟩
end Go.Proofs.YtdbddbelhgkelaaGreatDoor
