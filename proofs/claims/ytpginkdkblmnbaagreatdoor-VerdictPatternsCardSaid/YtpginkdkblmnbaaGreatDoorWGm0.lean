import Derived.Test.YtpginkdkblmnbaaGreatDoorWGl
namespace Go.Proofs.YtpginkdkblmnbaaGreatDoor
section
open Go.RowKit
open Go.Proofs.YtpginkdkblmnbaaGreatDoor.Cl (Rg à Ý Ä Á)
variable {w w' w0 : World} {n₀ wb lp lp' base : Nat} {fo : Bool} {M : List In} {G : Int}
theorem ËZ (fo : Bool) (nd : Nd) : â fo nd = cF fo nd.kind nd.lo nd.hi nd.mode nd.ref nd.set (û nd.kids) (ê nd.kids) (nd.kids.map (â fo)) := by cases nd with | mk => exact ËQ ..
theorem Wn.ref5 {nd : Nd} (h : Wn G nd) (hk : nd.kind = 5) : 1 ≤ nd.ref ∧ nd.ref ≤ G := by cases h with | mk _ h5 _ _ => exact h5 hk
theorem ÏC {K : Nat → Prop} {nd : Nd} {sv kv : Value} (h : Ê K w nd sv kv) : Đ K w sv nd.set := by cases h with | mk F G hs' _ _ _ _ _ => exact hs'
theorem ÌJ {nd : Nd} {A1 A2 : Option Addr} {p1 p2 : Nat} (h : Ś n₀ w nd A1 A2 p1 p2) : True ∧ à n₀ w (.slice A1 nd.set.length p1) nd.set := ⟨trivial, ÏC h⟩
theorem În {b : Nat} {t : TypeId} {v : Value} (h : Blk w b t #[v]) : w.cell? ⟨b, 0, none⟩ = some v := h.cell 0
theorem ÆN {W W' : World} (h : Below W.drew.heap.size W.drew W') : Below W.heap.size W W' := ⟨h.os, h.tape, h.output, h.size, h.block⟩
theorem Èl {W : World} : Below W.heap.size W W.drew := ⟨rfl, rfl, rfl, ŋ _, fun _ _ => rfl⟩
set_option maxRecDepth 100000 in
set_option maxHeartbeats 1000000 in
theorem ÌK (n : Nat) {nd : Nd} (hx : Nx G n nd) (hkd : nd.kind = 1) {A1 A2 : Option Addr} {p1 p2 : Nat} (hE : Àq n₀ w) (hN : Ś n₀ w nd A1 A2 p1 p2) (hW : Wm n₀ wb fo w M) (hlen : M.length + (â fo nd).length ≤ 90000) :
 Calls Tryz.prog 47 #[.pointer (some ⟨wb, 0, none⟩), .agg #[.int .i64 1, .int .i64 nd.lo, .int .i64 nd.hi, .int .i64 nd.mode, .int .i64 nd.ref, .slice A1 nd.set.length p1, .slice A2 nd.kids.length p2]] w (WmP n₀ wb fo w (app M (â fo nd))) := by
 obtain ⟨hlow1, hlow2⟩ := Wr.low hW;have HE := ħ hE;have HN := ħ hN;have HX := ħ hx;have hb0 := (ā w.heap.size w).alloc (ŋ _) (.cells #[.pointer (some ⟨wb, 0, none⟩)] 124)
 have hs0 : (w.alloc (.cells #[.pointer (some ⟨wb, 0, none⟩)] 124)).heap.size = w.heap.size + 1 := by simp
 have hb1 := hb0.alloc (by omega) (.cells #[.int .i64 nd.kind, .int .i64 nd.lo, .int .i64 nd.hi, .int .i64 nd.mode, .int .i64 nd.ref, .slice A1 nd.set.length p1, .slice A2 nd.kids.length p2] 27)
 have HBw := ħ ((Blk.new w 124 #[.pointer (some ⟨wb, 0, none⟩)]).alloc (.cells #[.int .i64 nd.kind, .int .i64 nd.lo, .int .i64 nd.hi, .int .i64 nd.mode, .int .i64 nd.ref, .slice A1 nd.set.length p1, .slice A2 nd.kids.length p2] 27));have HBn := ħ (Blk.new (w.alloc (.cells #[.pointer (some ⟨wb, 0, none⟩)] 124)) 27 #[.int .i64 nd.kind, .int .i64 nd.lo, .int .i64 nd.hi, .int .i64 nd.mode, .int .i64 nd.ref, .slice A1 nd.set.length p1, .slice A2 nd.kids.length p2]);rw [hs0] at HBn;have HW0 := ħ (hW.on hb1);have HF0 := ħ (FrW.of_below (n₀ := n₀) (wb := wb) hb1);have HCo := ħ (ËZ fo nd);clear hs0 hE hN hW hx hb0;have HKd := ħ hkd;rw [hkd] at HBn HBw hb1 HW0 HF0 HCo;clear hkd
 rw [show â fo nd = [ÄL fo nd.set] by rw [HCo.o, cF1], Áy M (ÄL fo nd.set) (.inr (.inl rfl))]
 have hc1 : M.length + 1 ≤ 90000 := by have := hlen; rw [HCo.o, cF1] at this; exact this
 obtain ⟨_, hSet⟩ := ÌJ HN.o;go_enter Tryz.func47, Tryz.ntmps47
 go_upto_region 1 with (fail)
 generalize (w.alloc _).alloc _ = W at *;have hs1 := hb1.size;have h7 := HBn.o.c7;have c0 := HBw.o.cell 0;simp at c0
 have HU := ħ (fun (W' : World) (hb : Below W.heap.size W W') => ÌI (fo := fo) HX.o.wn.set (HE.o.low (HF0.o.trans (FrW.of_below hb) |>.old (by omega))) (hSet.below (HF0.o.trans (FrW.of_below (n₀ := n₀) (wb := wb) hb) |>.old (by omega))) (HW0.o.on hb))
 go_wp2_with fail
 go_region_with (first
  | (go_at_call 68; refine (HU.o _ Èl).mono ?_; rintro e w1 ⟨Au, cu, rfl, hO, hb⟩; have HOu := ħ hO; have hb' := ÆN hb; have c01 := În (HBw.o.on hb'); clear hO hb)
  | (go_at_call 46; refine (ËU (ÄL fo nd.set) HOu.o (HW0.o.on hb') (by omega)).mono ?_; rintro e w2 ⟨rfl, hW2, hF2⟩))
 all_goals
  have HW1 : Hid (Wm n₀ wb fo w2 (M ++ [ÄL fo nd.set])) := ħ (by unfold Wm; rw [ë _ (ÄL fo nd.set) (show (1 : Int) ≠ 10 by decide)]; exact hW2)
  have HF1 := ħ ((HF0.o.trans (FrW.of_below hb')).trans hF2);clear hW2 hF2 hb' c01 HOu h7 c0;go_wp2
  exact ⟨rfl, .tuple #[], by simp [results, Tryz.results47, go_sem], rfl, HW1.o, HF1.o⟩
end
end Go.Proofs.YtpginkdkblmnbaaGreatDoor
