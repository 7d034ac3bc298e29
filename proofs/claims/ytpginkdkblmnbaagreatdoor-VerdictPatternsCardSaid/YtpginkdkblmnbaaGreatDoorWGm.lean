import Derived.Test.YtpginkdkblmnbaaGreatDoorWGm0
namespace Go.Proofs.YtpginkdkblmnbaaGreatDoor
section
open Go.RowKit
open Go.Proofs.YtpginkdkblmnbaaGreatDoor.Cl (Rg à Ý Ä Á)
variable {w w' w0 : World} {n₀ wb lp lp' base : Nat} {fo : Bool} {M : List In} {G : Int}
set_option maxRecDepth 100000 in
set_option maxHeartbeats 1000000 in
theorem ÌL (hG : G ≤ 1000) (n : Nat) (ihR : Èe n₀ wb fo G n) (ihA : Èg n₀ wb fo G n) : Éi n₀ wb fo G (n + 1) := by
 have hRep := És n ihR;have hLook := ÌE n ihR;intro nd hx w M A1 A2 p1 p2 hE hN hW hlen;have hkids := hx.kids;obtain ⟨hlow1, hlow2⟩ := Wr.low hW;obtain ⟨b, off, hkv, hm⟩ := Ś.kids hN
 have HRow := ħ (fun W M' (h1 : Àq n₀ W) (h2 : Áz n₀ W nd.kids A2 b off) (h3 : Wm n₀ wb fo W M') h4 => ihR nd.kids hkids hm W M' A2 p2 b off h1 h2 h3 h4)
 have HAlt := ħ (fun hne W M' (h1 : Àq n₀ W) (h2 : Áz n₀ W nd.kids A2 b off) (h3 : Wm n₀ wb fo W M') h4 => ihA nd.kids hkids hne hm W M' A2 p2 b off h1 h2 h3 h4)
 have HRep := ħ (fun (hok : Îg nd) W M' (h1 : Àq n₀ W) (h2 : Ś n₀ W nd A1 A2 p1 p2) (h3 : Wm n₀ wb fo W M') h4 => hRep nd hok hkids W M' A1 A2 p1 p2 h1 h2 h3 h4)
 have HLook := ħ (fun (hok : ÊG nd) W M' (h1 : Àq n₀ W) (h2 : Ś n₀ W nd A1 A2 p1 p2) (h3 : Wm n₀ wb fo W M') h4 => hLook nd hok hkids W M' A1 A2 p1 p2 h1 h2 h3 h4)
 have HClo := ħ (fun W bw bn (h1 : Àq n₀ W) (h2 : Ś n₀ W nd A1 A2 p1 p2) M' (h3 : Wm n₀ wb fo W M') h4 h5 h6 => ËX n ihR hkids h1 h2 h3 h4 h5 h6 (bw := bw) (bn := bn) (.inr rfl))
 have HE := ħ hE;have HN := ħ hN;have HK := ħ hkv;have HX := ħ hx;have hsh := hx.wf.shape;have hb0 := (ā w.heap.size w).alloc (ŋ _) (.cells #[.pointer (some ⟨wb, 0, none⟩)] 124)
 have hs0 : (w.alloc (.cells #[.pointer (some ⟨wb, 0, none⟩)] 124)).heap.size = w.heap.size + 1 := by simp
 have hb1 := hb0.alloc (by omega) (.cells #[.int .i64 nd.kind, .int .i64 nd.lo, .int .i64 nd.hi, .int .i64 nd.mode, .int .i64 nd.ref, .slice A1 nd.set.length p1, .slice A2 nd.kids.length p2] 27)
 have HBw := ħ ((Blk.new w 124 #[.pointer (some ⟨wb, 0, none⟩)]).alloc (.cells #[.int .i64 nd.kind, .int .i64 nd.lo, .int .i64 nd.hi, .int .i64 nd.mode, .int .i64 nd.ref, .slice A1 nd.set.length p1, .slice A2 nd.kids.length p2] 27));have HBn := ħ (Blk.new (w.alloc (.cells #[.pointer (some ⟨wb, 0, none⟩)] 124)) 27 #[.int .i64 nd.kind, .int .i64 nd.lo, .int .i64 nd.hi, .int .i64 nd.mode, .int .i64 nd.ref, .slice A1 nd.set.length p1, .slice A2 nd.kids.length p2]);rw [hs0] at HBn;have HW0 := ħ (hW.on hb1);have HF0 := ħ (FrW.of_below (n₀ := n₀) (wb := wb) hb1);have HCo := ħ (ËZ fo nd);have hWm := ħ hW;clear hs0 hE hN hW hkv ihR ihA hkids hx hRep hLook hb0;unfold Ü at hsh
 rcases hsh with ⟨hkd, hsh⟩ | ⟨hkd, hsh⟩ | ⟨hkd, hsh⟩ | ⟨hkd, hsh⟩ | ⟨hkd, hsh⟩ | ⟨hkd, hsh⟩ | ⟨hkd, hsh⟩ | ⟨hkd, hsh⟩ | ⟨hkd, hsh⟩ | ⟨hkd, hsh⟩
 ·have HKd := ħ hkd
  have HSh := ħ hsh;rw [hkd] at HBn HBw hb1 HW0 HF0 HCo ⊢;clear hkd hsh
  rw [show â fo nd = [] by rw [HCo.o, cF0], ÀV]
  go_enter Tryz.func47, Tryz.ntmps47
  go_upto_region 1 with (fail)
  generalize (w.alloc _).alloc _ = W at *;have hs1 := hb1.size;have h7 := HBn.o.c7;have c0 := HBw.o.cell 0;simp at c0;have HW1 := HW0;have HF1 := HF0;clear h7 c0;have h7 := HBn.o.c7;go_wp2
  exact ⟨rfl, .tuple #[], by simp [results, Tryz.results47, go_sem], rfl, HW1.o, HF1.o⟩
 ·rw [hkd]
  exact ÌK (n + 1) HX.o hkd HE.o HN.o (hWm.o) hlen
 ·have HKd := ħ hkd
  have HSh := ħ hsh;rw [hkd] at HBn HBw hb1 HW0 HF0 HCo ⊢;clear hkd hsh
  rw [show â fo nd = ĸ (nd.kids.map (â fo)) by rw [HCo.o, cF2]]
  have hc1 : M.length + (ĸ (nd.kids.map (â fo))).length ≤ 90000 := by have := hlen; rw [HCo.o, cF2] at this; exact this
  go_enter Tryz.func47, Tryz.ntmps47
  go_upto_region 1 with (fail)
  generalize (w.alloc _).alloc _ = W at *;have hs1 := hb1.size;have h7 := HBn.o.c7;have c0 := HBw.o.cell 0;simp at c0
  have HC := ħ (HRow.o W M (HE.o.low (HF0.o.old (by omega))) (HK.o.low (HF0.o.old (by omega))) HW0.o hc1)
  go_wp2_with fail
  refine HC.o.mono ?_;rintro e w1 ⟨rfl, hW1, hF1⟩;have HW1 := ħ hW1;have HF1 := ħ (HF0.o.trans hF1);clear hW1 hF1 h7 c0;go_wp2
  exact ⟨rfl, .tuple #[], by simp [results, Tryz.results47, go_sem], rfl, HW1.o, HF1.o⟩
 ·have HKd := ħ hkd
  have HSh := ħ hsh;rw [hkd] at HBn HBw hb1 HW0 HF0 HCo ⊢;clear hkd hsh
  rw [show â fo nd = ÀA (nd.kids.map (â fo)) by rw [HCo.o, cF3]]
  have hc1 : M.length + (ÀA (nd.kids.map (â fo))).length ≤ 90000 := by have := hlen; rw [HCo.o, cF3] at this; exact this
  have hne : nd.kids ≠ [] := by have hsh := HSh.o; intro e; rw [e] at hsh; simp at hsh
  go_enter Tryz.func47, Tryz.ntmps47
  go_upto_region 1 with (fail)
  generalize (w.alloc _).alloc _ = W at *;have hs1 := hb1.size;have h7 := HBn.o.c7;have c0 := HBw.o.cell 0;simp at c0
  have HC := ħ (HAlt.o hne W M (HE.o.low (HF0.o.old (by omega))) (HK.o.low (HF0.o.old (by omega))) HW0.o hc1)
  go_wp2_with fail
  refine HC.o.mono ?_;rintro e w1 ⟨rfl, hW1, hF1⟩;have HW1 := ħ hW1;have HF1 := ħ (HF0.o.trans hF1);clear hW1 hF1 h7 c0;go_wp2
  exact ⟨rfl, .tuple #[], by simp [results, Tryz.results47, go_sem], rfl, HW1.o, HF1.o⟩
 ·have HKd := ħ hkd
  have HSh := ħ hsh;rw [hkd] at HBn HBw hb1 HW0 HF0 HCo ⊢;clear hkd hsh
  have hrep : â fo nd = Éq fo nd := by
   rw [HCo.o];unfold Éq
   by_cases h2 : nd.mode = 2
   ·rw [if_pos h2, h2, Ñb]
    exact congrArg _ (by unfold Ů Ŕ ý Àp; rw [h2]; rfl)
   ·rw [if_neg h2, cF4 _ _ _ _ _ _ _ _ _ h2]
    unfold Ů Ŕ ý Àp;rfl
  rw [hrep]
  have hc1 : M.length + (Éq fo nd).length ≤ 90000 := by rw [← hrep]; exact hlen
  have hok : Îg nd := by have hsh := HSh.o; exact ⟨⟨by omega, by omega, by omega, by omega⟩, by omega, by omega⟩
  clear hrep;go_enter Tryz.func47, Tryz.ntmps47
  go_upto_region 1 with (fail)
  generalize (w.alloc _).alloc _ = W at *;have hs1 := hb1.size;have h7 := HBn.o.c7;have c0 := HBw.o.cell 0;simp at c0
  have HC := ħ (HRep.o hok W M (HE.o.low (HF0.o.old (by omega))) (HN.o.lowB (HF0.o.old (by omega))) HW0.o hc1)
  rw [HKd.o] at HC
  go_wp2_with fail
  refine HC.o.mono ?_;rintro e w1 ⟨rfl, hW1, hF1⟩;have HW1 := ħ hW1;have HF1 := ħ (HF0.o.trans hF1);clear hW1 hF1 h7 c0;go_wp2
  exact ⟨rfl, .tuple #[], by simp [results, Tryz.results47, go_sem], rfl, HW1.o, HF1.o⟩
 ·have HKd := ħ hkd
  have HSh := ħ hsh;rw [hkd] at HBn HBw hb1 HW0 HF0 HCo ⊢;clear hkd hsh
  have hco : â fo nd = app [Ÿ (2 * nd.ref)] (app (ĸ (nd.kids.map (â fo))) [Ÿ (2 * nd.ref + 1)]) := by rw [HCo.o, cF5]
  have hcl : (â fo nd).length = (ĸ (nd.kids.map (â fo))).length + 2 := by rw [hco, Ø, Ø]; simp; omega
  have hlen' := hlen;rw [hcl] at hlen'
  have HFin : Hid (app (M ++ [Ÿ (2 * nd.ref)]) (ĸ (nd.kids.map (â fo))) ++ [Ÿ (2 * nd.ref + 1)] = app M (â fo nd)) := ħ (by
   rw [hco, ← İ, ← İ, Áy M (Ÿ (2 * nd.ref)) (.inr (.inr (.inl rfl))), Áy _ (Ÿ (2 * nd.ref + 1)) (.inr (.inr (.inl rfl)))])
  have hr := HX.o.wn.ref5 HKd.o;rw [← HFin.o];clear hco hcl;go_enter Tryz.func47, Tryz.ntmps47
  go_upto_region 1 with (fail)
  generalize (w.alloc _).alloc _ = W at *;have hs1 := hb1.size;have h7 := HBn.o.c7;have c0 := HBw.o.cell 0;simp at c0;generalize ĸ (nd.kids.map (â fo)) = X at *
  have HP := ħ (ÀI 4 (2 * nd.ref) 0 0 0 HW0.o (by omega))
  go_wp2_with fail
  refine HP.o.mono ?_;rintro e w2 ⟨rfl, hW2, hF2⟩;have hs2 := hF2.size
  have HB2 := ħ (hF2.blk HBn.o (by decide) (by omega))
  have HBw2 := ħ (hF2.blk HBw.o (by decide) (by omega))
  have HF2 := ħ (HF0.o.trans hF2)
  have HW2 : Hid (Wm n₀ wb fo w2 (M ++ [Ÿ (2 * nd.ref)])) := ħ (by unfold Wm; rw [ë _ _ (show (4 : Int) ≠ 10 by decide)]; exact hW2)
  clear hW2 hF2 HP h7 c0;have h7 := HB2.o.c7;have c0 := HBw2.o.cell 0;simp at c0
  have HC := ħ (HRow.o w2 _ (HE.o.low (HF2.o.old (by omega))) (HK.o.low (HF2.o.old (by omega))) HW2.o (by rw [ă]; simp; omega))
  go_wp2_with fail
  refine HC.o.mono ?_;rintro e w3 ⟨rfl, hW3, hF3⟩;have hs3 := hF3.size
  have HB3 := ħ (hF3.blk HB2.o (by decide) (by omega))
  have HBw3 := ħ (hF3.blk HBw2.o (by decide) (by omega))
  have HF3 := ħ (HF2.o.trans hF3);have HW3 := ħ hW3;clear hW3 hF3 HC h7 c0;have h7 := HB3.o.c7;have c0 := HBw3.o.cell 0;simp at c0
  have HP := ħ (ÀI 4 (2 * nd.ref + 1) 0 0 0 HW3.o (by rw [Ø, ă]; simp; omega))
  go_wp2_with fail
  refine HP.o.mono ?_;rintro e w4 ⟨rfl, hW4, hF4⟩;have HF1 := ħ (HF3.o.trans hF4)
  have HW1 : Hid (Wm n₀ wb fo w4 (app (M ++ [Ÿ (2 * nd.ref)]) X ++ [Ÿ (2 * nd.ref + 1)])) := ħ (by unfold Wm; rw [ë _ (Ÿ (2 * nd.ref + 1)) (show (4 : Int) ≠ 10 by decide)]; exact hW4)
  clear hW4 hF4 HP h7 c0;go_wp2
  exact ⟨rfl, .tuple #[], by simp [results, Tryz.results47, go_sem], rfl, HW1.o, HF1.o⟩
 ·have HKd := ħ hkd
  have HSh := ħ hsh;rw [hkd] at HBn HBw hb1 HW0 HF0 HCo ⊢;clear hkd hsh
  rw [show â fo nd = [Çd fo nd.ref] by rw [HCo.o, cF6], Áy M (Çd fo nd.ref) (.inr (.inr (.inr (.inl rfl))))]
  have hc1 : M.length + 1 ≤ 90000 := by have := hlen; rw [HCo.o, cF6] at this; exact this
  go_enter Tryz.func47, Tryz.ntmps47
  go_upto_region 1 with (fail)
  generalize (w.alloc _).alloc _ = W at *;have hs1 := hb1.size;have h7 := HBn.o.c7;have c0 := HBw.o.cell 0;simp at c0
  have HC := ħ (ÍY nd.ref HW0.o (by omega))
  have hmk : Ã (M ++ [Çd fo nd.ref]) = Ã M := ë _ _ (show (5 : Int) ≠ 10 by decide)
  rw [← hmk] at HC;clear hmk
  go_wp2_with fail
  refine HC.o.mono ?_;rintro e w1 ⟨rfl, hW1, hF1⟩;have HW1 := ħ hW1;have HF1 := ħ (HF0.o.trans hF1);clear hW1 hF1 h7 c0;go_wp2
  exact ⟨rfl, .tuple #[], by simp [results, Tryz.results47, go_sem], rfl, HW1.o, HF1.o⟩
 ·have HKd := ħ hkd
  have HSh := ħ hsh;rw [hkd] at HBn HBw hb1 HW0 HF0 HCo ⊢;clear hkd hsh
  have hco : â fo nd = ÁS fo nd := by rw [HCo.o, cF7]; rfl
  rw [hco]
  have hc1 : M.length + (ÁS fo nd).length ≤ 90000 := by rw [← hco]; exact hlen
  have hok : ÊG nd := by have hsh := HSh.o; exact ⟨fun x hx => (HX.o.kids x hx).wf, by omega, by omega⟩
  clear hco;go_enter Tryz.func47, Tryz.ntmps47
  go_upto_region 1 with (fail)
  generalize (w.alloc _).alloc _ = W at *;have hs1 := hb1.size;have h7 := HBn.o.c7;have c0 := HBw.o.cell 0;simp at c0
  have HC := ħ (HLook.o hok W M (HE.o.low (HF0.o.old (by omega))) (HN.o.lowB (HF0.o.old (by omega))) HW0.o hc1)
  rw [HKd.o] at HC
  go_wp2_with fail
  refine HC.o.mono ?_;rintro e w1 ⟨rfl, hW1, hF1⟩;have HW1 := ħ hW1;have HF1 := ħ (HF0.o.trans hF1);clear hW1 hF1 h7 c0;go_wp2
  exact ⟨rfl, .tuple #[], by simp [results, Tryz.results47, go_sem], rfl, HW1.o, HF1.o⟩
 ·have HKd := ħ hkd
  have HSh := ħ hsh;rw [hkd] at HBn HBw hb1 HW0 HF0 HCo ⊢;clear hkd hsh
  have hco : â fo nd = õ (.i 8 0 0 0 0) (ý fo nd) := by rw [HCo.o, cF8]; rfl
  have hcl : (â fo nd).length = (ý fo nd).length + 2 := by rw [hco]; have := Àg (.i 8 0 0 0 0) (ý fo nd); unfold len at this; omega
  have hlen' := hlen;rw [hcl] at hlen';rw [hco];clear hco hcl;go_enter Tryz.func47, Tryz.ntmps47
  go_upto_region 1 with (fail)
  generalize (w.alloc _).alloc _ = W at *;have hs1 := hb1.size;have h7 := HBn.o.c7;have c0 := HBw.o.cell 0;simp at c0
  have HC := ħ (Àj (w := W) (M := M) (p1 := .pointer (some ⟨w.heap.size, 0, none⟩)) (p2 := .pointer (some ⟨w.heap.size + 1, 0, none⟩)) (.inl rfl) 8 0 0 0 (.inr rfl) (ý fo nd) HW0.o (by omega) (fun W' hW' hF' =>
   HClo.o W' _ _ (HE.o.low ((HF0.o.trans hF').old (by omega))) (HN.o.lowB ((HF0.o.trans hF').old (by omega))) _ hW' (by rw [ă]; simp; omega) (hF'.blk HBw.o (by decide) (by omega)) (by rw [HKd.o]; exact hF'.blk HBn.o (by decide) (by omega))))
  go_wp2_with fail
  refine HC.o.mono ?_;rintro e w1 ⟨rfl, hW1, hF1⟩;have HW1 := ħ hW1;have HF1 := ħ (HF0.o.trans hF1);clear hW1 hF1 h7 c0;go_wp2
  exact ⟨rfl, .tuple #[], by simp [results, Tryz.results47, go_sem], rfl, HW1.o, HF1.o⟩
 ·have HKd := ħ hkd
  have HSh := ħ hsh;rw [hkd] at HBn HBw hb1 HW0 HF0 HCo ⊢;clear hkd hsh
  rw [show â fo nd = [.i 6 nd.ref 0 0 0] by rw [HCo.o, cF9], Áy M (.i 6 nd.ref 0 0 0) (.inr (.inr (.inr (.inr (.inl rfl)))))]
  have hc1 : M.length + 1 ≤ 90000 := by have := hlen; rw [HCo.o, cF9] at this; exact this
  go_enter Tryz.func47, Tryz.ntmps47
  go_upto_region 1 with (fail)
  generalize (w.alloc _).alloc _ = W at *;have hs1 := hb1.size;have h7 := HBn.o.c7;have c0 := HBw.o.cell 0;simp at c0
  have HP := ħ (ÀI 6 nd.ref 0 0 0 HW0.o (by omega))
  go_wp2_with fail
  refine HP.o.mono ?_;rintro e w4 ⟨rfl, hW4, hF4⟩;have HF1 := ħ (HF0.o.trans hF4)
  have HW1 : Hid (Wm n₀ wb fo w4 (M ++ [.i 6 nd.ref 0 0 0])) := ħ (by unfold Wm; rw [ë _ (.i 6 nd.ref 0 0 0) (show (6 : Int) ≠ 10 by decide)]; exact hW4)
  clear hW4 hF4 HP h7 c0;go_wp2
  exact ⟨rfl, .tuple #[], by simp [results, Tryz.results47, go_sem], rfl, HW1.o, HF1.o⟩
end
end Go.Proofs.YtpginkdkblmnbaaGreatDoor
