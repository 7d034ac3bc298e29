/- Layer 14's laws: the anchor. -/
import Derived.Test.YtefgobmpleoafaaGreatDoorJHsG
namespace Go.Proofs.YtefgobmpleoafaaGreatDoor
open Go.RowKit Go.Maps
variable {w w' : World} {S U : Nat → Prop} {g : Nat} {H : Hs}

theorem AddP.ok_ {x : En} {e : Ending} (hx : x.ok = true) (h : AddP g S U H x w e w') : e = .returned (.tuple #[.agg #[.int .i64 (H.out pvM x).ve, .int .i64 (H.out pvM x).co, .int .i64 (H.out pvM x).ru, .int .i64 (H.out pvM x).at_], .int .i64 0]) ∧ Did g S U (H.add pvM x) w w' := by
  unfold AddP Hs.outA Hs.errA Hs.put at h
  rw [if_pos hx, if_pos hx, if_pos hx] at h
  exact h
theorem add_lit {w1 w2 : World} (x : En) (b n₀ : Nat) (h : HistAt w1 g S U H) (B : Below w1.heap.size w1 w2) (hb : w1.heap.size ≤ b) (hR : RulesV w2.heap.size w2 (.slice (some ⟨b, 0, none⟩) 1 1) x.d.put) (hx : x.d.drop = []) (hok : x.ok = true) (hT : TabsAt n₀ w2) (hn₀ : n₀ ≤ w2.heap.size) (hS : ∀ i, S i → n₀ ≤ i) (hl : H.vs.length ≤ 100000) (hn : H.n ≤ 1000000) :
    Calls Tryz.prog 15 #[.pointer (some ⟨g, 0, none⟩), x.val (.slice (some ⟨b, 0, none⟩) 1 1) (.slice none 0 0)] w2 fun e w3 => e = .returned (.tuple #[.agg #[.int .i64 (H.out pvM x).ve, .int .i64 (H.out pvM x).co, .int .i64 (H.out pvM x).ru, .int .i64 (H.out pvM x).at_], .int .i64 0]) ∧ ∃ S' U', HistAt w3 g S' U' (H.add pvM x) ∧ (∀ i, S' i → n₀ ≤ i) ∧ Below n₀ w2 w3 ∧ Fh S w2 w3 ∧ (∀ i, S' i → S i ∨ w2.heap.size ≤ i) := by
  refine (add_any x _ _ w2 n₀ hT hn₀ hS (RulesF.of_far hR (base := w1.heap.size) (fun k hk => by have : b = k := (by simpa [Value.ownBlock] using hk); omega) (fun i hi => h.old i hi)) (fun w' _ => by rw [hx]; exact row_nil _ _) hl hn (h.on B)).mono ?_
  rintro e w3 ha
  obtain ⟨rfl, S', hs, ht, hf⟩ := ha.ok_ hok
  exact ⟨rfl, S', _, ht, fun i hi => (hs i hi).elim (hS i) (fun e => by omega), hf.old hn₀ hS, hf, hs⟩
set_option maxRecDepth 100000 in
set_option maxHeartbeats 8000000 in
theorem anchor14_any (w : World) (hT : TabsAt w.heap.size w) : Calls Tryz.prog 9 #[] w fun e w' => e = .returned (.bool true) ∧ Below w.heap.size w w' := by
  have HT := Lib.hid hT
  clear hT
  have q1 := fun w => run_eql_oc 1 0 0 0 1 0 0 0 w
  have q2 := fun w => run_eql_verdict 20 4 0 20 4 0 w
  have NW := Lib.hid (new14_any (fun _ => False) w (fun _ e => e.elim))
  go_enter Tryz.func9, Tryz.ntmps9
  go_wp2_with fail
  refine NW.out.mono ?_
  rintro e w1 ⟨g, S1, rfl, hs1, h1, b1⟩
  have HA1 := Lib.hid h1
  have HS1 := Lib.hid hs1
  have B1 := Lib.hid b1
  clear h1 hs1 b1 NW
  go_wp2_with fail
  refine (put14_any 1 1 3 ⟨#[97]⟩ w1).mono ?_
  rintro e w2 ⟨b, rfl, hb, hr, b2⟩
  have B2 := Lib.hid (B1.out.trans (b2.mono B1.out.size))
  have AD := Lib.hid (add_lit (eput 1 1 3 ⟨#[97]⟩) b w.heap.size HA1.out b2 hb hr rfl (eput_ok (by decide) (by decide) (by decide) (by decide)) (tabs_on HT.out B2.out (Nat.le_refl _)) B2.out.size HS1.out (by decide) (by decide))
  rw [o1] at AD
  clear hr hb b2 HA1 HS1 B1
  go_wp2_with fail
  refine AD.out.mono ?_
  rintro e w3 ⟨rfl, S3, U3, h3, hs3, b3, _, _⟩
  have HA3 : Hid (HistAt w3 g S3 U3 H1) := Lib.hid h3
  have HS3 := Lib.hid hs3
  have B3 := Lib.hid (B2.out.trans b3)
  clear h3 hs3 b3 AD B2
  have ba := (Below.refl w3.heap.size w3).alloc (Nat.le_refl _) (.cells #[.int .i64 1, .int .i64 0, .int .i64 0, .int .i64 0] 44)
  have XA := Lib.hid (Blk.new w3 44 #[.int .i64 1, .int .i64 0, .int .i64 0, .int .i64 0])
  have HA4 := Lib.hid (HA3.out.on ba)
  have B4 := Lib.hid (B3.out.trans (ba.mono B3.out.size))
  have NA : Hid (¬ S3 w3.heap.size) := Lib.hid fun e => by have := HA3.out.old _ e; omega
  go_upto_region 3 with (fail)
  obtain ⟨xa, hxa⟩ : ∃ xa, xa = w3.heap.size := ⟨_, rfl⟩
  rw [← hxa] at XA NA ⊢
  clear ba HA3 B3 hxa
  generalize w3.alloc _ = w4 at *
  go_wp2_with fail
  refine (put14_any 1 1 3 ⟨#[97]⟩ w4).mono ?_
  rintro e w5 ⟨b5, rfl, hb, hr, b2⟩
  have B5 := Lib.hid (B4.out.trans (b2.mono B4.out.size))
  have XA5 := Lib.hid (XA.out.on b2)
  have AD := Lib.hid (add_lit (eput 1 1 3 ⟨#[97]⟩) b5 w.heap.size HA4.out b2 hb hr rfl (eput_ok (by decide) (by decide) (by decide) (by decide)) (tabs_on HT.out B5.out (Nat.le_refl _)) B5.out.size HS3.out (by rw [H1_eq]; decide) (by rw [H1_eq]; decide))
  rw [o2] at AD
  clear hr hb b2 B4 HA4 XA
  go_wp2_with fail
  refine AD.out.mono ?_
  rintro e w6 ⟨rfl, S6, U6, h6, hs6, b6, f6, k6⟩
  have HA6 : Hid (HistAt w6 g S6 U6 H2) := Lib.hid h6
  have HS6 := Lib.hid hs6
  have B6 := Lib.hid (B5.out.trans b6)
  have XA6 := Lib.hid (f6.blk XA5.out NA.out)
  have NA6 : Hid (¬ S6 xa) := Lib.hid fun e => (k6 _ e).elim NA.out (fun e => by have := XA5.out.lt; omega)
  clear h6 hs6 b6 f6 k6 AD XA5 NA HS3 B5
  have ba := (Below.refl w6.heap.size w6).alloc (Nat.le_refl _) (.cells #[.int .i64 0, .int .i64 31, .int .i64 0, .int .i64 0] 44)
  have XB := Lib.hid (Blk.new w6 44 #[.int .i64 0, .int .i64 31, .int .i64 0, .int .i64 0])
  have HA7 := Lib.hid (HA6.out.on ba)
  have XA7 := Lib.hid (XA6.out.on ba)
  have B7 := Lib.hid (B6.out.trans (ba.mono B6.out.size))
  have NB : Hid (¬ S6 w6.heap.size) := Lib.hid fun e => by have := HA6.out.old _ e; omega
  go_upto_region 4 with (fail)
  obtain ⟨xb, hxb⟩ : ∃ xb, xb = w6.heap.size := ⟨_, rfl⟩
  rw [← hxb] at XB NB ⊢
  clear ba HA6 B6 XA6 hxb
  generalize w6.alloc _ = w7 at *
  go_wp2_with fail
  refine (put14_any 1 2 4 ⟨#[40]⟩ w7).mono ?_
  rintro e w8 ⟨b8, rfl, hb, hr, b2⟩
  have B8 := Lib.hid (B7.out.trans (b2.mono B7.out.size))
  have XA8 := Lib.hid (XA7.out.on b2)
  have XB8 := Lib.hid (XB.out.on b2)
  have AD := Lib.hid (add_lit (eput 1 2 4 ⟨#[40]⟩) b8 w.heap.size HA7.out b2 hb hr rfl (eput_ok (by decide) (by decide) (by decide) (by decide)) (tabs_on HT.out B8.out (Nat.le_refl _)) B8.out.size HS6.out (by rw [H2_eq]; decide) (by rw [H2_eq]; decide))
  rw [o3] at AD
  clear hr hb b2 B7 HA7 XA7 XB
  go_wp2_with fail
  refine AD.out.mono ?_
  rintro e w9 ⟨rfl, S9, U9, h9, hs9, b9, f9, _⟩
  have XA9 := Lib.hid (f9.blk XA8.out NA6.out)
  have XB9 := Lib.hid (f9.blk XB8.out NB.out)
  have ba := (Below.refl w9.heap.size w9).alloc (Nat.le_refl _) (.cells #[.int .i64 0, .int .i64 20, .int .i64 4, .int .i64 0] 44)
  have XC := Lib.hid (Blk.new w9 44 #[.int .i64 0, .int .i64 20, .int .i64 4, .int .i64 0])
  have VE := Lib.hid (version_any (H := H3) 1 H3_len (HistAt.on h9 ba))
  have XA10 := Lib.hid (XA9.out.on ba)
  have XB10 := Lib.hid (XB9.out.on ba)
  have B10 := Lib.hid ((B8.out.trans b9).trans (ba.mono (B8.out.trans b9).size))
  go_upto_region 5 with (fail)
  obtain ⟨xc, hxc⟩ : ∃ xc, xc = w9.heap.size := ⟨_, rfl⟩
  rw [← hxc] at XC ⊢
  clear ba h9 hs9 b9 f9 AD XA8 XB8 XA9 XB9 B8 hxc NA6 NB HS6
  generalize w9.alloc _ = wa at *
  have a0 := XA10.out.cell 0
  have a1 := XA10.out.cell 1
  have a2 := XA10.out.cell 2
  have a3 := XA10.out.cell 3
  have al := XA10.out.lt
  have d1 := XB10.out.cell 1
  have dl := XB10.out.lt
  have e1 := XC.out.cell 1
  have e2 := XC.out.cell 2
  have e3 := XC.out.cell 3
  have el := XC.out.lt
  go_wp2_with fail
  refine VE.out.mono ?_
  rintro e wb ⟨rfl, rfl⟩
  go_wp2
  go_ret
  exact ⟨rfl, B10.out⟩
end Go.Proofs.YtefgobmpleoafaaGreatDoor

