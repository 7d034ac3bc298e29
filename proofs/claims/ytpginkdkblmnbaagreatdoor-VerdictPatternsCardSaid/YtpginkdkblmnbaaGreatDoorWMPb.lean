import Derived.Test.YtpginkdkblmnbaaGreatDoorWMPa
import Derived.Test.YtpginkdkblmnbaaGreatDoorWMClasses
import Derived.Deep.LoopGhost
namespace Go.Proofs.YtpginkdkblmnbaaGreatDoor
section
open Go.RowKit
variable {n₀ rb tb cap d : Nat} {s : List UInt8} {w w' : World} {σ σ1 : St} {fc fa : Int} {bv : Value}
def Îw (n₀ rb tb cap : Nat) (s : List UInt8) (d : Nat) (fc fa : Int) (bv : Value) (w : World) (r : Except Flt (Nat × St)) (e : Ending) (w' : World) : Prop :=
 match r with
 | .ok x => e = .returned (.tuple #[.int .i64 (x.1 : Nat), .bool true]) ∧ Rd n₀ rb tb cap s w' x.2 d fc fa bv ∧ Fr n₀ rb w w'
 | .error f => e = .returned (.tuple #[.int .i64 0, .bool false]) ∧ Bad w' rb f ∧ Fr n₀ rb w w'
theorem Éz (hs : Í σ.t = 120) (hR : Rd n₀ rb tb cap s w σ d fc fa bv) : Calls Tryz.prog 191 #[.pointer (some ⟨rb, 0, none⟩)] w (Îw n₀ rb tb cap s d fc fa bv w (Ð σ)) := by
 unfold Ð;rw [if_pos hs]
 by_cases h : σ.t.length < 4
 ·rw [if_pos h]
  exact (ÆQ h hR).mono fun _ _ h => h
 ·rw [if_neg h]
  refine (Èp (by omega) _ _ rfl rfl hR).mono fun e w' hp => ?_
  rcases hp with ⟨h2, h3, he, hr, hf⟩ | ⟨hb, he, hr, hf⟩
  ·rw [h2, h3]
   exact ⟨he, hr, hf⟩
  ·rw [hb]
   exact ⟨he, hr, hf⟩
set_option maxRecDepth 100000 in
set_option maxHeartbeats 1000000 in
theorem ÄS (hR : Rd n₀ rb tb cap s w σ d fc fa bv) : Calls Tryz.prog 169 #[.pointer (some ⟨rb, 0, none⟩)] w (Îw n₀ rb tb cap s d fc fa bv w (Ð σ)) := by
 have hsg := ÂD hR;have hx := ŷ σ.t 1
 have hlt : Í σ.t < 256 := by unfold Í; split <;> omega
 have hp := hR.pos;have ht := hR.tl;have hl := hR.len;have HR := ħ hR;have hmk := ÊN (Í σ.t)
 by_cases h1 : Í σ.t = 120
 ·have hh := fun W (h : Rd n₀ rb tb cap s W σ d fc fa bv) => Éz h1 h
  obtain ⟨r, hr⟩ : ∃ r, r = Ð σ := ⟨_, rfl⟩;rw [← hr] at hh ⊢;rw [h1] at hsg;have H := ħ hh;have HS := ħ hsg;clear hh hsg hmk hR h1 hr;go_enter Tryz.func169, Tryz.ntmps169
  go_wp2_with fail
  refine HS.o.mono ?_;rintro e w1 ⟨rfl, hb⟩;have hR1 := ħ (HR.o.on hb)
  go_wp2_with fail
  refine (H.o _ hR1.o).mono ?_;rintro e w2 hP
  cases r with
  | ok x =>
   obtain ⟨rfl, hR2, hF⟩ := hP;have HR2 := ħ hR2;clear hR2;go_wp2;go_ret2;exact ⟨rfl, HR2.o, (Fr.of_below hb).trans hF⟩
  | error f =>
   obtain ⟨rfl, hB, hF⟩ := hP;go_wp2;go_ret2;exact ⟨rfl, hB, (Fr.of_below hb).trans hF⟩
 ·by_cases h2 : Í σ.t = 110
  ·have hr : Ð σ = .ok (10, σ.adv 2) := by unfold Ð; rw [if_neg h1, if_pos h2]
   have hl2 := (œ (t := σ.t) (by omega)).1
   rw [hr];rw [h2] at hsg;have HS := ħ hsg;clear hsg hmk hR h1 h2 hr;go_enter Tryz.func169, Tryz.ntmps169
   go_wp2_with fail
   refine HS.o.mono ?_;rintro e w1 ⟨rfl, hb⟩;have hR1 := HR.o.on hb;have c1 := hR1.c1;have f1 := hR1.fz 1;have HR1 := ħ hR1;clear hR1;go_wp2;go_ret2;exact ⟨rfl, HR1.o.step' (n := 2) hl2, HR1.o.below_set (Fr.of_below hb) _ _⟩
  ·by_cases h3 : Í σ.t = 116
   ·have hr : Ð σ = .ok (9, σ.adv 2) := by unfold Ð; rw [if_neg h1, if_neg h2, if_pos h3]
    have hl2 := (œ (t := σ.t) (by omega)).1
    rw [hr];rw [h3] at hsg;have HS := ħ hsg;clear hsg hmk hR h1 h2 h3 hr;go_enter Tryz.func169, Tryz.ntmps169
    go_wp2_with fail
    refine HS.o.mono ?_;rintro e w1 ⟨rfl, hb⟩;have hR1 := HR.o.on hb;have c1 := hR1.c1;have f1 := hR1.fz 1;have HR1 := ħ hR1;clear hR1;go_wp2;go_ret2;exact ⟨rfl, HR1.o.step' (n := 2) hl2, HR1.o.below_set (Fr.of_below hb) _ _⟩
   ·by_cases h4 : Í σ.t = 114
    ·have hr : Ð σ = .ok (13, σ.adv 2) := by unfold Ð; rw [if_neg h1, if_neg h2, if_neg h3, if_pos h4]
     have hl2 := (œ (t := σ.t) (by omega)).1
     rw [hr];rw [h4] at hsg;have HS := ħ hsg;clear hsg hmk hR h1 h2 h3 h4 hr;go_enter Tryz.func169, Tryz.ntmps169
     go_wp2_with fail
     refine HS.o.mono ?_;rintro e w1 ⟨rfl, hb⟩;have hR1 := HR.o.on hb;have c1 := hR1.c1;have f1 := hR1.fz 1;have HR1 := ħ hR1;clear hR1;go_wp2;go_ret2;exact ⟨rfl, HR1.o.step' (n := 2) hl2, HR1.o.below_set (Fr.of_below hb) _ _⟩
    ·have e1 : ((Í σ.t : Int) == 120) = false := by simp; omega
     have e2 : ((Í σ.t : Int) == 110) = false := by simp; omega
     have e3 : ((Í σ.t : Int) == 116) = false := by simp; omega
     have e4 : ((Í σ.t : Int) == 114) = false := by simp; omega
     cases h5 : ð (Í σ.t) with
     | true =>
      have hl2 := (œ (t := σ.t) (by intro e; rw [e] at h5; simp [ð] at h5)).1
      have hr : Ð σ = .ok (Í σ.t, σ.adv 2) := by unfold Ð; rw [if_neg h1, if_neg h2, if_neg h3, if_neg h4, if_pos h5]
      rw [hr];obtain ⟨c, hc⟩ : ∃ c, c = Í σ.t := ⟨_, rfl⟩;rw [h5] at hmk;rw [← hc] at hmk hsg e1 e2 e3 e4 hlt ⊢;have HS := ħ hsg;clear hsg hR h1 h2 h3 h4 h5 hr hc;go_enter Tryz.func169, Tryz.ntmps169
      go_wp2_with fail
      refine HS.o.mono ?_;rintro e w1 ⟨rfl, hb⟩;have hR1 := HR.o.on hb;have c1 := hR1.c1;have f1 := hR1.fz 1;have HR1 := ħ hR1;clear hR1
      go_wp2_with (go_at_call 192; refine (hmk _).mono ?_; rintro e w' ⟨rfl, rfl⟩)
      go_ret2;exact ⟨rfl, HR1.o.step' (n := 2) hl2, HR1.o.below_set (Fr.of_below hb) _ _⟩
     | false =>
      have hr : Ð σ = .error (21, σ.pos) := by unfold Ð; rw [if_neg h1, if_neg h2, if_neg h3, if_neg h4, if_neg (by rw [h5]; decide)]
      rw [hr];obtain ⟨c, hc⟩ : ∃ c, c = Í σ.t := ⟨_, rfl⟩;rw [h5] at hmk;rw [← hc] at hmk hsg e1 e2 e3 e4 hlt;have HS := ħ hsg;clear hsg hR h1 h2 h3 h4 h5 hr hc;go_enter Tryz.func169, Tryz.ntmps169
      go_wp2_with fail
      refine HS.o.mono ?_;rintro e w1 ⟨rfl, hb⟩;have hR1 := HR.o.on hb;have c1 := hR1.c1;have HR1 := ħ hR1;clear hR1
      go_wp2_with (first | (go_at_call 192; refine (hmk _).mono ?_; rintro e w' ⟨rfl, rfl⟩) | (go_at_call 58; refine (Ò 21 σ.pos HR1.o).mono ?_; rintro e w2 ⟨rfl, hB, hF⟩))
      go_ret2;exact ⟨rfl, hB, (Fr.of_below hb).trans hF⟩
set_option maxRecDepth 100000 in
set_option maxHeartbeats 1000000 in
theorem Çx (hn : σ.t ≠ []) (hR : Rd n₀ rb tb cap s w σ d fc fa bv) : Calls Tryz.prog 186 #[.pointer (some ⟨rb, 0, none⟩)] w (Îw n₀ rb tb cap s d fc fa bv w (Ł σ)) := by
 have hs := ÀJ [92] hR
 rw [Àb 92 _ (by decide)] at hs
 have HR := ħ hR
 by_cases h : at_ σ.t 0 = 92
 ·have hm : Ł σ = Ð σ := by unfold Ł; rw [if_pos h]
  have hd : decide (at_ σ.t 0 = (92 : UInt8).toNat) = true := by simpa using h
  rw [hd] at hs;rw [hm];have H := ħ hs;obtain ⟨r, hr⟩ : ∃ r, r = Ð σ := ⟨_, rfl⟩
  have HE := ħ (fun W (h : Rd n₀ rb tb cap s W σ d fc fa bv) => ÄS h)
  rw [← hr] at HE ⊢;clear hs hR h hm hr hd;go_enter Tryz.func186, Tryz.ntmps186
  go_wp2_with fail
  refine H.o.mono ?_;rintro e w1 ⟨rfl, hb⟩
  go_wp2_with fail
  refine (HE.o _ (HR.o.on hb)).mono ?_;rintro e w2 hP
  cases r with
  | ok x =>
   obtain ⟨rfl, hR2, hF⟩ := hP;have HR2 := ħ hR2;clear hR2;go_wp2;go_ret2;exact ⟨rfl, HR2.o, (Fr.of_below hb).trans hF⟩
  | error f =>
   obtain ⟨rfl, hB, hF⟩ := hP;go_wp2;go_ret2;exact ⟨rfl, hB, (Fr.of_below hb).trans hF⟩
 ·have hm : Ł σ = .ok ((nx σ.t).1, σ.adv (nx σ.t).2) := by unfold Ł; rw [if_neg h]
  have hd : decide (at_ σ.t 0 = (92 : UInt8).toNat) = false := by simpa using h
  rw [hd] at hs;rw [hm];have H := ħ hs
  have HE := ħ (fun W (h : Rd n₀ rb tb cap s W σ d fc fa bv) => Çu hn h)
  obtain ⟨u, hu⟩ : ∃ u, u = (nx σ.t).1 := ⟨_, rfl⟩;rw [← hu] at HE ⊢;clear hs hR h hm hu hd;go_enter Tryz.func186, Tryz.ntmps186
  go_wp2_with fail
  refine H.o.mono ?_;rintro e w1 ⟨rfl, hb⟩
  go_wp2_with fail
  refine (HE.o _ (HR.o.on hb)).mono ?_;rintro e w2 ⟨rfl, hR2, hF⟩;have HR2 := ħ hR2;clear hR2;go_wp2;go_ret2;exact ⟨rfl, HR2.o, (Fr.of_below hb).trans hF⟩
end
section
open Go.RowKit
open Go.Proofs.YtpginkdkblmnbaaGreatDoor.Cl (Rg à Ý Ä Ĩ Rt ò ÂC ÁB ÁT ü ņ)
variable {n₀ rb tb cap d : Nat} {s : List UInt8} {w w' : World} {σ σ1 : St} {fc fa : Int} {bv v : Value} {l : List Rg}
def ÊT (w : World) (b : Nat) : Prop := ∃ cs z, w.heap[b]? = some (.cells cs 164 z)
def ţ (w : World) (v : Value) (l : List Rg) : Prop := Đ (ÊT w) w v l
theorem ÊT.keep {b : Nat} (h : ÊT w b) (hk : w'.heap[b]? = w.heap[b]?) : ÊT w' b := by
 obtain ⟨cs, z, h⟩ := h;exact ⟨cs, z, hk.trans h⟩
theorem ÊT.lt {b : Nat} (h : ÊT w b) : b < w.heap.size := by
 obtain ⟨cs, z, h⟩ := h;exact ä h
theorem ţ.nil (w : World) : ţ w (.slice none 0 0) [] := Đ.nil _ _
theorem ţ.on (h : ţ w v l) (hb : Below w.heap.size w w') : ţ w' v l := Đ.keep h fun b hb' => ⟨hb'.keep (hb.block b hb'.lt), hb.block b hb'.lt⟩
theorem ţ.alloc (h : ţ w v l) (o : Obj) : ţ (w.alloc o) v l := h.on ((ā _ _).alloc (ŋ _) o)
theorem ţ.fr (h : ţ w v l) (hR : Rd n₀ rb tb cap s w σ d fc fa bv) (hF : Fr n₀ rb w w') : ţ w' v l := Đ.keep h fun b hb => by
 obtain ⟨cs, z, hh⟩ := hb
 have hs := hF.same (okB.of_type hh (by decide) (Â hh hR.blk (by decide)))
 exact ⟨⟨cs, z, hs.trans hh⟩, hs⟩
theorem ţ.far (h : ţ w v l) {g o : Nat} {t : TypeId} {cs : Array Value} {z : Nat × Nat} (hg : w.heap[g]? = some (.cells cs t z)) (ht : t ≠ 164) (u : Value) : ţ (w.setCell ⟨g, o, none⟩ u) v l := Đ.keep h fun b hb => by
 obtain ⟨cs', z', hh⟩ := hb;have hs := Below.heap_setCell w ⟨g, o, none⟩ u b (Â hh hg (Ne.symm ht));exact ⟨⟨cs', z', hs.trans hh⟩, hs⟩
def KB (n₀ rb : Nat) (a w : World) (b : Nat) : Prop := okB n₀ rb w b ∧ (a.heap.size ≤ b ∨ ÊT w b)
theorem ţ.ok (h : ţ w v l) (hR : Rd n₀ rb tb cap s w σ d fc fa bv) {a : World} : Đ (KB n₀ rb a w) w v l := Đ.keep h fun b hb => by
 obtain ⟨cs, z, hh⟩ := hb
 exact ⟨⟨okB.of_type hh (by decide) (Â hh hR.blk (by decide)), .inr ⟨cs, z, hh⟩⟩, rfl⟩
theorem Ê.fr {a : World} {nd : Nd} {sv kv : Value} (h : Ê (KB n₀ rb a w) w nd sv kv) (hF : Fr n₀ rb w w') : Ê (KB n₀ rb a w') w' nd sv kv :=
 h.keep fun _ hb => ⟨⟨hF.ok hb.1, hb.2.imp id (fun h => h.keep (hF.same hb.1))⟩, hF.same hb.1⟩
theorem Ê.low {a a' : World} {nd : Nd} {sv kv : Value} (h : Ê (KB n₀ rb a w) w nd sv kv) (ha : a'.heap.size ≤ a.heap.size) : Ê (KB n₀ rb a' w) w nd sv kv :=
 h.keep fun _ hb => ⟨⟨hb.1, hb.2.imp (fun h => ē ha h) id⟩, rfl⟩
theorem ţ.setV (h : ţ w v l) : à w.heap.size w v l := Đ.to_setV (Đ.keep h fun _ hb => ⟨hb.lt, rfl⟩)
theorem ţ.of_own {base : Nat} (h : Cl.Own w base 164 v l) : ţ w v l := by
 have hs := h.set;obtain ⟨A, c, rfl, hc, hx⟩ := hs
 refine ⟨A, c, rfl, hc, fun hl => ?_⟩
 obtain ⟨b, off, rfl, _, ht⟩ := hx hl;refine ⟨b, off, rfl, ?_, ht⟩;have h0 : w.ownsRow base 164 2 (.slice (some ⟨b, off, none⟩) l.length c) l.length (Ä l) := h
 rcases h0.2 with ⟨hv, _⟩ | ⟨g, c', cur, hv, _, hh, _⟩
 ·cases hv
 ·injection hv with e1
  injection e1 with e1
  injection e1 with e1
  subst e1;exact ⟨cur, _, hh⟩
theorem ſ (w : World) (cs : Array Value) (l : List Rg) (n : Nat) (hn : n = l.length) (h : cs.toList = Ä l) : ţ (w.alloc (.cells cs 164)) (.slice (some ⟨w.heap.size, 0, none⟩) n n) l := by
 subst hn
 refine ⟨_, _, rfl, ŋ _, fun _ => ⟨_, 0, rfl, ⟨cs, _, heap_alloc_new w _⟩, fun i r hi => ?_⟩⟩
 have hb : Blk (w.alloc (.cells cs 164)) w.heap.size 164 cs := Blk.new w 164 cs;have hg := ü l i r hi;rw [← h] at hg;rw [ĉ, hb.cell, hb.cell];simpa using hg
def ÄT (w : World) (r : Option (List Rg)) (e : Ending) (w' : World) : Prop :=
 match r with
 | some l => ∃ v, e = .returned (.tuple #[v, .bool true]) ∧ ţ w' v l ∧ Below w.heap.size w w'
 | none => e = .returned (.tuple #[.slice none 0 0, .bool false]) ∧ Below w.heap.size w w'
theorem ÉA (W : World) : Calls Tryz.prog 190 #[.int .u8 100] W (ÄT W (some [(48, 57)])) := by
 go_enter Tryz.func190, Tryz.ntmps190;go_wp2;go_ret2;exact ⟨_, rfl, ſ W #[.int .i64 48, .int .i64 57] _ _ rfl rfl, (ā _ _).alloc (ŋ _) _⟩
theorem ÊU (W : World) : Calls Tryz.prog 190 #[.int .u8 68] W (ÄT W (some (ò 0 [(48, 57)]))) := by
 have hN : Ĩ [(48, 57)] := by simp [Ĩ, Rt]
 have HN := ħ hN;clear hN;go_enter Tryz.func190, Tryz.ntmps190
 go_wp2_with fail
 refine (ÁB _ [(48, 57)] _ (by decide) (ſ W #[.int .i64 48, .int .i64 57] _ 1 rfl rfl).setV HN.o).mono ?_
 rintro e w1 ⟨v1, rfl, hO, hb⟩;have HO := ħ (ţ.of_own hO);clear hO;go_wp2;go_ret2
 exact ⟨_, rfl, HO.o, ((ā _ _).alloc (ŋ _) _).trans (hb.mono (by simp))⟩
theorem ÉB (W : World) : Calls Tryz.prog 190 #[.int .u8 119] W (ÄT W (some [(48, 57), (65, 90), (95, 95), (97, 122)])) := by
 go_enter Tryz.func190, Tryz.ntmps190;go_wp2;go_ret2;exact ⟨_, rfl, ſ W #[.int .i64 48, .int .i64 57, .int .i64 65, .int .i64 90, .int .i64 95, .int .i64 95, .int .i64 97, .int .i64 122] _ _ rfl rfl, (ā _ _).alloc (ŋ _) _⟩
theorem ÊV (W : World) : Calls Tryz.prog 190 #[.int .u8 87] W (ÄT W (some (ò 0 [(48, 57), (65, 90), (95, 95), (97, 122)]))) := by
 have hN : Ĩ [(48, 57), (65, 90), (95, 95), (97, 122)] := by simp [Ĩ, Rt]
 have HN := ħ hN;clear hN;go_enter Tryz.func190, Tryz.ntmps190
 go_wp2_with fail
 refine (ÁB _ [(48, 57), (65, 90), (95, 95), (97, 122)] _ (by decide) (ſ W #[.int .i64 48, .int .i64 57, .int .i64 65, .int .i64 90, .int .i64 95, .int .i64 95, .int .i64 97, .int .i64 122] _ 4 rfl rfl).setV HN.o).mono ?_
 rintro e w1 ⟨v1, rfl, hO, hb⟩;have HO := ħ (ţ.of_own hO);clear hO;go_wp2;go_ret2
 exact ⟨_, rfl, HO.o, ((ā _ _).alloc (ŋ _) _).trans (hb.mono (by simp))⟩
theorem ÉC (W : World) : Calls Tryz.prog 190 #[.int .u8 115] W (ÄT W (some [(9, 13), (32, 32)])) := by
 go_enter Tryz.func190, Tryz.ntmps190;go_wp2;go_ret2;exact ⟨_, rfl, ſ W #[.int .i64 9, .int .i64 13, .int .i64 32, .int .i64 32] _ _ rfl rfl, (ā _ _).alloc (ŋ _) _⟩
theorem ÊW (W : World) : Calls Tryz.prog 190 #[.int .u8 83] W (ÄT W (some (ò 0 [(9, 13), (32, 32)]))) := by
 have hN : Ĩ [(9, 13), (32, 32)] := by simp [Ĩ, Rt]
 have HN := ħ hN;clear hN;go_enter Tryz.func190, Tryz.ntmps190
 go_wp2_with fail
 refine (ÁB _ [(9, 13), (32, 32)] _ (by decide) (ſ W #[.int .i64 9, .int .i64 13, .int .i64 32, .int .i64 32] _ 2 rfl rfl).setV HN.o).mono ?_
 rintro e w1 ⟨v1, rfl, hO, hb⟩;have HO := ħ (ţ.of_own hO);clear hO;go_wp2;go_ret2
 exact ⟨_, rfl, HO.o, ((ā _ _).alloc (ŋ _) _).trans (hb.mono (by simp))⟩
theorem Èq (c : Nat) (W : World) (h : ¬ (c = 100 ∨ c = 68) ∧ ¬ (c = 119 ∨ c = 87) ∧ ¬ (c = 115 ∨ c = 83)) : Calls Tryz.prog 190 #[.int .u8 (c : Nat)] W (ÄT W none) := by
 have e0 : ((c : Int) == 100) = false := by simp; omega
 have e1 : ((c : Int) == 68) = false := by simp; omega
 have e2 : ((c : Int) == 119) = false := by simp; omega
 have e3 : ((c : Int) == 87) = false := by simp; omega
 have e4 : ((c : Int) == 115) = false := by simp; omega
 have e5 : ((c : Int) == 83) = false := by simp; omega
 clear h;go_enter Tryz.func190, Tryz.ntmps190;go_wp2;go_ret2;exact ⟨rfl, ā _ _⟩
theorem ÄU (c : Nat) (W : World) : Calls Tryz.prog 190 #[.int .u8 (c : Nat)] W (ÄT W (units c)) := by
 by_cases h1 : c = 100 ∨ c = 68
 ·rcases h1 with rfl | rfl
  ·exact ÉA W
  ·exact ÊU W
 ·by_cases h2 : c = 119 ∨ c = 87
  ·rcases h2 with rfl | rfl
   ·exact ÉB W
   ·exact ÊV W
  ·by_cases h3 : c = 115 ∨ c = 83
   ·rcases h3 with rfl | rfl
    ·exact ÉC W
    ·exact ÊW W
   ·have e : units c = none := by simp [units, Ť, h1, h2, h3]
    rw [e];exact Èq c W ⟨h1, h2, h3⟩
def ÐH (n₀ rb tb cap : Nat) (s : List UInt8) (d : Nat) (fc fa : Int) (bv : Value) (σ : St) (w : World) (r : Option (List Rg)) (e : Ending) (w' : World) : Prop :=
 match r with
 | some l => ∃ v, e = .returned (.tuple #[v, .bool true]) ∧ ţ w' v l ∧ Rd n₀ rb tb cap s w' (σ.adv 2) d fc fa bv ∧ Fr n₀ rb w w'
 | none => e = .returned (.tuple #[.slice none 0 0, .bool false]) ∧ Below w.heap.size w w'
set_option maxRecDepth 100000 in
set_option maxHeartbeats 1000000 in
theorem Ãj (hR : Rd n₀ rb tb cap s w σ d fc fa bv) : Calls Tryz.prog 168 #[.pointer (some ⟨rb, 0, none⟩)] w (ÐH n₀ rb tb cap s d fc fa bv σ w (units (Í σ.t))) := by
 have hsg := ÂD hR;have hu := ÄU (Í σ.t);have hp := hR.pos;have ht := hR.tl;have hl := hR.len;have HR := ħ hR
 have hl2 : ∀ l, units (Í σ.t) = some l → 2 ≤ σ.t.length := fun l h => (œ (Ãp h)).1
 obtain ⟨c, hc⟩ : ∃ c, c = Í σ.t := ⟨_, rfl⟩;rw [← hc] at hsg hu hl2 ⊢;obtain ⟨r, hr⟩ : ∃ r, r = units c := ⟨_, rfl⟩;rw [← hr] at hu hl2 ⊢;have HS := ħ hsg;have HU := ħ hu;have HL := ħ hl2;clear hsg hu hR hc hl2 hr;go_enter Tryz.func168, Tryz.ntmps168
 go_wp2_with fail
 refine HS.o.mono ?_;rintro e w1 ⟨rfl, hb⟩
 go_wp2_with fail
 refine (HU.o _).mono ?_;rintro e w2 hP;have hR1 := HR.o.on hb
 cases r with
 | some l =>
  obtain ⟨v, rfl, hS, hb2⟩ := hP;have hl2 := HL.o l rfl;have hR2 := hR1.on hb2;have c1 := hR2.c1;have f1 := hR2.fz 1;have HR2 := ħ hR2;have HSS := ħ hS;clear hR2 hR1 hS;go_wp2;go_ret2
  exact ⟨_, rfl, HSS.o.far HR2.o.blk (by decide) _, HR2.o.step' (n := 2) hl2, HR2.o.below_set ((Fr.of_below hb).trans (Fr.of_below hb2)) _ _⟩
 | none =>
  obtain ⟨rfl, hb2⟩ := hP;clear hR1;go_wp2;go_ret2;exact ⟨rfl, hb.trans (hb2.mono hb.size)⟩
set_option maxRecDepth 100000 in
set_option maxHeartbeats 1000000 in
theorem Îx (h : ¬ (49 ≤ Í σ.t ∧ Í σ.t ≤ 57)) (hR : Rd n₀ rb tb cap s w σ d fc fa bv) :
 Calls Tryz.prog 167 #[.pointer (some ⟨rb, 0, none⟩)] w fun e w' => e = .returned (.tuple #[.int .i64 0, .bool false]) ∧ Below w.heap.size w w' := by
 have hsg := ÂD hR;have hd := ç (Í σ.t);obtain ⟨c, hc⟩ : ∃ c, c = Í σ.t := ⟨_, rfl⟩;rw [← hc] at hsg hd h;have HS := ħ hsg;clear hsg hR hc
 by_cases h0 : c = 48
 ·subst h0
  have e : dig 48 = true := by decide
  rw [e] at hd;clear e h;go_enter Tryz.func167, Tryz.ntmps167
  go_wp2_with fail
  refine HS.o.mono ?_;rintro e w1 ⟨rfl, hb⟩
  go_wp2_with (go_at_call 189; refine (hd _).mono ?_; rintro e w' ⟨rfl, rfl⟩)
  go_ret2;exact ⟨rfl, hb⟩
 ·have e : dig c = false := by simp [dig]; omega
  rw [e] at hd;clear e h;go_enter Tryz.func167, Tryz.ntmps167
  go_wp2_with fail
  refine HS.o.mono ?_;rintro e w1 ⟨rfl, hb⟩
  go_wp2_with (go_at_call 189; refine (hd _).mono ?_; rintro e w' ⟨rfl, rfl⟩)
  go_ret2;exact ⟨rfl, hb⟩
set_option maxRecDepth 100000 in
set_option maxHeartbeats 1000000 in
theorem ÌT (h : 49 ≤ Í σ.t ∧ Í σ.t ≤ 57) (hR : Rd n₀ rb tb cap s w σ d fc fa bv) :
 Calls Tryz.prog 167 #[.pointer (some ⟨rb, 0, none⟩)] w fun e w' => e = .returned (.tuple #[.int .i64 (Í σ.t - 48 : Nat), .bool true]) ∧ Rd n₀ rb tb cap s w' (σ.adv 2) d fc fa bv ∧ Fr n₀ rb w w' := by
 have hsg := ÂD hR;have hd := ç (Í σ.t)
 have hl2 := (œ (t := σ.t) (by omega)).1
 have hp := hR.pos;have ht := hR.tl;have hl := hR.len;have HR := ħ hR;obtain ⟨c, hc⟩ : ∃ c, c = Í σ.t := ⟨_, rfl⟩;rw [← hc] at hsg hd h ⊢;obtain ⟨h1, h2⟩ := h
 have e : dig c = true := by simp [dig]; omega
 have e2 : ((c : Int) == 48) = false := by simp; omega
 rw [e] at hd;have HS := ħ hsg;clear hsg hR hc e;go_enter Tryz.func167, Tryz.ntmps167
 go_wp2_with fail
 refine HS.o.mono ?_;rintro e w1 ⟨rfl, hb⟩;have hR1 := HR.o.on hb;have c1 := hR1.c1;have f1 := hR1.fz 1;have HR1 := ħ hR1;clear hR1
 go_wp2_with (go_at_call 189; refine (hd _).mono ?_; rintro e w' ⟨rfl, rfl⟩)
 go_ret2
 exact ⟨Ī (by omega) rfl, HR1.o.step' (n := 2) hl2, HR1.o.below_set (Fr.of_below hb) _ _⟩
set_option maxRecDepth 100000 in
set_option maxHeartbeats 1000000 in
theorem Èr (hR : Rd n₀ rb tb cap s w σ d fc fa bv) :
 Calls Tryz.prog 187 #[.pointer (some ⟨rb, 0, none⟩)] w fun e w' => e = .returned (.bool (ī σ.t)) ∧ Below w.heap.size w w' := by
 have hen := Áf hR;have HR := ħ hR
 cases hem : σ.t.isEmpty with
 | true =>
  have hs : ī σ.t = false := by simp [ī, hem]
  rw [hem] at hen;rw [hs];have HE := ħ hen;clear hen hR hs hem;go_enter Tryz.func187, Tryz.ntmps187
  go_wp2_with fail
  refine HE.o.mono ?_;rintro e w1 ⟨rfl, hb⟩;go_wp2;go_ret;exact ⟨rfl, hb⟩
 | false =>
  have hn : σ.t ≠ [] := by rintro e; rw [e] at hem; cases hem
  have hlen := Œ hn;have hx := ŷ σ.t 0;have hp := hR.pos;have ht := hR.tl;have hl := hR.len
  have hlt : (σ.pos : Int) < (s.length : Int) := by omega
  have hge : (0 : Int) ≤ (σ.pos : Int) := by omega
  rw [hem] at hen;have HE := ħ hen
  have HC := ħ (fun W (h : Rd n₀ rb tb cap s W σ d fc fa bv) => show W.cell? ⟨tb, σ.pos, none⟩ = some (.int .u8 ((at_ σ.t 0 : Nat) : Int)) by have := h.at_ (j := 0) hlen; rwa [ĉ, Nat.add_zero] at this)
  have HSG := ħ (fun W (h : Rd n₀ rb tb cap s W σ d fc fa bv) => ÂD h)
  by_cases hb : at_ σ.t 0 = 91 ∨ at_ σ.t 0 = 93 ∨ at_ σ.t 0 = 45
  ·have hs : ī σ.t = false := by simp [ī, hb]
   rw [hs];obtain ⟨c, hc⟩ : ∃ c, c = at_ σ.t 0 := ⟨_, rfl⟩;rw [← hc] at hb hx HC;clear hen hR hs hem hn hc
   rcases hb with rfl | rfl | rfl
   all_goals
    go_enter Tryz.func187, Tryz.ntmps187
    go_wp2_with fail
    refine HE.o.mono ?_;rintro e w1 ⟨rfl, hb⟩;have hR1 := HR.o.on hb;have c0 := hR1.c0;have c1 := hR1.c1;have ct := HC.o _ hR1;clear hR1;go_wp2;go_quiet (fail);go_wp2;go_ret;exact ⟨rfl, hb.trans (Below.mono (ÁC _ _) hb.size)⟩
  ·have hs : ī σ.t = (units (Í σ.t)).isNone := by simp [ī, hem, hb]
   rw [hs]
   have e1 : ((at_ σ.t 0 : Int) == 91) = false := by simp; omega
   have e2 : ((at_ σ.t 0 : Int) == 93) = false := by simp; omega
   have e3 : ((at_ σ.t 0 : Int) == 45) = false := by simp; omega
   obtain ⟨c, hc⟩ : ∃ c, c = at_ σ.t 0 := ⟨_, rfl⟩;rw [← hc] at hb hx HC e1 e2 e3;have hu := ÄU (Í σ.t);obtain ⟨g, hg⟩ : ∃ g, g = Í σ.t := ⟨_, rfl⟩;rw [← hg] at hu HSG ⊢;obtain ⟨r, hr⟩ : ∃ r, r = units g := ⟨_, rfl⟩;rw [← hr] at hu ⊢;have HU := ħ hu;clear hen hR hs hem hn hc hu hg hr hb;go_enter Tryz.func187, Tryz.ntmps187
   go_wp2_with fail
   refine HE.o.mono ?_;rintro e w1 ⟨rfl, hb⟩;have hR1 := HR.o.on hb;have c0 := hR1.c0;have c1 := hR1.c1;have ct := HC.o _ hR1;have HR1 := ħ hR1;clear hR1;go_wp2;go_quiet (fail)
   go_wp2_with fail
   refine (HSG.o _ (HR1.o.drewN _)).mono ?_;rintro e w2 ⟨rfl, hb2⟩
   go_wp2_with fail
   refine (HU.o _).mono ?_;rintro e w3 hP;have hbb : Below w.heap.size w w2 := hb.trans ((Below.mono (ÁC _ _) hb.size).trans (hb2.mono hb.size))
   cases r with
   | some l =>
    obtain ⟨v, rfl, _, hb3⟩ := hP;go_wp2;go_ret;exact ⟨rfl, hbb.trans (hb3.mono hbb.size)⟩
   | none =>
    obtain ⟨rfl, hb3⟩ := hP;go_wp2;go_ret;exact ⟨rfl, hbb.trans (hb3.mono hbb.size)⟩
end
section
open Go.RowKit
open Go.Proofs.YtpginkdkblmnbaaGreatDoor.Cl (Rg à Ý Ä Ĩ Rt ò ÂC ÁB ÁT ü ņ)
variable {n₀ rb tb cap d : Nat} {s : List UInt8} {w w' : World} {σ σ1 : St} {fc fa : Int} {bv v : Value} {l : List Rg}
def Ñh (n₀ rb tb cap : Nat) (s : List UInt8) (d : Nat) (fc fa : Int) (bv : Value) (w : World) (r : Except Flt (List Rg × St)) (e : Ending) (w' : World) : Prop :=
 match r with
 | .ok x => ∃ v, e = .returned (.tuple #[v, .bool true]) ∧ ţ w' v x.1 ∧ Rd n₀ rb tb cap s w' x.2 d fc fa bv ∧ Fr n₀ rb w w'
 | .error f => e = .returned (.tuple #[.slice none 0 0, .bool false]) ∧ Bad w' rb f ∧ Fr n₀ rb w w'
theorem ļ (c : UInt8) (b : Bool) (h0 : c ≠ 0) (h : decide (at_ σ.t 0 = c.toNat) = b) (hR : Rd n₀ rb tb cap s w σ d fc fa bv) :
 Calls Tryz.prog 86 #[.pointer (some ⟨rb, 0, none⟩), .string ⟨[c].toArray⟩] w fun e w' => e = .returned (.bool b) ∧ Below w.heap.size w w' := by
 have := ÀJ [c] hR
 rwa [Àb c _ h0, h] at this
set_option maxRecDepth 100000 in
set_option maxHeartbeats 2000000 in
theorem Ès (h : at_ σ.t 0 = 91 ∨ at_ σ.t 0 = 45) (hR : Rd n₀ rb tb cap s w σ d fc fa bv) :
 Calls Tryz.prog 165 #[.pointer (some ⟨rb, 0, none⟩)] w fun e w' => e = .returned (.tuple #[.slice none 0 0, .bool false]) ∧ Bad w' rb (22, σ.pos) ∧ Fr n₀ rb w w' := by
 have HR := ħ hR;have c1 := hR.c1
 rcases h with h | h
 ·have H1 := ħ (ļ 91 true (by decide) (by simp [h]) hR)
  clear hR h;go_enter Tryz.func165, Tryz.ntmps165
  go_wp2_with fail
  refine H1.o.mono ?_;rintro e w1 ⟨rfl, hb⟩
  go_wp2_with fail
  refine (Ò 22 σ.pos (HR.o.on hb)).mono ?_;rintro e w2 ⟨rfl, hB, hF⟩;go_wp2;go_ret2;exact ⟨rfl, hB, (Fr.of_below hb).trans hF⟩
 ·have H1 := ħ (ļ 91 false (by decide) (by simp [h]) hR)
  have H2 := ħ (fun W (hW : Rd n₀ rb tb cap s W σ d fc fa bv) => ļ 45 true (by decide) (by simp [h]) hW)
  clear hR h;go_enter Tryz.func165, Tryz.ntmps165
  go_wp2_with fail
  refine H1.o.mono ?_;rintro e w1 ⟨rfl, hb⟩;have hR1 := ħ (HR.o.on hb)
  go_wp2_with fail
  refine (H2.o _ hR1.o).mono ?_;rintro e w2 ⟨rfl, hb2⟩
  go_wp2_with fail
  refine (Ò 22 σ.pos (hR1.o.on hb2)).mono ?_;rintro e w3 ⟨rfl, hB, hF⟩;go_wp2;go_ret2;exact ⟨rfl, hB, ((Fr.of_below hb).trans (Fr.of_below hb2)).trans hF⟩
set_option maxRecDepth 100000 in
set_option maxHeartbeats 4000000 in
theorem ÊX (hn : σ.t ≠ []) (hR : Rd n₀ rb tb cap s w σ d fc fa bv) : Calls Tryz.prog 165 #[.pointer (some ⟨rb, 0, none⟩)] w (Ñh n₀ rb tb cap s d fc fa bv w (Ú σ)) := by
 by_cases h : at_ σ.t 0 = 91 ∨ at_ σ.t 0 = 45
 ·have e : Ú σ = .error (22, σ.pos) := by unfold Ú; rw [if_pos h]
  rw [e];exact Ès h hR
 have hm : Ú σ = (match units (Í σ.t) with
  | some l => .ok (l, σ.adv 2)
  | none => match Ł σ with
   | .error e => .error e
   | .ok (lo, σ1) =>
    if at_ σ1.t 0 = 45 then
     if ī (σ1.adv 1).t then
      match Ł (σ1.adv 1) with
      | .error e => .error e
      | .ok (hi, σ3) => if hi < lo then .error (22, σ.pos) else .ok ([((lo : Int), (hi : Int))], σ3)
     else .error (22, σ.pos)
    else .ok ([((lo : Int), (lo : Int))], σ1)) := by unfold Ú; rw [if_neg h]; rfl
 have HR := ħ hR;have c1 := hR.c1
 have H1 := ħ (ļ 91 false (by decide) (by simp; omega) hR)
 have H2 := ħ (fun W (hW : Rd n₀ rb tb cap s W σ d fc fa bv) => ļ 45 false (by decide) (by simp; omega) hW)
 have HS := ħ (fun W (hW : Rd n₀ rb tb cap s W σ d fc fa bv) => Ãj hW)
 have HU := ħ (fun W (hW : Rd n₀ rb tb cap s W σ d fc fa bv) => Çx hn hW)
 obtain ⟨r, hr⟩ : ∃ r, r = Ú σ := ⟨_, rfl⟩;rw [← hr] at hm ⊢;have HM := ħ hm
 have hlo := fun u σ1 (h : Ł σ = .ok (u, σ1)) => ÂP h hn
 obtain ⟨ru, hru⟩ : ∃ ru, ru = units (Í σ.t) := ⟨_, rfl⟩;obtain ⟨rm, hrm⟩ : ∃ rm, rm = Ł σ := ⟨_, rfl⟩;rw [← hru] at HS HM;rw [← hrm] at HU HM hlo;have HL := ħ hlo;clear hR h hm hr hn hru hrm hlo;go_enter Tryz.func165, Tryz.ntmps165
 go_wp2_with fail
 refine H1.o.mono ?_;rintro e w1 ⟨rfl, hb1⟩;have hR1 := ħ (HR.o.on hb1)
 go_wp2_with fail
 refine (H2.o _ hR1.o).mono ?_;rintro e w2 ⟨rfl, hb2⟩;have hR2 := ħ (hR1.o.on hb2);have hbb : Below w.heap.size w w2 := hb1.trans (hb2.mono hb1.size)
 go_wp2_with fail
 refine (HS.o _ hR2.o).mono ?_;rintro e w3 hP
 cases ru with
 | some l =>
  obtain ⟨v, rfl, hS, hR3, hF⟩ := hP;have HP := ħ (And.intro hS (And.intro hR3 hF));clear hS hR3 hF;have hm := HM.o;simp only at hm;subst hm;go_wp2;go_ret2;exact ⟨_, rfl, HP.o.1, HP.o.2.1, (Fr.of_below hbb).trans HP.o.2.2⟩
 | none =>
  obtain ⟨rfl, hb3⟩ := hP;have hR3 := ħ (hR2.o.on hb3)
  replace hbb : Below w.heap.size w w3 := hbb.trans (hb3.mono hbb.size)
  go_wp2_with fail
  refine (HU.o _ hR3.o).mono ?_;rintro e w4 hP
  cases rm with
  | error f =>
   obtain ⟨rfl, hB, hF⟩ := hP;have hm := HM.o;simp only at hm;subst hm;go_wp2;go_ret2;exact ⟨rfl, hB, (Fr.of_below hbb).trans hF⟩
  | ok x =>
   obtain ⟨lo, σa⟩ := x;obtain ⟨rfl, hR4, hF⟩ := hP;have hlo := (HL.o lo σa rfl).2.1
   replace hF := (Fr.of_below hbb).trans hF
   have hm := HM.o;simp only at hm hR4;have HR4 := ħ hR4;clear hR4 HM HL
   by_cases c45 : at_ σa.t 0 = 45
   ·rw [if_pos c45] at hm
    have hT := ħ (Ļ [45] (by rw [Àb 45 _ (by decide)]; simpa using c45) HR4.o)
    have hl1 := Œ (Àf (t := σa.t) (by omega))
    clear c45;have HM := ħ hm;clear hm
    go_wp2_with fail
    refine hT.o.mono ?_;rintro e w5 ⟨rfl, hR5, hF5⟩
    replace hR5 : Rd n₀ rb tb cap s w5 (σa.adv 1) d fc fa bv := hR5
    have HSU := ħ (Èr hR5);have HR5 := ħ hR5
    replace hF := hF.trans hF5
    clear hR5 hF5;obtain ⟨bs, hbs⟩ : ∃ bs, bs = ī (σa.adv 1).t := ⟨_, rfl⟩;rw [← hbs] at HSU HM
    cases bs with
    | false =>
     clear hbs;have hm := HM.o
     rw [if_neg (by decide)] at hm
     subst hm
     go_wp2_with fail
     refine HSU.o.mono ?_;rintro e w6 ⟨rfl, hb6⟩;have c1 := (HR5.o.on hb6).c1
     go_wp2_with fail
     refine (Ò 22 σ.pos (HR5.o.on hb6)).mono ?_;rintro e w7 ⟨rfl, hB, hF7⟩;go_wp2;go_ret2;exact ⟨rfl, hB, (hF.trans (Fr.of_below hb6)).trans hF7⟩
    | true =>
     have hn2 := ÄE hbs.symm;clear hbs;have hm := HM.o;rw [if_pos rfl] at hm
     have HU2 := ħ (fun W (hW : Rd n₀ rb tb cap s W (σa.adv 1) d fc fa bv) => Çx hn2 hW)
     have hl2 := fun u σ1 (h : Ł (σa.adv 1) = .ok (u, σ1)) => ÂP h hn2
     obtain ⟨rm, hrm⟩ : ∃ rm, rm = Ł (σa.adv 1) := ⟨_, rfl⟩;rw [← hrm] at HU2 hm hl2;clear HM hn2 hrm;have HM := ħ hm;have HL := ħ hl2;clear hm hl2
     go_wp2_with fail
     refine HSU.o.mono ?_;rintro e w6 ⟨rfl, hb6⟩
     go_wp2_with fail
     refine (HU2.o _ (HR5.o.on hb6)).mono ?_;rintro e w7 hP
     replace hF := hF.trans (Fr.of_below hb6)
     cases rm with
     | error f =>
      obtain ⟨rfl, hB, hF7⟩ := hP;have hm := HM.o;simp only at hm;subst hm;go_wp2;go_ret2;exact ⟨rfl, hB, hF.trans hF7⟩
     | ok y =>
      obtain ⟨hi, σb⟩ := y;obtain ⟨rfl, hR7, hF7⟩ := hP;have hhi := (HL.o hi σb rfl).2.1
      replace hF := hF.trans hF7
      have hm := HM.o;simp only at hm hR7;have c1 := hR7.c1;have HR7 := ħ hR7;clear hR7 HM HL
      by_cases hlt : hi < lo
      ·rw [if_pos hlt] at hm
       subst hm
       have hlt' : (hi : Int) < (lo : Int) := by omega
       go_wp2_with fail
       refine (Ò 22 σ.pos HR7.o).mono ?_;rintro e w8 ⟨rfl, hB, hF8⟩;go_wp2;go_ret2;exact ⟨rfl, hB, hF.trans hF8⟩
      ·rw [if_neg hlt] at hm
       subst hm
       have hlt' : ¬ (hi : Int) < (lo : Int) := by omega
       go_wp2;go_ret2;exact ⟨_, rfl, ſ _ #[.int .i64 (lo : Nat), .int .i64 (hi : Nat)] _ _ rfl rfl, HR7.o.alloc _, hF.alloc _⟩
   ·rw [if_neg c45] at hm
    have hT := ħ (Ŷ [45] (by rw [Àb 45 _ (by decide)]; simpa using c45) HR4.o)
    clear c45;subst hm
    go_wp2_with fail
    refine hT.o.mono ?_;rintro e w5 ⟨rfl, hb5⟩;go_wp2;go_ret2;exact ⟨_, rfl, ſ _ #[.int .i64 (lo : Nat), .int .i64 (lo : Nat)] _ _ rfl rfl, (HR4.o.on hb5).alloc _, (hF.trans (Fr.of_below hb5)).alloc _⟩
end
section
open Go.RowKit
open Go.Proofs.YtpginkdkblmnbaaGreatDoor.Cl (Rg à Ý Ä Ĩ Rt ò ÂC ÁB ÁT ü ņ Ãx í Á)
variable {n₀ rb tb cap d : Nat} {s : List UInt8} {w w' : World} {σ σ1 : St} {fc fa : Int} {bv v : Value} {l : List Rg}
theorem ÏE (w : World) (g : Nat) (hg : g = w.heap.size) (cs : Array Value) (l : List Rg) (n : Nat) (hn : n = l.length) (h : cs.toList = Ä l) : ţ (w.alloc (.cells cs 164)) (.slice (some ⟨g, 0, none⟩) n n) l := by
 subst hg;exact ſ w cs l n hn h
theorem Ìd (u : Nat) (W : World) : Calls Tryz.prog 146 #[.int .i64 (u : Nat)] W fun e w' => ∃ sv, e = .returned (.agg #[.int .i64 1, .int .i64 0, .int .i64 0, .int .i64 0, .int .i64 0, sv, .slice none 0 0]) ∧ ţ w' sv [((u : Int), (u : Int))] ∧ Below W.heap.size W w' := by
 go_enter Tryz.func146, Tryz.ntmps146;go_wp2
 exact bodyPost_ret (v := .agg #[.int .i64 1, .int .i64 0, .int .i64 0, .int .i64 0, .int .i64 0, .slice (some ⟨W.heap.size + 1, 0, none⟩) 1 1, .slice none 0 0]) (by simp [results, Tryz.results146, go_sem]) rfl
  ⟨_, rfl, ÏE _ _ (by simp) #[.int .i64 (u : Nat), .int .i64 (u : Nat)] _ _ rfl rfl, ((ā _ _).alloc (ŋ _) _).alloc (by simp) _⟩
theorem ÏF (W : World) : Calls Tryz.prog 145 #[] W fun e w' => ∃ sv, e = .returned sv ∧ ţ w' sv [(0, 9), (11, 1114367)] ∧ Below W.heap.size W w' := by
 go_enter Tryz.func145, Tryz.ntmps145;go_wp2;go_ret;exact ⟨_, rfl, ſ _ #[.int .i64 0, .int .i64 9, .int .i64 11, .int .i64 1114367] _ _ rfl rfl, (ā _ _).alloc (ŋ _) _⟩
def ÃW (nd : Nd) (sv kv : Value) : Value := .agg #[.int .i64 nd.kind, .int .i64 nd.lo, .int .i64 nd.hi, .int .i64 nd.mode, .int .i64 nd.ref, sv, kv]
def zeros : Array Value := #[.int .i64 0, .int .i64 0, .int .i64 0, .int .i64 0, .int .i64 0, .slice none 0 0, .slice none 0 0]
def ÄV (n₀ rb tb cap : Nat) (s : List UInt8) (d : Nat) (fc fa : Int) (w : World) (r : R) (e : Ending) (w' : World) : Prop :=
 match r with
 | .ok x => ∃ sv kv bv, e = .returned (.tuple #[ÃW x.1 sv kv, .bool true]) ∧ Ê (KB n₀ rb w w') w' x.1 sv kv ∧ Rd n₀ rb tb cap s w' x.2 d fc fa bv ∧ Fr n₀ rb w w'
 | .error f => e = .returned (.tuple #[.agg zeros, .bool false]) ∧ Bad w' rb f ∧ Fr n₀ rb w w'
theorem Blk.zero (h : Blk w n₀ 27 zeros) : w.cell? ⟨n₀, 0, none⟩ = some (.int .i64 0) ∧ w.cell? ⟨n₀, 1, none⟩ = some (.int .i64 0) ∧ w.cell? ⟨n₀, 2, none⟩ = some (.int .i64 0) ∧ w.cell? ⟨n₀, 3, none⟩ = some (.int .i64 0) ∧ w.cell? ⟨n₀, 4, none⟩ = some (.int .i64 0) ∧
 w.cell? ⟨n₀, 5, none⟩ = some (.slice none 0 0) ∧ w.cell? ⟨n₀, 6, none⟩ = some (.slice none 0 0) :=
 ⟨h.cell 0, h.cell 1, h.cell 2, h.cell 3, h.cell 4, h.cell 5, h.cell 6⟩
def st7 (w : World) (g : Nat) (c0 c1 c2 c3 c4 c5 c6 : Value) : World :=
 (((((((w.setCell ⟨g, 0, none⟩ c0).setCell ⟨g, 1, none⟩ c1).setCell ⟨g, 2, none⟩ c2).setCell ⟨g, 3, none⟩ c3).setCell ⟨g, 4, none⟩ c4).setCell ⟨g, 5, none⟩ c5).setCell ⟨g, 6, none⟩ c6)
section
variable {g : Nat} {t : TypeId} {x0 x1 x2 x3 x4 x5 x6 c0 c1 c2 c3 c4 c5 c6 : Value}
theorem É (h : Blk w g t #[x0, x1, x2, x3, x4, x5, x6]) : Blk (st7 w g c0 c1 c2 c3 c4 c5 c6) g t #[c0, c1, c2, c3, c4, c5, c6] := by
 have := ((((((h.set_ 0 c0).set_ 1 c1).set_ 2 c2).set_ 3 c3).set_ 4 c4).set_ 5 c5).set_ 6 c6;simpa [st7] using this
theorem Àr {i : Nat} (h : i ≠ g) : (st7 w g c0 c1 c2 c3 c4 c5 c6).heap[i]? = w.heap[i]? := by
 unfold st7
 repeat rw [Below.heap_setCell _ _ _ _ h]
theorem Æk : (st7 w g c0 c1 c2 c3 c4 c5 c6).heap.size = w.heap.size := by simp [st7, World.setCell]
theorem ÊY (w : World) (a : Addr) (u : Value) : (w.setCell a u).os = w.os := rfl
theorem Èt (w : World) (a : Addr) (u : Value) : (w.setCell a u).tape = w.tape := rfl
theorem Æl (w : World) (a : Addr) (u : Value) : (w.setCell a u).output = w.output := rfl
theorem ÐI : (st7 w g c0 c1 c2 c3 c4 c5 c6).os = w.os := by unfold st7; simp only [ÊY]
theorem Îy : (st7 w g c0 c1 c2 c3 c4 c5 c6).tape = w.tape := by unfold st7; simp only [Èt]
theorem ÊZ : (st7 w g c0 c1 c2 c3 c4 c5 c6).output = w.output := by unfold st7; simp only [Æl]
theorem Rd.st7 (h : Rd n₀ rb tb cap s w σ d fc fa bv) {cs : Array Value} (hg : Blk w g 27 cs) (hn : n₀ ≤ g) : Rd n₀ rb tb cap s (st7 w g c0 c1 c2 c3 c4 c5 c6) σ d fc fa bv :=
 h.keep fun i _ hc => Àr (h.away hg (by decide) (by decide) (by decide) hn i hc)
theorem Fr.st7 {a : World} (h : Fr n₀ rb a w) (hg : a.heap.size ≤ g) : Fr n₀ rb a (st7 w g c0 c1 c2 c3 c4 c5 c6) :=
 ⟨ÐI.trans h.os, Îy.trans h.tape, ÊZ.trans h.output, by rw [Æk]; exact h.size, fun i hi hc => (Àr (by omega)).trans (h.block i hi hc)⟩
theorem Bad.st7 {f : Flt} (h : Bad w rb f) (hg : rb ≠ g) : Bad (st7 w g c0 c1 c2 c3 c4 c5 c6) rb f := h.keep (Àr hg)
theorem okB.st7 {b : Nat} (h : okB n₀ rb w b) (hb : b ≠ g) : okB n₀ rb (st7 w g c0 c1 c2 c3 c4 c5 c6) b := by
 refine ⟨by rw [Æk]; exact h.1, h.2.imp id (fun ⟨h1, h2⟩ => ⟨h1, fun ⟨cs', z, hh⟩ => h2 ⟨cs', z, ?_⟩⟩)⟩
 rw [← Àr (w := w) (c0 := c0) (c1 := c1) (c2 := c2) (c3 := c3) (c4 := c4) (c5 := c5) (c6 := c6) hb];exact hh
theorem Ê.st7 {a : World} {nd : Nd} {sv kv : Value} (h : Ê (KB n₀ rb a w) w nd sv kv) {cs : Array Value} (hg : Blk w g 27 cs) (ha : g < a.heap.size) : Ê (KB n₀ rb a (st7 w g c0 c1 c2 c3 c4 c5 c6)) (st7 w g c0 c1 c2 c3 c4 c5 c6) nd sv kv :=
 h.keep fun b hb => by
  have hne : b ≠ g := by
   rcases hb.2 with h1 | ⟨_, _, h1⟩
   ·omega
   ·exact Â h1 hg (by decide)
  exact ⟨⟨hb.1.st7 hne, hb.2.imp id (fun h => h.keep (Àr hne))⟩, Àr hne⟩
theorem Ç {fn : Func} {Q : Ending → World → Prop} {a : Act} {b : Value} (hres : fn.results = #[.cell 2 27, .tmp 3]) (h2 : a.tmps.getD 2 undef = .pointer (some ⟨g, 0, none⟩)) (h3 : a.tmps.getD 3 undef = b) (hd : a.defers = [])
 (hB : Blk w g 27 #[c0, c1, c2, c3, c4, c5, c6]) (hQ : Q (.returned (.tuple #[.agg #[c0, c1, c2, c3, c4, c5, c6], b])) w) : bodyPost Tryz.prog fn Q Exit.ret a w := by
 have k0 := hB.cell 0;have k1 := hB.cell 1;have k2 := hB.cell 2;have k3 := hB.cell 3;have k4 := hB.cell 4;have k5 := hB.cell 5;have k6 := hB.cell 6;simp at k0 k1 k2 k3 k4 k5 k6;rw [Array.getD_eq_getD_getElem?] at h2 h3;refine bodyPost_ret (v := .tuple #[.agg #[c0, c1, c2, c3, c4, c5, c6], b]) ?_ hd hQ;simp [results, hres, go_sem, h2, h3, k0, k1, k2, k3, k4, k5, k6]
end
end
section
open Go.RowKit
open Go.Proofs.YtpginkdkblmnbaaGreatDoor.Cl (Rg à Ý Ä Ĩ Rt ò ÂC ÁB ÁT ü ņ Ãx í Á)
variable {n₀ rb tb cap d : Nat} {s : List UInt8} {w w' : World} {σ σ1 : St} {fc fa : Int} {bv v : Value} {l : List Rg}
def ÐJ (rm : Except Flt (List Rg × St)) : R := match rm with | .error e => .error e | .ok (l, σ1) => .ok (Âa l, σ1)
theorem ţ.st7 {g : Nat} {cs : Array Value} {c0 c1 c2 c3 c4 c5 c6 : Value} (h : ţ w v l) (hg : Blk w g 27 cs) : ţ (st7 w g c0 c1 c2 c3 c4 c5 c6) v l := Đ.keep h fun b hb => by
 obtain ⟨cs', z, hh⟩ := hb
 have hs := Àr (w := w) (c0 := c0) (c1 := c1) (c2 := c2) (c3 := c3) (c4 := c4) (c5 := c5) (c6 := c6) (Â hh hg (by decide))
 exact ⟨⟨cs', z, hs.trans hh⟩, hs⟩
theorem ÏG {l : List Rg} (h : l ≠ []) : 1 ≤ l.length := by cases l <;> simp_all
def Ñi (n₀ rb tb cap : Nat) (s : List UInt8) (d : Nat) (fc fa : Int) (bv : Value) (op : Nat) (neg : Bool) (w : World) (r : Except Flt (List Rg × St)) (g : Nat) (m : Value) (wr : World) : Prop :=
 ∃ (k : Nat) (acc : List Rg) (σ' : St), σ'.t.length ≤ g ∧ σ'.t.length + 1 ≤ k ∧ acc.length + 5 * σ'.t.length ≤ 5 * s.length ∧ Ģ op neg k acc σ' = r ∧ Cl.Own wr (w.heap.size + 1) 164 m acc ∧ (∀ x ∈ acc, Rt x) ∧
  Rd n₀ rb tb cap s wr σ' d fc fa bv ∧ Fr n₀ rb w wr ∧ Blk wr w.heap.size 27 zeros
set_option maxRecDepth 100000 in
set_option maxHeartbeats 4000000 in
theorem Èu (hc : at_ σ.t 0 = 91) (hR : Rd n₀ rb tb cap s w σ d fc fa bv) : Calls Tryz.prog 143 #[.pointer (some ⟨rb, 0, none⟩)] w (ÄV n₀ rb tb cap s d fc fa w (Ğ σ)) := by
 have c1 := (hR.alloc (.cells zeros 27)).c1;unfold zeros at c1
 have hl0 := Œ (Àf (t := σ.t) (by omega))
 have ht := hR.tl
 have HT1 := ħ (fun W (hW : Rd n₀ rb tb cap s W σ d fc fa bv) => Ļ [91] (by rw [Àb 91 _ (by decide)]; simpa using hc) hW)
 have HR := ħ hR;obtain ⟨rm, hrm⟩ : ∃ rm, rm = Ģ σ.pos (ÅA σ) 300 [] (é σ) := ⟨_, rfl⟩
 have hbr : Ğ σ = ÐJ rm := by rw [hrm]; rfl
 obtain ⟨r, hr⟩ : ∃ r, r = Ğ σ := ⟨_, rfl⟩;rw [← hr] at hbr ⊢;have HBR := ħ hbr;have HRM := ħ hrm;clear hbr hr hrm hR hc;obtain ⟨i0, hi, hz0, hz1, hz2⟩ := Á Cl.info46;go_enter Tryz.func143, Tryz.ntmps143
 go_wp2_with fail
 refine (HT1.o _ (HR.o.alloc _)).mono ?_;rintro e w1 ⟨rfl, hR1, hF1⟩
 replace hR1 : Rd n₀ rb tb cap s w1 (σ.adv 1) d fc fa bv := hR1
 have hB1 := hF1.blk (HR.o.alloc _) (Blk.new w 27 zeros) (by decide) (by decide)
 replace hF1 : Fr n₀ rb w w1 := ((Fr.refl w).alloc (.cells zeros 27)).trans hF1
 have HR1 := ħ hR1;clear hR1;obtain ⟨neg, hneg⟩ : ∃ neg, neg = ÅA σ := ⟨_, rfl⟩
 have key : Calls Tryz.prog 55 #[.pointer (some ⟨rb, 0, none⟩), .string ⟨[94].toArray⟩] w1 fun e w' => e = .returned (.bool neg) ∧ Rd n₀ rb tb cap s w' (é σ) d fc fa bv ∧ Fr n₀ rb w1 w' := by
  unfold é;rw [← hneg]
  cases neg with
  | true =>
   have : at_ (σ.adv 1).t 0 = 94 := by simpa [ÅA] using hneg.symm
   exact (Ļ [94] (by rw [Àb 94 _ (by decide)]; simpa using this) HR1.o).mono fun _ _ h => h
  | false =>
   have : ¬ at_ (σ.adv 1).t 0 = 94 := by simpa [ÅA] using hneg.symm
   exact (Ŷ [94] (by rw [Àb 94 _ (by decide)]; simpa using this) HR1.o).mono fun _ _ ⟨h1, h2⟩ => ⟨h1, HR1.o.on h2, Fr.of_below h2⟩
 have hbl : (é σ).t.length ≤ σ.t.length - 1 := by
  unfold é;split
  ·rw [ã, ã]; omega
  ·rw [ã]; omega
 have KEY := ħ key;rw [← hneg] at HRM;clear key hneg;obtain ⟨σ0, hσ0⟩ : ∃ σ0, σ0 = é σ := ⟨_, rfl⟩;rw [← hσ0] at HRM KEY hbl;clear hσ0
 go_wp2_with fail
 refine KEY.o.mono ?_;rintro e w2 ⟨rfl, hR2, hF2⟩
 have hB2 := hF2.blk HR1.o hB1 (by decide) (by decide)
 replace hF1 := hF1.trans hF2
 have hpos := HR.o.pos;have hl := HR.o.len
 have h0 : Ñi n₀ rb tb cap s d fc fa bv σ.pos neg w rm s.length (.slice none 0 0) w2 :=
  ⟨300, [], σ0, by omega, by omega, by simp; omega, HRM.o.symm, Cl.Own.nil _ _ _, by simp, hR2, hF1, hB2⟩
 have H0 := ħ h0;clear h0 hR2 hF2 hB1 hB2 hF1 hbl hpos;go_wp2
 go_loopg [6] s.length (fun g m wr => Ñi n₀ rb tb cap s d fc fa bv σ.pos neg w rm g m wr)
 case atStart => exact H0.o
 case round =>
  clear H0 HRM KEY HT1 c1;obtain ⟨k, acc, σ', hg, hk, hacc, hmem, hown, hRt, hRr, hFr, hBr⟩ := hrel
  obtain ⟨k, rfl⟩ : ∃ k', k = k' + 1 := ⟨k - 1, by omega⟩
  rw [Ģ] at hmem;have hlenw : w.heap.size < wr.heap.size := hBr.lt;obtain ⟨A6, cp6, rfl, hcp6, hx6⟩ := id hown.set;clear hx6;have HRR := ħ hRr;have HO := ħ hown;have HF := ħ hFr;have HBk := ħ hBr;have HRT := ħ hRt;have HME := ħ hmem;have hRd := hRr;clear hRr hown hFr hBr hRt hmem
  by_cases c93 : at_ σ'.t 0 = 93
  ·have HS := ħ (ļ 93 true (by decide) (by simpa using c93) hRd)
   have hm := HME.o;rw [if_pos c93] at hm;have hS0 := ħ (ţ.of_own HO.o)
   by_cases hacc0 : acc = []
   ·subst hacc0
    rw [if_pos (show ([] : List Rg).isEmpty = true from rfl)] at hm
    have hr := HBR.o;rw [← hm] at hr;subst hr;clear hm HBR HME hRd c93
    go_wp2_with fail
    refine HS.o.mono ?_;rintro e w3 ⟨rfl, hb3⟩
    go_wp2_with fail
    refine (Ò 22 σ.pos (HRR.o.on hb3)).mono ?_;rintro e w5 ⟨rfl, hB, hF5⟩
    have hB5 := hF5.blk (HRR.o.on hb3) (HBk.o.on hb3) (by decide) (by decide)
    have hz := hB5.zero;have hfz := hB5.frozen;go_wp2
    exact Ç rfl rfl rfl rfl (É hB5) ⟨rfl, hB.st7 (by have := HR.o.blk.lt; omega), (((HF.o.trans (Fr.of_below hb3))).trans hF5).st7 (ŋ _)⟩
   ·have hne := ÏG hacc0
    rw [if_neg (by simpa using hacc0)] at hm
    have hr := HBR.o;rw [← hm] at hr;have HBR := ħ hr
    have hT := ħ (fun W (hW : Rd n₀ rb tb cap s W σ' d fc fa bv) => Ļ [93] (by rw [Àb 93 _ (by decide)]; simpa using c93) hW)
    have hl5 : acc.length ≤ 5 * 256 := by omega
    have HMK := ħ (Ãx HRT.o)
    have hne' : ((acc.length : Int) == 0) = false := by simp; omega
    clear hm HME hRd c93 hr hacc0
    go_wp2_with fail
    refine HS.o.mono ?_;rintro e w3 ⟨rfl, hb3⟩;have hR3 := ħ (HRR.o.on hb3);have hB3 := ħ (HBk.o.on hb3);have hS3 := ħ (hS0.o.on hb3)
    go_wp2_with fail
    refine (hT.o _ hR3.o).mono ?_;rintro e w4 ⟨rfl, hR4', hF4⟩;have hR4 : Hid (Rd n₀ rb tb cap s w4 (σ'.adv 1) d fc fa bv) := ħ hR4'
    have hB4 := ħ (hF4.blk hR3.o hB3.o (by decide) (by decide))
    have hS4 := ħ (hS3.o.fr hR3.o hF4);have hF := (HF.o.trans (Fr.of_below hb3)).trans hF4;clear hR4'
    go_wp2_with fail
    refine (ÁT _ acc _ (by omega) HRT.o hS4.o.setV).mono ?_
    rintro e w5 ⟨v5, rfl, hO5, hb5⟩;obtain ⟨A5, p5, rfl, hp5, hx5⟩ := id hO5.set;clear hp5 hx5;have hS5 := ħ (ţ.of_own hO5);have hR5 := ħ (hR4.o.on hb5);have hB5 := ħ (hB4.o.on hb5)
    replace hF := hF.trans (Fr.of_below hb5)
    clear hO5
    cases neg with
    | false =>
     have hr := HBR.o
     rw [if_neg (by decide)] at hr
     subst hr;have hz := hB5.o.zero;have hfz := hB5.o.frozen;go_wp2
     exact Ç rfl rfl rfl rfl (É hB5.o) ⟨_, _, bv, rfl, Ê.leaf ((hS5.o.st7 hB5.o).ok (hR5.o.st7 hB5.o HR.o.size)) (by have := HMK.o.2; omega), hR5.o.st7 hB5.o HR.o.size, hF.st7 (ŋ _)⟩
    | true =>
     have hr := HBR.o;rw [if_pos rfl] at hr;subst hr
     go_wp2_with fail
     refine (ÁB _ (ť acc) _ (by have := HMK.o.2; omega) hS5.o.setV HMK.o.1).mono ?_
     rintro e w6 ⟨v6, rfl, hO6, hb6⟩;obtain ⟨A7, p7, rfl, hp7, hx7⟩ := id hO6.set;clear hp7 hx7;have hS6 := ħ (ţ.of_own hO6);have hR6 := ħ (hR5.o.on hb6);have hB6 := ħ (hB5.o.on hb6)
     replace hF := hF.trans (Fr.of_below hb6)
     clear hO6;have hz := hB6.o.zero;have hfz := hB6.o.frozen;go_wp2
     exact Ç rfl rfl rfl rfl (É hB6.o) ⟨_, _, bv, rfl, Ê.leaf ((hS6.o.st7 hB6.o).ok (hR6.o.st7 hB6.o HR.o.size)) (by have := HMK.o.2; have := Cl.gaps_len (ť acc) 0; omega), hR6.o.st7 hB6.o HR.o.size, hF.st7 (ŋ _)⟩
  ·have HS := ħ (ļ 93 false (by decide) (by simpa using c93) hRd)
   have hm := HME.o;rw [if_neg c93] at hm
   cases he : σ'.t.isEmpty with
   | true =>
    rw [if_pos he] at hm;have hr := HBR.o;rw [← hm] at hr;subst hr
    have HE := ħ (fun W (hW : Rd n₀ rb tb cap s W σ' d fc fa bv) => by have := Áf hW; rw [he] at this; exact this)
    clear hm HBR HME hRd he c93
    go_wp2_with fail
    refine HS.o.mono ?_;rintro e w3 ⟨rfl, hb3⟩;have hR3 := ħ (HRR.o.on hb3)
    go_wp2_with fail
    refine (HE.o _ hR3.o).mono ?_;rintro e w4 ⟨rfl, hb4⟩
    go_wp2_with fail
    refine (Ò 22 σ.pos (hR3.o.on hb4)).mono ?_;rintro e w5 ⟨rfl, hB, hF5⟩
    have hB5 := hF5.blk (hR3.o.on hb4) ((HBk.o.on hb3).on hb4) (by decide) (by decide)
    have hz := hB5.zero;have hfz := hB5.frozen;go_wp2
    exact Ç rfl rfl rfl rfl (É hB5) ⟨rfl, hB.st7 (by have := HR.o.blk.lt; omega), ((((HF.o.trans (Fr.of_below hb3)).trans (Fr.of_below hb4)).trans hF5)).st7 (ŋ _)⟩
   | false =>
    have hn : σ'.t ≠ [] := by rintro e; rw [e] at he; cases he
    rw [if_neg (by rw [he]; decide)] at hm
    have HE := ħ (fun W (hW : Rd n₀ rb tb cap s W σ' d fc fa bv) => by have := Áf hW; rw [he] at this; exact this)
    have HMb := ħ (fun W (hW : Rd n₀ rb tb cap s W σ' d fc fa bv) => ÊX hn hW)
    have hml := fun l σa (h : Ú σ' = .ok (l, σa)) => Áj h hn
    obtain ⟨rx, hrx⟩ : ∃ rx, rx = Ú σ' := ⟨_, rfl⟩;rw [← hrx] at hm HMb hml;have HM := ħ hm;have HML := ħ hml;clear hm HME hRd he c93 hn hrx hml
    go_wp2_with fail
    refine HS.o.mono ?_;rintro e w3 ⟨rfl, hb3⟩;have hR3 := ħ (HRR.o.on hb3);have hB3 := ħ (HBk.o.on hb3);have hO3 : Hid (Cl.Own w3 (w.heap.size + 1) 164 (.slice A6 acc.length cp6) acc) := ħ (HO.o.below hb3)
    go_wp2_with fail
    refine (HE.o _ hR3.o).mono ?_;rintro e w4 ⟨rfl, hb4⟩;have hR4 := ħ (hR3.o.on hb4);have hB4 := ħ (hB3.o.on hb4);have hO4 : Hid (Cl.Own w4 (w.heap.size + 1) 164 (.slice A6 acc.length cp6) acc) := ħ (hO3.o.below hb4);have hF := (HF.o.trans (Fr.of_below hb3)).trans (Fr.of_below hb4)
    go_wp2_with fail
    refine (HMb.o _ hR4.o).mono ?_;rintro e w5 hP
    cases rx with
    | error f =>
     obtain ⟨rfl, hB, hF5⟩ := hP;have hr := HBR.o;have hm := HM.o;simp only at hm;rw [← hm] at hr;subst hr
     have hB5 := hF5.blk hR4.o hB4.o (by decide) (by decide)
     have hz := hB5.zero;have hfz := hB5.frozen
     replace hF := hF.trans hF5
     clear hm;go_wp2
     exact Ç rfl rfl rfl rfl (É hB5) ⟨rfl, hB.st7 (by have := HR.o.blk.lt; omega), hF.st7 (ŋ _)⟩
    | ok y =>
     obtain ⟨lm, σa⟩ := y;obtain ⟨vm, rfl, hSm, hR5, hF5⟩ := hP;obtain ⟨A8, p8, rfl, hp8, hx8⟩ := id hSm;clear hp8 hx8;obtain ⟨m1, m2, m3, _⟩ := HML.o lm σa rfl
     have hB5 := ħ (hF5.blk hR4.o hB4.o (by decide) (by decide))
     have hO5 : Hid (Cl.Own w5 (w.heap.size + 1) 164 (.slice A6 acc.length cp6) acc) := ħ (Þ hO4.o fun i hi => by
      have h0 : w4.ownsRow (w.heap.size + 1) 164 2 (.slice A6 acc.length cp6) acc.length (Ä acc) := hO4.o
      rcases h0.2 with ⟨hv, _⟩ | ⟨g, c', cur, hv, _, hh, _⟩
      ·rw [hv] at hi; simp [Value.ownBlock] at hi
      ·rw [hv] at hi
       have : i = g := by simpa [Value.ownBlock] using hi
       subst this
       exact hF5.same (okB.of_type hh (by decide) (Â hh hR4.o.blk (by decide))))
     replace hF := hF.trans hF5
     have hSV := ħ (ţ.setV hSm);have HR5 := ħ hR5;have HM2 := ħ (And.intro m2 (And.intro HM.o HRT.o));have hsz5 : w.heap.size + 1 ≤ w5.heap.size := hB5.o.lt
     have hl5 : acc.length + lm.length ≤ 5 * 256 := by omega
     clear hSm hR5 m2 HM HRT hF5
     go_wp2_with (at_builtin; refine í _ rfl _ _ 24 rfl (w.heap.size + 1) 164 i0 (.agg #[.int .i64 0, .int .i64 0]) 16 Tryz.underlying24 hi hz0 hz1 hz2 rfl _ _ rfl hO5.o _ _ _ rfl hSV.o (by unfold maxLen; omega) (by omega) hsz5 ?_; intro v' w6 hown' hgrow)
     go_roundg σa.t.length
     case measure => omega
     case rel =>
      have h0 : w5.ownsRow (w.heap.size + 1) 164 2 (.slice A6 acc.length cp6) acc.length (Ä acc) := hO5.o
      refine ⟨k, acc ++ lm, σa, ŋ _, by omega, by rw [ă]; omega, HM2.o.2.1, hown', ?_, HR5.o.grown h0 (by decide) (by decide) (by decide) (by have := HR.o.size; omega) hgrow, hF.grown hgrow (fun k hk => by have := (h0.lt k hk).1; omega), hB5.o.grown hgrow (fun e => Ń h0 hB5.o (by decide) e.symm)⟩
      intro x hx
      rcases List.mem_append.1 hx with hx | hx
      ·exact HM2.o.2.2 x hx
      ·exact HM2.o.1 x hx
end
section
open Go.RowKit
open Go.Proofs.YtpginkdkblmnbaaGreatDoor.Cl (Rg à Ý Ä Ĩ Rt ò ü ņ ı Á Ŭ)
variable {n₀ rb tb cap d : Nat} {s : List UInt8} {w w' w2 : World} {σ σ1 : St} {fc fa : Int} {bv v : Value} {l : List Rg}
theorem Åp (c : UInt8) (t : List UInt8) (hc : c ≠ 0) : pre [92, c] t = decide (Í t = c.toNat) := by
 have hc' : ¬ (0 : Nat) = c.toNat := fun e => hc (by apply UInt8.toNat_inj.1; simpa using e.symm)
 match t with
 | [] => simp [pre, Í, Ão, hc']
 | [a] =>
  have e1 : at_ [a] 1 = 0 := Ãl (by simp)
  have e0 : at_ [a] 0 = a.toNat := rfl;simp [pre, List.isPrefixOf, Í, e1, hc']
 | a :: b :: r =>
  have e1 : at_ (a :: b :: r) 1 = b.toNat := rfl;have e0 : at_ (a :: b :: r) 0 = a.toNat := rfl;rw [Bool.eq_iff_iff, decide_eq_true_eq];simp only [pre, List.isPrefixOf, Bool.and_true, Bool.and_eq_true, beq_iff_eq, Í, e0, e1]
  have ha : (92 : UInt8) = a ↔ a.toNat = 92 := ⟨fun e => by rw [← e]; rfl, fun e => (UInt8.toNat_inj.1 (by simpa using e)).symm⟩
  rw [ha]
  by_cases h : a.toNat = 92
  ·rw [if_pos h]
   exact ⟨fun x => by rw [x.2], fun x => ⟨h, (UInt8.toNat_inj.1 x).symm⟩⟩
  ·rw [if_neg h]
   exact ⟨fun x => absurd x.1 h, fun x => absurd x hc'⟩
theorem Ðn (l : List (Nat × Nat)) : Âg l = Ä (l.map fun x => ((x.1 : Int), (x.2 : Int))) := by
 simp [Âg, Ä, List.flatMap_map]
theorem Îz {base : Nat} {l : List (Nat × Nat)} (h : w.ownsRow base 140 2 v l.length (Âg l)) : Cl.Own w base 140 v (l.map fun x => ((x.1 : Int), (x.2 : Int))) := by
 unfold Cl.Own;rw [List.length_map, ← Ðn];exact h
theorem ÐK {base : Nat} {l : List (Nat × Nat)} (h : Cl.Own w base 140 v (l.map fun x => ((x.1 : Int), (x.2 : Int)))) : w.ownsRow base 140 2 v l.length (Âg l) := by
 unfold Cl.Own at h
 rwa [List.length_map, ← Ðn] at h
theorem ÐL : (Tryz.prog.info? 140).map (fun i => (i.zero, i.size, i.bytes)) = some (some (.agg #[.int .i64 0, .int .i64 0]), 2, 16) := by kernel_rfl
theorem ÁV (hR : Rd n₀ rb tb cap s w σ d fc fa bv) (hg : w.grownBy w2 bv.ownBlock) {i : Nat} (hi : i < w.heap.size) (hc : i < n₀ ∨ ¬ ÊA w i) : w2.heap[i]? = w.heap[i]? :=
 hg.block i hi (by
  rcases hR.own.2 with ⟨rfl, _⟩ | ⟨g, c, cur, rfl, hb, hh, _⟩
  ·simp [Value.ownBlock]
  ·intro e
   have : i = g := by simpa [Value.ownBlock] using e
   subst this
   rcases hc with hc | hc
   ·omega
   ·exact hc ⟨cur, _, hh⟩)
theorem ÂV {i : Nat} {t : TypeId} {cs : Array Value} {z : Nat × Nat} (h : w.heap[i]? = some (.cells cs t z)) (ht : t ≠ 140) : ¬ ÊA w i := fun ⟨_, _, hh⟩ => Â h hh ht rfl
theorem Rd.push (hR : Rd n₀ rb tb cap s w σ d fc fa bv) (hg : w.grownBy w2 bv.ownBlock) {x : Nat × Nat} {v' : Value} (hO : w2.ownsRow n₀ 140 2 v' (σ.bk ++ [x]).length (Âg (σ.bk ++ [x]))) (hl : σ.bk.length + 1 ≤ σ.pos) :
 Rd n₀ rb tb cap s (w2.setCell ⟨rb, 4, none⟩ v') { pos := σ.pos, t := σ.t, g := σ.g, bk := σ.bk ++ [x] } d fc fa v' := by
 have hb : Blk w2 rb 84 _ := (ÁV hR hg hR.blk.lt (.inr (ÂV hR.blk (by decide)))).trans hR.blk
 have hb4 := hb.set_ 4 v';obtain ⟨ct, zt, ht⟩ := hR.tok
 have htr : tb ≠ rb := fun e => Â ht hR.blk (by decide) e
 have hk : ∀ i, i ≠ rb → i < w.heap.size → (i < n₀ ∨ ¬ ÊA w i) → (w2.setCell ⟨rb, 4, none⟩ v').heap[i]? = w.heap[i]? := fun i h1 h2 h3 => (Below.heap_setCell _ _ _ _ h1).trans (ÁV hR hg h2 h3)
 have htb := hk tb htr (ä ht) (.inr (ÂV ht (by decide)))
 have hs := hR.size;have hlow := hR.low;have h1 := hR.tabs.1
 refine ⟨by simpa using hb4, fun j hj => (Ì htb _).trans (hR.txt j hj), ⟨ct, zt, htb.trans ht⟩, hR.len, ?_, hR.pos, hR.suf, ⟨hR.bnd.1, hR.bnd.2.1, by simpa using hl⟩, hR.low, ?_⟩
 ·exact Þ hO fun _ hi => Below.heap_setCell _ _ _ _ (fun e => Ń hO hb (by decide) (by rw [← hi, e]))
 ·exact ⟨h1, fun c hc => (Ì (hk 2 (by omega) (by omega) (.inl (by omega))) c).trans (hR.tabs.2.1 c hc),
   fun i hi => ⟨(Ì (hk 3 (by omega) (by omega) (.inl h1)) _).trans (hR.tabs.2.2 i hi).1, (Ì (hk 3 (by omega) (by omega) (.inl h1)) _).trans (hR.tabs.2.2 i hi).2⟩⟩
theorem Çy {base n : Nat} {e : TypeId} {v : Value} {xs : List Value} {size : Nat} (h : w.ownsRow base e size v n xs) (hn : 0 < n) : ∃ g c, v = .slice (some ⟨g, 0, none⟩) n c := by
 rcases h.2 with ⟨_, h0⟩ | ⟨g, c, _, hv, _⟩
 ·omega
 ·exact ⟨g, c, hv⟩
theorem ÏH {base a p : Nat} {l : List (Nat × Nat)} (h : Cl.Own w base 140 v ((l.map fun x => ((x.1 : Int), (x.2 : Int))) ++ [((a : Int), (p : Int))])) : w.ownsRow base 140 2 v (l ++ [(a, p)]).length (Âg (l ++ [(a, p)])) :=
 ÐK (by rw [Ĕ]; exact h)
theorem ÎA {base : Nat} {x : Nat × Nat} {l : List (Nat × Nat)} {xs : List Value} (h : w.ownsRow base 140 2 v (l ++ [x]).length xs) : ∃ g c, v = .slice (some ⟨g, 0, none⟩) (l.length + 1) c := by
 obtain ⟨g, c, hv⟩ := Çy h (by simp)
 exact ⟨g, c, by rw [hv, ă]; rfl⟩
theorem Fr.push (hR : Rd n₀ rb tb cap s w σ d fc fa bv) (hg : w.grownBy w2 bv.ownBlock) : Fr n₀ rb w w2 :=
 ⟨hg.os, hg.tape, hg.output, hg.size, fun _ hi hc => ÁV hR hg hi (hc.imp id (fun h => h.2))⟩
theorem ÌU (hR : Rd n₀ rb tb cap s w σ d fc fa bv) (hg : w.grownBy w2 bv.ownBlock) : w2.cell? ⟨rb, 4, none⟩ = some bv ∧ w2.frozen? ⟨rb, 4, none⟩ = false := by
 have hb : Blk w2 rb 84 _ := (ÁV hR hg hR.blk.lt (.inr (ÂV hR.blk (by decide)))).trans hR.blk
 exact ⟨hb.cell 4, hb.frozen 4⟩
theorem ÌV (hR : Rd n₀ rb tb cap s w σ d fc fa bv) (hg : w.grownBy w2 bv.ownBlock) {g : Nat} (hB : Blk w g 27 zeros) : ∀ u, Blk (w2.setCell ⟨rb, 4, none⟩ u) g 27 zeros := fun u => by
 have hb : Blk w2 g 27 zeros := (ÁV hR hg hB.lt (.inr (ÂV hB (by decide)))).trans hB
 exact hb.far (p := ⟨rb, 4, none⟩) (Â hB hR.blk (by decide)) u
set_option maxRecDepth 100000 in
set_option maxHeartbeats 4000000 in
theorem Ëa (hR : Rd n₀ rb tb cap s w σ d fc fa bv) : Calls Tryz.prog 144 #[.pointer (some ⟨rb, 0, none⟩)] w (ÄV n₀ rb tb cap s d fc fa w (ó σ)) := by
 have c1 := (hR.alloc (.cells zeros 27)).c1;have c1' := hR.c1;unfold zeros at c1;have hrl := hR.blk.lt;have HB0 := ħ (Blk.new w 27 zeros);have HR0 := ħ (hR.alloc (.cells zeros 27));have HF0 : Hid (Fr n₀ rb w (w.alloc (.cells zeros 27))) := ħ ((Fr.refl w).alloc _);have HR := ħ hR
 by_cases h1 : Í σ.t = 98
 ·have hr : ó σ = .ok (Áw 2, σ.adv 2) := by unfold ó; rw [if_pos h1]
  rw [hr]
  have HT := ħ (Ļ [92, 98] (by rw [Åp 98 _ (by decide)]; simpa using h1) HR0.o)
  clear hR h1 hr;go_enter Tryz.func144, Tryz.ntmps144
  go_wp2_with fail
  refine HT.o.mono ?_;rintro e w1 ⟨rfl, hR1, hF1⟩
  have hB1 := hF1.blk HR0.o HB0.o (by decide) (by decide)
  have hz := hB1.zero;have hfz := hB1.frozen;have HR1 : Hid (Rd n₀ rb tb cap s w1 (σ.adv 2) d fc fa bv) := ħ hR1;clear hR1;go_wp2
  exact Ç rfl rfl rfl rfl (É hB1) ⟨_, _, bv, rfl, Ê.leaf (Đ.nil _ _) (by simp), HR1.o.st7 hB1 HR.o.size, (HF0.o.trans hF1).st7 (ŋ _)⟩
 ·have HN1 := ħ (Ŷ [92, 98] (by rw [Åp 98 _ (by decide)]; simpa using h1) HR0.o)
  by_cases h2 : Í σ.t = 66
  ·have hr : ó σ = .ok (Áw 3, σ.adv 2) := by unfold ó; rw [if_neg h1, if_pos h2]
   rw [hr]
   have HT := ħ (fun W (hW : Rd n₀ rb tb cap s W σ d fc fa bv) => Ļ [92, 66] (by rw [Åp 66 _ (by decide)]; simpa using h2) hW)
   clear hR h1 h2 hr;go_enter Tryz.func144, Tryz.ntmps144
   go_wp2_with fail
   refine HN1.o.mono ?_;rintro e w1 ⟨rfl, hb1⟩;have hR1 := ħ (HR0.o.on hb1);have hB1 := ħ (HB0.o.on hb1)
   go_wp2_with fail
   refine (HT.o _ hR1.o).mono ?_;rintro e w2 ⟨rfl, hR2, hF2⟩
   have hB2 := hF2.blk hR1.o hB1.o (by decide) (by decide)
   have hz := hB2.zero;have hfz := hB2.frozen;have HR2 : Hid (Rd n₀ rb tb cap s w2 (σ.adv 2) d fc fa bv) := ħ hR2;clear hR2;go_wp2
   exact Ç rfl rfl rfl rfl (É hB2) ⟨_, _, bv, rfl, Ê.leaf (Đ.nil _ _) (by simp), HR2.o.st7 hB2 HR.o.size, ((HF0.o.trans (Fr.of_below hb1)).trans hF2).st7 (ŋ _)⟩
  ·have HN2 := ħ (fun W (hW : Rd n₀ rb tb cap s W σ d fc fa bv) => Ŷ [92, 66] (by rw [Åp 66 _ (by decide)]; simpa using h2) hW)
   by_cases h3 : 49 ≤ Í σ.t ∧ Í σ.t ≤ 57
   ·have hr : ó σ = .ok (ËJ (Í σ.t - 48), refAt σ) := by unfold ó; rw [if_neg h1, if_neg h2, if_pos h3]
    rw [hr]
    have HG := ħ (fun W (hW : Rd n₀ rb tb cap s W σ d fc fa bv) => ÌT h3 hW)
    have hl2 := (œ (t := σ.t) (by omega)).1
    have hl := hR.len;have hbk := hR.bnd;have hpos := hR.pos;obtain ⟨c, hc⟩ : ∃ c, c = Í σ.t - 48 := ⟨_, rfl⟩;rw [← hc] at HG ⊢;have HC := ħ hc;obtain ⟨i0, hi, hz0, hz1, hz2⟩ := Á ÐL;clear hR h1 h2 h3 hr hc;go_enter Tryz.func144, Tryz.ntmps144
    go_wp2_with fail
    refine HN1.o.mono ?_;rintro e w1 ⟨rfl, hb1⟩;have hR1 := ħ (HR0.o.on hb1);have hB1 := ħ (HB0.o.on hb1)
    go_wp2_with fail
    refine (HN2.o _ hR1.o).mono ?_;rintro e w2 ⟨rfl, hb2⟩;have hR2 := ħ (hR1.o.on hb2);have hB2 := ħ (hB1.o.on hb2)
    go_wp2_with fail
    refine (HG.o _ hR2.o).mono ?_;rintro e w3 ⟨rfl, hR3, hF3⟩
    have hB3 := ħ (hF3.blk hR2.o hB2.o (by decide) (by decide))
    have hF := ((HF0.o.trans (Fr.of_below hb1)).trans (Fr.of_below hb2)).trans hF3;have c4 := hR3.c4;have f4 := hR3.fz 4;have hrl3 := hR3.blk.lt;have hn3 := hR3.size;have hO3 := ħ (Îz (hR3.alloc (.cells #[.int .i64 (c : Nat), .int .i64 (σ.pos : Nat)] 140)).own);have HR3 := ħ hR3
    have hlen3 : (List.map (fun x : Nat × Nat => ((x.1 : Int), (x.2 : Int))) (σ.adv 2).bk).length ≤ 256 := by rw [List.length_map]; show σ.bk.length ≤ 256; omega
    clear hR3 hF3;have HRa := ħ (HR3.o.alloc (.cells #[.int .i64 (c : Nat), .int .i64 (σ.pos : Nat)] 140));have HBa := ħ (hB3.o.alloc (.cells #[.int .i64 (c : Nat), .int .i64 (σ.pos : Nat)] 140))
    go_wp2_with (at_builtin; go_loud (refine ı _ rfl _ _ 82 rfl n₀ 140 i0 (.agg #[.int .i64 0, .int .i64 0]) 16 Tryz.underlying82 hi hz0 hz1 hz2 rfl _ _ rfl hO3.o w3.heap.size 1 ((c : Int), (σ.pos : Int)) rfl (Ŭ _ _ _ _ _ rfl) (by omega) rfl (by simp; omega) ?_; intro v' w4 hown' hgrow; have hO4 := ÏH hown'; clear hown'; obtain ⟨g9, c9, rfl⟩ := ÎA hO4; have HO4 := ħ hO4; clear hO4; obtain ⟨c44, f44⟩ := ÌU HRa.o hgrow; have hB5 := ÌV HRa.o hgrow HBa.o; have hz := fun u => (hB5 u).zero; have hfz := fun u => (hB5 u).frozen))
    have hRf := HRa.o.push hgrow HO4.o (show σ.bk.length + 1 ≤ σ.pos + 2 by omega)
    have hsf : refAt σ = { pos := (σ.adv 2).pos, t := (σ.adv 2).t, g := (σ.adv 2).g, bk := (σ.adv 2).bk ++ [(c, σ.pos)] } := by unfold refAt; rw [← HC.o]; rfl
    rw [← hsf] at hRf
    exact Ç rfl rfl rfl rfl (É (hB5 _)) ⟨_, _, _, rfl, Ê.leaf (Đ.nil _ _) (by simp), hRf.st7 (hB5 _) HR.o.size, (((hF.alloc _).trans (Fr.push HRa.o hgrow)).set_ HR.o.low (.inr rfl) _).st7 (ŋ _)⟩
   ·have HG := ħ (fun W (hW : Rd n₀ rb tb cap s W σ d fc fa bv) => Îx h3 hW)
    have HS := ħ (fun W (hW : Rd n₀ rb tb cap s W σ d fc fa bv) => Ãj hW)
    have HU := ħ (fun W (hW : Rd n₀ rb tb cap s W σ d fc fa bv) => ÄS hW)
    obtain ⟨r, hr⟩ : ∃ r, r = ó σ := ⟨_, rfl⟩
    have he : ó σ = (match units (Í σ.t) with
     | some l => .ok (Âa l, σ.adv 2)
     | none => match Ð σ with
      | .error e => .error e
      | .ok (u, σ1) => .ok (Âa [((u : Int), (u : Int))], σ1)) := by unfold ó; rw [if_neg h1, if_neg h2, if_neg h3]; rfl
    have hul := fun l (h : units (Í σ.t) = some l) => (ÅB h).2
    rw [← hr] at he ⊢;obtain ⟨ru, hru⟩ : ∃ ru, ru = units (Í σ.t) := ⟨_, rfl⟩;obtain ⟨rm, hrm⟩ : ∃ rm, rm = Ð σ := ⟨_, rfl⟩;rw [← hru] at HS he hul;rw [← hrm] at HU he;have HE := ħ he;have HUL := ħ hul;clear hR h1 h2 h3 hr he hru hrm hul;go_enter Tryz.func144, Tryz.ntmps144
    go_wp2_with fail
    refine HN1.o.mono ?_;rintro e w1 ⟨rfl, hb1⟩;have hR1 := ħ (HR0.o.on hb1);have hB1 := ħ (HB0.o.on hb1)
    go_wp2_with fail
    refine (HN2.o _ hR1.o).mono ?_;rintro e w2 ⟨rfl, hb2⟩;have hR2 := ħ (hR1.o.on hb2);have hB2 := ħ (hB1.o.on hb2)
    go_wp2_with fail
    refine (HG.o _ hR2.o).mono ?_;rintro e w3 ⟨rfl, hb3⟩;have hR3 := ħ (hR2.o.on hb3);have hB3 := ħ (hB2.o.on hb3);have hF := ((HF0.o.trans (Fr.of_below hb1)).trans (Fr.of_below hb2)).trans (Fr.of_below hb3)
    go_wp2_with fail
    refine (HS.o _ hR3.o).mono ?_;rintro e w4 hP
    cases ru with
    | some l =>
     obtain ⟨v, rfl, hS, hR4, hF4⟩ := hP;obtain ⟨A4, p4, rfl, hp4, hx4⟩ := id hS;clear hp4 hx4
     have hB4 := hF4.blk hR3.o hB3.o (by decide) (by decide)
     have hz := hB4.zero;have hfz := hB4.frozen;have HP := ħ (And.intro hS (And.intro hR4 (hF.trans hF4)));have he := HE.o;simp only at he;subst he;have hll := HUL.o l rfl;clear hS hR4 hF4 hF;go_wp2
     exact Ç rfl rfl rfl rfl (É hB4) ⟨_, _, bv, rfl, Ê.leaf ((HP.o.1.st7 hB4).ok (HP.o.2.1.st7 hB4 HR.o.size)) (by omega), HP.o.2.1.st7 hB4 HR.o.size, HP.o.2.2.st7 (ŋ _)⟩
    | none =>
     obtain ⟨rfl, hb4⟩ := hP;have hR4 := ħ (hR3.o.on hb4);have hB4 := ħ (hB3.o.on hb4)
     replace hF := hF.trans (Fr.of_below hb4)
     go_wp2_with fail
     refine (HU.o _ hR4.o).mono ?_;rintro e w5 hP
     cases rm with
     | error f =>
      obtain ⟨rfl, hB, hF5⟩ := hP;have he := HE.o;simp only at he;subst he
      have hB5 := hF5.blk hR4.o hB4.o (by decide) (by decide)
      have hz := hB5.zero;have hfz := hB5.frozen;go_wp2
      exact Ç rfl rfl rfl rfl (É hB5) ⟨rfl, hB.st7 (by omega), (hF.trans hF5).st7 (ŋ _)⟩
     | ok y =>
      obtain ⟨u, σa⟩ := y;obtain ⟨rfl, hR5, hF5⟩ := hP;have he := HE.o;simp only at he;subst he
      have hB5 := ħ (hF5.blk hR4.o hB4.o (by decide) (by decide))
      replace hF := hF.trans hF5
      have HR5 : Hid (Rd n₀ rb tb cap s w5 σa d fc fa bv) := ħ hR5;clear hR5 hF5
      go_wp2_with fail
      refine (Ìd u _).mono ?_;rintro e w6 ⟨sv, rfl, hS, hb6⟩;obtain ⟨A4, p4, rfl, hp4, hx4⟩ := id hS;clear hp4 hx4;have hB6 := hB5.o.on hb6;have hz := hB6.zero;have hfz := hB6.frozen;have hR6 := ħ (HR5.o.on hb6);have HS := ħ hS;clear hS;go_wp2
      exact Ç rfl rfl rfl rfl (É hB6) ⟨_, _, bv, rfl, Ê.leaf ((HS.o.st7 hB6).ok (hR6.o.st7 hB6 HR.o.size)) (by simp), hR6.o.st7 hB6 HR.o.size, (hF.trans (Fr.of_below hb6)).st7 (ŋ _)⟩
end
end Go.Proofs.YtpginkdkblmnbaaGreatDoor
