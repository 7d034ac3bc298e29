import Derived.Test.YtpginkdkblmnbaaGreatDoorWMQn
namespace Go.Proofs.YtpginkdkblmnbaaGreatDoor
section
open Go.RowKit
open Go.Proofs.YtpginkdkblmnbaaGreatDoor.Cl (Rg à Ý Ä ò Î Á)
variable {w w' w0 : World} {E : RE} {σ σ1 : St} {I g d c p : Nat} {rv rv' : Value} {refs : List (Nat × Nat)} {f : Flt}
theorem ÎX (w : World) (g : Nat) (hg : g = w.heap.size) (t : TypeId) (cs : Array Value) : Blk (w.alloc (.cells cs t)) g t cs := by
 subst hg;exact Blk.new _ _ _
theorem Ñu {base : Nat} {nd : Nd} {pv kv : Value} {nb : Bool} (hb : E.rb < base) (hF : FrR E w rv w' rv') (h : Ó (KQ base w rv) w nd pv nb kv) : Ó (KQ base w' rv') w' nd pv nb kv := h.keep fun _ hi => hi.step hb hF
theorem Äf {base : Nat} {nd : Nd} {pv kv : Value} {nb : Bool} (o : Obj) (h : Ó (KQ base w rv) w nd pv nb kv) : Ó (KQ base (w.alloc o) rv) (w.alloc o) nd pv nb kv := h.keep fun _ hi => hi.below ((ā _ _).alloc (ŋ _) o)
theorem ÎY {base q o : Nat} {u : Value} {nd : Nd} {pv kv : Value} {nb : Bool} (hq : q < base) (h : Ó (KQ base w rv) w nd pv nb kv) : Ó (KQ base (w.setCell ⟨q, o, none⟩ u) rv) (w.setCell ⟨q, o, none⟩ u) nd pv nb kv := h.keep fun _ hi => hi.far hq
theorem Ða {base : Nat} {nd : Nd} {pv kv : Value} {nb : Bool} (h : Ó (KQ base w rv) w nd pv nb kv) : Ó (KQ base w.drew rv) w.drew nd pv nb kv := Ó.keep (K := KQ base w rv) (K' := KQ base w.drew rv) (w := w) (w' := w.drew) (fun _ hi => ⟨hi, rfl⟩) h
theorem Gd.drew (h : Gd E w σ d rv I refs) : Gd E w.drew σ d rv I refs := h.drewN 1
theorem Êa {d : Nat} {σ : St} {x1 x2 x3 : Int} {σ1 : St} (h : Ş d σ = .ok ((x1, x2, x3), σ1)) (_h40 : at_ σ.t 0 = 40) : (pre [40, 63, 58] σ.t = true ∧ x1 = 0) ∨ (pre [40, 63, 58] σ.t = false ∧ (x1 = 5 ∨ x1 = 7 ∨ x1 = 8)) := by
 unfold Ş at h;split at h
 ·cases h
 ·unfold Ô at h
  cases hp : pre [40, 63, 58] σ.t with
  | true => rw [hp] at h; simp at h; exact .inl ⟨rfl, by omega⟩
  | false =>
   refine .inr ⟨rfl, ?_⟩;rw [hp] at h;simp only [Ċ, if_false] at h;split at h
   ·simp at h; omega
   split at h
   ·simp at h; omega
   split at h
   ·simp at h; omega
   split at h
   ·simp at h; omega
   split at h
   ·simp at h; omega
   split at h
   ·cases h
   split at h
   ·cases h
   ·simp at h; omega
theorem Ëx {d : Nat} {σ : St} {x : Int × Int × Int} {σ1 : St} (h : Ş d σ = .ok (x, σ1)) (h40 : at_ σ.t 0 = 40) : σ1.t.length + 1 ≤ σ.t.length := by
 have hn : σ.t ≠ [] := Àf (by omega)
 have hp := List.length_pos_iff.2 hn;unfold Ş at h;split at h
 ·cases h
 ·unfold Ô at h
  repeat' split at h
  all_goals cases h
  all_goals (simp only [St.adv, Go.Proofs.YtpginkdkblmnbaaGreatDoor.opened, ċ]; omega)
set_option maxRecDepth 100000 in
set_option maxHeartbeats 8000000 in
theorem ÎZ {n : Nat} (hA : ÉZ E n) (h : Gd E w0 σ d rv I refs) (h40 : at_ σ.t 0 = 40) (hG : Gd E w (σ.adv 1) d rv (I + 1) refs) {x1 x2 x3 : Int} {σ1 : St} (ho : Ş d σ = .ok ((x1, x2, x3), σ1)) {y : Nd} {σ2 : St} (hr : run n 0 (d + 1) [] σ1 = .ok (y, σ2)) (hfu : 4 * σ1.t.length + 2 ≤ n) :
 Calls Tryz.prog 108 #[.pointer (some ⟨E.rb, 0, none⟩), .int .i64 (I : Nat)] w (NP E d rv w (ÈC (pre [40, 63, 58] σ.t)) (run (n + 1) 3 d [] σ)) := by
 rw [ÄA, ho]
 dsimp only
 rw [hr]
 dsimp only
 obtain ⟨rr, hrr⟩ : ∃ rr : R, rr = (if at_ σ2.t 0 = 41 then .ok (wrap (x1, x2, x3) y, σ2.adv 1) else .error (20, σ.pos)) := ⟨_, rfl⟩
 obtain ⟨mq, hmq⟩ : ∃ mq, mq = ÈC (pre [40, 63, 58] σ.t) := ⟨_, rfl⟩;rw [← hmq];rw [← hrr];have HRR := ħ hrr;have HMq := ħ hmq;clear hrr hmq
 have h32 : d ≠ 32 := by
  rintro rfl;unfold Ş at ho;rw [if_pos rfl] at ho;cases ho
 have HNE : Hid (∀ k, w.heap.size ≤ k → k ≠ E.rb ∧ k ≠ E.ub ∧ k ≠ E.ab ∧ rv.ownBlock ≠ some k) := ħ (fun k hk => by
  have h1 := hG.sv.blk.lt;have h2 := hG.sv.ub_lt
  refine ⟨by omega, by omega, by omega, fun e => ?_⟩
  have := (hG.sv.own_lt e).1
  omega)
 have hrb := hG.sv.blk.lt;have HKd := ħ (Êa ho h40);have HAt := ħ h.atI;have hd := h.deep;obtain ⟨zn, hzn⟩ : ∃ zn : Array Value, zn = #[.int .i64 0, .int .i64 0, .int .i64 0, .int .i64 0, .int .i64 0, .slice none 0 0, .bool false, .slice none 0 0] := ⟨_, rfl⟩;have HB0a := ħ (Blk.new w 38 zn);have hGa := hG.alloc (.cells zn 38);have HFa := ħ ((FrR.refl (E := E) (rv := rv) w).alloc (.cells zn 38))
 have hsz : (w.alloc (.cells zn 38)).heap.size = w.heap.size + 1 := by simp
 have HO := ħ (ÃB h h40 hGa);rw [ho] at HO;have HRn := ħ hr;subst hzn;clear h hG hGa ho h40 hr;go_enter Tryz.func108, Tryz.ntmps108
 go_upto_region 1 with (fail)
 generalize w.alloc _ = w1 at *
 go_wp2_with fail
 refine HO.o.mono ?_;rintro e w2 ⟨rfl, hF2, I2, hG2⟩
 dsimp only at hG2 ⊢
 have HB02 := ħ (À hF2 HB0a.o (HNE.o _ (by omega)))
 have HF2 := ħ (HFa.o.trans hF2);have hs2 := hF2.size;have HGd2 := ħ hG2;clear hF2 hG2 HO HB0a HFa
 go_upto_region 2 with (fail)
 have HB03 := ħ (HB02.o.alloc (.cells #[.int .i64 x1, .int .i64 0, .int .i64 0, .int .i64 x2, .int .i64 x3, .slice none 0 0, .bool false, .slice none 0 0] 38));have HB63 := ħ (Blk.new w2 38 #[.int .i64 x1, .int .i64 0, .int .i64 0, .int .i64 x2, .int .i64 x3, .slice none 0 0, .bool false, .slice none 0 0]);have HGd3 := ħ (HGd2.o.alloc (.cells #[.int .i64 x1, .int .i64 0, .int .i64 0, .int .i64 x2, .int .i64 x3, .slice none 0 0, .bool false, .slice none 0 0] 38));have HF3 := ħ (HF2.o.alloc (.cells #[.int .i64 x1, .int .i64 0, .int .i64 0, .int .i64 x2, .int .i64 x3, .slice none 0 0, .bool false, .slice none 0 0] 38))
 have hs3 : (w2.alloc (.cells #[.int .i64 x1, .int .i64 0, .int .i64 0, .int .i64 x2, .int .i64 x3, .slice none 0 0, .bool false, .slice none 0 0] 38)).heap.size = w2.heap.size + 1 := by simp
 clear HB02 HGd2 HF2;generalize w2.alloc _ = w3 at *;obtain ⟨b6, hb6⟩ : ∃ b6, b6 = w2.heap.size := ⟨_, rfl⟩;rw [← hb6] at HB63 hs2 hs3 ⊢;clear hb6;obtain ⟨_, _, _, _, c4, _⟩ := HGd3.o.sv.ten;have f4 := HGd3.o.sv.fz 4
 have hdi : (d : Int) ≤ 32 := by omega
 go_upto_region 3 with (fail)
 have HB04 := ħ (HB03.o.far (p := ⟨E.rb, 4, none⟩) (by simp only; omega) (.int .i64 ((d : Int) + 1)))
 have HB64 := ħ (HB63.o.far (p := ⟨E.rb, 4, none⟩) (by simp only; omega) (.int .i64 ((d : Int) + 1)))
 have HGd4 := ħ (HGd3.o.to (d' := d + 1) (by omega) (x := (d : Int) + 1) (by omega))
 have HF4 := ħ (HF3.o.set_ (q := ⟨E.rb, 4, none⟩) (.inl rfl) (.int .i64 ((d : Int) + 1)))
 have hs4 : (w3.setCell ⟨E.rb, 4, none⟩ (.int .i64 ((d : Int) + 1))).heap.size = b6 + 1 := by simp [World.setCell, hs3]
 clear c4 f4 HB03 HB63 HGd3 HF3 hs3;generalize w3.setCell ⟨E.rb, 4, none⟩ (.int .i64 ((d : Int) + 1)) = w4 at *;have HAl := ħ (hA hfu HGd4.o);rw [HRn.o] at HAl
 go_wp2_with fail
 refine HAl.o.mono ?_;rintro e w5 ⟨rv', I5, refs5, A1, n1, p1, nb, A2, p2, rfl, hN5, hF5, hG5⟩
 dsimp only at hN5 hG5 ⊢
 have hs45 := hF5.size
 have hb4 : E.rb < w4.heap.size := by omega
 have HNE' : Hid (∀ k, w.heap.size ≤ k → k < w4.heap.size → k ≠ E.rb ∧ k ≠ E.ub ∧ k ≠ E.ab ∧ rv'.ownBlock ≠ some k) := ħ (fun k hk hk' => Ű hF5 hk' (HNE.o k hk))
 have HB05 := ħ (À hF5 HB04.o (HNE.o _ (by omega)))
 have HB65 := ħ (À hF5 HB64.o (HNE.o _ (by omega)))
 have HF5 := ħ (HF4.o.trans hF5);have hs5 := hF5.size;have HGd5 := ħ hG5;have HN5 := ħ hN5;clear hF5 hG5 hN5 HAl HB04 HB64 HGd4 HF4
 go_upto_region 4 with (fail)
 obtain ⟨kn, hkn⟩ : ∃ kn : Array Value, kn = #[.int .i64 y.kind, .int .i64 y.lo, .int .i64 y.hi, .int .i64 y.mode, .int .i64 y.ref, .slice A1 n1 p1, .bool nb, .slice A2 y.kids.length p2] := ⟨_, rfl⟩;have HB06 := ħ (HB05.o.alloc (.cells kn 38));have HB66 := ħ (HB65.o.alloc (.cells kn 38));have HB76 := ħ (Blk.new w5 38 kn);have HN6 := ħ (Äf (.cells kn 38) HN5.o);have HGd6 := ħ (HGd5.o.alloc (.cells kn 38));have HF6 := ħ (HF5.o.alloc (.cells kn 38))
 have hs6 : (w5.alloc (.cells kn 38)).heap.size = w5.heap.size + 1 := by simp
 have hrb5 := HGd5.o.sv.blk.lt;have HNE7 : Hid (w5.heap.size ≠ E.rb ∧ w5.heap.size ≠ E.ub ∧ w5.heap.size ≠ E.ab ∧ rv'.ownBlock ≠ some w5.heap.size) := ħ (ÁD HGd5.o.sv)
 have HOW : Hid (∀ k, rv'.ownBlock = some k → k < w5.heap.size) := ħ (fun k hk => (HGd5.o.sv.own_lt hk).1)
 subst hkn;clear HB05 HB65 HGd5 HF5 HN5;generalize w5.alloc _ = w6 at *;obtain ⟨b7, hb7⟩ : ∃ b7, b7 = w5.heap.size := ⟨_, rfl⟩;rw [← hb7] at HB76 hs5 hs6 hrb5 hs45 HNE7 HOW ⊢;clear hb7;obtain ⟨_, _, _, _, c4, _⟩ := HGd6.o.sv.ten;have f4 := HGd6.o.sv.fz 4;rw [Int.natCast_add] at c4
 go_upto_region 5 with (fail)
 have HB07 := ħ (HB06.o.far (p := ⟨E.rb, 4, none⟩) (by simp only; omega) (.int .i64 (d : Int)))
 have HB67 := ħ (HB66.o.far (p := ⟨E.rb, 4, none⟩) (by simp only; omega) (.int .i64 (d : Int)))
 have HB77 := ħ (HB76.o.far (p := ⟨E.rb, 4, none⟩) (by simp only; omega) (.int .i64 (d : Int)))
 have HGd7 := ħ (HGd6.o.to (d' := d) (by omega) (x := (d : Int)) rfl)
 have HN7 := ħ (ÎY (q := E.rb) (o := 4) (u := .int .i64 (d : Int)) hb4 HN6.o);have HF7 := ħ (HF6.o.set_ (q := ⟨E.rb, 4, none⟩) (.inl rfl) (.int .i64 (d : Int)))
 have hs7 : (w6.setCell ⟨E.rb, 4, none⟩ (.int .i64 (d : Int))).heap.size = b7 + 1 := by simp [World.setCell, hs6]
 clear c4 f4 HB06 HB66 HB76 HGd6 HF6 HN6;generalize w6.setCell ⟨E.rb, 4, none⟩ (.int .i64 (d : Int)) = w7 at *;obtain ⟨_, _, _, _, _, _, c6, _⟩ := HGd7.o.sv.ten;obtain ⟨bb, hbb⟩ : ∃ bb, bb = decide (at_ σ2.t 0 = 41) := ⟨_, rfl⟩
 have HIs := ħ (ù [41] (by decide) (by decide) HGd7.o bb (by rw [hbb, Ŀ (by decide)]; rfl))
 have HBB := ħ hbb;clear hbb
 go_wp2_with fail
 refine HIs.o.mono ?_;rintro e w8 ⟨rfl, hF8, I8, hG8⟩
 have HB08 := ħ (À hF8 HB07.o (HNE'.o _ (by omega) (by omega)))
 have HB68 := ħ (À hF8 HB67.o (HNE'.o _ (by omega) (by omega)))
 have HB78 := ħ (À hF8 HB77.o HNE7.o);have HN8 := ħ (Ñu hb4 hF8 HN7.o);have hs8 := hF8.size;have HF8 := ħ (HF7.o.trans hF8);have HGd8 := ħ hG8;clear hF8 hG8 HIs HB07 HB67 HB77 HN7 HGd7 HF7 c6
 cases bb with
 | true =>
  have h41 : at_ σ2.t 0 = 41 := of_decide_eq_true HBB.o.symm;have HGd8 : Hid (Gd E w8 (σ2.adv 1) d rv' I8 refs5) := HGd8;have z7 := HB78.o.eight;have hz := HB08.o.eight;have hfz := HB08.o.frozen
  by_cases hx : x1 = 0
  ·subst hx
   have HW : Hid (rr = .ok (y, σ2.adv 1)) := ħ (by rw [HRR.o, if_pos h41]; unfold wrap; rw [if_pos rfl])
   have z6 := HB68.o.eight
   have hkd : mq y = true := by
    rw [HMq.o]
    rcases HKd.o with ⟨h1, _⟩ | ⟨_, h⟩
    ·rw [h1]; rfl
    ·omega
   have HKy := ħ hkd;clear hkd;go_wp2;rw [HW.o]
   exact ō rfl rfl rfl rfl (Æ HB08.o) ⟨rv', I8, refs5, A1, n1, p1, nb, A2, p2, by rw [HKy.o]; rfl, ÂX (by omega) (Äz (show w.heap.size < w4.heap.size by omega) HN8.o), Û (ŋ _) HF8.o, ŗ (HNE'.o _ (by omega) (by omega)) HGd8.o⟩
  have kx : (x1 == 0) = false := by simp [hx]
  obtain ⟨kn, hkn⟩ : ∃ kn : Array Value, kn = #[.int .i64 y.kind, .int .i64 y.lo, .int .i64 y.hi, .int .i64 y.mode, .int .i64 y.ref, .slice A1 n1 p1, .bool nb, .slice A2 y.kids.length p2] := ⟨_, rfl⟩;have z6 := HB68.o.eight
  have u67 : b6 < w8.heap.size := by omega
  have hb8 : b7 < w8.heap.size := by omega
  have u68 : b6 ≠ w8.heap.size := by omega
  have HNE8 : Hid (w8.heap.size ≠ E.rb ∧ w8.heap.size ≠ E.ub ∧ w8.heap.size ≠ E.ab ∧ rv'.ownBlock ≠ some w8.heap.size) := ħ (ÁD HGd8.o.sv);have f6 := HB68.o.frozen;have hfz6 := HB08.o.frozen;obtain ⟨sv8, hsv8⟩ : ∃ sv8 : Value, sv8 = .slice (some ⟨w8.heap.size, 0, none⟩) 1 1 := ⟨_, rfl⟩;obtain ⟨ws, hws⟩ : ∃ ws, ws = w8.setCell ⟨b6, 7, none⟩ sv8 := ⟨_, rfl⟩
  have hss : ws.heap.size = w8.heap.size := by rw [hws]; simp [World.setCell]
  have HB0x : Hid (Blk ws w.heap.size 38 #[.int .i64 0, .int .i64 0, .int .i64 0, .int .i64 0, .int .i64 0, .slice none 0 0, .bool false, .slice none 0 0]) := ħ (by rw [hws]; exact HB08.o.far (p := ⟨b6, 7, none⟩) (by simp only; omega) _)
  have HB6x : Hid (Blk ws b6 38 #[.int .i64 x1, .int .i64 0, .int .i64 0, .int .i64 x2, .int .i64 x3, .slice none 0 0, .bool false, sv8]) := ħ (by rw [hws]; exact HB68.o.set_ 7 _)
  have HGdx : Hid (Gd E ws (σ2.adv 1) d rv' I8 refs5) := ħ (by
   rw [hws];have h := HGd8.o
   exact ⟨h.sv.far (HNE'.o _ (by omega) (by omega)) _, h.pos, h.refl, h.same, h.deep, h.le, h.rl⟩)
  have HFx : Hid (FrR E w rv ws rv') := ħ (by rw [hws]; exact HF8.o.set_ (q := ⟨b6, 7, none⟩) (.inr (by simp only; omega)) _)
  have HNx : Hid (Ó (KQ w4.heap.size ws rv') ws y (.slice A1 n1 p1) nb (.slice A2 y.kids.length p2)) := ħ (by rw [hws]; exact ÎY (by omega) HN8.o)
  have HB0y := ħ (HB0x.o.alloc (.cells kn 38));have HB6y := ħ (HB6x.o.alloc (.cells kn 38));have HB8y := ħ (ÎX ws w8.heap.size hss.symm 38 kn);have HGdy := ħ (HGdx.o.alloc (.cells kn 38));have HFy := ħ (HFx.o.alloc (.cells kn 38));have HNy := ħ (Äf (.cells kn 38) HNx.o)
  have hsy : (ws.alloc (.cells kn 38)).heap.size = w8.heap.size + 1 := by simp [hss]
  subst hkn
  go_upto_region 10 with (fail)
  rw [← hsv8, ← hws];clear z6 f6 hz hfz z7 hfz6;generalize ws.alloc _ = wy at *;obtain ⟨b8, hb8e⟩ : ∃ b8, b8 = w8.heap.size := ⟨_, rfl⟩;rw [← hb8e] at hb8 u67 u68 HB8y HNE8 hsy hsv8;clear hb8e;subst hsv8;clear hws hss HB0x HB6x HGdx HFx;have z6 := HB6y.o.eight;have hz := HB0y.o.eight;have hfz := HB0y.o.frozen;have hBz := Æ (c0 := .int .i64 x1) (c1 := .int .i64 0) (c2 := .int .i64 0) (c3 := .int .i64 x2) (c4 := .int .i64 x3) (c5 := .slice none 0 0) (c6 := .bool false) (c7 := .slice (some ⟨b8, 0, none⟩) 1 1) HB0y.o;have hFz : FrR E w rv (st8 wy w.heap.size (.int .i64 x1) (.int .i64 0) (.int .i64 0) (.int .i64 x2) (.int .i64 x3) (.slice none 0 0) (.bool false) (.slice (some ⟨b8, 0, none⟩) 1 1)) rv' := Û (ŋ _) HFy.o
  have hGz : Gd E (st8 wy w.heap.size (.int .i64 x1) (.int .i64 0) (.int .i64 0) (.int .i64 x2) (.int .i64 x3) (.slice none 0 0) (.bool false) (.slice (some ⟨b8, 0, none⟩) 1 1)) (σ2.adv 1) d rv' I8 refs5 := ŗ (HNE'.o _ (by omega) (by omega)) HGdy.o
  have hNz := Äz (c0 := .int .i64 x1) (c1 := .int .i64 0) (c2 := .int .i64 0) (c3 := .int .i64 x2) (c4 := .int .i64 x3) (c5 := .slice none 0 0) (c6 := .bool false) (c7 := .slice (some ⟨b8, 0, none⟩) 1 1) (show w.heap.size < w4.heap.size by omega) HNy.o
  have h8z : Blk (st8 wy w.heap.size (.int .i64 x1) (.int .i64 0) (.int .i64 0) (.int .i64 x2) (.int .i64 x3) (.slice none 0 0) (.bool false) (.slice (some ⟨b8, 0, none⟩) 1 1)) b8 38 #[.int .i64 y.kind, .int .i64 y.lo, .int .i64 y.hi, .int .i64 y.mode, .int .i64 y.ref, .slice A1 n1 p1, .bool nb, .slice A2 y.kids.length p2] := (ÂL (by omega)).trans HB8y.o
  have HNz := ħ (Ða hNz);have HGz := ħ hGz.drew;have H8z := ħ h8z.drew;have HBz := ħ hBz.drew;have HFz := ħ hFz.drew;clear hBz hFz hGz hNz h8z;unfold st8 at HBz HFz HGz HNz H8z
  go_region
  generalize World.drew _ = wz at HBz HFz HGz HNz H8z ⊢;go_wp2
  have HW : Hid (rr = .ok (.mk x1 0 0 x2 x3 [] [y], σ2.adv 1)) := ħ (by rw [HRR.o, if_pos h41]; unfold wrap; rw [if_neg hx])
  have hkd : mq (.mk x1 0 0 x2 x3 [] [y]) = (x1 != 7) := by
   rw [HMq.o]
   rcases HKd.o with ⟨_, h⟩ | ⟨h1, h⟩
   ·exact absurd h hx
   ·rw [h1]
    rcases h with h | h | h <;> subst h <;> rfl
  have hK := Ó.one (k := x1) (lo := 0) (hi := 0) (m := x2) (r := x3) (set := []) (K := KQ w.heap.size wz rv') (cap := 1) (by rcases HKd.o with ⟨_, h⟩ | ⟨_, h⟩ <;> omega) (ŋ _) ⟨by omega, H8z.o.lt, HNE8.o.2.2.2⟩ (ÂX (by omega) HNz.o) (ÆB H8z.o)
  have hP : NP E d rv w mq rr (.returned (.tuple #[.agg #[.int .i64 x1, .int .i64 0, .int .i64 0, .int .i64 x2, .int .i64 x3, .slice none 0 0, .bool false, .slice (some ⟨b8, 0, none⟩) 1 1], .bool (x1 != 7)])) wz := by
   rw [HW.o]
   exact ⟨rv', I8, refs5, none, 0, 0, false, some ⟨b8, 0, none⟩, 1, by rw [hkd]; rfl, hK, HFz.o, HGz.o⟩
  exact ō rfl rfl rfl rfl HBz.o hP
 | false =>
  have h41 : ¬ at_ σ2.t 0 = 41 := of_decide_eq_false HBB.o.symm
  have HE : Hid (rr = .error (20, σ.pos)) := ħ (by rw [HRR.o, if_neg h41])
  have HGd8 : Hid (Gd E w8 σ2 d rv' I8 refs5) := HGd8
  have HFl := ħ (Ō (σ0 := σ) (I0 := I) 20 (by omega) HAt.o HGd8.o.sv)
  clear HN8
  go_wp2_with fail
  refine HFl.o.mono ?_;rintro e w9 ⟨rfl, hF9, hB9⟩
  have HB09 := ħ (À hF9 HB08.o (HNE'.o _ (by omega) (by omega)))
  have HB69 := ħ (À hF9 HB68.o (HNE'.o _ (by omega) (by omega)))
  have HB79 := ħ (À hF9 HB78.o HNE7.o);have hs9 := hF9.size;have HF9 := ħ (HF8.o.trans hF9);have HBd9 := ħ hB9;clear hF9 hB9 HFl HB08 HB68 HB78 HGd8 HF8;have z7 := HB79.o.eight;have hz := HB09.o.eight;have hfz := HB09.o.frozen
  by_cases hx : x1 = 0
  ·subst hx
   have z6 := HB69.o.eight;go_wp2;rw [HE.o]
   exact ō rfl rfl rfl rfl (Æ HB09.o) ⟨rv', _, true, rfl, ⟨y.kind, y.lo, y.hi, y.mode, y.ref, A1, A2, n1, p1, y.kids.length, p2, nb, rfl⟩, Û (ŋ _) HF9.o, ĭ (HNE'.o _ (by omega) (by omega)) HBd9.o⟩
  have kx : (x1 == 0) = false := by simp [hx]
  obtain ⟨kn, hkn⟩ : ∃ kn : Array Value, kn = #[.int .i64 y.kind, .int .i64 y.lo, .int .i64 y.hi, .int .i64 y.mode, .int .i64 y.ref, .slice A1 n1 p1, .bool nb, .slice A2 y.kids.length p2] := ⟨_, rfl⟩;have z6 := HB69.o.eight
  have u67 : b6 < w9.heap.size := by omega
  have hb8 : b7 < w9.heap.size := by omega
  have u68 : b6 ≠ w9.heap.size := by omega
  have HNE8 : Hid (w9.heap.size ≠ E.rb ∧ w9.heap.size ≠ E.ub ∧ w9.heap.size ≠ E.ab ∧ rv'.ownBlock ≠ some w9.heap.size) := ħ (HBd9.o.new (ŋ _));have f6 := HB69.o.frozen;have hfz6 := HB09.o.frozen;obtain ⟨sv8, hsv8⟩ : ∃ sv8 : Value, sv8 = .slice (some ⟨w9.heap.size, 0, none⟩) 1 1 := ⟨_, rfl⟩;obtain ⟨ws, hws⟩ : ∃ ws, ws = w9.setCell ⟨b6, 7, none⟩ sv8 := ⟨_, rfl⟩
  have hss : ws.heap.size = w9.heap.size := by rw [hws]; simp [World.setCell]
  have HB0x : Hid (Blk ws w.heap.size 38 #[.int .i64 0, .int .i64 0, .int .i64 0, .int .i64 0, .int .i64 0, .slice none 0 0, .bool false, .slice none 0 0]) := ħ (by rw [hws]; exact HB09.o.far (p := ⟨b6, 7, none⟩) (by simp only; omega) _)
  have HB6x : Hid (Blk ws b6 38 #[.int .i64 x1, .int .i64 0, .int .i64 0, .int .i64 x2, .int .i64 x3, .slice none 0 0, .bool false, sv8]) := ħ (by rw [hws]; exact HB69.o.set_ 7 _)
  have HBdx : Hid (Bd E ws d rv' (20, σ.pos)) := ħ (by
   rw [hws];obtain ⟨h0, g, refs, h⟩ := HBd9.o
   exact ⟨h0, g, refs, h.far (HNE'.o _ (by omega) (by omega)) _⟩)
  have HFx : Hid (FrR E w rv ws rv') := ħ (by rw [hws]; exact HF9.o.set_ (q := ⟨b6, 7, none⟩) (.inr (by simp only; omega)) _)
  have HB0y := ħ (HB0x.o.alloc (.cells kn 38));have HB6y := ħ (HB6x.o.alloc (.cells kn 38));have HB8y := ħ (ÎX ws w9.heap.size hss.symm 38 kn);have HBdy := ħ (HBdx.o.alloc (.cells kn 38));have HFy := ħ (HFx.o.alloc (.cells kn 38))
  have hsy : (ws.alloc (.cells kn 38)).heap.size = w9.heap.size + 1 := by simp [hss]
  subst hkn
  go_upto_region 10 with (fail)
  rw [← hsv8, ← hws];clear z6 f6 hz hfz z7 hfz6;generalize ws.alloc _ = wy at *;obtain ⟨b8, hb8e⟩ : ∃ b8, b8 = w9.heap.size := ⟨_, rfl⟩;rw [← hb8e] at hb8 u67 u68 HB8y HNE8 hsy hsv8;clear hb8e;subst hsv8;clear hws hss HB0x HB6x HBdx HFx;have z6 := HB6y.o.eight;have hz := HB0y.o.eight;have hfz := HB0y.o.frozen;have hBz := Æ (c0 := .int .i64 x1) (c1 := .int .i64 0) (c2 := .int .i64 0) (c3 := .int .i64 x2) (c4 := .int .i64 x3) (c5 := .slice none 0 0) (c6 := .bool false) (c7 := .slice (some ⟨b8, 0, none⟩) 1 1) HB0y.o;have hFz : FrR E w rv (st8 wy w.heap.size (.int .i64 x1) (.int .i64 0) (.int .i64 0) (.int .i64 x2) (.int .i64 x3) (.slice none 0 0) (.bool false) (.slice (some ⟨b8, 0, none⟩) 1 1)) rv' := Û (ŋ _) HFy.o
  have hDz : Bd E (st8 wy w.heap.size (.int .i64 x1) (.int .i64 0) (.int .i64 0) (.int .i64 x2) (.int .i64 x3) (.slice none 0 0) (.bool false) (.slice (some ⟨b8, 0, none⟩) 1 1)) d rv' (20, σ.pos) := ĭ (HNE'.o _ (by omega) (by omega)) HBdy.o
  have HDz := ħ hDz.drew;have HBz := ħ hBz.drew;have HFz := ħ hFz.drew;clear hBz hFz hDz;unfold st8 at HBz HFz HDz
  go_region
  generalize World.drew _ = wz at HBz HFz HDz ⊢;go_wp2
  have hP : NP E d rv w mq rr (.returned (.tuple #[.agg #[.int .i64 x1, .int .i64 0, .int .i64 0, .int .i64 x2, .int .i64 x3, .slice none 0 0, .bool false, .slice (some ⟨b8, 0, none⟩) 1 1], .bool (x1 != 7)])) wz := by
   rw [HE.o];exact ⟨rv', _, (x1 != 7), rfl, ⟨x1, 0, 0, x2, x3, none, some ⟨b8, 0, none⟩, 0, 0, 1, 1, false, rfl⟩, HFz.o, HDz.o⟩
  exact ō rfl rfl rfl rfl HBz.o hP
theorem Ír {n : Nat} (hA : ÉZ E n) (hB : ÐV E) (hfu : 4 * σ.t.length ≤ n + 2) (h : Gd E w0 σ d rv I refs) (h40 : at_ σ.t 0 = 40) (hG : Gd E w (σ.adv 1) d rv (I + 1) refs) :
 Calls Tryz.prog 108 #[.pointer (some ⟨E.rb, 0, none⟩), .int .i64 (I : Nat)] w (NP E d rv w (ÈC (pre [40, 63, 58] σ.t)) (run (n + 1) 3 d [] σ)) := by
 cases ho : Ş d σ with
 | error f => exact ÎV hB h h40 hG ho _
 | ok x =>
  obtain ⟨⟨x1, x2, x3⟩, σ1⟩ := x;have hl := Ëx ho h40
  cases hr : run n 0 (d + 1) [] σ1 with
  | error f => exact ÎW hA h h40 hG ho hr (by omega) _
  | ok y => exact ÎZ hA h h40 hG ho hr (by omega)
end
end Go.Proofs.YtpginkdkblmnbaaGreatDoor
