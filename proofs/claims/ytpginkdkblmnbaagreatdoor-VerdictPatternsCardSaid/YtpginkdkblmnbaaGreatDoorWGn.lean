import Derived.Test.YtpginkdkblmnbaaGreatDoorWGm
import Derived.Test.YtpginkdkblmnbaaGreatDoorWMSd
namespace Go.Proofs.YtpginkdkblmnbaaGreatDoor
section
open Go.RowKit
open Go.Proofs.YtpginkdkblmnbaaGreatDoor.Cl (Rg à Ý Ä Á)
variable {w w' w0 : World} {n₀ wb lp lp' base : Nat} {fo : Bool} {M : List In} {G : Int}
theorem ÐG (nd : Nd) : 1 ≤ SizeOf.sizeOf nd := by cases nd; simp; omega
theorem Çw (hG : G ≤ 1000) : ∀ n, Éi n₀ wb fo G n ∧ Èe n₀ wb fo G n ∧ Èg n₀ wb fo G n
 | 0 => by
  have h0 : Éi n₀ wb fo G 0 := fun nd hx => by
   have := ÐG nd;have := hx.sz;omega
  exact ⟨h0, Çk 0 h0, ÃS 0 h0⟩
 | n + 1 => by
  obtain ⟨_, hr, ha⟩ := Çw hG n;have h1 := ÌL hG n hr ha;exact ⟨h1, Çk _ h1, ÃS _ h1⟩
theorem Îs (hG : G ≤ 1000) {nd : Nd} (hw : Wf nd) (hn : Wn G nd) {A1 A2 : Option Addr} {p1 p2 : Nat} (hE : Àq n₀ w) (hN : Ś n₀ w nd A1 A2 p1 p2) (hW : Wm n₀ wb fo w M) (hl : M.length + (â fo nd).length ≤ 90000) :
 Calls Tryz.prog 47 #[.pointer (some ⟨wb, 0, none⟩), .agg #[.int .i64 nd.kind, .int .i64 nd.lo, .int .i64 nd.hi, .int .i64 nd.mode, .int .i64 nd.ref, .slice A1 nd.set.length p1, .slice A2 nd.kids.length p2]] w (WmP n₀ wb fo w (app M (â fo nd))) :=
 (Çw hG _).1 nd ⟨hw, hn, ŋ _⟩ w M A1 A2 p1 p2 hE hN hW hl
def PgV (n₀ : Nat) (w : World) (v : Value) (X : List In) : Prop := ∃ L : List (In × Value), L.map (·.1) = X ∧ w.ownsRow n₀ 106 6 v L.length (ģ L) ∧ (∀ x ∈ L, Är w n₀ x.2 x.1.set) ∧ L.length ≤ 100000
theorem PgV.on {v : Value} {X : List In} (h : PgV n₀ w v X) (hb : Below w.heap.size w w') : PgV n₀ w' v X := by
 obtain ⟨L, h1, h2, h3, h4⟩ := h
 exact ⟨L, h1, ÀGg h2 fun i hi _ _ => hb.block i hi, fun x hx => ÀGg (h3 x hx) fun i hi _ _ => hb.block i hi, h4⟩
theorem PgV.more {v : Value} {X : List In} {n₁ : Nat} (h : PgV n₀ w v X) (hn : n₁ ≤ n₀) : PgV n₁ w v X := by
 obtain ⟨L, h1, h2, h3, h4⟩ := h
 exact ⟨L, h1, World.ownsRow.mono h2 hn, fun x hx => World.ownsRow.mono (h3 x hx) hn, h4⟩
theorem PgV.form {v : Value} {X : List In} (h : PgV n₀ w v X) : ∃ A c, v = .slice A X.length c ∧ X.length ≤ c ∧ X.length ≤ 100000 := by
 obtain ⟨L, rfl, h2, _, h4⟩ := h;rw [List.length_map]
 rcases h2.2 with ⟨hv, hn⟩ | ⟨g, c, cur, hv, _, _, hc, _⟩
 ·exact ⟨none, 0, by rw [hv, hn], by omega, h4⟩
 ·exact ⟨_, c, hv, hc, h4⟩
theorem PgV.at_ {v : Value} {X : List In} {i : Nat} {x : In} (h : PgV n₀ w v X) (hi : X[i]? = some x) : ∃ g c A cs, v = .slice (some ⟨g, 0, none⟩) X.length c ∧ X.length ≤ c ∧ g < w.heap.size ∧ n₀ ≤ g ∧ Är w n₀ (.slice A x.set.length cs) x.set ∧
 ∀ j u, (ğ x (.slice A x.set.length cs))[j]? = some u → w.cell? ⟨g, i * 6 + j, none⟩ = some u := by
 obtain ⟨L, rfl, h2, h3, h4⟩ := h;rw [List.getElem?_map] at hi;obtain ⟨⟨y, s⟩, hi', rfl⟩ := Option.map_eq_some_iff.1 hi
 have hl : 0 < L.length := by have := (List.getElem?_eq_some_iff.1 hi').1; omega
 obtain ⟨g, c, hv, hg0, hg⟩ := h2.form hl
 have hc : L.length ≤ c := by
  rcases h2.2 with ⟨hv', hn⟩ | ⟨g', c', cur, hv', _, _, hc, _⟩
  ·omega
  ·rw [hv] at hv'
   injection hv' with _ _ e
   omega
 obtain ⟨A, cs, hs⟩ := Æd (h3 _ (Č hi'));simp only at hs;subst hs;subst hv
 refine ⟨g, c, A, cs, by rw [List.length_map], by rw [List.length_map]; exact hc, hg, hg0, h3 _ (Č hi'), fun j u hu => ?_⟩
 have := h2.cells (g := g) rfl _ _ (Ây L i j _ u hi' hu);rw [← this];unfold Addr.add
 split <;> simp_all
theorem Wr.pv (h : Wr n₀ wb fo w M lp) : ∃ A c, w.cell? ⟨wb, 0, none⟩ = some (.slice A M.length c) ∧ PgV n₀ w (.slice A M.length c) M := by
 obtain ⟨cv, L, h, rfl⟩ := h;obtain ⟨A, c, rfl, _⟩ := h.form;rw [List.length_map];exact ⟨A, c, h.c3.1, L, rfl, h.own, h.sets, h.bnd.1⟩
theorem Ît (fo : Bool) {nd : Nd} (hw : Wf nd) (h : ì nd = 0) : (â fo nd).length ≤ 1997 := by
 have h1 := ÍQ fo hw;have h2 := ŏ (â fo nd);unfold ì at h;split at h
 ·split at h
  ·cases h
  ·rename_i hz
   rw [h1] at hz;unfold Ï far len at *
   split at hz <;> omega
 ·cases h
def Ñg (w : World) (fo : Bool) (nd : Nd) (e : Ending) (w' : World) : Prop := Below w.heap.size w w' ∧ ((ì nd ≠ 0 ∧ e = .returned (.tuple #[.slice none 0 0, .int .i64 (ì nd : Nat)])) ∨
 (ì nd = 0 ∧ ∃ A c, e = .returned (.tuple #[.slice A (ÃJ fo nd).length c, .int .i64 0]) ∧ PgV w.heap.size w' (.slice A (ÃJ fo nd).length c) (ÃJ fo nd)))
set_option maxRecDepth 100000 in
set_option maxHeartbeats 1000000 in
theorem Éw (hG : G ≤ 1000) {nd : Nd} (hw : Wf nd) (hn : Wn G nd) (g : Int) (hL : Cl.LU w.heap.size w) {A1 A2 : Option Addr} {p1 p2 : Nat} (h : Ê (fun b => b < w.heap.size) w nd (.slice A1 nd.set.length p1) (.slice A2 nd.kids.length p2)) :
 Calls Tryz.prog 21 #[.agg #[.int .i64 nd.kind, .int .i64 nd.lo, .int .i64 nd.hi, .int .i64 nd.mode, .int .i64 nd.ref, .slice A1 nd.set.length p1, .slice A2 nd.kids.length p2, .int .i64 g, .bool fo]] w (Ñg w fo nd) := by
 have HB0 := ħ (Blk.new w 29 #[.int .i64 nd.kind, .int .i64 nd.lo, .int .i64 nd.hi, .int .i64 nd.mode, .int .i64 nd.ref, .slice A1 nd.set.length p1, .slice A2 nd.kids.length p2, .int .i64 g, .bool fo]);have hb0 := (ā w.heap.size w).alloc (ŋ _) (.cells #[.int .i64 nd.kind, .int .i64 nd.lo, .int .i64 nd.hi, .int .i64 nd.mode, .int .i64 nd.ref, .slice A1 nd.set.length p1, .slice A2 nd.kids.length p2, .int .i64 g, .bool fo] 29)
 have HC := ħ (fun W (hW : Ê (fun b => b < W.heap.size) W nd (.slice A1 nd.set.length p1) (.slice A2 nd.kids.length p2)) => Çv nd hw g fo W A1 A2 p1 p2 hW)
 have HN := ħ h;have HE : Hid (Àq w.heap.size w) := ħ ⟨hL⟩
 have HNd := ħ (fun W wb M' (h1 : Àq w.heap.size W) (h2 : Ś w.heap.size W nd A1 A2 p1 p2) (h3 : Wm w.heap.size wb fo W M') h4 => Îs hG hw hn h1 h2 h3 h4)
 have HLen := ħ (Ît fo hw);obtain ⟨vd, hvd⟩ : ∃ vd, vd = ì nd := ⟨_, rfl⟩;rw [← hvd] at HC HLen;have HVd := ħ hvd;clear hvd h hL hw hn
 by_cases hv : vd = 0
 ·subst hv
  go_enter Tryz.func21, Tryz.ntmps21
  go_upto_region 1 with (fail)
  have h9 := HB0.o.c9
  have hbs : w.heap.size < (w.alloc (.cells #[.int .i64 nd.kind, .int .i64 nd.lo, .int .i64 nd.hi, .int .i64 nd.mode, .int .i64 nd.ref, .slice A1 nd.set.length p1, .slice A2 nd.kids.length p2, .int .i64 g, .bool fo] 29)).heap.size := by simp
  generalize w.alloc _ = W at *
  go_wp2_with fail
  refine (HC.o W (HN.o.on_ hb0)).mono ?_;rintro e w1 ⟨rfl, hb1⟩;have hs1 := hb1.size;have HB1 := ħ (HB0.o.on hb1);have hbw1 := hb0.trans (hb1.mono hb0.size);clear h9;have h9 := HB1.o.c9;have HBw := ħ (Blk.new w1 103 #[.slice none 0 0, .int .i64 0, .bool fo]);have hba := (ā w1.heap.size w1).alloc (ŋ _) (.cells #[.slice none 0 0, .int .i64 0, .bool fo] 103);have HB2 := ħ (HB1.o.on hba);have hbw2 := hbw1.trans (hba.mono hbw1.size)
  go_upto_region 5 with (fail)
  obtain ⟨wb, hwb⟩ : ∃ wb, wb = w1.heap.size := ⟨_, rfl⟩;rw [← hwb] at HBw ⊢
  have hwl : w.heap.size < wb := by rw [hwb]; omega
  clear h9 hwb;generalize w1.alloc _ = w2 at *
  have HW2 : Hid (Wm w.heap.size wb fo w2 []) := ħ ⟨.slice none 0 0, [], ⟨HBw.o, World.ownsRow_nil _ _ _ _, by simp, by omega, by simp [Än]⟩, rfl⟩
  have hs2 := hbw2.size
  have HP := ħ (ÀI 4 0 0 0 0 HW2.o (by simp))
  go_wp2_with fail
  refine HP.o.mono ?_;rintro e w3 ⟨rfl, hW3, hF3⟩;have hs3 := hF3.size
  have HB3 := ħ (hF3.blk HB2.o (by decide) (by omega))
  have HW3 : Hid (Wm w.heap.size wb fo w3 [Ÿ 0]) := ħ hW3
  have hb3 := hbw2.trans (hF3.old (by omega))
  clear hW3 hF3 HP;have h9 := HB3.o.c9
  have hcl : (â fo nd).length ≤ 1997 := HLen.o (by simp)
  go_wp2_with fail
  refine (HNd.o w3 wb _ (HE.o.low hb3) (HN.o.lowB hb3) HW3.o (by simp; omega)).mono ?_
  rintro e w4 ⟨rfl, hW4, hF4⟩;have hs4 := hF4.size
  have hb4 := hb3.trans (hF4.old (by omega))
  have hl4 : (app [Ÿ 0] (â fo nd)).length ≤ 1998 := by rw [Ø]; simp; omega
  have HW4 := ħ hW4;clear hW4 hF4 h9
  have HP := ħ (ÀI 4 1 0 0 0 HW4.o (by omega))
  go_wp2_with fail
  refine HP.o.mono ?_;rintro e w5 ⟨rfl, hW5, hF5⟩;have hs5 := hF5.size
  have hb5 := hb4.trans (hF5.old (by omega))
  have HW5 := ħ hW5;clear hW5 hF5 HP
  have HP := ħ (ÀI 0 0 0 0 0 HW5.o (by rw [ă]; simp; omega))
  go_wp2_with fail
  refine HP.o.mono ?_;rintro e w6 ⟨rfl, hW6, hF6⟩
  have hb6 := hb5.trans (hF6.old (by omega))
  have hwh : app [Ÿ 0] (â fo nd) ++ [In.i 4 1 0 0 0] ++ [In.i 0 0 0 0 0] = ÃJ fo nd := by
   unfold ÃJ;rw [← İ, ← İ, Áy _ (.i 0 0 0 0 0) (.inl rfl)];rw [Áy _ (Ÿ 1) (.inr (.inr (.inl rfl)))];rfl
  rw [hwh] at hW6;obtain ⟨A6, c6, k6, hP6⟩ := hW6.pv;have HP6 := ħ hP6;clear hW6 hF6 hP6 hwh hl4 hcl HP;go_wp2;go_ret2;exact ⟨hb6, .inr ⟨HVd.o.symm, A6, c6, rfl, HP6.o⟩⟩
 ·have hv' : ((vd : Int) == 0) = false := by simp; omega
  go_enter Tryz.func21, Tryz.ntmps21
  go_upto_region 1 with (fail)
  have h9 := HB0.o.c9;generalize w.alloc _ = W at *
  go_wp2_with fail
  refine (HC.o W (HN.o.on_ hb0)).mono ?_;rintro e w1 ⟨rfl, hb1⟩;have hbw1 := hb0.trans (hb1.mono hb0.size);clear h9;go_wp2;go_ret2
  exact ⟨hbw1, .inl ⟨by rw [← HVd.o]; exact hv, by rw [← HVd.o]; rfl⟩⟩
end
end Go.Proofs.YtpginkdkblmnbaaGreatDoor
