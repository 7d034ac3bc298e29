import Derived.Test.YtpginkdkblmnbaaGreatDoorWMPd
import Derived.Deep.LoopGhost
namespace Go.Proofs.YtpginkdkblmnbaaGreatDoor
section
open Go.RowKit
open Go.Proofs.YtpginkdkblmnbaaGreatDoor.Cl (Á)
variable {n₀ rb tb cap d : Nat} {s : List UInt8} {w w' : World} {σ σ1 : St} {fc fa : Int} {bv v : Value}
theorem Æn {l : List Nd} (h : 2 ≤ l.length) : joinR l = .mk 2 0 0 0 0 [] l := by
 match l, h with
 | a :: b :: r, _ => rfl
def ÐQ (n₀ rb tb cap : Nat) (s : List UInt8) (fc fa : Int) (N : Nat) : Prop :=
 ∀ (d : Nat) (σ : St) (w : World) (bv : Value), 4 * σ.t.length + 1 ≤ N → Rd n₀ rb tb cap s w σ d fc fa bv → Calls Tryz.prog 87 #[.pointer (some ⟨rb, 0, none⟩)] w (ÄV n₀ rb tb cap s d fc fa w (run N 1 d [] σ))
def Ñl (n₀ rb tb cap : Nat) (s : List UInt8) (d : Nat) (fc fa : Int) (w : World) (N : Nat) (r : R) (g : Nat) (v : Value) (wr : World) : Prop :=
 ∃ (m : Nat) (L : List (Nd × Value × Value)) (σ' : St) (bv : Value), σ'.t.length ≤ g ∧ 4 * σ'.t.length + 1 ≤ m ∧ m ≤ N ∧ L.length + σ'.t.length ≤ s.length ∧ run m 1 d (L.map (·.1)) σ' = r ∧
  ÁX n₀ rb (w.alloc (.cells zeros 27)) wr (w.heap.size + 1) v L ∧ Rd n₀ rb tb cap s wr σ' d fc fa bv ∧ Fr n₀ rb w wr ∧ Blk wr w.heap.size 27 zeros
set_option maxRecDepth 100000 in
set_option maxHeartbeats 16000000 in
theorem ÎD (N : Nat) (hQ : ∀ m, m < N → ÐN n₀ rb tb cap s fc fa m) : ÐQ n₀ rb tb cap s fc fa N := by
 intro d σ w bv hN hR;have hrl := hR.blk.lt;have hl := hR.len;have ht := hR.tl;have HR := ħ hR;have HQ := ħ hQ;obtain ⟨r, hr⟩ : ∃ r, r = run N 1 d [] σ := ⟨_, rfl⟩
 have H0 : Hid (Ñl n₀ rb tb cap s d fc fa w N r s.length (.slice none 0 0) (w.alloc (.cells zeros 27))) :=
  ħ ⟨N, [], σ, bv, by omega, hN, ŋ _, by simp; omega, hr.symm, ÁX.nil _ _ _ _ _ (by simp), hR.alloc _, (Fr.refl w).alloc _, Blk.new w 27 zeros⟩
 rw [← hr];obtain ⟨i0, hi, hz0, hz1, hz2⟩ := Á ÎC;clear hQ hR hr hN ht;go_enter Tryz.func87, Tryz.ntmps87;go_wp2
 try go_step3
 try go_wp2
 try go_step3
 try go_wp2
 go_loopg [4] s.length (fun g v wr => Ñl n₀ rb tb cap s d fc fa w N r g v wr)
 case atStart => exact H0.o
 case round =>
  clear H0;obtain ⟨m, L, σ', bv', hg, hm, hmN, hL, hrun, hrow, hRr, hFr, hBr⟩ := hrel
  obtain ⟨m, rfl⟩ : ∃ m', m = m' + 1 := ⟨m - 1, by omega⟩
  rw [Âb] at hrun;obtain ⟨A4, c4, rfl⟩ := hrow.form;have hwr := hBr.lt;have HRr := ħ hRr;have HRow := ħ hrow;have HBk := ħ hBr;have HE := ħ (Áf hRr);have hrw : rb < wr.heap.size := hRr.blk.lt;have hpos := hRr.pos;have ht := hRr.tl
  have hL256 : L.length ≤ 256 := by omega
  cases hen : σ'.t.isEmpty with
  | true =>
   rw [hen] at HE
   have HPC : Hid (.ok (joinR (L.map (·.1)), σ') = r) := ħ (by rw [← hrun, hen]; rfl)
   clear hrun hrow hRr hBr hen HQ
   go_wp2_with fail
   refine HE.o.mono ?_;rintro e w1 ⟨rfl, hb1⟩;have HR1 := ħ (HRr.o.on hb1);have HB1 := ħ (HBk.o.on hb1);have HRow1 := ħ (HRow.o.fr HRr.o (Fr.of_below hb1));have hF := hFr.trans (Fr.of_below hb1);clear hFr hb1 HRow HRr HBk
   by_cases l0 : L.length = 0
   ·obtain rfl : L = [] := ď l0
    have hz := HB1.o.zero;have hfz := HB1.o.frozen;clear l0;go_wp2
    exact Ç rfl rfl rfl rfl (É HB1.o) (by
     rw [← HPC.o]
     exact ⟨_, _, _, rfl, Ê.leaf (Đ.nil _ _) (by simp), HR1.o.st7 HB1.o HR.o.size, hF.st7 (ŋ _)⟩)
   ·have e0 : ((L.length : Int) == 0) = false := by simpa using l0
    by_cases l1 : L.length = 1
    ·obtain ⟨x, rfl⟩ := List.length_eq_one_iff.1 l1
     obtain ⟨g9, c9, hv9, hN9, hc9⟩ := HRow1.o.first
     obtain ⟨nd, sv, kv⟩ := x;obtain ⟨A1, A2, p1, p2, hsv, hkv⟩ := hN9.lens;simp only at hsv hkv hN9 hc9;subst hsv hkv;have q0 := hc9 0 _ rfl;have q1 := hc9 1 _ rfl;have q2 := hc9 2 _ rfl;have q3 := hc9 3 _ rfl;have q4 := hc9 4 _ rfl;have q5 := hc9 5 _ rfl;have q6 := hc9 6 _ rfl
     injection hv9 with hA9 hl9 hp9
     subst hA9 hp9;have HN9 := ħ hN9;clear hc9 hl9 l1 hN9;have hz := HB1.o.zero;have hfz := HB1.o.frozen;go_wp2
     exact Ç rfl rfl rfl rfl (É HB1.o) (by
      rw [← HPC.o]
      exact ⟨_, _, _, rfl, (HN9.o.st7 HB1.o (by simp)).low (by simp), HR1.o.st7 HB1.o HR.o.size, hF.st7 (ŋ _)⟩)
    ·have h2l : 2 ≤ L.length := by
      rcases Nat.lt_or_ge L.length 2 with h | h
      ·exact absurd (show L.length = 1 by omega) l1
      ·exact h
     have e1 : ((L.length : Int) == 1) = false := by simp; omega
     have hne : L ≠ [] := by rintro rfl; simp at h2l
     have HNn := ħ (HRow1.o.node HR1.o 2 hne (by omega))
     have hj : Hid (joinR (L.map (·.1)) = .mk 2 0 0 0 0 [] (L.map (·.1))) := ħ (Æn (by rw [List.length_map]; exact h2l))
     have hz := HB1.o.zero;have hfz := HB1.o.frozen;clear hne l1 l0;go_wp2
     exact Ç rfl rfl rfl rfl (É HB1.o) (by
      rw [← HPC.o, hj.o]
      exact ⟨_, _, _, rfl, (HNn.o.st7 HB1.o (by simp)).low (by simp), HR1.o.st7 HB1.o HR.o.size, hF.st7 (ŋ _)⟩)
  | false =>
   rw [hen] at HE
   have hn : σ'.t ≠ [] := by intro e; rw [e] at hen; cases hen
   have hlen := Œ hn;have hx := ŷ σ'.t 0
   have hi0 : (0 : Int) ≤ (σ'.pos : Int) := by omega
   have hi1 : (σ'.pos : Int) < (s.length : Int) := by omega
   have HC := ħ (fun W (h : Rd n₀ rb tb cap s W σ' d fc fa bv') => show W.cell? ⟨tb, σ'.pos, none⟩ = some (.int .u8 ((at_ σ'.t 0 : Nat) : Int)) by have := h.at_ (j := 0) hlen; rwa [ĉ, Nat.add_zero] at this)
   by_cases hx2 : at_ σ'.t 0 = 124 ∨ at_ σ'.t 0 = 41
   ·have HPC : Hid (.ok (joinR (L.map (·.1)), σ') = r) := ħ (by rw [← hrun, hen, if_pos (by simpa using hx2)])
    obtain ⟨x, hxx⟩ : ∃ x, x = at_ σ'.t 0 := ⟨_, rfl⟩;rw [← hxx] at hx2 hx HC;clear hrun hrow hRr hBr hen HQ hn hxx
    rcases hx2 with rfl | rfl
    all_goals
     go_wp2_with fail
     refine HE.o.mono ?_;rintro e w1 ⟨rfl, hb1⟩;have hR1 := HRr.o.on hb1;have c0 := hR1.c0;have c1 := hR1.c1;have ct := HC.o _ hR1;have HR0 := ħ hR1;clear hR1;go_wp2;go_quiet (fail);have HR1 := ħ (HR0.o.drewN nq)
     have HB1 : Hid (Blk (w1.drewN nq) w.heap.size 27 zeros) := ħ (show Blk w1 w.heap.size 27 zeros from HBk.o.on hb1)
     have HRow1 := ħ ((HRow.o.fr HRr.o (Fr.of_below hb1)).fr HR0.o ((Fr.refl w1).drewN nq));have hF := (hFr.trans (Fr.of_below hb1)).drewN nq;clear hFr hb1 HRow HRr HBk c0 c1 ct;generalize w1.drewN nq = W9 at HR1 HB1 HRow1 hF ⊢
     by_cases l0 : L.length = 0
     ·obtain rfl : L = [] := ď l0
      have hz := HB1.o.zero;have hfz := HB1.o.frozen;clear l0;go_wp2
      exact Ç rfl rfl rfl rfl (É HB1.o) (by
       rw [← HPC.o]
       exact ⟨_, _, _, rfl, Ê.leaf (Đ.nil _ _) (by simp), HR1.o.st7 HB1.o HR.o.size, hF.st7 (ŋ _)⟩)
     ·have e0 : ((L.length : Int) == 0) = false := by simpa using l0
      by_cases l1 : L.length = 1
      ·obtain ⟨x, rfl⟩ := List.length_eq_one_iff.1 l1
       obtain ⟨g9, c9, hv9, hN9, hc9⟩ := HRow1.o.first
       obtain ⟨nd, sv, kv⟩ := x;obtain ⟨A1, A2, p1, p2, hsv, hkv⟩ := hN9.lens;simp only at hsv hkv hN9 hc9;subst hsv hkv;have q0 := hc9 0 _ rfl;have q1 := hc9 1 _ rfl;have q2 := hc9 2 _ rfl;have q3 := hc9 3 _ rfl;have q4 := hc9 4 _ rfl;have q5 := hc9 5 _ rfl;have q6 := hc9 6 _ rfl
       injection hv9 with hA9 hl9 hp9
       subst hA9 hp9;have HN9 := ħ hN9;clear hc9 hl9 l1 hN9;have hz := HB1.o.zero;have hfz := HB1.o.frozen;go_wp2
       exact Ç rfl rfl rfl rfl (É HB1.o) (by
        rw [← HPC.o]
        exact ⟨_, _, _, rfl, (HN9.o.st7 HB1.o (by simp)).low (by simp), HR1.o.st7 HB1.o HR.o.size, hF.st7 (ŋ _)⟩)
      ·have h2l : 2 ≤ L.length := by
        rcases Nat.lt_or_ge L.length 2 with h | h
        ·exact absurd (show L.length = 1 by omega) l1
        ·exact h
       have e1 : ((L.length : Int) == 1) = false := by simp; omega
       have hne : L ≠ [] := by rintro rfl; simp at h2l
       have HNn := ħ (HRow1.o.node HR1.o 2 hne (by omega))
       have hj : Hid (joinR (L.map (·.1)) = .mk 2 0 0 0 0 [] (L.map (·.1))) := ħ (Æn (by rw [List.length_map]; exact h2l))
       have hz := HB1.o.zero;have hfz := HB1.o.frozen;clear hne l1 l0;go_wp2
       exact Ç rfl rfl rfl rfl (É HB1.o) (by
        rw [← HPC.o, hj.o]
        exact ⟨_, _, _, rfl, (HNn.o.st7 HB1.o (by simp)).low (by simp), HR1.o.st7 HB1.o HR.o.size, hF.st7 (ŋ _)⟩)
   ·have hmr : Hid ((match run m 2 d [] σ' with
     | .error e => .error e
     | .ok (a, σ1) => run m 1 d (L.map (·.1) ++ [a]) σ1 : R) = r) := ħ (by rw [← hrun, hen, if_neg (by simpa using hx2)]; rfl)
    have HQm := ħ (fun W (hW : Rd n₀ rb tb cap s W σ' d fc fa bv') => HQ.o m (by omega) d σ' W bv' hn (by omega) hW)
    have hql := fun a σ1 (h : run m 2 d [] σ' = .ok (a, σ1)) => ((ÂQ m).2.2.1 d [] σ' a σ1 hn h).1
    have e1 : ((at_ σ'.t 0 : Int) == 124) = false := by simp; omega
    have e2 : ((at_ σ'.t 0 : Int) == 41) = false := by simp; omega
    obtain ⟨x, hxx⟩ : ∃ x, x = at_ σ'.t 0 := ⟨_, rfl⟩;rw [← hxx] at hx HC e1 e2;obtain ⟨rq, hrq⟩ : ∃ rq, rq = run m 2 d [] σ' := ⟨_, rfl⟩;have hmr' := hmr.o;rw [← hrq] at HQm hql hmr';have HMR := ħ hmr';have HQL := ħ hql;clear hrun hrow hRr hBr hen HQ hn hxx hx2 hmr hmr' hrq hql
    go_wp2_with fail
    refine HE.o.mono ?_;rintro e w1 ⟨rfl, hb1⟩;have hR1 := HRr.o.on hb1;have c0 := hR1.c0;have c1 := hR1.c1;have ct := HC.o _ hR1;have HR0 := ħ hR1;clear hR1;go_wp2;go_quiet (fail);have HR1 := ħ (HR0.o.drewN nq)
    have HB1 : Hid (Blk (w1.drewN nq) w.heap.size 27 zeros) := ħ (show Blk w1 w.heap.size 27 zeros from HBk.o.on hb1)
    have HRow1 := ħ ((HRow.o.fr HRr.o (Fr.of_below hb1)).fr HR0.o ((Fr.refl w1).drewN nq));have hF := (hFr.trans (Fr.of_below hb1)).drewN nq;clear hFr hb1 HRow HRr HBk c0 c1 ct
    go_wp2_with fail
    refine (HQm.o _ HR1.o).mono ?_;rintro e w2 hP2
    cases rq with
    | error f =>
     obtain ⟨rfl, hB, hF2⟩ := hP2;unfold zeros;have hpc := HMR.o;simp only at hpc;have HPC := ħ hpc
     have hB2 := (hF2.blk HR1.o HB1.o (by decide) (by decide)).alloc (.cells zeros 27)
     have hz := hB2.zero;have hfz := hB2.frozen;unfold zeros at hz hfz;clear hpc;go_wp2
     exact Ç rfl rfl rfl rfl (É hB2) (by
      rw [← HPC.o]
      exact ⟨rfl, (hB.alloc _).st7 (by omega), ((hF.trans hF2).alloc _).st7 (ŋ _)⟩)
    | ok y =>
     obtain ⟨a, σa⟩ := y;obtain ⟨sv, kv, bv2, rfl, hNd, hR2, hF2⟩ := hP2;obtain ⟨A1, A2, p1, p2, rfl, rfl⟩ := hNd.lens;have hll := HQL.o a σa rfl;have hpc := HMR.o;simp only at hpc hR2 hNd;obtain ⟨nk, hnk⟩ : ∃ nk : Array Value, nk = #[.int .i64 a.kind, .int .i64 a.lo, .int .i64 a.hi, .int .i64 a.mode, .int .i64 a.ref, .slice A1 a.set.length p1, .slice A2 a.kids.length p2] := ⟨_, rfl⟩
     have HB2 := ħ (((hF2.blk HR1.o HB1.o (by decide) (by decide)).alloc (.cells nk 27)).alloc (.cells nk 27))
     have HB8 := ħ (Blk.new (w2.alloc (.cells nk 27)) 27 nk);have HR2 := ħ ((hR2.alloc (.cells nk 27)).alloc (.cells nk 27));have hFF := hF2.trans (((Fr.refl w2).alloc (.cells nk 27)).alloc (.cells nk 27));have HRow2 := ħ (HRow1.o.fr HR1.o hFF);have HN2 := ħ (hNd.fr (((Fr.refl w2).alloc (.cells nk 27)).alloc (.cells nk 27)))
     replace hF := hF.trans hFF
     have hgv : Hid (∀ g, (Value.slice A4 L.length c4).ownBlock = some g → g < (w1.drewN nq).heap.size) := ħ (fun g hg => (HRow1.o.own.lt g hg).2)
     have hwsz : w.heap.size < w1.heap.size := HB1.o.lt
     have hsz2 : w.heap.size + 1 ≤ ((w2.alloc (.cells nk 27)).alloc (.cells nk 27)).heap.size := by have := HB2.o.lt; omega
     have hRow2o := HRow2.o.own;have HO := ħ hRow2o;have HPC := ħ hpc;subst hnk;clear hNd hR2 hF2 hFF hpc HRow1 hRow2o;simp only [ÃW]
     go_wp2_with (at_builtin; refine Áq _ rfl _ _ rfl (w.heap.size + 1) i0 hi hz0 hz1 hz2 _ L rfl HO.o (w2.heap.size + 1) a A1 A2 a.set.length p1 a.kids.length p2 rfl (by have := HB8.o; simpa using this) (by omega) hsz2 ?_; intro v' w4 hown' hgrow hown2)
     go_roundg σa.t.length
     case measure => omega
     case rel =>
      have hRow3 := HRow2.o.push HN2.o (by simp; omega) hgv.o hown' hgrow hown2
      exact ⟨m, L ++ [(a, .slice A1 a.set.length p1, .slice A2 a.kids.length p2)], σa, bv2, ŋ _, by omega, by omega, by rw [ă]; simp; omega, by rw [Ĕ]; exact HPC.o, hRow3,
       HR2.o.grown HO.o (by decide) (by decide) (by decide) (by have := HR.o.size; omega) hgrow, hF.grown hgrow (fun k hk => by have := (HO.o.lt k hk).1; omega), HB2.o.grown hgrow (fun e => by have := (HO.o.lt _ e.symm).1; omega)⟩
end
section
open Go.RowKit
open Go.Proofs.YtpginkdkblmnbaaGreatDoor.Cl (Á)
variable {n₀ rb tb cap d : Nat} {s : List UInt8} {w w' : World} {σ σ1 : St} {fc fa : Int} {bv v : Value}
theorem ÁX.form2 {a : World} {base : Nat} {L : List (Nd × Value × Value)} (h : ÁX n₀ rb a w base v L) : ∃ A n c, v = .slice A n c ∧ n = L.length := by
 obtain ⟨A, c, hv⟩ := h.form;exact ⟨A, _, c, hv, rfl⟩
theorem Ëf {l : List Nd} (h : 2 ≤ l.length) : joinA l = .mk 3 0 0 0 0 [] l := by
 match l, h with
 | a :: b :: r, _ => rfl
def Ñm (n₀ rb tb cap : Nat) (s : List UInt8) (d : Nat) (fc fa : Int) (w : World) (N : Nat) (r : R) (g : Nat) (v : Value) (wr : World) : Prop :=
 ∃ (m : Nat) (L : List (Nd × Value × Value)) (σ' : St) (bv : Value), σ'.t.length ≤ g ∧ 4 * σ'.t.length + 2 ≤ m ∧ m ≤ N ∧ L.length + σ'.t.length ≤ s.length ∧ run m 0 d (L.map (·.1)) σ' = r ∧
  ÁX n₀ rb (w.alloc (.cells zeros 27)) wr (w.heap.size + 1) v L ∧ Rd n₀ rb tb cap s wr σ' d fc fa bv ∧ Fr n₀ rb w wr ∧ Blk wr w.heap.size 27 zeros
set_option maxRecDepth 100000 in
set_option maxHeartbeats 16000000 in
theorem ÌX (N : Nat) (hQ : ∀ m, m < N → ÐQ n₀ rb tb cap s fc fa m) : ÐM n₀ rb tb cap s fc fa N := by
 intro d σ w bv hN hR;have hrl := hR.blk.lt;have hl := hR.len;have ht := hR.tl;have HR := ħ hR;have HQ := ħ hQ;obtain ⟨r, hr⟩ : ∃ r, r = run N 0 d [] σ := ⟨_, rfl⟩
 have H0 : Hid (Ñm n₀ rb tb cap s d fc fa w N r s.length (.slice none 0 0) (w.alloc (.cells zeros 27))) :=
  ħ ⟨N, [], σ, bv, by omega, hN, ŋ _, by simp; omega, hr.symm, ÁX.nil _ _ _ _ _ (by simp), hR.alloc _, (Fr.refl w).alloc _, Blk.new w 27 zeros⟩
 rw [← hr];obtain ⟨i0, hi, hz0, hz1, hz2⟩ := Á ÎC;clear hQ hR hr hN ht;go_enter Tryz.func56, Tryz.ntmps56;go_wp2
 go_loopg [4] s.length (fun g v wr => Ñm n₀ rb tb cap s d fc fa w N r g v wr)
 case atStart => exact H0.o
 case round =>
  clear H0;obtain ⟨m, L, σ', bv', hg, hm, hmN, hL, hrun, hrow, hRr, hFr, hBr⟩ := hrel
  obtain ⟨m, rfl⟩ : ∃ m', m = m' + 1 := ⟨m - 1, by omega⟩
  rw [Ái] at hrun;obtain ⟨A4, c4, rfl⟩ := hrow.form;have hwr := hBr.lt;have HR1 := ħ hRr;have HRow1 := ħ hrow;have HB1 := ħ hBr;have hrw : rb < wr.heap.size := hRr.blk.lt;have hpos := hRr.pos;have ht := hRr.tl
  have hL256 : L.length ≤ 256 := by omega
  have HQm := ħ (fun W (hW : Rd n₀ rb tb cap s W σ' d fc fa bv') => HQ.o m (by omega) d σ' W bv' (by omega) hW)
  have hql := fun a σ1 (h : run m 1 d [] σ' = .ok (a, σ1)) => ((ÂQ m).2.1 d [] σ' a σ1 h).1
  obtain ⟨rq, hrq⟩ : ∃ rq, rq = run m 1 d [] σ' := ⟨_, rfl⟩;rw [← hrq] at HQm hql hrun;have HMR := ħ hrun;have HQL := ħ hql;have hF := hFr;clear hrun hrow hRr hBr HQ hrq hql hFr
  go_wp2_with fail
  refine (HQm.o _ HR1.o).mono ?_;rintro e w2 hP2
  cases rq with
  | error f =>
   obtain ⟨rfl, hB, hF2⟩ := hP2;unfold zeros;have hpc := HMR.o;simp only at hpc;have HPC := ħ hpc
   have hB2 := (hF2.blk HR1.o HB1.o (by decide) (by decide)).alloc (.cells zeros 27)
   have hz := hB2.zero;have hfz := hB2.frozen;unfold zeros at hz hfz;clear hpc;go_wp2
   exact Ç rfl rfl rfl rfl (É hB2) (by
    rw [← HPC.o]
    exact ⟨rfl, (hB.alloc _).st7 (by omega), ((hF.trans hF2).alloc _).st7 (ŋ _)⟩)
  | ok y =>
   obtain ⟨a, σa⟩ := y;obtain ⟨sv, kv, bv2, rfl, hNd, hR2, hF2⟩ := hP2;obtain ⟨A1, A2, p1, p2, rfl, rfl⟩ := hNd.lens;have hll := HQL.o a σa rfl;have hpc := HMR.o;simp only at hpc hR2 hNd;obtain ⟨nk, hnk⟩ : ∃ nk : Array Value, nk = #[.int .i64 a.kind, .int .i64 a.lo, .int .i64 a.hi, .int .i64 a.mode, .int .i64 a.ref, .slice A1 a.set.length p1, .slice A2 a.kids.length p2] := ⟨_, rfl⟩
   have HB2 := ħ (((hF2.blk HR1.o HB1.o (by decide) (by decide)).alloc (.cells nk 27)).alloc (.cells nk 27))
   have HB8 := ħ (Blk.new (w2.alloc (.cells nk 27)) 27 nk);have HR2 := ħ ((hR2.alloc (.cells nk 27)).alloc (.cells nk 27));have hFF := hF2.trans (((Fr.refl w2).alloc (.cells nk 27)).alloc (.cells nk 27));have HRow2 := ħ (HRow1.o.fr HR1.o hFF);have HN2 := ħ (hNd.fr (((Fr.refl w2).alloc (.cells nk 27)).alloc (.cells nk 27)))
   replace hF := hF.trans hFF
   have hgv : Hid (∀ g, (Value.slice A4 L.length c4).ownBlock = some g → g < wr.heap.size) := ħ (fun g hg => (HRow1.o.own.lt g hg).2)
   have hsz2 : w.heap.size + 1 ≤ ((w2.alloc (.cells nk 27)).alloc (.cells nk 27)).heap.size := by have := HB2.o.lt; omega
   have hRow2o := HRow2.o.own;have HO := ħ hRow2o;have HPC := ħ hpc;subst hnk;clear hNd hR2 hF2 hFF hpc HRow1 hRow2o;simp only [ÃW]
   have hb4 : 124 = at_ σa.t 0 ∨ 124 ≠ at_ σa.t 0 := by omega
   have HRow4 := ħ (fun v' w4 hown' hgrow hown2 => (HRow2.o.push (v' := v') (w' := w4) HN2.o (by simp; omega) hgv.o hown' hgrow hown2).form2)
   have HRow5 := ħ (fun v' w4 hown' hgrow hown2 => HRow2.o.push (v' := v') (w' := w4) HN2.o (by simp; omega) hgv.o hown' hgrow hown2)
   go_upto_region 6 with (at_builtin; refine Áq _ rfl _ _ rfl (w.heap.size + 1) i0 hi hz0 hz1 hz2 _ L rfl HO.o (w2.heap.size + 1) a A1 A2 a.set.length p1 a.kids.length p2 rfl (by have := HB8.o; simpa using this) (by omega) hsz2 ?_; intro v' w4 hown' hgrow hown2; obtain ⟨A5, n5, c5, rfl, hn5⟩ := HRow4.o v' w4 hown' hgrow hown2; have HN5 := ħ hn5; have HRow6 := ħ (HRow5.o _ w4 hown' hgrow hown2); have HG := ħ hgrow; clear hn5 hown' hgrow hown2)
   have HR4 := ħ (HR2.o.grown HO.o (by decide) (by decide) (by decide) (by have := HR.o.size; omega) HG.o)
   have HB4 : Hid (Blk w4 w.heap.size 27 zeros) := ħ (HB2.o.grown HG.o (fun e => by have := (HO.o.lt _ e.symm).1; omega))
   replace hF := hF.grown HG.o (fun k hk => by have := (HO.o.lt k hk).1; omega)
   clear HRow4 HRow5 HG HO HB2 HB8 HR2 HRow2 HN2 hgv hsz2;obtain ⟨L', hL'⟩ : ∃ L', L' = L ++ [(a, Value.slice A1 a.set.length p1, Value.slice A2 a.kids.length p2)] := ⟨_, rfl⟩
   have hmap : Hid (L'.map (·.1) = L.map (·.1) ++ [a]) := ħ (by rw [hL', Ĕ]; rfl)
   have hlen' : L'.length = L.length + 1 := by rw [hL', ă]; rfl
   rw [← hL'] at HRow6 HN5;clear hL';rw [← hmap.o] at HPC
   by_cases h124 : at_ σa.t 0 = 124
   ·have HT := ħ (Ħ 124 (by decide) (by simpa using h124) HR4.o)
    have hla := Œ (Àf (t := σa.t) (by omega))
    have HPC2 : Hid (run m 0 d (L'.map (·.1)) (σa.adv 1) = r) := ħ (by have := HPC.o; rwa [if_pos h124] at this)
    clear HPC h124 hb4
    go_wp2_with fail
    refine HT.o.mono ?_;rintro e w5 ⟨rfl, hR5, hF5⟩;have HR5 := ħ hR5
    have HB5 := ħ (hF5.blk HR4.o HB4.o (by decide) (by decide))
    have HRow7 := ħ (HRow6.o.fr HR4.o hF5)
    replace hF := hF.trans hF5
    clear hR5 hF5;go_wp2
    go_roundg (σa.adv 1).t.length
    case measure => rw [ã]; omega
    case rel => exact ⟨m, L', σa.adv 1, bv2, ŋ _, by rw [ã]; omega, by omega, by rw [ã]; omega, HPC2.o, HRow7.o, HR5.o, hF, HB5.o⟩
   ·have HT := ħ (ŕ 124 (by decide) (by simpa using h124) HR4.o)
    have HPC2 : Hid (.ok (joinA (L'.map (·.1)), σa) = r) := ħ (by have := HPC.o; rwa [if_neg h124] at this)
    clear HPC h124 hb4
    go_wp2_with fail
    refine HT.o.mono ?_;rintro e w5 ⟨rfl, hb5⟩;have HR5 := ħ (HR4.o.on hb5);have HB5 := ħ (HB4.o.on hb5);have HRow7 := ħ (HRow6.o.fr HR4.o (Fr.of_below hb5))
    replace hF := hF.trans (Fr.of_below hb5)
    have hz := HB5.o.zero;have hfz := HB5.o.frozen;clear hb5
    by_cases l1 : n5 = 1
    ·subst l1
     obtain ⟨x, rfl⟩ := List.length_eq_one_iff.1 HN5.o.symm
     obtain ⟨g9, c9, hv9, hN9, hc9⟩ := HRow7.o.first
     obtain ⟨nd, sv, kv⟩ := x;obtain ⟨B1, B2, q1, q2, hsv, hkv⟩ := hN9.lens;simp only at hsv hkv hN9 hc9;subst hsv hkv;have k0 := hc9 0 _ rfl;have k1 := hc9 1 _ rfl;have k2 := hc9 2 _ rfl;have k3 := hc9 3 _ rfl;have k4 := hc9 4 _ rfl;have k5 := hc9 5 _ rfl;have k6 := hc9 6 _ rfl
     injection hv9 with hA9 hl9 hp9
     subst hA9 hp9;have HN9 := ħ hN9;clear hc9 hl9 hN9 hlen';go_wp2
     exact Ç rfl rfl rfl rfl (É HB5.o) (by
      rw [← HPC2.o]
      exact ⟨_, _, _, rfl, (HN9.o.st7 HB5.o (by simp)).low (by simp), HR5.o.st7 HB5.o HR.o.size, hF.st7 (ŋ _)⟩)
    ·have e1 : ((n5 : Int) == 1) = false := by simp; omega
     have h2l : 2 ≤ L'.length := by have := HN5.o; omega
     have hne : L' ≠ [] := by rintro rfl; simp at h2l
     have HNn := ħ (HRow7.o.node HR5.o 3 hne (by omega))
     have hj : Hid (joinA (L'.map (·.1)) = .mk 3 0 0 0 0 [] (L'.map (·.1))) := ħ (Ëf (by rw [List.length_map]; exact h2l))
     clear hne l1;go_wp2
     exact Ç rfl rfl rfl rfl (É HB5.o) (by
      rw [← HPC2.o, hj.o]
      exact ⟨_, _, _, rfl, (HNn.o.st7 HB5.o (by simp)).low (by simp), HR5.o.st7 HB5.o HR.o.size, hF.st7 (ŋ _)⟩)
end
section
open Go.RowKit
variable {n₀ rb tb cap d : Nat} {s : List UInt8} {w w' : World} {σ σ1 : St} {fc fa : Int} {bv v : Value}
theorem ÏN (N : Nat) : (ÐM n₀ rb tb cap s fc fa N ∧ ÐQ n₀ rb tb cap s fc fa N) ∧ ÐN n₀ rb tb cap s fc fa N ∧ ÏL n₀ rb tb cap s fc fa N := by
 induction N using Nat.strongRecOn with
 | ind N ih =>
  refine ⟨⟨ÌX N fun m hm => (ih m hm).1.2, ÎD N fun m hm => (ih m hm).2.1⟩, ?_, ?_⟩
  ·cases N with
   | zero =>
    intro d σ w bv hn hN hR;have := Œ hn;omega
   | succ n => exact Ëe n (ih n (Nat.lt_succ_self n)).2.2
  ·cases N with
   | zero =>
    intro d σ w bv hc hN hR
    have := Œ (Àf (t := σ.t) (by omega))
    omega
   | succ n => exact Ëd n (ih n (Nat.lt_succ_self n)).1.1
def Ñn (n₀ rb : Nat) (w : World) (r : Option (Nat × Nat)) (e : Ending) (w' : World) : Prop :=
 match r with
 | some b => e = .returned (.bool false) ∧ Bad w' rb (26, b.2) ∧ Fr n₀ rb w w'
 | none => e = .returned (.bool true) ∧ Below w.heap.size w w'
theorem ÌY {l : List (Nat × Nat)} {k g : Nat} (hk : k < l.length) (h : ∀ x ∈ l.take k, ¬ g < x.1) :
 (g < l[k].1 → l.find? (fun b => decide (g < b.1)) = some l[k]) ∧ (¬ g < l[k].1 → ∀ x ∈ l.take (k + 1), ¬ g < x.1) := by
 refine ⟨fun hx => ?_, fun hx x hm => ?_⟩
 ·have e : l = l.take k ++ l[k] :: l.drop (k + 1) := by rw [← List.drop_eq_getElem_cons hk, List.take_append_drop]
  have hn : (l.take k).find? (fun b => decide (g < b.1)) = none := List.find?_eq_none.2 fun x hx => by simpa using h x hx
  conv => lhs; rw [e]
  rw [List.find?_append, hn];simp [List.find?, hx]
 ·rw [ĕ hk] at hm
  rcases List.mem_append.1 hm with hm | hm
  ·exact h x hm
  ·obtain rfl := List.mem_singleton.1 hm
   exact hx
set_option maxRecDepth 100000 in
set_option maxHeartbeats 4000000 in
theorem Æo (hR : Rd n₀ rb tb cap s w σ d fc fa bv) : Calls Tryz.prog 59 #[.pointer (some ⟨rb, 0, none⟩)] w (Ñn n₀ rb w (σ.bk.find? fun b => decide (σ.g < b.1))) := by
 have hO := (Îz hR.own).set;obtain ⟨A, cp, hbv, hcp, _⟩ := id hO;rw [List.length_map] at hbv hcp;subst hbv;have c4 := hR.c4;have HO := ħ hO;have HR := ħ hR
 have hlen : σ.bk.length ≤ 256 := by have := hR.bnd; have := hR.pos; have := hR.len; omega
 have hg9 := hR.bnd.2.1;have hbkr : Hid (∀ x ∈ σ.bk, x.1 ≤ 1000000) ∨ True := .inr trivial;clear hO hR hbkr
 obtain ⟨r, hr⟩ : ∃ r, r = σ.bk.find? fun b => decide (σ.g < b.1) := ⟨_, rfl⟩
 rw [← hr];have HRr := ħ hr;clear hr;go_enter Tryz.func59, Tryz.ntmps59;go_wp2
 go_loopw [10] (fun i wr => ∃ k : Nat, k ≤ σ.bk.length ∧ i = .int .i64 k ∧ Hid (∀ x ∈ σ.bk.take k, ¬ σ.g < x.1) ∧ Below w.heap.size w wr) (fun i _ => σ.bk.length - (intOf i).toNat)
 case atStart => exact ⟨0, Ą _, rfl, ħ (by simp), ā _ _⟩
 case round =>
  obtain ⟨k, hk, rfl, HH, hbel⟩ := hrel;have hsz := hbel.size;have HRr2 := ħ (HR.o.on hbel)
  by_cases hlt : k < σ.bk.length
  ·obtain ⟨b, off, lo, hi, rfl, hb, hget, c0, c1⟩ := (HO.o.below hbel).at_ (k := k) (by rw [List.length_map]; exact hlt)
   rw [List.getElem?_map, Ā hlt] at hget;simp only [Option.map_some, Option.some.injEq, Prod.mk.injEq] at hget;obtain ⟨g1, g2⟩ := hget;subst g1 g2;have HFT := ħ (ÌY (g := σ.g) hlt HH.o);have c3 := (HRr2.o.alloc (.cells #[.int .i64 (σ.bk[k].1 : Nat), .int .i64 (σ.bk[k].2 : Nat)] 59)).c3;have c3r := HRr2.o.c3;have hrl := HRr2.o.blk.lt;obtain ⟨x, hx⟩ : ∃ x, x = σ.bk[k].1 := ⟨_, rfl⟩;obtain ⟨y, hy⟩ : ∃ y, y = σ.bk[k].2 := ⟨_, rfl⟩;have HX := ħ hx;have HY := ħ hy;rw [← hx] at c0 c3;rw [← hy] at c1 c3;clear hx hy HH
   by_cases hgt : σ.g < x
   ·have hgt' : (σ.g : Int) < (x : Int) := by omega
    have HF : Hid (some (σ.bk[k].1, σ.bk[k].2) = r) := ħ (by rw [HRr.o]; exact (HFT.o.1 (by rw [← HX.o]; exact hgt)).symm)
    rw [← HY.o] at HF;have hF := HF.o;subst hF;clear HFT;go_wp2;go_quiet (fail)
    go_wp2_with fail
    refine (Ò 26 y ((HRr2.o.alloc _).drewN _)).mono ?_;rintro e w3 ⟨rfl, hB, hF3⟩;go_wp2;go_ret
    exact ⟨rfl, hB, (((Fr.refl w).trans ⟨hbel.os, hbel.tape, hbel.output, hbel.size, fun i hi _ => hbel.block i hi⟩).alloc _ |>.drewN _).trans hF3⟩
   ·have hgt' : ¬ (σ.g : Int) < (x : Int) := by omega
    have HT := ħ (HFT.o.2 (by rw [← HX.o]; exact hgt))
    clear HFT;go_wp2;go_quiet (fail);go_wp2;go_roundw
    case rel => exact ⟨k + 1, by omega, by go_num, HT, (hbel.alloc hsz _).trans (Below.mono (ÁC _ _) (by simp; omega))⟩
    case measure => simp [intOf]; omega
  ·obtain rfl : k = σ.bk.length := by omega
   have HF : Hid (none = r) := ħ (by
    rw [HRr.o]
    exact (List.find?_eq_none.2 fun x hx => by simpa using HH.o x (by rw [Ă]; exact hx)).symm)
   have hF := HF.o;subst hF;go_wp2;go_ret;exact ⟨rfl, hbel⟩
end
section
open Go.RowKit
variable {n₀ rb tb cap d : Nat} {s : List UInt8} {w w' : World} {σ σ1 : St} {fc fa : Int} {bv v : Value}
def ź : Array Value := #[.int .i64 0, .int .i64 0, .int .i64 0, .int .i64 0, .int .i64 0, .slice none 0 0, .slice none 0 0, .int .i64 0, .bool false]
def st9 (w : World) (g : Nat) (c0 c1 c2 c3 c4 c5 c6 c7 c8 : Value) : World := ((st7 w g c0 c1 c2 c3 c4 c5 c6).setCell ⟨g, 7, none⟩ c7).setCell ⟨g, 8, none⟩ c8
section
variable {g : Nat} {t : TypeId} {x0 x1 x2 x3 x4 x5 x6 x7 x8 c0 c1 c2 c3 c4 c5 c6 c7 c8 : Value}
theorem ÂW (h : Blk w g t #[x0, x1, x2, x3, x4, x5, x6, x7, x8]) : Blk (st9 w g c0 c1 c2 c3 c4 c5 c6 c7 c8) g t #[c0, c1, c2, c3, c4, c5, c6, c7, c8] := by
 have := ((((((((h.set_ 0 c0).set_ 1 c1).set_ 2 c2).set_ 3 c3).set_ 4 c4).set_ 5 c5).set_ 6 c6).set_ 7 c7).set_ 8 c8;simpa [st9, st7] using this
theorem Ár {i : Nat} (h : i ≠ g) : (st9 w g c0 c1 c2 c3 c4 c5 c6 c7 c8).heap[i]? = w.heap[i]? := by
 unfold st9;rw [Below.heap_setCell _ _ _ _ h, Below.heap_setCell _ _ _ _ h, Àr h]
theorem Fr.st9 {a : World} (h : Fr n₀ rb a w) (hn : n₀ ≤ rb) (hg : a.heap.size ≤ g) : Fr n₀ rb a (st9 w g c0 c1 c2 c3 c4 c5 c6 c7 c8) :=
 ((h.st7 hg).set_ hn (.inl hg) _).set_ hn (.inl hg) _
theorem Bad.st9 {f : Flt} (h : Bad w rb f) (hg : rb ≠ g) : Bad (st9 w g c0 c1 c2 c3 c4 c5 c6 c7 c8) rb f := h.keep (Ár hg)
theorem Blk.st9 {b : Nat} {cs : Array Value} (h : Blk w b t cs) (hb : b ≠ g) : Blk (st9 w g c0 c1 c2 c3 c4 c5 c6 c7 c8) b t cs := (Ár hb).trans h
theorem ÉG : (st9 w g c0 c1 c2 c3 c4 c5 c6 c7 c8).heap.size = w.heap.size := by
 have := Æk (w := w) (g := g) (c0 := c0) (c1 := c1) (c2 := c2) (c3 := c3) (c4 := c4) (c5 := c5) (c6 := c6);simp [Go.Proofs.YtpginkdkblmnbaaGreatDoor.st9, World.setCell] at this ⊢;exact this
theorem okB.st9 {b : Nat} (h : okB n₀ rb w b) (hb : b ≠ g) : okB n₀ rb (Go.Proofs.YtpginkdkblmnbaaGreatDoor.st9 w g c0 c1 c2 c3 c4 c5 c6 c7 c8) b := by
 refine ⟨by rw [ÉG]; exact h.1, h.2.imp id (fun ⟨h1, h2⟩ => ⟨h1, fun ⟨cs', z, hh⟩ => h2 ⟨cs', z, ?_⟩⟩)⟩
 rw [← Ár (w := w) (c0 := c0) (c1 := c1) (c2 := c2) (c3 := c3) (c4 := c4) (c5 := c5) (c6 := c6) (c7 := c7) (c8 := c8) hb];exact hh
theorem Ê.st9 {a : World} {nd : Nd} {sv kv : Value} (h : Ê (KB n₀ rb a w) w nd sv kv) {cs : Array Value} (hg : Blk w g 29 cs) (ha : g < a.heap.size) : Ê (KB n₀ rb a (st9 w g c0 c1 c2 c3 c4 c5 c6 c7 c8)) (st9 w g c0 c1 c2 c3 c4 c5 c6 c7 c8) nd sv kv :=
 h.keep fun b hb => by
  have hne : b ≠ g := by
   rcases hb.2 with h1 | ⟨_, _, h1⟩
   ·omega
   ·exact Â h1 hg (by decide)
  exact ⟨⟨hb.1.st9 hne, hb.2.imp id (fun h => h.keep (Ár hne))⟩, Ár hne⟩
theorem ÌZ {a a' : World} {nd : Nd} {sv kv : Value} (h : Ê (KB n₀ rb a w) w nd sv kv) {cs : Array Value} (hg : Blk w g 29 cs) (ha : g < a.heap.size) (h0 : a'.heap.size ≤ a.heap.size) : Ê (KB n₀ rb a' (st9 w g c0 c1 c2 c3 c4 c5 c6 c7 c8)) (st9 w g c0 c1 c2 c3 c4 c5 c6 c7 c8) nd sv kv :=
 (h.st9 hg ha).low h0
theorem Blk.nine (h : Blk w g t #[x0, x1, x2, x3, x4, x5, x6, x7, x8]) : w.cell? ⟨g, 0, none⟩ = some x0 ∧ w.cell? ⟨g, 1, none⟩ = some x1 ∧ w.cell? ⟨g, 2, none⟩ = some x2 ∧ w.cell? ⟨g, 3, none⟩ = some x3 ∧ w.cell? ⟨g, 4, none⟩ = some x4 ∧
 w.cell? ⟨g, 5, none⟩ = some x5 ∧ w.cell? ⟨g, 6, none⟩ = some x6 ∧ w.cell? ⟨g, 7, none⟩ = some x7 ∧ w.cell? ⟨g, 8, none⟩ = some x8 :=
 ⟨h.cell 0, h.cell 1, h.cell 2, h.cell 3, h.cell 4, h.cell 5, h.cell 6, h.cell 7, h.cell 8⟩
theorem Åq {fn : Func} {Q : Ending → World → Prop} {a : Act} {b : Value} (hres : fn.results = #[.cell 2 29, .tmp 3]) (h2 : a.tmps.getD 2 undef = .pointer (some ⟨g, 0, none⟩)) (h3 : a.tmps.getD 3 undef = b) (hd : a.defers = [])
 (hB : Blk w g 29 #[c0, c1, c2, c3, c4, c5, c6, c7, c8]) (hQ : Q (.returned (.tuple #[.agg #[c0, c1, c2, c3, c4, c5, c6, c7, c8], b])) w) : bodyPost Tryz.prog fn Q Exit.ret a w := by
 obtain ⟨k0, k1, k2, k3, k4, k5, k6, k7, k8⟩ := hB.nine;rw [Array.getD_eq_getD_getElem?] at h2 h3;refine bodyPost_ret (v := .tuple #[.agg #[c0, c1, c2, c3, c4, c5, c6, c7, c8], b]) ?_ hd hQ;simp [results, hres, go_sem, h2, h3, k0, k1, k2, k3, k4, k5, k6, k7, k8]
end
def Ño (n₀ rb : Nat) (w : World) (r : Except Flt (Nd × Nat × Bool)) (e : Ending) (w' : World) : Prop :=
 match r with
 | .ok x => ∃ A1 A2 p1 p2, e = .returned (.tuple #[.agg #[.int .i64 x.1.kind, .int .i64 x.1.lo, .int .i64 x.1.hi, .int .i64 x.1.mode, .int .i64 x.1.ref, .slice A1 x.1.set.length p1, .slice A2 x.1.kids.length p2, .int .i64 (x.2.1 : Nat), .bool x.2.2], .bool true]) ∧
  Ê (KB n₀ rb w w') w' x.1 (.slice A1 x.1.set.length p1) (.slice A2 x.1.kids.length p2) ∧ Fr n₀ rb w w'
 | .error f => e = .returned (.tuple #[.agg ź, .bool false]) ∧ Bad w' rb f ∧ Fr n₀ rb w w'
def ÂG (fold : Bool) (ra : R) : Except Flt (Nd × Nat × Bool) :=
 match ra with
 | .error e => .error e
 | .ok (r, σ) => ended fold r σ
theorem Ëg (s : List UInt8) : (begins s).t.length ≤ s.length := by
 unfold begins
 split <;> simp
set_option maxRecDepth 100000 in
set_option maxHeartbeats 2000000 in
theorem ÉH (N : Nat) (hN : 4 * s.length + 2 ≤ N) (h0 : σ = { pos := 0, t := s, g := 0, bk := [] }) (hR : Rd n₀ rb tb cap s w σ 0 fc fa bv) :
 Calls Tryz.prog 31 #[.pointer (some ⟨rb, 0, none⟩)] w (Ño n₀ rb w (ÂG (ÀL s) (run N 0 0 [] (begins s)))) := by
 have hrl := hR.blk.lt;have hlow := hR.low;have HR := ħ hR;have HR0 := ħ (hR.alloc (.cells ź 29));have HB0 := ħ (Blk.new w 29 ź);have HF0 : Hid (Fr n₀ rb w (w.alloc (.cells ź 29))) := ħ ((Fr.refl w).alloc _)
 have HT : Hid (Calls Tryz.prog 55 #[.pointer (some ⟨rb, 0, none⟩), .string ⟨[40, 63, 105, 41].toArray⟩] (w.alloc (.cells ź 29)) fun e w' => e = .returned (.bool (ÀL s)) ∧ Rd n₀ rb tb cap s w' (begins s) 0 fc fa bv ∧ Fr n₀ rb (w.alloc (.cells ź 29)) w') := ħ (by
  cases hf : ÀL s with
  | true =>
   have hb : begins s = σ.adv 4 := by unfold begins; rw [if_pos hf, h0]; rfl
   rw [hb]
   exact Ļ [40, 63, 105, 41] (by rw [h0]; exact hf) HR0.o
  | false =>
   have hb : begins s = σ := by unfold begins; rw [if_neg (by rw [hf]; decide), h0]
   rw [hb]
   exact (Ŷ [40, 63, 105, 41] (by rw [h0]; exact hf) HR0.o).mono fun _ _ ⟨h1, h2⟩ => ⟨h1, HR0.o.on h2, Fr.of_below h2⟩)
 have HA := ħ (fun W (hW : Rd n₀ rb tb cap s W (begins s) 0 fc fa bv) => (ÏN (n₀ := n₀) (rb := rb) (tb := tb) (cap := cap) (s := s) (fc := fc) (fa := fa) N).1.1 0 (begins s) W bv (by have := Ëg s; omega) hW)
 obtain ⟨fo, hfo⟩ : ∃ fo, fo = ÀL s := ⟨_, rfl⟩;obtain ⟨ra, hra⟩ : ∃ ra, ra = run N 0 0 [] (begins s) := ⟨_, rfl⟩;rw [← hfo] at HT ⊢;rw [← hra] at HA ⊢;clear hfo hra hR h0 hN;go_enter Tryz.func31, Tryz.ntmps31
 go_wp2_with fail
 refine HT.o.mono ?_;rintro e w1 ⟨rfl, hR1, hF1⟩
 have HB1 := ħ (hF1.blk HR0.o HB0.o (by decide) (by decide))
 have HR1 := ħ hR1;have hF := HF0.o.trans hF1;have h01 : w.heap.size < w1.heap.size := HB1.o.lt;clear hR1 hF1
 go_wp2_with fail
 refine (HA.o _ HR1.o).mono ?_;rintro e w2 hP2
 cases ra with
 | error f =>
  obtain ⟨rfl, hB, hF2⟩ := hP2;unfold zeros
  have hB2 := (hF2.blk HR1.o HB1.o (by decide) (by decide)).alloc (.cells zeros 27)
  have hz := hB2.nine;have hfz := hB2.frozen;unfold zeros at hz hfz;go_wp2
  exact Åq rfl rfl rfl rfl (ÂW hB2) ⟨rfl, (hB.alloc _).st9 (by omega), ((hF.trans hF2).alloc _).st9 hlow (ŋ _)⟩
 | ok y =>
  obtain ⟨nd, σ2⟩ := y;obtain ⟨sv, kv, bv2, rfl, hNd, hR2, hF2⟩ := hP2;obtain ⟨A1, A2, p1, p2, rfl, rfl⟩ := hNd.lens;simp only at hR2 hNd;have hw2 := hF2.size;obtain ⟨nk, hnk⟩ : ∃ nk : Array Value, nk = #[.int .i64 nd.kind, .int .i64 nd.lo, .int .i64 nd.hi, .int .i64 nd.mode, .int .i64 nd.ref, .slice A1 nd.set.length p1, .slice A2 nd.kids.length p2] := ⟨_, rfl⟩
  have HB3 := ħ ((hF2.blk HR1.o HB1.o (by decide) (by decide)).alloc (.cells nk 27))
  have HB5 := ħ (Blk.new w2 27 nk);have HR3 := ħ (hR2.alloc (.cells nk 27));have HN3 := ħ (hNd.fr ((Fr.refl w2).alloc (.cells nk 27)))
  replace hF := (hF.trans hF2).alloc (.cells nk 27)
  have HE := ħ (Áf HR3.o);clear hNd hR2 hF2;simp only [ÃW];subst hnk
  cases hen : σ2.t.isEmpty with
  | false =>
   have hpc : Hid (ÂG fo (.ok (nd, σ2)) = .error (20, σ2.pos)) := ħ (by show ended fo nd σ2 = _; unfold ended; rw [hen]; rfl)
   rw [hen] at HE;clear hen
   go_wp2_with fail
   refine HE.o.mono ?_;rintro e w4 ⟨rfl, hb4⟩;have HR4 := ħ (HR3.o.on hb4);have HB4 := ħ (HB3.o.on hb4);have c1 := HR4.o.c1
   go_wp2_with fail
   refine (Ò 20 σ2.pos HR4.o).mono ?_;rintro e w5 ⟨rfl, hB, hF5⟩
   have hB5 := hF5.blk HR4.o HB4.o (by decide) (by decide)
   have hz := hB5.nine;have hfz := hB5.frozen;go_wp2
   exact Åq rfl rfl rfl rfl (ÂW hB5) (by
    rw [hpc.o]
    exact ⟨rfl, hB.st9 (by omega), ((hF.trans (Fr.of_below hb4)).trans hF5).st9 hlow (ŋ _)⟩)
  | true =>
   have hpc0 : ÂG fo (.ok (nd, σ2)) = (match σ2.bk.find? fun b => decide (σ2.g < b.1) with | some b => .error (26, b.2) | none => .ok (nd, σ2.g, fo)) := by show ended fo nd σ2 = _; unfold ended; rw [hen]; rfl
   have HCb := ħ (fun W (hW : Rd n₀ rb tb cap s W σ2 0 fc fa bv2) => Æo hW)
   obtain ⟨rc, hrc⟩ : ∃ rc, rc = σ2.bk.find? fun b => decide (σ2.g < b.1) := ⟨_, rfl⟩
   rw [← hrc] at HCb hpc0;rw [hen] at HE;have HPC := ħ hpc0;clear hen hpc0 hrc
   go_wp2_with fail
   refine HE.o.mono ?_;rintro e w4 ⟨rfl, hb4⟩;have HR4 := ħ (HR3.o.on hb4);have HB4 := ħ (HB3.o.on hb4);have HB54 := ħ (HB5.o.on hb4);have HN4 := ħ (HN3.o.fr (Fr.of_below hb4))
   replace hF := hF.trans (Fr.of_below hb4)
   have h52 : w2.heap.size ≠ w.heap.size := by omega
   clear hb4 HB3 HB5 HR3 HN3
   go_wp2_with fail
   refine (HCb.o _ HR4.o).mono ?_;rintro e w5 hP5
   cases rc with
   | some b =>
    obtain ⟨rfl, hB, hF5⟩ := hP5;have hpc := HPC.o;simp only at hpc;have HPC2 := ħ hpc
    have hB5 := hF5.blk HR4.o HB4.o (by decide) (by decide)
    have hz := hB5.nine;have hfz := hB5.frozen;clear hpc;go_wp2
    exact Åq rfl rfl rfl rfl (ÂW hB5) (by
     rw [HPC2.o]
     exact ⟨rfl, hB.st9 (by omega), (hF.trans hF5).st9 hlow (ŋ _)⟩)
   | none =>
    obtain ⟨rfl, hb5⟩ := hP5;have hpc := HPC.o;simp only at hpc;have HPC2 := ħ hpc;have HR5 := ħ (HR4.o.on hb5);have HB5 := ħ (HB4.o.on hb5);have HB55 := ħ (HB54.o.on hb5);have HN5 := ħ (HN4.o.fr (Fr.of_below hb5))
    replace hF := hF.trans (Fr.of_below hb5)
    have hrne : rb ≠ w.heap.size := by omega
    clear hpc hb5
    go_upto_region 9 with (fail)
    refine wp_region_held_drew (S := fun W => Blk W w2.heap.size 27 #[.int .i64 nd.kind, .int .i64 nd.lo, .int .i64 nd.hi, .int .i64 nd.mode, .int .i64 nd.ref, .slice A1 nd.set.length p1, .slice A2 nd.kids.length p2] ∧ W.cell? ⟨rb, 3, none⟩ = some (.int .i64 (σ2.g : Nat))) (by kernel_rfl) ⟨HB55.o, HR5.o.c3⟩ (fun hHeld => ?_)
    have HB6 : Hid (Blk w5.drew w.heap.size 29 ź) := ħ HB5.o;have HB56 : Hid (Blk w5.drew w2.heap.size 27 #[.int .i64 nd.kind, .int .i64 nd.lo, .int .i64 nd.hi, .int .i64 nd.mode, .int .i64 nd.ref, .slice A1 nd.set.length p1, .slice A2 nd.kids.length p2]) := ħ HB55.o;have HR6 := ħ HR5.o.drew;have HN6 : Hid (Ê (KB n₀ rb w1 w5.drew) w5.drew nd (.slice A1 nd.set.length p1) (.slice A2 nd.kids.length p2)) := ħ (HN5.o.fr ((Fr.refl w5).drewN 1))
    replace hF : Fr n₀ rb w w5.drew := hF.drewN 1
    clear HB5 HB55 HR5 HN5;generalize w5.drew = W6 at HB6 HB56 HR6 HN6 hF hHeld ⊢
    refine ŧ 0 31 (.agg #[.int .i64 nd.kind, .int .i64 nd.lo, .int .i64 nd.hi, .int .i64 nd.mode, .int .i64 nd.ref, .slice A1 nd.set.length p1, .slice A2 nd.kids.length p2]) _ rfl rfl hHeld (fun w' hSw => ?_) ?_
    ·have hS7 := Blk.seven hSw.1
     have hS3 := hSw.2;clear hSw;go_simp
    simp only [ł, ø, đ]
    refine ŧ 1 32 (.pointer (some ⟨rb, 0, none⟩)) _ rfl rfl hHeld (fun w' hSw => ?_) ?_
    ·go_simp
    simp only [ł, ø, đ]
    refine ŧ 2 33 (.pointer (some ⟨rb, 0, none⟩)) _ rfl rfl hHeld (fun w' hSw => ?_) ?_
    ·go_simp
    simp only [ł, ø, đ]
    refine ŧ 3 34 (.pointer (some ⟨rb, 3, none⟩)) _ rfl rfl hHeld (fun w' hSw => ?_) ?_
    ·go_simp
    simp only [ł, ø, đ]
    refine ŧ 4 35 (.int .i64 (σ2.g : Nat)) _ rfl rfl hHeld (fun w' hSw => ?_) ?_
    ·have hS7 := Blk.seven hSw.1
     have hS3 := hSw.2;clear hSw;go_simp
    simp only [ł, ø, đ]
    refine ŧ 5 36 (.bool fo) _ rfl rfl hHeld (fun w' hSw => ?_) ?_
    ·go_simp
    simp only [ł, ø, đ]
    refine ŧ 6 37 (.agg #[.int .i64 nd.kind, .int .i64 nd.lo, .int .i64 nd.hi, .int .i64 nd.mode, .int .i64 nd.ref, .slice A1 nd.set.length p1, .slice A2 nd.kids.length p2, .int .i64 (σ2.g : Nat), .bool fo]) _ rfl rfl hHeld (fun w' hSw => ?_) ?_
    ·go_simp
    simp only [ł, ø, đ];have hz := HB6.o.nine;have hfz := HB6.o.frozen
    refine ŝ 7 (fun K hK => ?_)
    go_simp
    refine hK.o _ _ ⟨HB56.o.st9 h52, (Ì (Ár hrne) 3).trans HR6.o.c3⟩ (fun hHeld => ?_)
    clear hK K
    refine ŧ 8 3 (.bool true) _ rfl rfl hHeld (fun w' hSw => ?_) ?_
    ·go_simp
    simp only [ł, ø, đ]
    refine wpAnyH_done (by kernel_rfl) ?_ _
    clear hHeld hz hfz;go_wp2
    exact Åq rfl rfl rfl rfl (ÂW HB6.o) (by
     rw [HPC2.o]
     exact ⟨_, _, _, _, rfl, ÌZ HN6.o HB6.o h01 (Nat.le_of_lt h01), hF.st9 hlow (ŋ _)⟩)
end
section
open Go.RowKit
variable {n₀ rb tb cap d : Nat} {s : List UInt8} {w w' : World} {σ σ1 : St} {fc fa : Int} {bv v : Value}
def Æp : Array Value := #[.int .i64 0, .int .i64 0]
def Ëh (nd : Nd) (A1 A2 : Option Addr) (p1 p2 g : Nat) (fo : Bool) : Array Value := #[.int .i64 nd.kind, .int .i64 nd.lo, .int .i64 nd.hi, .int .i64 nd.mode, .int .i64 nd.ref, .slice A1 nd.set.length p1, .slice A2 nd.kids.length p2, .int .i64 (g : Nat), .bool fo]
def ÁY (w : World) (r : Except Flt (Nd × Nat × Bool)) (e : Ending) (w' : World) : Prop :=
 match r with
 | .ok x => ∃ A1 A2 p1 p2, e = .returned (.tuple #[.agg (Ëh x.1 A1 A2 p1 p2 x.2.1 x.2.2), .agg #[.int .i64 0, .int .i64 0]]) ∧
  Ê (fun b => b < w'.heap.size) w' x.1 (.slice A1 x.1.set.length p1) (.slice A2 x.1.kids.length p2) ∧ Below w.heap.size w w'
 | .error f => e = .returned (.tuple #[.agg ź, .agg #[.int .i64 (f.1 : Nat), .int .i64 (f.2 : Nat)]]) ∧ Below w.heap.size w w'
theorem Ía (N : Nat) (s : List UInt8) (h : ¬ 256 < s.length) : ñ N s = ÂG (ÀL s) (run N 0 0 [] (begins s)) := by
 unfold ñ;rw [if_neg h];rfl
theorem Èv {g h : Nat} {c0 c1 c2 c3 c4 c5 c6 c7 c8 d0 d1 : Value} {fn : Func} {Q : Ending → World → Prop} {a : Act} (hres : fn.results = #[.cell 2 29, .cell 3 32]) (h2 : a.tmps.getD 2 undef = .pointer (some ⟨g, 0, none⟩)) (h3 : a.tmps.getD 3 undef = .pointer (some ⟨h, 0, none⟩)) (hd : a.defers = [])
 (hB : Blk w g 29 #[c0, c1, c2, c3, c4, c5, c6, c7, c8]) (hC : Blk w h 32 #[d0, d1]) (hQ : Q (.returned (.tuple #[.agg #[c0, c1, c2, c3, c4, c5, c6, c7, c8], .agg #[d0, d1]])) w) : bodyPost Tryz.prog fn Q Exit.ret a w := by
 obtain ⟨k0, k1, k2, k3, k4, k5, k6, k7, k8⟩ := hB.nine;have m0 := hC.cell 0;have m1 := hC.cell 1;simp at m0 m1;rw [Array.getD_eq_getD_getElem?] at h2 h3;refine bodyPost_ret (v := .tuple #[.agg #[c0, c1, c2, c3, c4, c5, c6, c7, c8], .agg #[d0, d1]]) ?_ hd hQ;simp [results, hres, go_sem, h2, h3, k0, k1, k2, k3, k4, k5, k6, k7, k8, m0, m1]
set_option maxRecDepth 100000 in
set_option maxHeartbeats 1000000 in
theorem Ëi (N : Nat) (h : 256 < s.length) (hm : s.length ≤ 1000000) : Calls Tryz.prog 8 #[.string ⟨s.toArray⟩] w (ÁY w (ñ N s)) := by
 have e : ñ N s = .error (12, 0) := by unfold ñ; rw [if_pos h]
 rw [e];obtain ⟨x, hx⟩ : ∃ x : ByteArray, x = ⟨s.toArray⟩ := ⟨_, rfl⟩
 have hxs : x.size = s.length := by rw [hx]; rfl
 have h1 : 256 < x.size := by omega
 have h1' : (256 : Int) < (x.size : Int) := by omega
 have h2 : x.size ≤ 1000000 := by omega
 rw [← hx];clear hx hxs e;go_enter Tryz.func8, Tryz.ntmps8;go_wp2;have hB : Blk ((w.alloc (.cells ź 29)).alloc (.cells #[.int .i64 12, .int .i64 0] 32)) w.heap.size 29 ź := (Blk.new w 29 ź).alloc _
 have hC : Blk ((w.alloc (.cells ź 29)).alloc (.cells #[.int .i64 12, .int .i64 0] 32)) (w.heap.size + 1) 32 #[.int .i64 12, .int .i64 0] := Blk.new_at _ _ (by simp) 32 _
 exact Èv rfl rfl rfl rfl hB hC ⟨rfl, ((ā _ _).alloc (ŋ _) _).alloc (by simp) _⟩
theorem ÎE (w : World) (s : List UInt8) (hT : ś n₀ w) (hn : n₀ ≤ w.heap.size) (hl : s.length ≤ 256) :
 Rd n₀ ((Lib.bytesWorld w 5 ⟨s.toArray⟩).heap.size) w.heap.size (grownCap w s.length 0 5) s ((Lib.bytesWorld w 5 ⟨s.toArray⟩).alloc (.cells #[.slice (some ⟨w.heap.size, 0, none⟩) s.length (grownCap w s.length 0 5), .int .i64 0, .int .i64 0, .int .i64 0, .slice none 0 0, .int .i64 0, .int .i64 0] 84)) { pos := 0, t := s, g := 0, bk := [] } 0 0 0 (.slice none 0 0) := by
 have hsz := Lib.bytesWorld_size w 5 ⟨s.toArray⟩;have hnew := Lib.bytesWorld_at_new w 5 ⟨s.toArray⟩;have hb := ÀC w ⟨s.toArray⟩
 have hal : ∀ i, i < (Lib.bytesWorld w 5 ⟨s.toArray⟩).heap.size → ((Lib.bytesWorld w 5 ⟨s.toArray⟩).alloc (.cells #[.slice (some ⟨w.heap.size, 0, none⟩) s.length (grownCap w s.length 0 5), .int .i64 0, .int .i64 0, .int .i64 0, .slice none 0 0, .int .i64 0, .int .i64 0] 84)).heap[i]? = (Lib.bytesWorld w 5 ⟨s.toArray⟩).heap[i]? := fun i hi => Below.heap_alloc _ _ i hi
 refine ⟨Blk.new _ _ _, fun j hj => ?_, ⟨_, _, (hal _ (by omega)).trans hnew⟩, ⟨grownCap_ge _ _, hl⟩, World.ownsRow_nil _ _ _ _, Ą _, rfl, ⟨by omega, by simp, by simp⟩, by rw [hsz]; omega, ?_⟩
 ·rw [Ì (hal _ (by omega)) _]
  have := Lib.bytesWorld_cell w 5 ⟨s.toArray⟩ j (by simpa [ByteArray.size] using hj)
  rw [ĉ, this];simp [at_, List.getD_eq_getElem?_getD]
 ·exact hT.below ((hb.mono hn).alloc (by omega) _)
def st2 (w : World) (g : Nat) (c0 c1 : Value) : World := (w.setCell ⟨g, 0, none⟩ c0).setCell ⟨g, 1, none⟩ c1
theorem ÃX {g : Nat} {c0 c1 : Value} {i : Nat} (h : i ≠ g) : (st2 w g c0 c1).heap[i]? = w.heap[i]? := by
 unfold st2;rw [Below.heap_setCell _ _ _ _ h, Below.heap_setCell _ _ _ _ h]
theorem ÎF {g : Nat} {c0 c1 : Value} : (st2 w g c0 c1).heap.size = w.heap.size := by simp [st2, World.setCell]
theorem Ìf {g : Nat} {t : TypeId} {x0 x1 c0 c1 : Value} (h : Blk w g t #[x0, x1]) : Blk (st2 w g c0 c1) g t #[c0, c1] := by
 have := (h.set_ 0 c0).set_ 1 c1;simpa [st2] using this
theorem ÇA {a : World} {B g : Nat} {c0 c1 : Value} (h : Below B a w) (hg : B ≤ g) : Below B a (st2 w g c0 c1) :=
 (h.setCell hg _).setCell hg _
theorem ÇB {a : World} {B g : Nat} {c0 c1 c2 c3 c4 c5 c6 c7 c8 : Value} (h : Below B a w) (hg : B ≤ g) : Below B a (st9 w g c0 c1 c2 c3 c4 c5 c6 c7 c8) :=
 (((((((((h.setCell hg _).setCell hg _).setCell hg _).setCell hg _).setCell hg _).setCell hg _).setCell hg _).setCell hg _).setCell hg _)
theorem ÎG {a : World} {nd : Nd} {sv kv : Value} {g g' : Nat} {cs cs' : Array Value} {c0 c1 c2 c3 c4 c5 c6 c7 c8 d0 d1 : Value} (h : Ê (KB n₀ rb a w) w nd sv kv) (hg : Blk w g 29 cs) (hh : Blk w g' 32 cs') (ha : g < a.heap.size) (hb : g' < a.heap.size) :
 Ê (fun b => b < (st2 (st9 w g c0 c1 c2 c3 c4 c5 c6 c7 c8) g' d0 d1).heap.size) (st2 (st9 w g c0 c1 c2 c3 c4 c5 c6 c7 c8) g' d0 d1) nd sv kv :=
 h.keep fun b hk => by
  have hne : b ≠ g := by
   rcases hk.2 with h1 | ⟨_, _, h1⟩
   ·omega
   ·exact Â h1 hg (by decide)
  have hne' : b ≠ g' := by
   rcases hk.2 with h1 | ⟨_, _, h1⟩
   ·omega
   ·exact Â h1 hh (by decide)
  exact ⟨by rw [ÎF, ÉG]; exact hk.1.1, (ÃX hne').trans (Ár hne)⟩
set_option maxRecDepth 100000 in
set_option maxHeartbeats 2000000 in
theorem ÉI (N : Nat) (hN : 1026 ≤ N) (h : ¬ 256 < s.length) (hT : ś w.heap.size w) : Calls Tryz.prog 8 #[.string ⟨s.toArray⟩] w (ÁY w (ñ N s)) := by
 rw [Ía N s h]
 have hb1 : Below w.heap.size w ((w.alloc (.cells ź 29)).alloc (.cells Æp 32)) := ((ā _ _).alloc (ŋ _) _).alloc (by simp) _
 have HRd := ħ (ÎE (n₀ := w.heap.size) ((w.alloc (.cells ź 29)).alloc (.cells Æp 32)) s (hT.below hb1) (by simp; omega) (by omega))
 have HB := ħ (((Blk.new w 29 ź).alloc (.cells Æp 32)).on (ÀC _ ⟨s.toArray⟩))
 have HC := ħ ((Blk.new_at (w.alloc (.cells ź 29)) (w.heap.size + 1) (by simp) 32 Æp).on (ÀC _ ⟨s.toArray⟩))
 have hb2 := hb1.trans ((ÀC ((w.alloc (.cells ź 29)).alloc (.cells Æp 32)) ⟨s.toArray⟩).mono hb1.size)
 have HP := ħ (fun rb tb cap W (hW : Rd w.heap.size rb tb cap s W { pos := 0, t := s, g := 0, bk := [] } 0 0 0 (.slice none 0 0)) => ÉH N (by omega) rfl hW)
 obtain ⟨r, hr⟩ : ∃ r, r = ÂG (ÀL s) (run N 0 0 [] (begins s)) := ⟨_, rfl⟩;rw [← hr] at HP ⊢;obtain ⟨x, hx⟩ : ∃ x : ByteArray, x = ⟨s.toArray⟩ := ⟨_, rfl⟩
 have hxs : s.length = x.size := by rw [hx]; rfl
 rw [← hx] at HRd HB HC hb2 ⊢;rw [hxs] at HRd h
 have h1' : ¬ (256 : Int) < (x.size : Int) := by omega
 have kc := Æe;have hsz := Lib.bytesWorld_size ((w.alloc (.cells ź 29)).alloc (.cells Æp 32)) 5 x;clear hr hx hT hb1;go_enter Tryz.func8, Tryz.ntmps8
 go_upto_region 4 with (fail)
 unfold ź Æp at HRd HB HC hb2 hsz
 have hs2 : ((w.alloc (.cells #[.int .i64 0, .int .i64 0, .int .i64 0, .int .i64 0, .int .i64 0, .slice none 0 0, .slice none 0 0, .int .i64 0, .bool false] 29)).alloc (.cells #[.int .i64 0, .int .i64 0] 32)).heap.size = w.heap.size + 1 + 1 := by simp
 rw [hs2] at HRd hsz;have hB0 := HB.o;have hC0 := HC.o;generalize ((w.alloc (.cells #[.int .i64 0, .int .i64 0, .int .i64 0, .int .i64 0, .int .i64 0, .slice none 0 0, .slice none 0 0, .int .i64 0, .bool false] 29)).alloc (.cells #[.int .i64 0, .int .i64 0] 32)) = w1 at *;obtain ⟨W, hW⟩ : ∃ W, W = (Lib.bytesWorld w1 5 x).alloc (.cells #[.slice (some ⟨w.heap.size + 1 + 1, 0, none⟩) x.size (grownCap w1 x.size 0 5), .int .i64 0, .int .i64 0, .int .i64 0, .slice none 0 0, .int .i64 0, .int .i64 0] 84) := ⟨_, rfl⟩
 have hBW : Blk W w.heap.size 29 #[.int .i64 0, .int .i64 0, .int .i64 0, .int .i64 0, .int .i64 0, .slice none 0 0, .slice none 0 0, .int .i64 0, .bool false] := by rw [hW]; exact hB0.alloc _
 have hCW : Blk W (w.heap.size + 1) 32 #[.int .i64 0, .int .i64 0] := by rw [hW]; exact hC0.alloc _
 have hbW : Below w.heap.size w W := by rw [hW]; exact hb2.alloc hb2.size _
 rw [← hW] at HRd ⊢;generalize (Lib.bytesWorld w1 5 x).heap.size = rb at HRd ⊢;generalize grownCap w1 x.size 0 5 = cap at HRd ⊢
 have hg1 : w.heap.size ≠ w.heap.size + 1 := by omega
 clear hW hB0 hC0 HB HC hb2 hsz hs2 h1' kc
 go_wp2_with fail
 refine (HP.o _ _ _ _ HRd.o).mono ?_;rintro e w2 hP2;have hlow := HRd.o.low
 cases r with
 | error f =>
  obtain ⟨rfl, hB, hF2⟩ := hP2;unfold ź
  have HB3 := ħ ((hF2.blk HRd.o hBW (by decide) (by decide)).alloc (.cells #[.int .i64 0, .int .i64 0, .int .i64 0, .int .i64 0, .int .i64 0, .slice none 0 0, .slice none 0 0, .int .i64 0, .bool false] 29))
  have HC3 := ħ ((hF2.blk HRd.o hCW (by decide) (by decide)).alloc (.cells #[.int .i64 0, .int .i64 0, .int .i64 0, .int .i64 0, .int .i64 0, .slice none 0 0, .slice none 0 0, .int .i64 0, .bool false] 29))
  have hbF : Below w.heap.size w w2 := hbW.trans (hF2.old (ē (by simp) hbW.size))
  have HF3 := ħ (hbF.alloc hbF.size (.cells #[.int .i64 0, .int .i64 0, .int .i64 0, .int .i64 0, .int .i64 0, .slice none 0 0, .slice none 0 0, .int .i64 0, .bool false] 29));have hBad := hB.alloc (.cells #[.int .i64 0, .int .i64 0, .int .i64 0, .int .i64 0, .int .i64 0, .slice none 0 0, .slice none 0 0, .int .i64 0, .bool false] 29)
  have hr1 : rb ≠ w.heap.size := HRd.o.blk.ne_ hBW (by decide)
  have hr2 : rb ≠ w.heap.size + 1 := HRd.o.blk.ne_ hCW (by decide)
  clear HRd hBW hCW hbW hB hF2 HP hbF
  go_upto_region 6 with (fail)
  generalize w2.alloc (.cells #[.int .i64 0, .int .i64 0, .int .i64 0, .int .i64 0, .int .i64 0, .slice none 0 0, .slice none 0 0, .int .i64 0, .bool false] 29) = w3 at *
  refine wp_region_held_drew (S := fun W => Bad W rb f) (by kernel_rfl) hBad (fun hHeld => ?_)
  have hB4 : Blk w3.drew w.heap.size 29 #[.int .i64 0, .int .i64 0, .int .i64 0, .int .i64 0, .int .i64 0, .slice none 0 0, .slice none 0 0, .int .i64 0, .bool false] := HB3.o;have hC4 : Blk w3.drew (w.heap.size + 1) 32 #[.int .i64 0, .int .i64 0] := HC3.o;have hF4 : Below w.heap.size w w3.drew := HF3.o.drew;have hBad4 : Bad w3.drew rb f := hBad;clear HB3 HC3 HF3 hBad;generalize w3.drew = W4 at *;have HB4 := ħ hB4;have HC4 := ħ hC4;have HF4 := ħ hF4;have HBad4 := ħ hBad4;clear hB4 hC4 hF4 hBad4
  refine ŧ 0 21 (.agg #[.int .i64 0, .int .i64 0, .int .i64 0, .int .i64 0, .int .i64 0, .slice none 0 0, .slice none 0 0, .int .i64 0, .bool false]) _ rfl rfl hHeld (fun w' hSw => ?_) ?_
  ·go_simp
  simp only [ł, ø, đ]
  refine ŧ 1 22 (.pointer (some ⟨rb, 5, none⟩)) _ rfl rfl hHeld (fun w' hSw => ?_) ?_
  ·go_simp
  simp only [ł, ø, đ]
  refine ŧ 2 23 (.agg #[.int .i64 (f.1 : Nat), .int .i64 (f.2 : Nat)]) _ rfl rfl hHeld (fun w' hSw => ?_) ?_
  ·have hS5 := hSw.1
   have hS6 := hSw.2;clear hSw;go_simp
  simp only [ł, ø, đ];have hz := HB4.o.nine;have hfz := HB4.o.frozen
  refine ŝ 3 (fun K hK => ?_)
  go_simp
  refine hK.o _ _ (HBad4.o.st9 hr1) (fun hHeld => ?_)
  clear hK K;have HB5 : Hid (Blk (st9 W4 w.heap.size (.int .i64 0) (.int .i64 0) (.int .i64 0) (.int .i64 0) (.int .i64 0) (.slice none 0 0) (.slice none 0 0) (.int .i64 0) (.bool false)) w.heap.size 29 _) := ħ (ÂW HB4.o);have hC5 : Blk (st9 W4 w.heap.size (.int .i64 0) (.int .i64 0) (.int .i64 0) (.int .i64 0) (.int .i64 0) (.slice none 0 0) (.slice none 0 0) (.int .i64 0) (.bool false)) (w.heap.size + 1) 32 #[.int .i64 0, .int .i64 0] := HC4.o.st9 hg1.symm;have HF5 : Hid (Below w.heap.size w (st9 W4 w.heap.size (.int .i64 0) (.int .i64 0) (.int .i64 0) (.int .i64 0) (.int .i64 0) (.slice none 0 0) (.slice none 0 0) (.int .i64 0) (.bool false))) := ħ (ÇB HF4.o (ŋ _));clear hz hfz HB4 HC4 HF4;obtain ⟨W5, hW5⟩ : ∃ W5, W5 = st9 W4 w.heap.size (.int .i64 0) (.int .i64 0) (.int .i64 0) (.int .i64 0) (.int .i64 0) (.slice none 0 0) (.slice none 0 0) (.int .i64 0) (.bool false) := ⟨_, rfl⟩
  have hHeld5 : Bad W5 rb f := by rw [hW5]; exact HBad4.o.st9 hr1
  rw [← hW5] at HB5 hC5 HF5;unfold st9 st7 at hW5;rw [← hW5];have HBad5 := ħ hHeld5;clear hHeld hHeld5 hW5 HBad4;have hHeld := HBad5.o;have HC5 := ħ hC5;have hz0 := hC5.cell 0;have hz1 := hC5.cell 1;simp at hz0 hz1;have hfz := hC5.frozen;clear hC5;have hr2' : rb ≠ w.heap.size + 1 := hr2
  refine ŝ 4 (fun K hK => ?_)
  go_simp
  refine hK.o _ _ (HBad5.o.keep (ÃX hr2')) (fun hHeld => ?_)
  clear hK K
  refine wpAnyH_done (by kernel_rfl) ?_ _
  clear hHeld hz0 hz1 hfz;go_wp2
  exact Èv rfl rfl rfl rfl ((ÃX hg1).trans HB5.o) (Ìf HC5.o) ⟨rfl, ÇA HF5.o (by omega)⟩
 | ok y =>
  obtain ⟨nd, g, fo⟩ := y;obtain ⟨A1, A2, p1, p2, rfl, hNd, hF2⟩ := hP2;simp only at hNd;obtain ⟨nk, hnk⟩ : ∃ nk : Array Value, nk = #[.int .i64 nd.kind, .int .i64 nd.lo, .int .i64 nd.hi, .int .i64 nd.mode, .int .i64 nd.ref, .slice A1 nd.set.length p1, .slice A2 nd.kids.length p2, .int .i64 (g : Nat), .bool fo] := ⟨_, rfl⟩
  have HB3 := ħ ((hF2.blk HRd.o hBW (by decide) (by decide)).alloc (.cells nk 29))
  have HC3 := ħ ((hF2.blk HRd.o hCW (by decide) (by decide)).alloc (.cells nk 29))
  have hbF : Below w.heap.size w w2 := hbW.trans (hF2.old (ē (by simp) hbW.size))
  have HF3 := ħ (hbF.alloc hbF.size (.cells nk 29));have HN3 := ħ (hNd.fr ((Fr.refl w2).alloc (.cells nk 29)));have HK3 := ħ (Blk.new w2 29 nk);have hsl : w.heap.size + 1 < W.heap.size := hCW.lt
  have hk1 : w2.heap.size ≠ w.heap.size := by have := hF2.size; omega
  have hk2 : w2.heap.size ≠ w.heap.size + 1 := by have := hF2.size; omega
  clear HRd hBW hCW hbW hNd hF2 HP hbF;subst hnk
  go_upto_region 7 with (fail)
  generalize w2.alloc (.cells #[.int .i64 nd.kind, .int .i64 nd.lo, .int .i64 nd.hi, .int .i64 nd.mode, .int .i64 nd.ref, .slice A1 nd.set.length p1, .slice A2 nd.kids.length p2, .int .i64 (g : Nat), .bool fo] 29) = W3 at *;have hk := HK3.o.nine;have hb := HB3.o.nine;have hfb := HB3.o.frozen;have hc0 := HC3.o.cell 0;have hc1 := HC3.o.cell 1;simp at hc0 hc1;have hfc := HC3.o.frozen;go_wp2;clear hk hb hfb hc0 hc1 hfc;refine Èv rfl rfl rfl rfl ((ÃX hg1).trans (ÂW HB3.o)) (Ìf (HC3.o.st9 hg1.symm)) ?_
  exact ⟨A1, A2, p1, p2, rfl, ÎG HN3.o HB3.o HC3.o (by omega) (by omega), ÇA (ÇB HF3.o (ŋ _)) (by omega)⟩
theorem ÇC (N : Nat) (hN : 1026 ≤ N) (hl : s.length ≤ 1000000) (hT : ś w.heap.size w) : Calls Tryz.prog 8 #[.string ⟨s.toArray⟩] w (ÁY w (ñ N s)) := by
 by_cases h : 256 < s.length
 ·exact Ëi N h hl
 ·exact ÉI N hN h hT
end
end Go.Proofs.YtpginkdkblmnbaaGreatDoor
