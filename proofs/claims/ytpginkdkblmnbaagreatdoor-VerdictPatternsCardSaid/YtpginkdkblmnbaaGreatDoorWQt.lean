import Derived.Test.YtpginkdkblmnbaaGreatDoorWQu
namespace Go.Proofs.YtpginkdkblmnbaaGreatDoor
section
open Go.RowKit
open Go.Proofs.YtpginkdkblmnbaaGreatDoor.Cl (Rg à Ý Ä ò Î Á)
variable {w w' w0 : World} {E : RE} {σ σ1 : St} {I g d c p : Nat} {rv rv' : Value} {refs : List (Nat × Nat)} {f : Flt}
def atM (n d : Nat) (σ : St) : R := if at_ σ.t 0 = 40 then run n 3 d [] σ else Ĥ σ
def Ïb (E : RE) (n : Nat) : Prop := ∀ {w0 w : World} {σ : St} {d I : Nat} {rv : Value} {refs : List (Nat × Nat)}, 4 * σ.t.length ≤ n + 1 → Gd E w0 σ d rv I refs → at_ σ.t 0 = 40 → Gd E w (σ.adv 1) d rv (I + 1) refs →
 Calls Tryz.prog 108 #[.pointer (some ⟨E.rb, 0, none⟩), .int .i64 (I : Nat)] w (NP E d rv w (ÈC (pre [40, 63, 58] σ.t)) (run n 3 d [] σ))
theorem Ïc {w4 w5 : World} {b : Nat} {k lo hi m r : Int} {A1 A2 : Option Addr} {n1 p1 n2 p2 : Nat} {nb bb : Bool} {may may' : Nd → Bool} {rs : R} {c0 c1 c2 c3 c4 c5 c6 c7 : Value}
 (h : NP E d rv w4 may rs (.returned (.tuple #[.agg #[.int .i64 k, .int .i64 lo, .int .i64 hi, .int .i64 m, .int .i64 r, .slice A1 n1 p1, .bool nb, .slice A2 n2 p2], .bool bb])) w5)
 (hm : ∀ x, rs = .ok x → may x.1 = may' x.1) (hF : FrR E w rv w4 rv) (hb : w.heap.size ≤ b) (hb4 : b < w4.heap.size) (hne : b ≠ E.rb ∧ b ≠ E.ub ∧ b ≠ E.ab ∧ rv.ownBlock ≠ some b) :
 NP E d rv w may' rs (.returned (.tuple #[.agg #[.int .i64 k, .int .i64 lo, .int .i64 hi, .int .i64 m, .int .i64 r, .slice A1 n1 p1, .bool nb, .slice A2 n2 p2], .bool bb])) (st8 w5 b c0 c1 c2 c3 c4 c5 c6 c7) := by
 cases rs with
 | error f =>
  obtain ⟨rv', v, b', he, hv, hF5, hB⟩ := h;have hne5 := Ű hF5 hb4 hne;exact ⟨rv', v, b', he, hv, Û hb (hF.trans hF5), ĭ hne5 hB⟩
 | ok x =>
  obtain ⟨rv', I', refs', B1, m1, q1, nb', B2, q2, he, hN, hF5, hG⟩ := h;have hne5 := Ű hF5 hb4 hne
  exact ⟨rv', I', refs', B1, m1, q1, nb', B2, q2, by rw [he, hm x rfl], ÂX (by omega) (Äz hb4 hN), Û hb (hF.trans hF5), ŗ hne5 hG⟩
theorem Ðc {w4 w5 : World} {b : Nat} {k lo hi m r : Int} {A1 A2 : Option Addr} {n1 p1 n2 p2 : Nat} {nb : Bool} {may : Nd → Bool} {rs : R} {c0 c1 c2 c3 c4 c5 c6 c7 : Value}
 (h : NP1 E d rv w4 rs (.returned (.agg #[.int .i64 k, .int .i64 lo, .int .i64 hi, .int .i64 m, .int .i64 r, .slice A1 n1 p1, .bool nb, .slice A2 n2 p2])) w5)
 (hm : ∀ x, rs = .ok x → may x.1 = true) (hF : FrR E w rv w4 rv) (hb : w.heap.size ≤ b) (hb4 : b < w4.heap.size) (hne : b ≠ E.rb ∧ b ≠ E.ub ∧ b ≠ E.ab ∧ rv.ownBlock ≠ some b) :
 NP E d rv w may rs (.returned (.tuple #[.agg #[.int .i64 k, .int .i64 lo, .int .i64 hi, .int .i64 m, .int .i64 r, .slice A1 n1 p1, .bool nb, .slice A2 n2 p2], .bool true])) (st8 w5 b c0 c1 c2 c3 c4 c5 c6 c7) := by
 cases rs with
 | error f =>
  obtain ⟨rv', v, he, hv, hF5, hB⟩ := h;have hne5 := Ű hF5 hb4 hne
  injection he with he
  exact ⟨rv', v, true, by rw [← he], hv, Û hb (hF.trans hF5), ĭ hne5 hB⟩
 | ok x =>
  obtain ⟨rv', I', refs', B1, m1, q1, nb', B2, q2, he, hN, hF5, hG⟩ := h;have hne5 := Ű hF5 hb4 hne
  injection he with he
  exact ⟨rv', I', refs', B1, m1, q1, nb', B2, q2, by rw [he, hm x rfl], ÂX (by omega) (Äz hb4 hN), Û hb (hF.trans hF5), ŗ hne5 hG⟩
theorem NP.form {may : Nd → Bool} {rs : R} {e : Ending} {w5 : World} (h : NP E d rv w may rs e w5) : ∃ (k lo hi m r : Int) (A1 A2 : Option Addr) (n1 p1 n2 p2 : Nat) (nb bb : Bool), e = .returned (.tuple #[.agg #[.int .i64 k, .int .i64 lo, .int .i64 hi, .int .i64 m, .int .i64 r, .slice A1 n1 p1, .bool nb, .slice A2 n2 p2], .bool bb]) := by
 cases rs with
 | error f =>
  obtain ⟨rv', v, b', he, ⟨k, lo, hi, m, r, A1, A2, n1, p1, n2, p2, nb, rfl⟩, hF5, hB⟩ := h;exact ⟨k, lo, hi, m, r, A1, A2, n1, p1, n2, p2, nb, b', he⟩
 | ok x =>
  obtain ⟨rv', I', refs', B1, m1, q1, nb', B2, q2, he, hN, hF5, hG⟩ := h;exact ⟨_, _, _, _, _, _, _, _, _, _, _, _, _, he⟩
theorem NP1.form {rs : R} {e : Ending} {w5 : World} (h : NP1 E d rv w rs e w5) : ∃ (k lo hi m r : Int) (A1 A2 : Option Addr) (n1 p1 n2 p2 : Nat) (nb : Bool), e = .returned (.agg #[.int .i64 k, .int .i64 lo, .int .i64 hi, .int .i64 m, .int .i64 r, .slice A1 n1 p1, .bool nb, .slice A2 n2 p2]) := by
 cases rs with
 | error f =>
  obtain ⟨rv', v, he, ⟨k, lo, hi, m, r, A1, A2, n1, p1, n2, p2, nb, rfl⟩, hF5, hB⟩ := h;exact ⟨k, lo, hi, m, r, A1, A2, n1, p1, n2, p2, nb, he⟩
 | ok x =>
  obtain ⟨rv', I', refs', B1, m1, q1, nb', B2, q2, he, hN, hF5, hG⟩ := h;exact ⟨_, _, _, _, _, _, _, _, _, _, _, _, he⟩
theorem NP.frame {may : Nd → Bool} {rs : R} {e : Ending} {w5 : World} (h : NP E d rv w may rs e w5) : ∃ rv', FrR E w rv w5 rv' := by
 cases rs with
 | error f => obtain ⟨rv', _, _, _, _, hF, _⟩ := h; exact ⟨rv', hF⟩
 | ok x => obtain ⟨rv', _, _, _, _, _, _, _, _, _, _, hF, _⟩ := h; exact ⟨rv', hF⟩
theorem NP1.frame {rs : R} {e : Ending} {w5 : World} (h : NP1 E d rv w rs e w5) : ∃ rv', FrR E w rv w5 rv' := by
 cases rs with
 | error f => obtain ⟨rv', _, _, _, hF, _⟩ := h; exact ⟨rv', hF⟩
 | ok x => obtain ⟨rv', _, _, _, _, _, _, _, _, _, _, hF, _⟩ := h; exact ⟨rv', hF⟩
theorem Ëz {x : Nd × St} (h : ó σ = .ok x) : Ñs x.1 = ÈC false x.1 := by
 unfold ó at h;split at h
 ·cases h; rfl
 split at h
 ·cases h; rfl
 split at h
 ·cases h; rfl
 split at h
 ·cases h; rfl
 ·split at h
  ·cases h
  ·cases h; rfl
set_option maxRecDepth 100000 in
set_option maxHeartbeats 4000000 in
theorem Íu {n : Nat} (hP : Ïb E n) (hfu : 4 * σ.t.length ≤ n + 1) (h : Gd E w σ d rv I refs) (hn : σ.t ≠ []) : Calls Tryz.prog 91 #[.pointer (some ⟨E.rb, 0, none⟩)] w (NP E d rv w (ÈC (pre [40, 63, 58] σ.t)) (atM n d σ)) := by
 have hlt := h.lt hn;have h256 := h.sv.n256;have HG := ħ h;have HN := ħ hn;have HFU := ħ hfu;have HX := ħ (h.pos.next hn);have hgne := ÁD h.sv;have HB0 := ħ (Blk.new w 38 #[.int .i64 0, .int .i64 0, .int .i64 0, .int .i64 0, .int .i64 0, .slice none 0 0, .bool false, .slice none 0 0]);have hF0 : FrR E w rv (w.alloc (.cells #[.int .i64 0, .int .i64 0, .int .i64 0, .int .i64 0, .int .i64 0, .slice none 0 0, .bool false, .slice none 0 0] 38)) rv := (FrR.refl w).alloc _;have hS0 := h.sv.alloc (.cells #[.int .i64 0, .int .i64 0, .int .i64 0, .int .i64 0, .int .i64 0, .slice none 0 0, .bool false, .slice none 0 0] 38)
 have hsz0 : (w.alloc (.cells #[.int .i64 0, .int .i64 0, .int .i64 0, .int .i64 0, .int .i64 0, .slice none 0 0, .bool false, .slice none 0 0] 38)).heap.size = w.heap.size + 1 := by simp
 have HST : Hid (∀ W, Sv E W I σ.g d 0 0 rv refs → Sv E (W.setCell ⟨E.rb, 2, none⟩ (.int .i64 ((I : Int) + 1))) (I + 1) σ.g d 0 0 rv refs) := ħ (fun W hW => by
  have := hW.setI (J := I + 1) (by omega)
  rwa [Int.natCast_add] at this)
 have HO1 : Hid (∀ W, Sv E W I σ.g d 0 0 rv refs → Calls Tryz.prog 61 #[.pointer (some ⟨E.rb, 0, none⟩), .int .i64 0] W fun e w' => e = .returned (.int .i64 ((nx σ.t).1 : Nat)) ∧ ∃ m, w' = W.drewN m) := ħ (fun W hW => by
  have := on0 hW;have e0 : onI E I = onN σ.t 0 := HG.o.onI 0
  rwa [e0, ÀY HN.o] at this)
 have HFl := ħ (fun W c' (hc : c' ≠ 0 ∧ c' ≤ 100) (hW : Sv E W (I + 1) σ.g d 0 0 rv refs) => Ō (σ0 := σ) (I0 := I) c' hc HG.o.atI hW)
 have HGd : Hid (∀ W, Sv E W (I + 1) σ.g d 0 0 rv refs → Gd E W (σ.adv (nx σ.t).2) d rv (I + 1) refs) := ħ (fun W hW => HG.o.move hW HX.o rfl rfl (by omega) (by omega))
 obtain ⟨u, hu⟩ : ∃ u, u = (nx σ.t).1 := ⟨_, rfl⟩
 have hsm : (at_ σ.t 0 < 128 ∧ u = at_ σ.t 0 ∧ (nx σ.t).2 = 1) ∨ (128 ≤ at_ σ.t 0 ∧ 128 ≤ u) := by
  rcases Nat.lt_or_ge (at_ σ.t 0) 128 with hh | hh
  ·exact .inl ⟨hh, by rw [hu, ş hn hh], by rw [ş hn hh]⟩
  ·exact .inr ⟨hh, by rw [hu]; exact ÂJ hn hh⟩
 rw [← hu] at HO1;have HU := ħ hu;obtain ⟨r, hr⟩ : ∃ r, r = atM n d σ := ⟨_, rfl⟩;obtain ⟨gr, hgr⟩ : ∃ gr, gr = pre [40, 63, 58] σ.t := ⟨_, rfl⟩;rw [← hr, ← hgr];have HR := ħ hr
 have hpf : at_ σ.t 0 ≠ 40 → gr = false := fun h40 => by
  rw [hgr]
  cases hh : σ.t with
  | nil => exact absurd hh hn
  | cons b t =>
   rw [hh] at h40
   have hb : b ≠ 40 := fun e => h40 (by rw [e]; rfl)
   simp [pre, List.isPrefixOf, hb.symm]
 have HPF := ħ hpf;have HGR := ħ hgr;obtain ⟨_, _, c2, _⟩ := hS0.ten;have HS0 := ħ hS0;clear hpf hgr hu h hr hS0 hfu;go_enter Tryz.func91, Tryz.ntmps91
 go_upto_region 1 with (fail)
 have hb0 : w.heap.size < (w.alloc (.cells #[.int .i64 0, .int .i64 0, .int .i64 0, .int .i64 0, .int .i64 0, .slice none 0 0, .bool false, .slice none 0 0] 38)).heap.size := by omega
 generalize w.alloc (.cells #[.int .i64 0, .int .i64 0, .int .i64 0, .int .i64 0, .int .i64 0, .slice none 0 0, .bool false, .slice none 0 0] 38) = wa at *
 go_wp2_with fail
 refine (HO1.o _ HS0.o).mono ?_;rintro e w3 ⟨rfl, m3, hw3⟩
 have HS3 : Hid (Sv E w3 I σ.g d 0 0 rv refs) := ħ (by rw [hw3]; exact HS0.o.drewN _)
 have HF3 : Hid (FrR E w rv w3 rv) := ħ (by rw [hw3]; exact hF0.drewN _)
 have HB3 : Hid (Blk w3 w.heap.size 38 #[.int .i64 0, .int .i64 0, .int .i64 0, .int .i64 0, .int .i64 0, .slice none 0 0, .bool false, .slice none 0 0]) := ħ (by rw [hw3]; exact HB0.o)
 have hs3 : wa.heap.size = w3.heap.size := by rw [hw3]; rfl
 clear hw3 c2;obtain ⟨_, _, c2, _⟩ := HS3.o.ten;have f2 := HS3.o.fz 2
 go_upto_region 4 with (fail)
 have HS4 := ħ (HST.o _ HS3.o);have HF4 := ħ (HF3.o.set_ (q := ⟨E.rb, 2, none⟩) (.inl rfl) (.int .i64 ((I : Int) + 1)));have HB4 := ħ (HB3.o.far (p := ⟨E.rb, 2, none⟩) hgne.1 (.int .i64 ((I : Int) + 1)))
 have hs4 : (w3.setCell ⟨E.rb, 2, none⟩ (.int .i64 ((I : Int) + 1))).heap.size = w3.heap.size := by simp [World.setCell]
 clear c2 f2;generalize w3.setCell ⟨E.rb, 2, none⟩ (.int .i64 ((I : Int) + 1)) = w4 at *
 have hsz4 : w.heap.size < w4.heap.size := by omega
 clear hs3 hs4 HB0 HB3 HS0 HS3 HF3 hF0;have hz := HB4.o.eight;have hfz := HB4.o.frozen
 have HO4 : Hid (∀ k, rv.ownBlock = some k → k < w4.heap.size) := ħ (fun k hk => (HS4.o.own_lt hk).1)
 by_cases q46 : u = 46
 ·subst q46
  have hat : at_ σ.t 0 = 46 ∧ (nx σ.t).2 = 1 := by rcases hsm with ⟨_, h1, h2⟩ | ⟨_, h1⟩ <;> omega
  obtain rfl : r = .ok (Âa [(0, 9), (11, 1114367)], σ.adv 1) := by rw [HR.o]; unfold atM Ĥ; rw [if_neg (by omega)]; simp [hat.1, isQ]
  have hgf := HPF.o (by omega)
  subst hgf;have hg := HGd.o;rw [hat.2] at hg;clear hz hfz
  go_wp2_with fail
  refine (Ŗ 10 10).mono ?_;rintro e w5 ⟨A, m, rfl, hp5, hb5⟩;have HB5 := ħ (HB4.o.on hb5);have hz := HB5.o.eight;have hfz := HB5.o.frozen;have HP5 := ħ hp5;have HS5 := ħ (HS4.o.on hb5);have HF5 := ħ (HF4.o.trans (FrR.of_below hb5));have HGw := ħ (hg _ HS5.o);clear hp5 hg;go_wp2
  exact ō rfl rfl rfl rfl (Æ HB5.o) ⟨rv, I + 1, refs, A, _, m, true, none, 0, rfl, ű (P := [(10, 10)]) (ÇH HP5.o hsz4 HO4.o) (fun _ => ÏY), Û (ŋ _) HF5.o, ŗ hgne HGw.o⟩
 have k46 : (((u : Nat) : Int) == 46) = false := by simp; omega
 have n46 : ¬ ((u : Nat) : Int) = 46 := by omega
 by_cases q94 : u = 94
 ·subst q94
  have hat : at_ σ.t 0 = 94 ∧ (nx σ.t).2 = 1 := by rcases hsm with ⟨_, h1, h2⟩ | ⟨_, h1⟩ <;> omega
  obtain rfl : r = .ok (Áw 0, σ.adv 1) := by rw [HR.o]; unfold atM Ĥ; rw [if_neg (by omega)]; simp [hat.1, isQ]
  have hgf := HPF.o (by omega)
  subst hgf;have HGw := ħ (HGd.o _ HS4.o);rw [hat.2] at HGw;go_wp2
  exact ō rfl rfl rfl rfl (Æ HB4.o) ⟨rv, I + 1, refs, none, 0, 0, false, none, 0, rfl, ű (P := []) (Đ.nil _ _) (fun e => by cases e), Û (ŋ _) HF4.o, ŗ hgne HGw.o⟩
 have k94 : (((u : Nat) : Int) == 94) = false := by simp; omega
 have n94 : ¬ ((u : Nat) : Int) = 94 := by omega
 by_cases q36 : u = 36
 ·subst q36
  have hat : at_ σ.t 0 = 36 ∧ (nx σ.t).2 = 1 := by rcases hsm with ⟨_, h1, h2⟩ | ⟨_, h1⟩ <;> omega
  obtain rfl : r = .ok (Áw 1, σ.adv 1) := by rw [HR.o]; unfold atM Ĥ; rw [if_neg (by omega)]; simp [hat.1, isQ]
  have hgf := HPF.o (by omega)
  subst hgf;have HGw := ħ (HGd.o _ HS4.o);rw [hat.2] at HGw;go_wp2
  exact ō rfl rfl rfl rfl (Æ HB4.o) ⟨rv, I + 1, refs, none, 0, 0, false, none, 0, rfl, ű (P := []) (Đ.nil _ _) (fun e => by cases e), Û (ŋ _) HF4.o, ŗ hgne HGw.o⟩
 have k36 : (((u : Nat) : Int) == 36) = false := by simp; omega
 have n36 : ¬ ((u : Nat) : Int) = 36 := by omega
 by_cases q92 : u = 92
 ·subst q92
  have hat : at_ σ.t 0 = 92 ∧ (nx σ.t).2 = 1 := by rcases hsm with ⟨_, h1, h2⟩ | ⟨_, h1⟩ <;> omega
  have hres : r = ó σ := by rw [HR.o]; unfold atM Ĥ; rw [if_neg (by omega)]; simp [hat.1]
  have hgf := HPF.o (by omega)
  clear hz hfz
  go_wp2_with fail
  refine (ÉU HG.o HS4.o hat.1).mono ?_;intro e w5 hp5;rw [← hres] at hp5;obtain ⟨rv', hF5⟩ := hp5.frame;have HB5 := ħ (À hF5 HB4.o hgne);have hz := HB5.o.eight;have hfz := HB5.o.frozen;clear hF5;obtain ⟨k, lo, hi, m, r', A1, A2, n1, p1, n2, p2, nb, bb, rfl⟩ := hp5.form;have HP5 := ħ hp5;clear hp5;go_wp2
  exact ō rfl rfl rfl rfl (Æ HB5.o) (Ïc HP5.o (fun x hx => by subst hgf; exact Ëz (by rw [← hres]; exact hx)) HF4.o (ŋ _) hsz4 hgne)
 have k92 : (((u : Nat) : Int) == 92) = false := by simp; omega
 have n92 : ¬ ((u : Nat) : Int) = 92 := by omega
 by_cases q91 : u = 91
 ·subst q91
  have hat : at_ σ.t 0 = 91 ∧ (nx σ.t).2 = 1 := by rcases hsm with ⟨_, h1, h2⟩ | ⟨_, h1⟩ <;> omega
  have hres : r = Ğ σ := by rw [HR.o]; unfold atM Ĥ; rw [if_neg (by omega)]; simp [hat.1]
  have hgf := HPF.o (by omega)
  clear hz hfz
  go_wp2_with fail
  refine (Ít HG.o hat.1 (by have := HGd.o _ HS4.o; rwa [hat.2] at this)).mono ?_
  intro e w5 hp5;rw [← hres] at hp5;obtain ⟨rv', hF5⟩ := hp5.frame;have HB5 := ħ (À hF5 HB4.o hgne);have hz := HB5.o.eight;have hfz := HB5.o.frozen;clear hF5;obtain ⟨k, lo, hi, m, r', A1, A2, n1, p1, n2, p2, nb, rfl⟩ := hp5.form;have HP5 := ħ hp5;clear hp5;go_wp2
  exact ō rfl rfl rfl rfl (Æ HB5.o) (Ðc HP5.o (fun x hx => by subst hgf; exact (Ís (by rw [← hres]; exact hx)).symm) HF4.o (ŋ _) hsz4 hgne)
 have k91 : (((u : Nat) : Int) == 91) = false := by simp; omega
 have n91 : ¬ ((u : Nat) : Int) = 91 := by omega
 by_cases q40 : u = 40
 ·subst q40
  have hat : at_ σ.t 0 = 40 ∧ (nx σ.t).2 = 1 := by rcases hsm with ⟨_, h1, h2⟩ | ⟨_, h1⟩ <;> omega
  have hres : r = run n 3 d [] σ := by rw [HR.o]; unfold atM; rw [if_pos hat.1]
  clear hz hfz
  go_wp2_with fail
  refine (hP HFU.o HG.o hat.1 (by have := HGd.o _ HS4.o; rwa [hat.2] at this)).mono ?_
  intro e w5 hp5;rw [← hres] at hp5;obtain ⟨rv', hF5⟩ := hp5.frame;have HB5 := ħ (À hF5 HB4.o hgne);have hz := HB5.o.eight;have hfz := HB5.o.frozen;clear hF5;obtain ⟨k, lo, hi, m, r', A1, A2, n1, p1, n2, p2, nb, bb, rfl⟩ := hp5.form;have HP5 := ħ hp5;clear hp5;go_wp2
  exact ō rfl rfl rfl rfl (Æ HB5.o) (Ïc HP5.o (fun x hx => by rw [HGR.o]) HF4.o (ŋ _) hsz4 hgne)
 have k40 : (((u : Nat) : Int) == 40) = false := by simp; omega
 have n40 : ¬ ((u : Nat) : Int) = 40 := by omega
 by_cases q42 : u = 42
 ·subst q42
  have hat : at_ σ.t 0 = 42 ∧ (nx σ.t).2 = 1 := by rcases hsm with ⟨_, h1, h2⟩ | ⟨_, h1⟩ <;> omega
  obtain rfl : r = .error (23, σ.pos) := by rw [HR.o]; unfold atM Ĥ; rw [if_neg (by omega)]; simp [hat.1, isQ]
  clear hz hfz
  go_wp2_with fail
  refine (HFl.o _ 23 (by decide) HS4.o).mono ?_
  rintro e w5 ⟨rfl, hF5, hB5⟩;have HB5 := ħ (À hF5 HB4.o hgne);have hg5 := Ű hF5 hsz4 hgne;have hz := HB5.o.eight;have hfz := HB5.o.frozen;have HF5 := ħ (HF4.o.trans hF5);have HD5 := ħ hB5;clear hF5 hB5;go_wp2;exact ō rfl rfl rfl rfl (Æ HB5.o) ⟨rv, _, true, rfl, ⟨0, 0, 0, 0, 0, none, none, 0, 0, 0, 0, false, rfl⟩, Û (ŋ _) HF5.o, ĭ hg5 HD5.o⟩
 have k42 : (((u : Nat) : Int) == 42) = false := by simp; omega
 have n42 : ¬ ((u : Nat) : Int) = 42 := by omega
 by_cases q43 : u = 43
 ·subst q43
  have hat : at_ σ.t 0 = 43 ∧ (nx σ.t).2 = 1 := by rcases hsm with ⟨_, h1, h2⟩ | ⟨_, h1⟩ <;> omega
  obtain rfl : r = .error (23, σ.pos) := by rw [HR.o]; unfold atM Ĥ; rw [if_neg (by omega)]; simp [hat.1, isQ]
  clear hz hfz
  go_wp2_with fail
  refine (HFl.o _ 23 (by decide) HS4.o).mono ?_
  rintro e w5 ⟨rfl, hF5, hB5⟩;have HB5 := ħ (À hF5 HB4.o hgne);have hg5 := Ű hF5 hsz4 hgne;have hz := HB5.o.eight;have hfz := HB5.o.frozen;have HF5 := ħ (HF4.o.trans hF5);have HD5 := ħ hB5;clear hF5 hB5;go_wp2;exact ō rfl rfl rfl rfl (Æ HB5.o) ⟨rv, _, true, rfl, ⟨0, 0, 0, 0, 0, none, none, 0, 0, 0, 0, false, rfl⟩, Û (ŋ _) HF5.o, ĭ hg5 HD5.o⟩
 have k43 : (((u : Nat) : Int) == 43) = false := by simp; omega
 have n43 : ¬ ((u : Nat) : Int) = 43 := by omega
 by_cases q63 : u = 63
 ·subst q63
  have hat : at_ σ.t 0 = 63 ∧ (nx σ.t).2 = 1 := by rcases hsm with ⟨_, h1, h2⟩ | ⟨_, h1⟩ <;> omega
  obtain rfl : r = .error (23, σ.pos) := by rw [HR.o]; unfold atM Ĥ; rw [if_neg (by omega)]; simp [hat.1, isQ]
  clear hz hfz
  go_wp2_with fail
  refine (HFl.o _ 23 (by decide) HS4.o).mono ?_
  rintro e w5 ⟨rfl, hF5, hB5⟩;have HB5 := ħ (À hF5 HB4.o hgne);have hg5 := Ű hF5 hsz4 hgne;have hz := HB5.o.eight;have hfz := HB5.o.frozen;have HF5 := ħ (HF4.o.trans hF5);have HD5 := ħ hB5;clear hF5 hB5;go_wp2;exact ō rfl rfl rfl rfl (Æ HB5.o) ⟨rv, _, true, rfl, ⟨0, 0, 0, 0, 0, none, none, 0, 0, 0, 0, false, rfl⟩, Û (ŋ _) HF5.o, ĭ hg5 HD5.o⟩
 have k63 : (((u : Nat) : Int) == 63) = false := by simp; omega
 have n63 : ¬ ((u : Nat) : Int) = 63 := by omega
 by_cases q123 : u = 123
 ·subst q123
  have hat : at_ σ.t 0 = 123 ∧ (nx σ.t).2 = 1 := by rcases hsm with ⟨_, h1, h2⟩ | ⟨_, h1⟩ <;> omega
  obtain rfl : r = .error (23, σ.pos) := by rw [HR.o]; unfold atM Ĥ; rw [if_neg (by omega)]; simp [hat.1, isQ]
  clear hz hfz
  go_wp2_with fail
  refine (HFl.o _ 23 (by decide) HS4.o).mono ?_
  rintro e w5 ⟨rfl, hF5, hB5⟩;have HB5 := ħ (À hF5 HB4.o hgne);have hg5 := Ű hF5 hsz4 hgne;have hz := HB5.o.eight;have hfz := HB5.o.frozen;have HF5 := ħ (HF4.o.trans hF5);have HD5 := ħ hB5;clear hF5 hB5;go_wp2;exact ō rfl rfl rfl rfl (Æ HB5.o) ⟨rv, _, true, rfl, ⟨0, 0, 0, 0, 0, none, none, 0, 0, 0, 0, false, rfl⟩, Û (ŋ _) HF5.o, ĭ hg5 HD5.o⟩
 have k123 : (((u : Nat) : Int) == 123) = false := by simp; omega
 have n123 : ¬ ((u : Nat) : Int) = 123 := by omega
 by_cases q93 : u = 93
 ·subst q93
  have hat : at_ σ.t 0 = 93 ∧ (nx σ.t).2 = 1 := by rcases hsm with ⟨_, h1, h2⟩ | ⟨_, h1⟩ <;> omega
  obtain rfl : r = .error (20, σ.pos) := by rw [HR.o]; unfold atM Ĥ; rw [if_neg (by omega)]; simp [hat.1, isQ]
  clear hz hfz
  go_wp2_with fail
  refine (HFl.o _ 20 (by decide) HS4.o).mono ?_
  rintro e w5 ⟨rfl, hF5, hB5⟩;have HB5 := ħ (À hF5 HB4.o hgne);have hg5 := Ű hF5 hsz4 hgne;have hz := HB5.o.eight;have hfz := HB5.o.frozen;have HF5 := ħ (HF4.o.trans hF5);have HD5 := ħ hB5;clear hF5 hB5;go_wp2;exact ō rfl rfl rfl rfl (Æ HB5.o) ⟨rv, _, true, rfl, ⟨0, 0, 0, 0, 0, none, none, 0, 0, 0, 0, false, rfl⟩, Û (ŋ _) HF5.o, ĭ hg5 HD5.o⟩
 have k93 : (((u : Nat) : Int) == 93) = false := by simp; omega
 have n93 : ¬ ((u : Nat) : Int) = 93 := by omega
 by_cases q125 : u = 125
 ·subst q125
  have hat : at_ σ.t 0 = 125 ∧ (nx σ.t).2 = 1 := by rcases hsm with ⟨_, h1, h2⟩ | ⟨_, h1⟩ <;> omega
  obtain rfl : r = .error (20, σ.pos) := by rw [HR.o]; unfold atM Ĥ; rw [if_neg (by omega)]; simp [hat.1, isQ]
  clear hz hfz
  go_wp2_with fail
  refine (HFl.o _ 20 (by decide) HS4.o).mono ?_
  rintro e w5 ⟨rfl, hF5, hB5⟩;have HB5 := ħ (À hF5 HB4.o hgne);have hg5 := Ű hF5 hsz4 hgne;have hz := HB5.o.eight;have hfz := HB5.o.frozen;have HF5 := ħ (HF4.o.trans hF5);have HD5 := ħ hB5;clear hF5 hB5;go_wp2;exact ō rfl rfl rfl rfl (Æ HB5.o) ⟨rv, _, true, rfl, ⟨0, 0, 0, 0, 0, none, none, 0, 0, 0, 0, false, rfl⟩, Û (ŋ _) HF5.o, ĭ hg5 HD5.o⟩
 have k125 : (((u : Nat) : Int) == 125) = false := by simp; omega
 have n125 : ¬ ((u : Nat) : Int) = 125 := by omega
 have hne : at_ σ.t 0 ≠ 40 := by rcases hsm with ⟨_, h1, h2⟩ | ⟨h1, _⟩ <;> omega
 obtain rfl : r = .ok (Âa [((u : Int), (u : Int))], σ.adv (nx σ.t).2) := by
  rw [HR.o, HU.o];unfold atM Ĥ isQ
  have e : at_ σ.t 0 ≠ 91 ∧ at_ σ.t 0 ≠ 92 ∧ at_ σ.t 0 ≠ 42 ∧ at_ σ.t 0 ≠ 43 ∧ at_ σ.t 0 ≠ 63 ∧ at_ σ.t 0 ≠ 123 ∧ at_ σ.t 0 ≠ 93 ∧ at_ σ.t 0 ≠ 125 ∧ at_ σ.t 0 ≠ 46 ∧ at_ σ.t 0 ≠ 94 ∧ at_ σ.t 0 ≠ 36 := by
   rcases hsm with ⟨_, h1, h2⟩ | ⟨h1, _⟩
   ·omega
   ·omega
  simp [hne, e]
 clear hz hfz
 go_wp2_with fail
 refine (Ŗ u u).mono ?_;rintro e w5 ⟨A, m, rfl, hp5, hb5⟩;have HB5 := ħ (HB4.o.on hb5);have hz := HB5.o.eight;have hfz := HB5.o.frozen;have HP5 := ħ hp5;have HS5 := ħ (HS4.o.on hb5);have HF5 := ħ (HF4.o.trans (FrR.of_below hb5));have HGw := ħ (HGd.o _ HS5.o)
 have hm1 : ÈC gr (Âa [((u : Int), (u : Int))]) = true := by cases gr <;> rfl
 clear hp5;go_wp2
 exact ō rfl rfl rfl rfl (Æ HB5.o) ⟨rv, I + 1, refs, A, _, m, false, none, 0, by rw [hm1]; rfl, ű (P := [((u : Int), (u : Int))]) (ÇH HP5.o hsz4 HO4.o) (fun _ => Èz _), Û (ŋ _) HF5.o, ŗ hgne HGw.o⟩
end
end Go.Proofs.YtpginkdkblmnbaaGreatDoor
