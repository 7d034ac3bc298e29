import Derived.Test.YtpginkdkblmnbaaGreatDoorWMPc
namespace Go.Proofs.YtpginkdkblmnbaaGreatDoor
section
open Go.RowKit
variable {n₀ rb tb cap d : Nat} {s : List UInt8} {w w' : World} {σ σ1 : St} {fc fa : Int} {bv v : Value}
def ŉ (N d : Nat) (σ : St) : R := if at_ σ.t 0 = 40 then run N 3 d [] σ else Ĥ σ
set_option maxRecDepth 100000 in
set_option maxHeartbeats 16000000 in
theorem ÎB (N : Nat) (hP : ÏL n₀ rb tb cap s fc fa N) (hn : σ.t ≠ []) (hN : 4 * σ.t.length ≤ N + 1) (hR : Rd n₀ rb tb cap s w σ d fc fa bv) :
 Calls Tryz.prog 122 #[.pointer (some ⟨rb, 0, none⟩)] w (ÄV n₀ rb tb cap s d fc fa w (ŉ N d σ)) := by
 have hrl := hR.blk.lt;have hpos := hR.pos;have ht := hR.tl;have hl := hR.len;have hlen := Œ hn;have HB0 := ħ (Blk.new w 27 zeros);have HR0 := ħ (hR.alloc (.cells zeros 27));have HF0 : Hid (Fr n₀ rb w (w.alloc (.cells zeros 27))) := ħ ((Fr.refl w).alloc _);have HR := ħ hR;have c0 := HR0.o.c0;have c1 := HR0.o.c1
 have ct : (w.alloc (.cells zeros 27)).cell? ⟨tb, σ.pos, none⟩ = some (.int .u8 ((at_ σ.t 0 : Nat) : Int)) := by
  have := HR0.o.at_ (j := 0) hlen
  rwa [ĉ, Nat.add_zero] at this
 unfold zeros at c0 c1 ct
 have hi0 : (0 : Int) ≤ (σ.pos : Int) := by omega
 have hi1 : (σ.pos : Int) < (s.length : Int) := by omega
 have hx := ŷ σ.t 0
 by_cases h40 : at_ σ.t 0 = 40
 ·have ha : ŉ N d σ = run N 3 d [] σ := by unfold ŉ; exact if_pos h40
  rw [ha]
  have HC := ħ (fun W (hW : Rd n₀ rb tb cap s W σ d fc fa bv) => hP d σ W bv h40 hN hW)
  obtain ⟨rr, hrr⟩ : ∃ rr, rr = run N 3 d [] σ := ⟨_, rfl⟩;rw [← hrr] at HC ⊢;rw [h40] at ct;have HP' := ħ hP;clear hP ha hrr hn hR hN hx h40;go_enter Tryz.func122, Tryz.ntmps122;go_wp2;go_quiet (fail);have HRq := ħ (HR0.o.drewN nq);have HBq : Hid (Blk ((w.alloc (.cells zeros 27)).drewN nq) w.heap.size 27 zeros) := ħ HB0.o;have hF := HF0.o.drewN nq;unfold zeros at HRq HBq hF
  go_wp2_with fail
  refine (HC.o _ HRq.o).mono ?_;rintro e w1 hP1
  cases rr with
  | error f =>
   obtain ⟨rfl, hB, hF1⟩ := hP1;unfold zeros
   have hB1 := hF1.blk HRq.o HBq.o (by decide) (by decide)
   have hz := hB1.zero;have hfz := hB1.frozen;go_wp2
   exact Ç rfl rfl rfl rfl (É hB1) ⟨rfl, hB.st7 (by omega), (hF.trans hF1).st7 (ŋ _)⟩
  | ok y =>
   obtain ⟨nd, σ1⟩ := y;obtain ⟨sv, kv, bv1, rfl, hNd, hR1, hF1⟩ := hP1;obtain ⟨A1, A2, p1, p2, rfl, rfl⟩ := hNd.lens
   have hB1 := hF1.blk HRq.o HBq.o (by decide) (by decide)
   have hz := hB1.zero;have hfz := hB1.frozen;have HP1 := ħ (And.intro hNd (And.intro hR1 (hF.trans hF1)));clear hNd hR1 hF1 hF;simp only [ÃW];go_wp2
   exact Ç rfl rfl rfl rfl (É hB1) ⟨_, _, bv1, rfl, (HP1.o.1.st7 hB1 (by simp)).low (by simp), HP1.o.2.1.st7 hB1 HR.o.size, HP1.o.2.2.st7 (ŋ _)⟩
 ·by_cases h91 : at_ σ.t 0 = 91
  ·have ha : ŉ N d σ = Ğ σ := by unfold ŉ Ĥ; rw [if_neg h40, if_pos h91]
   rw [ha]
   have HC := ħ (fun W (hW : Rd n₀ rb tb cap s W σ d fc fa bv) => Èu h91 hW)
   obtain ⟨rr, hrr⟩ : ∃ rr, rr = Ğ σ := ⟨_, rfl⟩;rw [← hrr] at HC ⊢;rw [h91] at ct;have HP' := ħ hP;clear hP ha hrr hn hR hN hx h91;go_enter Tryz.func122, Tryz.ntmps122;go_wp2;go_quiet (fail);have HRq := ħ (HR0.o.drewN nq);have HBq : Hid (Blk ((w.alloc (.cells zeros 27)).drewN nq) w.heap.size 27 zeros) := ħ HB0.o;have hF := HF0.o.drewN nq;unfold zeros at HRq HBq hF
   go_wp2_with fail
   refine (HC.o _ HRq.o).mono ?_;rintro e w1 hP1
   cases rr with
   | error f =>
    obtain ⟨rfl, hB, hF1⟩ := hP1;unfold zeros
    have hB1 := hF1.blk HRq.o HBq.o (by decide) (by decide)
    have hz := hB1.zero;have hfz := hB1.frozen;go_wp2
    exact Ç rfl rfl rfl rfl (É hB1) ⟨rfl, hB.st7 (by omega), (hF.trans hF1).st7 (ŋ _)⟩
   | ok y =>
    obtain ⟨nd, σ1⟩ := y;obtain ⟨sv, kv, bv1, rfl, hNd, hR1, hF1⟩ := hP1;obtain ⟨A1, A2, p1, p2, rfl, rfl⟩ := hNd.lens
    have hB1 := hF1.blk HRq.o HBq.o (by decide) (by decide)
    have hz := hB1.zero;have hfz := hB1.frozen;have HP1 := ħ (And.intro hNd (And.intro hR1 (hF.trans hF1)));clear hNd hR1 hF1 hF;simp only [ÃW];go_wp2
    exact Ç rfl rfl rfl rfl (É hB1) ⟨_, _, bv1, rfl, (HP1.o.1.st7 hB1 (by simp)).low (by simp), HP1.o.2.1.st7 hB1 HR.o.size, HP1.o.2.2.st7 (ŋ _)⟩
  ·by_cases h92 : at_ σ.t 0 = 92
   ·have ha : ŉ N d σ = ó σ := by unfold ŉ Ĥ; rw [if_neg h40, if_neg h91, if_pos h92]
    rw [ha]
    have HC := ħ (fun W (hW : Rd n₀ rb tb cap s W σ d fc fa bv) => Ëa hW)
    obtain ⟨rr, hrr⟩ : ∃ rr, rr = ó σ := ⟨_, rfl⟩;rw [← hrr] at HC ⊢;rw [h92] at ct;have HP' := ħ hP;clear hP ha hrr hn hR hN hx h92;go_enter Tryz.func122, Tryz.ntmps122;go_wp2;go_quiet (fail);have HRq := ħ (HR0.o.drewN nq);have HBq : Hid (Blk ((w.alloc (.cells zeros 27)).drewN nq) w.heap.size 27 zeros) := ħ HB0.o;have hF := HF0.o.drewN nq;unfold zeros at HRq HBq hF
    go_wp2_with fail
    refine (HC.o _ HRq.o).mono ?_;rintro e w1 hP1
    cases rr with
    | error f =>
     obtain ⟨rfl, hB, hF1⟩ := hP1;unfold zeros
     have hB1 := hF1.blk HRq.o HBq.o (by decide) (by decide)
     have hz := hB1.zero;have hfz := hB1.frozen;go_wp2
     exact Ç rfl rfl rfl rfl (É hB1) ⟨rfl, hB.st7 (by omega), (hF.trans hF1).st7 (ŋ _)⟩
    | ok y =>
     obtain ⟨nd, σ1⟩ := y;obtain ⟨sv, kv, bv1, rfl, hNd, hR1, hF1⟩ := hP1;obtain ⟨A1, A2, p1, p2, rfl, rfl⟩ := hNd.lens
     have hB1 := hF1.blk HRq.o HBq.o (by decide) (by decide)
     have hz := hB1.zero;have hfz := hB1.frozen;have HP1 := ħ (And.intro hNd (And.intro hR1 (hF.trans hF1)));clear hNd hR1 hF1 hF;simp only [ÃW];go_wp2
     exact Ç rfl rfl rfl rfl (É hB1) ⟨_, _, bv1, rfl, (HP1.o.1.st7 hB1 (by simp)).low (by simp), HP1.o.2.1.st7 hB1 HR.o.size, HP1.o.2.2.st7 (ŋ _)⟩
   ·by_cases h42 : at_ σ.t 0 = 42
    ·have ha : ŉ N d σ = .error (23, σ.pos) := by unfold ŉ Ĥ; rw [if_neg h40, if_neg h91, if_neg h92, if_pos (by rw [h42]; decide)]
     rw [ha];rw [h42] at ct;clear hP ha hn hR hN hx h42;go_enter Tryz.func122, Tryz.ntmps122;go_wp2;go_quiet (fail);have HRq := ħ (HR0.o.drewN nq);have HBq : Hid (Blk ((w.alloc (.cells zeros 27)).drewN nq) w.heap.size 27 zeros) := ħ HB0.o;have hF := HF0.o.drewN nq;unfold zeros at HRq HBq hF;have c1q := HRq.o.c1
     go_wp2_with fail
     refine (Ò 23 σ.pos HRq.o).mono ?_;rintro e w1 ⟨rfl, hB, hF1⟩
     have hB1 := hF1.blk HRq.o HBq.o (by decide) (by decide)
     have hz := hB1.zero;have hfz := hB1.frozen;go_wp2
     exact Ç rfl rfl rfl rfl (É hB1) ⟨rfl, hB.st7 (by omega), (hF.trans hF1).st7 (ŋ _)⟩
    ·by_cases h43 : at_ σ.t 0 = 43
     ·have ha : ŉ N d σ = .error (23, σ.pos) := by unfold ŉ Ĥ; rw [if_neg h40, if_neg h91, if_neg h92, if_pos (by rw [h43]; decide)]
      rw [ha];rw [h43] at ct;clear hP ha hn hR hN hx h43;go_enter Tryz.func122, Tryz.ntmps122;go_wp2;go_quiet (fail);have HRq := ħ (HR0.o.drewN nq);have HBq : Hid (Blk ((w.alloc (.cells zeros 27)).drewN nq) w.heap.size 27 zeros) := ħ HB0.o;have hF := HF0.o.drewN nq;unfold zeros at HRq HBq hF;have c1q := HRq.o.c1
      go_wp2_with fail
      refine (Ò 23 σ.pos HRq.o).mono ?_;rintro e w1 ⟨rfl, hB, hF1⟩
      have hB1 := hF1.blk HRq.o HBq.o (by decide) (by decide)
      have hz := hB1.zero;have hfz := hB1.frozen;go_wp2
      exact Ç rfl rfl rfl rfl (É hB1) ⟨rfl, hB.st7 (by omega), (hF.trans hF1).st7 (ŋ _)⟩
     ·by_cases h63 : at_ σ.t 0 = 63
      ·have ha : ŉ N d σ = .error (23, σ.pos) := by unfold ŉ Ĥ; rw [if_neg h40, if_neg h91, if_neg h92, if_pos (by rw [h63]; decide)]
       rw [ha];rw [h63] at ct;clear hP ha hn hR hN hx h63;go_enter Tryz.func122, Tryz.ntmps122;go_wp2;go_quiet (fail);have HRq := ħ (HR0.o.drewN nq);have HBq : Hid (Blk ((w.alloc (.cells zeros 27)).drewN nq) w.heap.size 27 zeros) := ħ HB0.o;have hF := HF0.o.drewN nq;unfold zeros at HRq HBq hF;have c1q := HRq.o.c1
       go_wp2_with fail
       refine (Ò 23 σ.pos HRq.o).mono ?_;rintro e w1 ⟨rfl, hB, hF1⟩
       have hB1 := hF1.blk HRq.o HBq.o (by decide) (by decide)
       have hz := hB1.zero;have hfz := hB1.frozen;go_wp2
       exact Ç rfl rfl rfl rfl (É hB1) ⟨rfl, hB.st7 (by omega), (hF.trans hF1).st7 (ŋ _)⟩
      ·by_cases h123 : at_ σ.t 0 = 123
       ·have ha : ŉ N d σ = .error (23, σ.pos) := by unfold ŉ Ĥ; rw [if_neg h40, if_neg h91, if_neg h92, if_pos (by rw [h123]; decide)]
        rw [ha];rw [h123] at ct;clear hP ha hn hR hN hx h123;go_enter Tryz.func122, Tryz.ntmps122;go_wp2;go_quiet (fail);have HRq := ħ (HR0.o.drewN nq);have HBq : Hid (Blk ((w.alloc (.cells zeros 27)).drewN nq) w.heap.size 27 zeros) := ħ HB0.o;have hF := HF0.o.drewN nq;unfold zeros at HRq HBq hF;have c1q := HRq.o.c1
        go_wp2_with fail
        refine (Ò 23 σ.pos HRq.o).mono ?_;rintro e w1 ⟨rfl, hB, hF1⟩
        have hB1 := hF1.blk HRq.o HBq.o (by decide) (by decide)
        have hz := hB1.zero;have hfz := hB1.frozen;go_wp2
        exact Ç rfl rfl rfl rfl (É hB1) ⟨rfl, hB.st7 (by omega), (hF.trans hF1).st7 (ŋ _)⟩
       ·by_cases h93 : at_ σ.t 0 = 93
        ·have ha : ŉ N d σ = .error (20, σ.pos) := by unfold ŉ Ĥ; rw [if_neg h40, if_neg h91, if_neg h92, if_neg (by simp [isQ, h42, h43, h63, h123]), if_pos (by omega)]
         rw [ha];rw [h93] at ct;clear hP ha hn hR hN hx h93;go_enter Tryz.func122, Tryz.ntmps122;go_wp2;go_quiet (fail);have HRq := ħ (HR0.o.drewN nq);have HBq : Hid (Blk ((w.alloc (.cells zeros 27)).drewN nq) w.heap.size 27 zeros) := ħ HB0.o;have hF := HF0.o.drewN nq;unfold zeros at HRq HBq hF;have c1q := HRq.o.c1
         go_wp2_with fail
         refine (Ò 20 σ.pos HRq.o).mono ?_;rintro e w1 ⟨rfl, hB, hF1⟩
         have hB1 := hF1.blk HRq.o HBq.o (by decide) (by decide)
         have hz := hB1.zero;have hfz := hB1.frozen;go_wp2
         exact Ç rfl rfl rfl rfl (É hB1) ⟨rfl, hB.st7 (by omega), (hF.trans hF1).st7 (ŋ _)⟩
        ·by_cases h125 : at_ σ.t 0 = 125
         ·have ha : ŉ N d σ = .error (20, σ.pos) := by unfold ŉ Ĥ; rw [if_neg h40, if_neg h91, if_neg h92, if_neg (by simp [isQ, h42, h43, h63, h123]), if_pos (by omega)]
          rw [ha];rw [h125] at ct;clear hP ha hn hR hN hx h125;go_enter Tryz.func122, Tryz.ntmps122;go_wp2;go_quiet (fail);have HRq := ħ (HR0.o.drewN nq);have HBq : Hid (Blk ((w.alloc (.cells zeros 27)).drewN nq) w.heap.size 27 zeros) := ħ HB0.o;have hF := HF0.o.drewN nq;unfold zeros at HRq HBq hF;have c1q := HRq.o.c1
          go_wp2_with fail
          refine (Ò 20 σ.pos HRq.o).mono ?_;rintro e w1 ⟨rfl, hB, hF1⟩
          have hB1 := hF1.blk HRq.o HBq.o (by decide) (by decide)
          have hz := hB1.zero;have hfz := hB1.frozen;go_wp2
          exact Ç rfl rfl rfl rfl (É hB1) ⟨rfl, hB.st7 (by omega), (hF.trans hF1).st7 (ŋ _)⟩
         ·by_cases h46 : at_ σ.t 0 = 46
          ·have ha : ŉ N d σ = .ok (Âa [(0, 9), (11, 1114367)], σ.adv 1) := by unfold ŉ Ĥ; rw [if_neg h40, if_neg h91, if_neg h92, if_neg (by simp [isQ, h42, h43, h63, h123]), if_neg (by omega), if_pos h46]
           rw [ha]
           have HT := ħ (fun W (hW : Rd n₀ rb tb cap s W σ d fc fa bv) => Ħ 46 (by decide) (by simpa using h46) hW)
           have e0 : ((at_ σ.t 0 : Int) == 40) = false := by simp; omega
           have e1 : ((at_ σ.t 0 : Int) == 91) = false := by simp; omega
           have e2 : ((at_ σ.t 0 : Int) == 92) = false := by simp; omega
           have e3 : ((at_ σ.t 0 : Int) == 42) = false := by simp; omega
           have e4 : ((at_ σ.t 0 : Int) == 43) = false := by simp; omega
           have e5 : ((at_ σ.t 0 : Int) == 63) = false := by simp; omega
           have e6 : ((at_ σ.t 0 : Int) == 123) = false := by simp; omega
           have e7 : ((at_ σ.t 0 : Int) == 93) = false := by simp; omega
           have e8 : ((at_ σ.t 0 : Int) == 125) = false := by simp; omega
           rw [h46] at ct;clear e0 e1 e2 e3 e4 e5 e6 e7 e8 hP ha hn hR hN hx h46;go_enter Tryz.func122, Tryz.ntmps122;go_wp2;go_quiet (fail);have HRq := ħ (HR0.o.drewN nq);have HBq : Hid (Blk ((w.alloc (.cells zeros 27)).drewN nq) w.heap.size 27 zeros) := ħ HB0.o;have hF := HF0.o.drewN nq;unfold zeros at HRq HBq hF
           go_wp2_with fail
           refine (HT.o _ HRq.o).mono ?_;rintro e wz ⟨rfl, hRz, hFz⟩
           have hBz := ħ (hFz.blk HRq.o HBq.o (by decide) (by decide))
           have HRz := ħ hRz
           replace hF := hF.trans hFz
           clear hRz hFz
           go_wp2_with fail
           refine (ÏF _).mono ?_;rintro e w9 ⟨sv, rfl, hS, hb9⟩;obtain ⟨A4, p4, rfl, hp4, hx4⟩ := id hS;clear hp4 hx4;have hB9 := hBz.o.on hb9;have hz := hB9.zero;have hfz := hB9.frozen;have hR9 : Hid (Rd n₀ rb tb cap s w9 (σ.adv 1) d fc fa bv) := ħ (HRz.o.on hb9);have HS := ħ hS;clear hS;go_wp2
           exact Ç rfl rfl rfl rfl (É hB9) ⟨_, _, bv, rfl, Ê.leaf ((HS.o.st7 hB9).ok (hR9.o.st7 hB9 HR.o.size)) (by simp), hR9.o.st7 hB9 HR.o.size, (hF.trans (Fr.of_below hb9)).st7 (ŋ _)⟩
          ·have HT0 := ħ (fun W (hW : Rd n₀ rb tb cap s W σ d fc fa bv) => ŕ 46 (by decide) (by simpa using h46) hW)
           by_cases h94 : at_ σ.t 0 = 94
           ·have ha : ŉ N d σ = .ok (Áw 0, σ.adv 1) := by unfold ŉ Ĥ; rw [if_neg h40, if_neg h91, if_neg h92, if_neg (by simp [isQ, h42, h43, h63, h123]), if_neg (by omega), if_neg h46, if_pos h94]
            rw [ha]
            have HT := ħ (fun W (hW : Rd n₀ rb tb cap s W σ d fc fa bv) => Ħ 94 (by decide) (by simpa using h94) hW)
            have e0 : ((at_ σ.t 0 : Int) == 40) = false := by simp; omega
            have e1 : ((at_ σ.t 0 : Int) == 91) = false := by simp; omega
            have e2 : ((at_ σ.t 0 : Int) == 92) = false := by simp; omega
            have e3 : ((at_ σ.t 0 : Int) == 42) = false := by simp; omega
            have e4 : ((at_ σ.t 0 : Int) == 43) = false := by simp; omega
            have e5 : ((at_ σ.t 0 : Int) == 63) = false := by simp; omega
            have e6 : ((at_ σ.t 0 : Int) == 123) = false := by simp; omega
            have e7 : ((at_ σ.t 0 : Int) == 93) = false := by simp; omega
            have e8 : ((at_ σ.t 0 : Int) == 125) = false := by simp; omega
            rw [h94] at ct;clear e0 e1 e2 e3 e4 e5 e6 e7 e8 hP ha hn hR hN hx h94;go_enter Tryz.func122, Tryz.ntmps122;go_wp2;go_quiet (fail);have HRq := ħ (HR0.o.drewN nq);have HBq : Hid (Blk ((w.alloc (.cells zeros 27)).drewN nq) w.heap.size 27 zeros) := ħ HB0.o;have hF := HF0.o.drewN nq;unfold zeros at HRq HBq hF
            go_wp2_with fail
            refine (HT0.o _ HRq.o).mono ?_;rintro e w1 ⟨rfl, hb1⟩;have hR1 := ħ (HRq.o.on hb1);have hB1 := ħ (HBq.o.on hb1)
            replace hF := hF.trans (Fr.of_below hb1)
            go_wp2_with fail
            refine (HT.o _ hR1.o).mono ?_;rintro e wz ⟨rfl, hRz, hFz⟩
            have hBz := ħ (hFz.blk hR1.o hB1.o (by decide) (by decide))
            have HRz := ħ hRz
            replace hF := hF.trans hFz
            clear hRz hFz;have hB9 := hBz.o;have hz := hB9.zero;have hfz := hB9.frozen;go_wp2
            exact Ç rfl rfl rfl rfl (É hB9) ⟨_, _, bv, rfl, Ê.leaf (Đ.nil _ _) (by simp), HRz.o.st7 hB9 HR.o.size, hF.st7 (ŋ _)⟩
           ·have HT1 := ħ (fun W (hW : Rd n₀ rb tb cap s W σ d fc fa bv) => ŕ 94 (by decide) (by simpa using h94) hW)
            by_cases h36 : at_ σ.t 0 = 36
            ·have ha : ŉ N d σ = .ok (Áw 1, σ.adv 1) := by unfold ŉ Ĥ; rw [if_neg h40, if_neg h91, if_neg h92, if_neg (by simp [isQ, h42, h43, h63, h123]), if_neg (by omega), if_neg h46, if_neg h94, if_pos h36]
             rw [ha]
             have HT := ħ (fun W (hW : Rd n₀ rb tb cap s W σ d fc fa bv) => Ħ 36 (by decide) (by simpa using h36) hW)
             have e0 : ((at_ σ.t 0 : Int) == 40) = false := by simp; omega
             have e1 : ((at_ σ.t 0 : Int) == 91) = false := by simp; omega
             have e2 : ((at_ σ.t 0 : Int) == 92) = false := by simp; omega
             have e3 : ((at_ σ.t 0 : Int) == 42) = false := by simp; omega
             have e4 : ((at_ σ.t 0 : Int) == 43) = false := by simp; omega
             have e5 : ((at_ σ.t 0 : Int) == 63) = false := by simp; omega
             have e6 : ((at_ σ.t 0 : Int) == 123) = false := by simp; omega
             have e7 : ((at_ σ.t 0 : Int) == 93) = false := by simp; omega
             have e8 : ((at_ σ.t 0 : Int) == 125) = false := by simp; omega
             rw [h36] at ct;clear e0 e1 e2 e3 e4 e5 e6 e7 e8 hP ha hn hR hN hx h36;go_enter Tryz.func122, Tryz.ntmps122;go_wp2;go_quiet (fail);have HRq := ħ (HR0.o.drewN nq);have HBq : Hid (Blk ((w.alloc (.cells zeros 27)).drewN nq) w.heap.size 27 zeros) := ħ HB0.o;have hF := HF0.o.drewN nq;unfold zeros at HRq HBq hF
             go_wp2_with fail
             refine (HT0.o _ HRq.o).mono ?_;rintro e w1 ⟨rfl, hb1⟩;have hR1 := ħ (HRq.o.on hb1);have hB1 := ħ (HBq.o.on hb1)
             replace hF := hF.trans (Fr.of_below hb1)
             go_wp2_with fail
             refine (HT1.o _ hR1.o).mono ?_;rintro e w2 ⟨rfl, hb2⟩;have hR2 := ħ (hR1.o.on hb2);have hB2 := ħ (hB1.o.on hb2)
             replace hF := hF.trans (Fr.of_below hb2)
             go_wp2_with fail
             refine (HT.o _ hR2.o).mono ?_;rintro e wz ⟨rfl, hRz, hFz⟩
             have hBz := ħ (hFz.blk hR2.o hB2.o (by decide) (by decide))
             have HRz := ħ hRz
             replace hF := hF.trans hFz
             clear hRz hFz;have hB9 := hBz.o;have hz := hB9.zero;have hfz := hB9.frozen;go_wp2
             exact Ç rfl rfl rfl rfl (É hB9) ⟨_, _, bv, rfl, Ê.leaf (Đ.nil _ _) (by simp), HRz.o.st7 hB9 HR.o.size, hF.st7 (ŋ _)⟩
            ·have HT2 := ħ (fun W (hW : Rd n₀ rb tb cap s W σ d fc fa bv) => ŕ 36 (by decide) (by simpa using h36) hW)
             have ha : ŉ N d σ = .ok (Âa [(((nx σ.t).1 : Int), ((nx σ.t).1 : Int))], σ.adv (nx σ.t).2) := by unfold ŉ Ĥ; rw [if_neg h40, if_neg h91, if_neg h92, if_neg (by simp [isQ, h42, h43, h63, h123]), if_neg (by omega), if_neg h46, if_neg h94, if_neg h36]
             rw [ha]
             have e0 : ((at_ σ.t 0 : Int) == 40) = false := by simp; omega
             have e1 : ((at_ σ.t 0 : Int) == 91) = false := by simp; omega
             have e2 : ((at_ σ.t 0 : Int) == 92) = false := by simp; omega
             have e3 : ((at_ σ.t 0 : Int) == 42) = false := by simp; omega
             have e4 : ((at_ σ.t 0 : Int) == 43) = false := by simp; omega
             have e5 : ((at_ σ.t 0 : Int) == 63) = false := by simp; omega
             have e6 : ((at_ σ.t 0 : Int) == 123) = false := by simp; omega
             have e7 : ((at_ σ.t 0 : Int) == 93) = false := by simp; omega
             have e8 : ((at_ σ.t 0 : Int) == 125) = false := by simp; omega
             have HPl := ħ (fun W (hW : Rd n₀ rb tb cap s W σ d fc fa bv) => Çu hn hW)
             obtain ⟨u, hu⟩ : ∃ u, u = (nx σ.t).1 := ⟨_, rfl⟩;obtain ⟨z, hz⟩ : ∃ z, z = (nx σ.t).2 := ⟨_, rfl⟩;rw [← hu, ← hz] at HPl ⊢;obtain ⟨c, hc⟩ : ∃ c, c = at_ σ.t 0 := ⟨_, rfl⟩;rw [← hc] at ct hx e0 e1 e2 e3 e4 e5 e6 e7 e8;clear hP ha hn hR hN hu hz hc h40 h91 h92 h42 h43 h63 h123 h93 h125 h46 h94 h36;go_enter Tryz.func122, Tryz.ntmps122;go_wp2;go_quiet (fail);have HRq := ħ (HR0.o.drewN nq);have HBq : Hid (Blk ((w.alloc (.cells zeros 27)).drewN nq) w.heap.size 27 zeros) := ħ HB0.o;have hF := HF0.o.drewN nq;unfold zeros at HRq HBq hF
             go_wp2_with fail
             refine (HT0.o _ HRq.o).mono ?_;rintro e w1 ⟨rfl, hb1⟩;have hR1 := ħ (HRq.o.on hb1);have hB1 := ħ (HBq.o.on hb1)
             replace hF := hF.trans (Fr.of_below hb1)
             go_wp2_with fail
             refine (HT1.o _ hR1.o).mono ?_;rintro e w2 ⟨rfl, hb2⟩;have hR2 := ħ (hR1.o.on hb2);have hB2 := ħ (hB1.o.on hb2)
             replace hF := hF.trans (Fr.of_below hb2)
             go_wp2_with fail
             refine (HT2.o _ hR2.o).mono ?_;rintro e w3 ⟨rfl, hb3⟩;have hR3 := ħ (hR2.o.on hb3);have hB3 := ħ (hB2.o.on hb3)
             replace hF := hF.trans (Fr.of_below hb3)
             go_wp2_with fail
             refine (HPl.o _ hR3.o).mono ?_;rintro e w4 ⟨rfl, hR4, hF4⟩
             have hB4 := ħ (hF4.blk hR3.o hB3.o (by decide) (by decide))
             have HR4 := ħ hR4
             replace hF := hF.trans hF4
             clear hR4 hF4
             go_wp2_with fail
             refine (Ìd u _).mono ?_;rintro e w9 ⟨sv, rfl, hS, hb9⟩;obtain ⟨A4, p4, rfl, hp4, hx4⟩ := id hS;clear hp4 hx4;have hB9 := hB4.o.on hb9;have hz := hB9.zero;have hfz := hB9.frozen;have hR9 := ħ (HR4.o.on hb9);have HS := ħ hS;clear hS;go_wp2
             exact Ç rfl rfl rfl rfl (É hB9) ⟨_, _, bv, rfl, Ê.leaf ((HS.o.st7 hB9).ok (hR9.o.st7 hB9 HR.o.size)) (by simp), hR9.o.st7 hB9 HR.o.size, (hF.trans (Fr.of_below hb9)).st7 (ŋ _)⟩
end
section
open Go.RowKit
variable {n₀ rb tb cap d : Nat} {s : List UInt8} {w w' : World} {σ σ1 : St} {fc fa : Int} {bv v : Value}
def ÐN (n₀ rb tb cap : Nat) (s : List UInt8) (fc fa : Int) (N : Nat) : Prop :=
 ∀ (d : Nat) (σ : St) (w : World) (bv : Value), σ.t ≠ [] → 4 * σ.t.length ≤ N → Rd n₀ rb tb cap s w σ d fc fa bv → Calls Tryz.prog 104 #[.pointer (some ⟨rb, 0, none⟩)] w (ÄV n₀ rb tb cap s d fc fa w (run N 2 d [] σ))
def Às (gr : Bool) (ra : R) : R :=
 match ra with
 | .error e => .error e
 | .ok (a, σ1) => Ù gr a σ1
theorem ÏM (n d : Nat) (acc : List Nd) (σ : St) : run (n + 1) 2 d acc σ = Às (pre [40, 63, 58] σ.t) (ŉ n d σ) := rfl
set_option maxRecDepth 100000 in
set_option maxHeartbeats 16000000 in
theorem Ëe (N : Nat) (hP : ÏL n₀ rb tb cap s fc fa N) : ÐN n₀ rb tb cap s fc fa (N + 1) := by
 intro d σ w bv hn hN hR;rw [ÏM];have hrl := hR.blk.lt;have HB0 := ħ (Blk.new w 27 zeros);have HR0 := ħ (hR.alloc (.cells zeros 27));have HF0 : Hid (Fr n₀ rb w (w.alloc (.cells zeros 27))) := ħ ((Fr.refl w).alloc _);have HR := ħ hR;have HS := ħ (ÀJ [40, 63, 58] HR0.o)
 have HA := ħ (fun W (hW : Rd n₀ rb tb cap s W σ d fc fa bv) => ÎB N hP hn hN hW)
 obtain ⟨gr, hgr⟩ : ∃ gr, gr = pre [40, 63, 58] σ.t := ⟨_, rfl⟩;obtain ⟨ra, hra⟩ : ∃ ra, ra = ŉ N d σ := ⟨_, rfl⟩;rw [← hgr] at HS ⊢;rw [← hra] at HA ⊢;clear hgr hra hP hn hN hR;go_enter Tryz.func104, Tryz.ntmps104
 go_wp2_with fail
 refine HS.o.mono ?_;rintro e w1 ⟨rfl, hb1⟩;have HR1 := ħ (HR0.o.on hb1);have HB1 := ħ (HB0.o.on hb1);have hF := HF0.o.trans (Fr.of_below hb1);have h01 : w.heap.size < w1.heap.size := HB1.o.lt
 go_wp2_with fail
 refine (HA.o _ HR1.o).mono ?_;rintro e w2 hP2
 cases ra with
 | error f =>
  obtain ⟨rfl, hB, hF2⟩ := hP2;unfold zeros
  have hB2 := (hF2.blk HR1.o HB1.o (by decide) (by decide)).alloc (.cells zeros 27)
  have hz := hB2.zero;have hfz := hB2.frozen;unfold zeros at hz hfz;go_wp2
  exact Ç rfl rfl rfl rfl (É hB2) ⟨rfl, (hB.alloc _).st7 (by omega), ((hF.trans hF2).alloc _).st7 (ŋ _)⟩
 | ok y =>
  obtain ⟨a, σ1⟩ := y;obtain ⟨sv, kv, bv2, rfl, hNd, hR2, hF2⟩ := hP2;obtain ⟨A1, A2, p1, p2, rfl, rfl⟩ := hNd.lens;have hw2 := hF2.size;obtain ⟨nk, hnk⟩ : ∃ nk : Array Value, nk = #[.int .i64 a.kind, .int .i64 a.lo, .int .i64 a.hi, .int .i64 a.mode, .int .i64 a.ref, .slice A1 a.set.length p1, .slice A2 a.kids.length p2] := ⟨_, rfl⟩
  have HB3 := ħ ((hF2.blk HR1.o HB1.o (by decide) (by decide)).alloc (.cells nk 27))
  have HB5 := ħ (Blk.new w2 27 nk);have HR3 := ħ (hR2.alloc (.cells nk 27));have HN3 := ħ (hNd.fr ((Fr.refl w2).alloc (.cells nk 27)))
  replace hF := (hF.trans hF2).alloc (.cells nk 27)
  have c1 := HR3.o.c1
  have hsz : w2.heap.size < (w2.alloc (.cells nk 27)).heap.size := by simp
  have hq := Ëb HR3.o;have HQ := ħ hq
  have htm := fun (hq : isQ (at_ σ1.t 0) = true) W (hW : Rd n₀ rb tb cap s W σ1 d fc fa bv2) => ÌW hq hW
  have HTM := ħ htm;clear hNd hR2 hF2 hq htm;simp only [ÃW];subst hnk
  go_upto_region 6 with (fail)
  generalize w2.alloc (.cells #[.int .i64 a.kind, .int .i64 a.lo, .int .i64 a.hi, .int .i64 a.mode, .int .i64 a.ref, .slice A1 a.set.length p1, .slice A2 a.kids.length p2] 27) = W3 at HB3 HB5 HR3 HN3 hF c1 hsz HQ ⊢
  cases hq : isQ (at_ σ1.t 0) with
  | false =>
   rw [hq] at HQ
   have hpc : Hid (Às gr (.ok (a, σ1)) = .ok (a, σ1)) := ħ (by unfold Às Ù; exact if_neg (by rw [hq]; decide))
   clear hq HTM
   go_wp2_with fail
   refine HQ.o.mono ?_;rintro e w4 ⟨rfl, hb4⟩;have hB4 := HB3.o.on hb4;have hz := hB4.zero;have hfz := hB4.frozen;have b5 := (HB5.o.on hb4).seven;go_wp2
   exact Ç rfl rfl rfl rfl (É hB4) (by
    rw [hpc.o]
    exact ⟨_, _, bv2, rfl, ((HN3.o.fr (Fr.of_below hb4)).st7 hB4 h01).low (by omega), (HR3.o.on hb4).st7 hB4 HR.o.size, (hF.trans (Fr.of_below hb4)).st7 (ŋ _)⟩)
  | true =>
   rw [hq] at HQ
   cases gr with
   | true =>
    have hpc : Às true (.ok (a, σ1)) = (match times σ1 with | none => .error (23, σ1.pos) | some ((lo, hi), σ2) => .ok (Àz lo hi (è σ2.t) a, È σ2)) := by show Ù true a σ1 = _; unfold Ù; rw [if_pos hq, if_neg (by simp)]; rfl
    have HTM' := ħ (HTM.o hq);obtain ⟨rt, hrt⟩ : ∃ rt, rt = times σ1 := ⟨_, rfl⟩;rw [← hrt] at hpc HTM';have HPC := ħ hpc;clear hpc hq HTM hrt
    go_wp2_with fail
    refine HQ.o.mono ?_;rintro e w4 ⟨rfl, hb4⟩;have HB4 := ħ (HB3.o.on hb4);have HB54 := ħ (HB5.o.on hb4);have HR4 := ħ (HR3.o.on hb4);have HN4 := ħ (HN3.o.fr (Fr.of_below hb4))
    replace hF := hF.trans (Fr.of_below hb4)
    have b5 := HB54.o.seven;clear HB3 HB5 HR3 HN3 hb4 HQ
    go_wp2_with fail
    refine (HTM'.o _ HR4.o).mono ?_;rintro e w5 hP5
    cases rt with
    | none =>
     obtain ⟨rfl, ⟨σx, hRx⟩, hF5⟩ := hP5;have hpc := HPC.o;simp only at hpc
     have HB5 := ħ (hF5.blk HR4.o HB4.o (by decide) (by decide))
     have HRx := ħ hRx
     replace hF := hF.trans hF5
     have HPC2 := ħ hpc;clear hRx hF5 HPC hpc
     go_wp2_with fail
     refine (Ò 23 σ1.pos HRx.o).mono ?_;rintro e w6 ⟨rfl, hB, hF6⟩
     have hB6 := hF6.blk HRx.o HB5.o (by decide) (by decide)
     have hz := hB6.zero;have hfz := hB6.frozen;go_wp2
     exact Ç rfl rfl rfl rfl (É hB6) (by
      rw [HPC2.o]
      exact ⟨rfl, hB.st7 (by omega), (hF.trans hF6).st7 (ŋ _)⟩)
    | some z =>
     obtain ⟨⟨lo, hi⟩, σ2⟩ := z;obtain ⟨rfl, hR5, hF5⟩ := hP5;have hpc := HPC.o;simp only at hpc hR5
     have HB5 := ħ (hF5.blk HR4.o HB4.o (by decide) (by decide))
     have HB55 := ħ (hF5.blk HR4.o HB54.o (by decide) (by decide))
     have HR5 := ħ hR5;have HN5 := ħ (HN4.o.fr hF5)
     replace hF := hF.trans hF5
     have HPC2 := ħ hpc
     have HMd := ħ (fun W (hW : Rd n₀ rb tb cap s W σ2 d fc fa bv2) => ÉD hW)
     obtain ⟨md, hmd⟩ : ∃ md, md = è σ2.t := ⟨_, rfl⟩;rw [← hmd] at HMd HPC2;clear hR5 hF5 HPC hpc hmd b5 HB4 HB54 HR4 HN4 HTM'
     have h52 : w2.heap.size ≠ w.heap.size := by omega
     go_upto_region 13 with (fail)
     refine wp_region_held_drew (S := fun W => Blk W w2.heap.size 27 #[.int .i64 a.kind, .int .i64 a.lo, .int .i64 a.hi, .int .i64 a.mode, .int .i64 a.ref, .slice A1 a.set.length p1, .slice A2 a.kids.length p2]) (by kernel_rfl) HB55.o (fun hHeld => ?_)
     refine ŧ 0 56 (.int .i64 lo) _ rfl rfl hHeld (fun w' hSw => ?_) ?_
     ·go_simp
     simp only [ł, ø, đ]
     refine ŧ 1 57 (.int .i64 hi) _ rfl rfl hHeld (fun w' hSw => ?_) ?_
     ·go_simp
     simp only [ł, ø, đ]
     refine ŧ 2 58 (.pointer (some ⟨rb, 0, none⟩)) _ rfl rfl hHeld (fun w' hSw => ?_) ?_
     ·go_simp
     simp only [ł, ø, đ]
     refine ŧ 4 60 (.agg #[.int .i64 a.kind, .int .i64 a.lo, .int .i64 a.hi, .int .i64 a.mode, .int .i64 a.ref, .slice A1 a.set.length p1, .slice A2 a.kids.length p2]) _ rfl rfl hHeld (fun w' hSw => ?_) ?_
     ·have hS7 := Blk.seven hSw
      clear hSw;go_simp
     simp only [ł, ø, đ]
     refine wpAnyH_ready (rs := [3, 5]) (by kernel_rfl) (by simp) ?_
     refine AllReadyH.cons rfl (fun K hK => ?_) (AllReadyH.cons rfl (fun K hK => ?_) AllReadyH.nil)
     ·go_simp
      refine (HMd.o _ HR5.o.drew).mono ?_;rintro e w6 ⟨rfl, hR6, hF6⟩
      have HB06 := ħ (hF6.blk HR5.o.drew (show Blk w5.drew w.heap.size 27 zeros from HB5.o) (by decide) (by decide))
      have HB56 := ħ (hF6.blk HR5.o.drew (show Blk w5.drew w2.heap.size 27 _ from HB55.o) (by decide) (by decide))
      refine hK.o _ _ HB56.o (fun hHeld => ?_)
      clear hK K
      refine ŝ 5 (fun K hK => ?_)
      go_simp
      refine hK.o _ _ (HB56.o.alloc _) (fun hHeld => ?_)
      clear hK K;have HBf := ħ (HB06.o.alloc (.cells #[.int .i64 a.kind, .int .i64 a.lo, .int .i64 a.hi, .int .i64 a.mode, .int .i64 a.ref, .slice A1 a.set.length p1, .slice A2 a.kids.length p2] 27));have HBg := ħ (HB56.o.alloc (.cells #[.int .i64 a.kind, .int .i64 a.lo, .int .i64 a.hi, .int .i64 a.mode, .int .i64 a.ref, .slice A1 a.set.length p1, .slice A2 a.kids.length p2] 27));have HBs := ħ (Blk.new w6 27 #[.int .i64 a.kind, .int .i64 a.lo, .int .i64 a.hi, .int .i64 a.mode, .int .i64 a.ref, .slice A1 a.set.length p1, .slice A2 a.kids.length p2]);have HNf := ħ ((HN5.o.fr (((Fr.refl w5).drewN 1).trans hF6)).fr ((Fr.refl w6).alloc (.cells #[.int .i64 a.kind, .int .i64 a.lo, .int .i64 a.hi, .int .i64 a.mode, .int .i64 a.ref, .slice A1 a.set.length p1, .slice A2 a.kids.length p2] 27)));have HRf := ħ (hR6.alloc (.cells #[.int .i64 a.kind, .int .i64 a.lo, .int .i64 a.hi, .int .i64 a.mode, .int .i64 a.ref, .slice A1 a.set.length p1, .slice A2 a.kids.length p2] 27));have hFf := ((hF.drewN 1).trans hF6).alloc (.cells #[.int .i64 a.kind, .int .i64 a.lo, .int .i64 a.hi, .int .i64 a.mode, .int .i64 a.ref, .slice A1 a.set.length p1, .slice A2 a.kids.length p2] 27)
      have hsf : w6.heap.size ≠ w.heap.size := by have := HB06.o.lt; omega
      have hsr : w6.heap.size ≠ rb := by have := hR6.blk.lt; omega
      have hs6 : w.heap.size < w6.heap.size := HB06.o.lt;clear hR6 hF6;generalize w6.alloc (.cells #[.int .i64 a.kind, .int .i64 a.lo, .int .i64 a.hi, .int .i64 a.mode, .int .i64 a.ref, .slice A1 a.set.length p1, .slice A2 a.kids.length p2] 27) = W7 at HBf HBg HBs HNf HRf hFf hHeld ⊢
      refine ŧ 6 62 (.agg #[.int .i64 4, .int .i64 lo, .int .i64 hi, .int .i64 (md : Nat), .int .i64 0, .slice none 0 0, .slice (some ⟨w6.heap.size, 0, none⟩) 1 1]) _ rfl rfl hHeld (fun w' hSw => ?_) ?_
      ·go_simp
      simp only [ł, ø, đ];have hz := HBf.o.zero;have hfz := HBf.o.frozen
      refine ŝ 7 (fun K hK => ?_)
      go_simp
      refine hK.o _ _ (HBg.o.st7 h52) (fun hHeld => ?_)
      clear hK K
      refine ŧ 8 3 (.bool true) _ rfl rfl hHeld (fun w' hSw => ?_) ?_
      ·go_simp
      simp only [ł, ø, đ]
      refine wpAnyH_done (by kernel_rfl) ?_ _
      clear hHeld hz hfz;go_wp2
      exact Ç rfl rfl rfl rfl (É HBf.o) (by
       rw [HPC2.o]
       exact ⟨_, _, bv2, rfl, Ê.one (Đ.nil _ _) (by simp) (ŋ _) (KB.new (HBs.o.st7 hsf) hsr (by omega)) ((HNf.o.st7 HBf.o h01).low (by omega)) (Ţ.of_blk (HBs.o.st7 hsf)), HRf.o.st7 HBf.o HR.o.size, hFf.st7 (ŋ _)⟩)
     ·go_simp
      refine hK.o _ _ (show Blk (w5.drew.alloc (.cells #[.int .i64 a.kind, .int .i64 a.lo, .int .i64 a.hi, .int .i64 a.mode, .int .i64 a.ref, .slice A1 a.set.length p1, .slice A2 a.kids.length p2] 27)) w2.heap.size 27 _ from Blk.alloc (w := w5.drew) HB55.o _) (fun hHeld => ?_)
      clear hK K
      refine ŝ 3 (fun K hK => ?_)
      go_simp;have hRa : Rd n₀ rb tb cap s (w5.drew.alloc (.cells #[.int .i64 a.kind, .int .i64 a.lo, .int .i64 a.hi, .int .i64 a.mode, .int .i64 a.ref, .slice A1 a.set.length p1, .slice A2 a.kids.length p2] 27)) σ2 d fc fa bv2 := HR5.o.drew.alloc _;refine (HMd.o _ hRa).mono ?_;rintro e w6 ⟨rfl, hR6, hF6⟩
      have HBf := ħ (hF6.blk hRa (show Blk (w5.drew.alloc (.cells #[.int .i64 a.kind, .int .i64 a.lo, .int .i64 a.hi, .int .i64 a.mode, .int .i64 a.ref, .slice A1 a.set.length p1, .slice A2 a.kids.length p2] 27)) w.heap.size 27 zeros from Blk.alloc (w := w5.drew) HB5.o _) (by decide) (by decide))
      have HBg := ħ (hF6.blk hRa (show Blk (w5.drew.alloc (.cells #[.int .i64 a.kind, .int .i64 a.lo, .int .i64 a.hi, .int .i64 a.mode, .int .i64 a.ref, .slice A1 a.set.length p1, .slice A2 a.kids.length p2] 27)) w2.heap.size 27 _ from Blk.alloc (w := w5.drew) HB55.o _) (by decide) (by decide))
      have HBs := ħ (hF6.blk hRa (Blk.new_at w5.drew w5.heap.size rfl 27 #[.int .i64 a.kind, .int .i64 a.lo, .int .i64 a.hi, .int .i64 a.mode, .int .i64 a.ref, .slice A1 a.set.length p1, .slice A2 a.kids.length p2]) (by decide) (by decide))
      have HNf := ħ ((HN5.o.fr ((Fr.refl w5).drewN 1)).fr (((Fr.refl w5.drew).alloc (.cells #[.int .i64 a.kind, .int .i64 a.lo, .int .i64 a.hi, .int .i64 a.mode, .int .i64 a.ref, .slice A1 a.set.length p1, .slice A2 a.kids.length p2] 27)).trans hF6));have HRf := ħ hR6;have hFf := ((hF.drewN 1).alloc (.cells #[.int .i64 a.kind, .int .i64 a.lo, .int .i64 a.hi, .int .i64 a.mode, .int .i64 a.ref, .slice A1 a.set.length p1, .slice A2 a.kids.length p2] 27)).trans hF6
      have hsf : w5.heap.size ≠ w.heap.size := by have := HB5.o.lt; omega
      have hsr : w5.heap.size ≠ rb := by have := HR5.o.blk.lt; omega
      have hs6 : w.heap.size < w5.heap.size := HB5.o.lt
      refine hK.o _ _ HBg.o (fun hHeld => ?_)
      clear hK K hR6 hF6 hRa
      refine ŧ 6 62 (.agg #[.int .i64 4, .int .i64 lo, .int .i64 hi, .int .i64 (md : Nat), .int .i64 0, .slice none 0 0, .slice (some ⟨w5.heap.size, 0, none⟩) 1 1]) _ rfl rfl hHeld (fun w' hSw => ?_) ?_
      ·go_simp
      simp only [ł, ø, đ];have hz := HBf.o.zero;have hfz := HBf.o.frozen
      refine ŝ 7 (fun K hK => ?_)
      go_simp
      refine hK.o _ _ (HBg.o.st7 h52) (fun hHeld => ?_)
      clear hK K
      refine ŧ 8 3 (.bool true) _ rfl rfl hHeld (fun w' hSw => ?_) ?_
      ·go_simp
      simp only [ł, ø, đ]
      refine wpAnyH_done (by kernel_rfl) ?_ _
      clear hHeld hz hfz;go_wp2
      exact Ç rfl rfl rfl rfl (É HBf.o) (by
       rw [HPC2.o]
       exact ⟨_, _, bv2, rfl, Ê.one (Đ.nil _ _) (by simp) (ŋ _) (KB.new (HBs.o.st7 hsf) hsr (by omega)) ((HNf.o.st7 HBf.o h01).low (by omega)) (Ţ.of_blk (HBs.o.st7 hsf)), HRf.o.st7 HBf.o HR.o.size, hFf.st7 (ŋ _)⟩)
   | false =>
    by_cases k9 : a.kind = 9
    ·have e9 : (a.kind == 9) = true := by simpa using k9
     have hpc : Hid (Às false (.ok (a, σ1)) = .error (23, σ1.pos)) := ħ (by unfold Às Ù; simp [hq, k9])
     clear hq HTM k9
     go_wp2_with fail
     refine HQ.o.mono ?_;rintro e w4 ⟨rfl, hb4⟩;have HB4 := ħ (HB3.o.on hb4);have HB54 := ħ (HB5.o.on hb4);have HR4 := ħ (HR3.o.on hb4);have HN4 := ħ (HN3.o.fr (Fr.of_below hb4))
     replace hF := hF.trans (Fr.of_below hb4)
     have b5 := HB54.o.seven;clear HB3 HB5 HR3 HN3 hb4 HQ
     go_wp2_with fail
     refine (Ò 23 σ1.pos HR4.o).mono ?_;rintro e w5 ⟨rfl, hB, hF5⟩
     have hB5 := hF5.blk HR4.o HB4.o (by decide) (by decide)
     have hz := hB5.zero;have hfz := hB5.frozen;go_wp2
     exact Ç rfl rfl rfl rfl (É hB5) (by
      rw [hpc.o]
      exact ⟨rfl, hB.st7 (by omega), (hF.trans hF5).st7 (ŋ _)⟩)
    ·have e9 : (a.kind == 9) = false := by simpa using k9
     by_cases k7 : a.kind = 7
     ·have e7 : (a.kind == 7) = true := by simpa using k7
      have hpc : Hid (Às false (.ok (a, σ1)) = .error (23, σ1.pos)) := ħ (by unfold Às Ù; simp [hq, k7])
      clear hq HTM k7 k9
      go_wp2_with fail
      refine HQ.o.mono ?_;rintro e w4 ⟨rfl, hb4⟩;have HB4 := ħ (HB3.o.on hb4);have HB54 := ħ (HB5.o.on hb4);have HR4 := ħ (HR3.o.on hb4);have HN4 := ħ (HN3.o.fr (Fr.of_below hb4))
      replace hF := hF.trans (Fr.of_below hb4)
      have b5 := HB54.o.seven;clear HB3 HB5 HR3 HN3 hb4 HQ
      go_wp2_with fail
      refine (Ò 23 σ1.pos HR4.o).mono ?_;rintro e w5 ⟨rfl, hB, hF5⟩
      have hB5 := hF5.blk HR4.o HB4.o (by decide) (by decide)
      have hz := hB5.zero;have hfz := hB5.frozen;go_wp2
      exact Ç rfl rfl rfl rfl (É hB5) (by
       rw [hpc.o]
       exact ⟨rfl, hB.st7 (by omega), (hF.trans hF5).st7 (ŋ _)⟩)
     ·have e7 : (a.kind == 7) = false := by simpa using k7
      have hpc : Às false (.ok (a, σ1)) = (match times σ1 with | none => .error (23, σ1.pos) | some ((lo, hi), σ2) => .ok (Àz lo hi (è σ2.t) a, È σ2)) := by show Ù false a σ1 = _; unfold Ù; rw [if_pos hq, if_neg (by simp [k9, k7])]; rfl
      clear k9 k7;have HTM' := ħ (HTM.o hq);obtain ⟨rt, hrt⟩ : ∃ rt, rt = times σ1 := ⟨_, rfl⟩;rw [← hrt] at hpc HTM';have HPC := ħ hpc;clear hpc hq HTM hrt
      go_wp2_with fail
      refine HQ.o.mono ?_;rintro e w4 ⟨rfl, hb4⟩;have HB4 := ħ (HB3.o.on hb4);have HB54 := ħ (HB5.o.on hb4);have HR4 := ħ (HR3.o.on hb4);have HN4 := ħ (HN3.o.fr (Fr.of_below hb4))
      replace hF := hF.trans (Fr.of_below hb4)
      have b5 := HB54.o.seven;clear HB3 HB5 HR3 HN3 hb4 HQ
      go_wp2_with fail
      refine (HTM'.o _ HR4.o).mono ?_;rintro e w5 hP5
      cases rt with
      | none =>
       obtain ⟨rfl, ⟨σx, hRx⟩, hF5⟩ := hP5;have hpc := HPC.o;simp only at hpc
       have HB5 := ħ (hF5.blk HR4.o HB4.o (by decide) (by decide))
       have HRx := ħ hRx
       replace hF := hF.trans hF5
       have HPC2 := ħ hpc;clear hRx hF5 HPC hpc
       go_wp2_with fail
       refine (Ò 23 σ1.pos HRx.o).mono ?_;rintro e w6 ⟨rfl, hB, hF6⟩
       have hB6 := hF6.blk HRx.o HB5.o (by decide) (by decide)
       have hz := hB6.zero;have hfz := hB6.frozen;go_wp2
       exact Ç rfl rfl rfl rfl (É hB6) (by
        rw [HPC2.o]
        exact ⟨rfl, hB.st7 (by omega), (hF.trans hF6).st7 (ŋ _)⟩)
      | some z =>
       obtain ⟨⟨lo, hi⟩, σ2⟩ := z;obtain ⟨rfl, hR5, hF5⟩ := hP5;have hpc := HPC.o;simp only at hpc hR5
       have HB5 := ħ (hF5.blk HR4.o HB4.o (by decide) (by decide))
       have HB55 := ħ (hF5.blk HR4.o HB54.o (by decide) (by decide))
       have HR5 := ħ hR5;have HN5 := ħ (HN4.o.fr hF5)
       replace hF := hF.trans hF5
       have HPC2 := ħ hpc
       have HMd := ħ (fun W (hW : Rd n₀ rb tb cap s W σ2 d fc fa bv2) => ÉD hW)
       obtain ⟨md, hmd⟩ : ∃ md, md = è σ2.t := ⟨_, rfl⟩;rw [← hmd] at HMd HPC2;clear hR5 hF5 HPC hpc hmd b5 HB4 HB54 HR4 HN4 HTM'
       have h52 : w2.heap.size ≠ w.heap.size := by omega
       go_upto_region 13 with (fail)
       refine wp_region_held_drew (S := fun W => Blk W w2.heap.size 27 #[.int .i64 a.kind, .int .i64 a.lo, .int .i64 a.hi, .int .i64 a.mode, .int .i64 a.ref, .slice A1 a.set.length p1, .slice A2 a.kids.length p2]) (by kernel_rfl) HB55.o (fun hHeld => ?_)
       refine ŧ 0 56 (.int .i64 lo) _ rfl rfl hHeld (fun w' hSw => ?_) ?_
       ·go_simp
       simp only [ł, ø, đ]
       refine ŧ 1 57 (.int .i64 hi) _ rfl rfl hHeld (fun w' hSw => ?_) ?_
       ·go_simp
       simp only [ł, ø, đ]
       refine ŧ 2 58 (.pointer (some ⟨rb, 0, none⟩)) _ rfl rfl hHeld (fun w' hSw => ?_) ?_
       ·go_simp
       simp only [ł, ø, đ]
       refine ŧ 4 60 (.agg #[.int .i64 a.kind, .int .i64 a.lo, .int .i64 a.hi, .int .i64 a.mode, .int .i64 a.ref, .slice A1 a.set.length p1, .slice A2 a.kids.length p2]) _ rfl rfl hHeld (fun w' hSw => ?_) ?_
       ·have hS7 := Blk.seven hSw
        clear hSw;go_simp
       simp only [ł, ø, đ]
       refine wpAnyH_ready (rs := [3, 5]) (by kernel_rfl) (by simp) ?_
       refine AllReadyH.cons rfl (fun K hK => ?_) (AllReadyH.cons rfl (fun K hK => ?_) AllReadyH.nil)
       ·go_simp
        refine (HMd.o _ HR5.o.drew).mono ?_;rintro e w6 ⟨rfl, hR6, hF6⟩
        have HB06 := ħ (hF6.blk HR5.o.drew (show Blk w5.drew w.heap.size 27 zeros from HB5.o) (by decide) (by decide))
        have HB56 := ħ (hF6.blk HR5.o.drew (show Blk w5.drew w2.heap.size 27 _ from HB55.o) (by decide) (by decide))
        refine hK.o _ _ HB56.o (fun hHeld => ?_)
        clear hK K
        refine ŝ 5 (fun K hK => ?_)
        go_simp
        refine hK.o _ _ (HB56.o.alloc _) (fun hHeld => ?_)
        clear hK K;have HBf := ħ (HB06.o.alloc (.cells #[.int .i64 a.kind, .int .i64 a.lo, .int .i64 a.hi, .int .i64 a.mode, .int .i64 a.ref, .slice A1 a.set.length p1, .slice A2 a.kids.length p2] 27));have HBg := ħ (HB56.o.alloc (.cells #[.int .i64 a.kind, .int .i64 a.lo, .int .i64 a.hi, .int .i64 a.mode, .int .i64 a.ref, .slice A1 a.set.length p1, .slice A2 a.kids.length p2] 27));have HBs := ħ (Blk.new w6 27 #[.int .i64 a.kind, .int .i64 a.lo, .int .i64 a.hi, .int .i64 a.mode, .int .i64 a.ref, .slice A1 a.set.length p1, .slice A2 a.kids.length p2]);have HNf := ħ ((HN5.o.fr (((Fr.refl w5).drewN 1).trans hF6)).fr ((Fr.refl w6).alloc (.cells #[.int .i64 a.kind, .int .i64 a.lo, .int .i64 a.hi, .int .i64 a.mode, .int .i64 a.ref, .slice A1 a.set.length p1, .slice A2 a.kids.length p2] 27)));have HRf := ħ (hR6.alloc (.cells #[.int .i64 a.kind, .int .i64 a.lo, .int .i64 a.hi, .int .i64 a.mode, .int .i64 a.ref, .slice A1 a.set.length p1, .slice A2 a.kids.length p2] 27));have hFf := ((hF.drewN 1).trans hF6).alloc (.cells #[.int .i64 a.kind, .int .i64 a.lo, .int .i64 a.hi, .int .i64 a.mode, .int .i64 a.ref, .slice A1 a.set.length p1, .slice A2 a.kids.length p2] 27)
        have hsf : w6.heap.size ≠ w.heap.size := by have := HB06.o.lt; omega
        have hsr : w6.heap.size ≠ rb := by have := hR6.blk.lt; omega
        have hs6 : w.heap.size < w6.heap.size := HB06.o.lt;clear hR6 hF6;generalize w6.alloc (.cells #[.int .i64 a.kind, .int .i64 a.lo, .int .i64 a.hi, .int .i64 a.mode, .int .i64 a.ref, .slice A1 a.set.length p1, .slice A2 a.kids.length p2] 27) = W7 at HBf HBg HBs HNf HRf hFf hHeld ⊢
        refine ŧ 6 62 (.agg #[.int .i64 4, .int .i64 lo, .int .i64 hi, .int .i64 (md : Nat), .int .i64 0, .slice none 0 0, .slice (some ⟨w6.heap.size, 0, none⟩) 1 1]) _ rfl rfl hHeld (fun w' hSw => ?_) ?_
        ·go_simp
        simp only [ł, ø, đ];have hz := HBf.o.zero;have hfz := HBf.o.frozen
        refine ŝ 7 (fun K hK => ?_)
        go_simp
        refine hK.o _ _ (HBg.o.st7 h52) (fun hHeld => ?_)
        clear hK K
        refine ŧ 8 3 (.bool true) _ rfl rfl hHeld (fun w' hSw => ?_) ?_
        ·go_simp
        simp only [ł, ø, đ]
        refine wpAnyH_done (by kernel_rfl) ?_ _
        clear hHeld hz hfz;go_wp2
        exact Ç rfl rfl rfl rfl (É HBf.o) (by
         rw [HPC2.o]
         exact ⟨_, _, bv2, rfl, Ê.one (Đ.nil _ _) (by simp) (ŋ _) (KB.new (HBs.o.st7 hsf) hsr (by omega)) ((HNf.o.st7 HBf.o h01).low (by omega)) (Ţ.of_blk (HBs.o.st7 hsf)), HRf.o.st7 HBf.o HR.o.size, hFf.st7 (ŋ _)⟩)
       ·go_simp
        refine hK.o _ _ (show Blk (w5.drew.alloc (.cells #[.int .i64 a.kind, .int .i64 a.lo, .int .i64 a.hi, .int .i64 a.mode, .int .i64 a.ref, .slice A1 a.set.length p1, .slice A2 a.kids.length p2] 27)) w2.heap.size 27 _ from Blk.alloc (w := w5.drew) HB55.o _) (fun hHeld => ?_)
        clear hK K
        refine ŝ 3 (fun K hK => ?_)
        go_simp;have hRa : Rd n₀ rb tb cap s (w5.drew.alloc (.cells #[.int .i64 a.kind, .int .i64 a.lo, .int .i64 a.hi, .int .i64 a.mode, .int .i64 a.ref, .slice A1 a.set.length p1, .slice A2 a.kids.length p2] 27)) σ2 d fc fa bv2 := HR5.o.drew.alloc _;refine (HMd.o _ hRa).mono ?_;rintro e w6 ⟨rfl, hR6, hF6⟩
        have HBf := ħ (hF6.blk hRa (show Blk (w5.drew.alloc (.cells #[.int .i64 a.kind, .int .i64 a.lo, .int .i64 a.hi, .int .i64 a.mode, .int .i64 a.ref, .slice A1 a.set.length p1, .slice A2 a.kids.length p2] 27)) w.heap.size 27 zeros from Blk.alloc (w := w5.drew) HB5.o _) (by decide) (by decide))
        have HBg := ħ (hF6.blk hRa (show Blk (w5.drew.alloc (.cells #[.int .i64 a.kind, .int .i64 a.lo, .int .i64 a.hi, .int .i64 a.mode, .int .i64 a.ref, .slice A1 a.set.length p1, .slice A2 a.kids.length p2] 27)) w2.heap.size 27 _ from Blk.alloc (w := w5.drew) HB55.o _) (by decide) (by decide))
        have HBs := ħ (hF6.blk hRa (Blk.new_at w5.drew w5.heap.size rfl 27 #[.int .i64 a.kind, .int .i64 a.lo, .int .i64 a.hi, .int .i64 a.mode, .int .i64 a.ref, .slice A1 a.set.length p1, .slice A2 a.kids.length p2]) (by decide) (by decide))
        have HNf := ħ ((HN5.o.fr ((Fr.refl w5).drewN 1)).fr (((Fr.refl w5.drew).alloc (.cells #[.int .i64 a.kind, .int .i64 a.lo, .int .i64 a.hi, .int .i64 a.mode, .int .i64 a.ref, .slice A1 a.set.length p1, .slice A2 a.kids.length p2] 27)).trans hF6));have HRf := ħ hR6;have hFf := ((hF.drewN 1).alloc (.cells #[.int .i64 a.kind, .int .i64 a.lo, .int .i64 a.hi, .int .i64 a.mode, .int .i64 a.ref, .slice A1 a.set.length p1, .slice A2 a.kids.length p2] 27)).trans hF6
        have hsf : w5.heap.size ≠ w.heap.size := by have := HB5.o.lt; omega
        have hsr : w5.heap.size ≠ rb := by have := HR5.o.blk.lt; omega
        have hs6 : w.heap.size < w5.heap.size := HB5.o.lt
        refine hK.o _ _ HBg.o (fun hHeld => ?_)
        clear hK K hR6 hF6 hRa
        refine ŧ 6 62 (.agg #[.int .i64 4, .int .i64 lo, .int .i64 hi, .int .i64 (md : Nat), .int .i64 0, .slice none 0 0, .slice (some ⟨w5.heap.size, 0, none⟩) 1 1]) _ rfl rfl hHeld (fun w' hSw => ?_) ?_
        ·go_simp
        simp only [ł, ø, đ];have hz := HBf.o.zero;have hfz := HBf.o.frozen
        refine ŝ 7 (fun K hK => ?_)
        go_simp
        refine hK.o _ _ (HBg.o.st7 h52) (fun hHeld => ?_)
        clear hK K
        refine ŧ 8 3 (.bool true) _ rfl rfl hHeld (fun w' hSw => ?_) ?_
        ·go_simp
        simp only [ł, ø, đ]
        refine wpAnyH_done (by kernel_rfl) ?_ _
        clear hHeld hz hfz;go_wp2
        exact Ç rfl rfl rfl rfl (É HBf.o) (by
         rw [HPC2.o]
         exact ⟨_, _, bv2, rfl, Ê.one (Đ.nil _ _) (by simp) (ŋ _) (KB.new (HBs.o.st7 hsf) hsr (by omega)) ((HNf.o.st7 HBf.o h01).low (by omega)) (Ţ.of_blk (HBs.o.st7 hsf)), HRf.o.st7 HBf.o HR.o.size, hFf.st7 (ŋ _)⟩)
end
section
open Go.RowKit
open Go.Proofs.YtpginkdkblmnbaaGreatDoor.Cl (Á)
variable {n₀ rb tb cap d : Nat} {s : List UInt8} {w w' : World} {σ σ1 : St} {fc fa : Int} {bv v : Value}
theorem ÎC : (Tryz.prog.info? 27).map (fun i => (i.zero, i.size, i.bytes)) = some (some (.agg zeros), 7, 88) := by kernel_rfl
structure ÁX (n₀ rb : Nat) (a w : World) (base : Nat) (v : Value) (L : List (Nd × Value × Value)) : Prop where
 own : w.ownsRow base 27 7 v L.length (ĺ L)
 nodes : ∀ x ∈ L, Ê (fun b => KB n₀ rb a w b ∧ some b ≠ v.ownBlock) w x.1 x.2.1 x.2.2
 low : a.heap.size ≤ base
theorem ÁX.nil (n₀ rb : Nat) (a w : World) (base : Nat) (h : a.heap.size ≤ base) : ÁX n₀ rb a w base (.slice none 0 0) [] := ⟨World.ownsRow_nil _ _ _ _, by simp, h⟩
theorem Äw {base : Nat} {e : TypeId} {size n : Nat} {v : Value} {xs : List Value} (h : w.ownsRow base e size v n xs) {i : Nat} (hi : some i = v.ownBlock) : ∃ cs, w.heap[i]? = some (.cells cs e (0, 0)) := by
 rcases h.2 with ⟨rfl, _⟩ | ⟨g, cap, cur, rfl, _, hh, _⟩
 ·simp [Value.ownBlock] at hi
 ·have : i = g := by simpa [Value.ownBlock] using hi
  subst this;exact ⟨cur, hh⟩
theorem ÐO {base : Nat} {size n : Nat} {v : Value} {xs : List Value} (h : w.ownsRow base 27 size v n xs) (hR : Rd n₀ rb tb cap s w σ d fc fa bv) (hF : Fr n₀ rb w w') : w'.ownsRow base 27 size v n xs :=
 Þ h fun i hi => by
  obtain ⟨cs, hh⟩ := Äw h hi
  exact hF.same (okB.of_type hh (by decide) (Â hh hR.blk (by decide)))
theorem KB.fr {a : World} {b : Nat} (h : KB n₀ rb a w b) (hF : Fr n₀ rb w w') : KB n₀ rb a w' b := ⟨hF.ok h.1, h.2.imp id (fun k => k.keep (hF.same h.1))⟩
theorem ÁX.fr {a : World} {base : Nat} {L : List (Nd × Value × Value)} (h : ÁX n₀ rb a w base v L) (hR : Rd n₀ rb tb cap s w σ d fc fa bv) (hF : Fr n₀ rb w w') : ÁX n₀ rb a w' base v L :=
 ⟨ÐO h.own hR hF, fun x hx => (h.nodes x hx).keep fun _ hb => ⟨⟨hb.1.fr hF, hb.2⟩, hF.same hb.1.1⟩, h.low⟩
theorem ÁX.node {a : World} {base : Nat} {L : List (Nd × Value × Value)} (h : ÁX n₀ rb a w base v L) (hR : Rd n₀ rb tb cap s w σ d fc fa bv) (k : Int) (hne : L ≠ []) (hm : L.length ≤ 1000000) :
 Ê (KB n₀ rb a w) w (.mk k 0 0 0 0 [] (L.map (·.1))) (.slice none 0 0) v :=
 ÍX.node (K := KB n₀ rb a w) ⟨h.own, fun x hx => (h.nodes x hx).keep fun _ hb => ⟨hb.1, rfl⟩⟩ (fun g hg => by
  obtain ⟨cs, hh⟩ := Äw h.own hg.symm
  exact ⟨okB.of_type hh (by decide) (Â hh hR.blk (by decide)), .inl (ē h.low (h.own.lt g hg).1)⟩) k 0 0 0 0 hne hm
theorem ÁX.form {a : World} {base : Nat} {L : List (Nd × Value × Value)} (h : ÁX n₀ rb a w base v L) : ∃ A c, v = .slice A L.length c := by
 rcases h.own.2 with ⟨hv, hn⟩ | ⟨g, c, cur, hv, _⟩
 ·exact ⟨none, 0, by rw [hv, hn]⟩
 ·exact ⟨_, c, hv⟩
theorem ÁX.first {a : World} {base : Nat} {x : Nd × Value × Value} (h : ÁX n₀ rb a w base v [x]) :
 ∃ g c, v = .slice (some ⟨g, 0, none⟩) 1 c ∧ Ê (KB n₀ rb a w) w x.1 x.2.1 x.2.2 ∧ ∀ j u, (Ũ x.1 x.2.1 x.2.2)[j]? = some u → w.cell? ⟨g, j, none⟩ = some u := by
 obtain ⟨g, c, hv⟩ := Çy h.own (by simp)
 refine ⟨g, c, hv, (h.nodes x (by simp)).keep fun _ hb => ⟨hb.1, rfl⟩, fun j u hu => ?_⟩
 have hv' := hv;subst hv
 have hc := h.own.cells (g := g) rfl j u (by
  have := Âf [x] 0 j x u rfl hu
  simpa using this)
 rw [← hc];unfold Addr.add
 split <;> simp_all
theorem ÁX.push {a a' : World} {base : Nat} {L : List (Nd × Value × Value)} {nd : Nd} {sv kv v' : Value} (h : ÁX n₀ rb a w base v L) (hN : Ê (KB n₀ rb a' w) w nd sv kv) (ha : a.heap.size ≤ a'.heap.size) (hv : ∀ g, v.ownBlock = some g → g < a'.heap.size)
 (hO : w'.ownsRow base 27 7 v' (L.length + 1) (ĺ L ++ Ũ nd sv kv)) (hg : w.grownBy w' v.ownBlock) (hb : v'.ownBlock = v.ownBlock ∨ v'.ownBlock = some w.heap.size) :
 ÁX n₀ rb a w' base v' (L ++ [(nd, sv, kv)]) := by
 have hF : ∀ b, KB n₀ rb a w b ∧ some b ≠ v.ownBlock → (KB n₀ rb a w' b ∧ some b ≠ v'.ownBlock) ∧ w'.heap[b]? = w.heap[b]? := by
  rintro b ⟨⟨⟨h1, h2⟩, h3⟩, h4⟩;have hs := hg.block b h1 h4
  refine ⟨⟨⟨⟨Ć h1 hg.size, h2.imp id fun ⟨k1, k2⟩ => ⟨k1, fun ⟨cs, z, hh⟩ => k2 ⟨cs, z, by rw [← hs]; exact hh⟩⟩⟩, h3.imp id fun k => k.keep hs⟩, ?_⟩, hs⟩
  rcases hb with e | e
  ·rw [e]; exact h4
  ·rw [e]
   intro e';have := Option.some.inj e';omega
 refine ⟨?_, fun x hx => ?_, h.low⟩
 ·rw [ă, Åg, Èb]
  exact hO
 ·rcases List.mem_append.1 hx with hx | hx
  ·exact (h.nodes x hx).keep hF
  ·obtain rfl := List.mem_singleton.1 hx
   exact (hN.keep (K' := fun b => KB n₀ rb a w b ∧ some b ≠ v.ownBlock) fun b hb' => ⟨⟨⟨hb'.1, hb'.2.imp (fun k => ē ha k) id⟩, fun e => by
    rcases hb'.2 with k | ⟨_, _, k⟩
    ·have := hv b e.symm
     omega
    ·obtain ⟨cs, hh⟩ := Äw h.own e
     exact Â k hh (by decide) rfl⟩, rfl⟩).keep hF
theorem ÐP {nd : Nd} {A B : Option Addr} {n c m e : Nat} : ∀ u ∈ Ũ nd (.slice A n c) (.slice B m e), u.oneCell' = true := by
 intro u hu;simp [Ũ] at hu
 rcases hu with rfl | rfl | rfl | rfl | rfl | rfl | rfl <;> rfl
theorem Áq {ops : Array Oper} {rest : List Oper} {o : Oper} {a : Act} {Q : Exit → Act → World → Prop} (w : World) (hgd : o.guard = none) (x y : Operand)
 (ho : o.op = .call { callee := .builtin .append, args := #[x, y], argTypes := #[25, 25] }) (base : Nat) (i : TypeInfo) (hi : Tryz.prog.info? 27 = some i) (hz : i.zero = some (.agg zeros)) (hsize : i.size = 7) (hby : i.bytes = 88)
 (v : Value) (L : List (Nd × Value × Value)) (hs : a.eval x = v) (hown : w.ownsRow base 27 7 v L.length (ĺ L)) (b : Nat) (nd : Nd) (A B : Option Addr) (n c m e : Nat) (hy : a.eval y = .slice (some ⟨b, 0, none⟩) 1 1)
 (hb : Blk w b 27 #[.int .i64 nd.kind, .int .i64 nd.lo, .int .i64 nd.hi, .int .i64 nd.mode, .int .i64 nd.ref, .slice A n c, .slice B m e]) (hL : L.length ≤ 1000) (hbase : base ≤ w.heap.size)
 (h : ∀ v' w', w'.ownsRow base 27 7 v' (L.length + 1) (ĺ L ++ Ũ nd (.slice A n c) (.slice B m e)) → w.grownBy w' v.ownBlock → (v'.ownBlock = v.ownBlock ∨ v'.ownBlock = some w.heap.size) → wpList Tryz.prog ops Q rest (a.put o.dst v') w') : wpList Tryz.prog ops Q (o :: rest) a w := by
 refine wpList_plain hgd fun K hK => ?_
 obtain ⟨v', w', hrun, h2, h3, _, h5⟩ := run_append_own_at (P := Tryz.prog) w base 25 o.type 27 i (.agg zeros) 7 88 Tryz.underlying25 hi hz hsize hby rfl (by decide) v L.length (ĺ L) hown ⟨b, 0, none⟩ 1 1 (Ũ nd (.slice A n c) (.slice B m e)) rfl
  (fun j u hu => by
    have := Ţ.of_blk hb j u hu;rw [← this];unfold Addr.add
    split <;> simp_all) ÐP (by unfold maxLen; omega) (by omega) hbase
 unfold Oper.wp execOp;simp only [ho, resolve, invoke, builtin, Sem.run_bind, Sem.run_pure, Result.andThen_ok, List.map_toArray, List.map_cons, List.map_nil, hs, hy, hrun];exact hK _ _ (h v' w' h2 h3 h5)
end
end Go.Proofs.YtpginkdkblmnbaaGreatDoor
