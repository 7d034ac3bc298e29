/- An atom: a step of the reader. -/
import Derived.Test.YthipgidddgdojaaDoorPL
namespace Go.Proofs.YthipgidddgdojaaDoor
open Go.RowKit
variable {n₀ rb tb cap d : Nat} {s : List UInt8} {w w' : World} {σ σ1 : St} {fc fa : Int} {bv v : Value}

/-- What an atom is. -/
def atomR (N d : Nat) (σ : St) : R := if at_ σ.t 0 = 40 then run N 3 d [] σ else atomP σ
theorem run_q (n d : Nat) (acc : List Nd) (σ : St) : run (n + 1) 2 d acc σ = match atomR n d σ with
    | .error e => .error e
    | .ok (a, σ1) => quantRest (pre [40, 63, 58] σ.t) a σ1 := rfl

set_option maxRecDepth 100000 in
set_option maxHeartbeats 16000000 in
theorem atom_any (N : Nat) (hP : ParC n₀ rb tb cap s fc fa N) (hn : σ.t ≠ []) (hN : 4 * σ.t.length ≤ N + 1) (hR : Rd n₀ rb tb cap s w σ d fc fa bv) :
    Calls Tryd.prog 29 #[.pointer (some ⟨rb, 0, none⟩)] w (NPost n₀ rb tb cap s d fc fa w (atomR N d σ)) := by
  have hrl := hR.blk.lt
  have hpos := hR.pos
  have ht := hR.tl
  have hl := hR.len
  have hlen := len_ne hn
  have HB0 := Lib.hid (Blk.new w 27 zeros)
  have HR0 := Lib.hid (hR.alloc (.cells zeros 27))
  have HF0 : Hid (Fr n₀ rb w (w.alloc (.cells zeros 27))) := Lib.hid ((Fr.refl w).alloc _)
  have HR := Lib.hid hR
  have c0 := HR0.out.c0
  have c1 := HR0.out.c1
  have ct : (w.alloc (.cells zeros 27)).cell? ⟨tb, σ.pos, none⟩ = some (.int .u8 ((at_ σ.t 0 : Nat) : Int)) := by
    have := HR0.out.at_ (j := 0) hlen
    rwa [Nat.zero_add, Nat.add_zero] at this
  unfold zeros at c0 c1 ct
  have hi0 : (0 : Int) ≤ (σ.pos : Int) := by omega
  have hi1 : (σ.pos : Int) < (s.length : Int) := by omega
  have hx := at_lt σ.t 0
  by_cases h40 : at_ σ.t 0 = 40
  · have ha : atomR N d σ = run N 3 d [] σ := by unfold atomR; exact if_pos h40
    rw [ha]
    have HC := Lib.hid (fun W (hW : Rd n₀ rb tb cap s W σ d fc fa bv) => hP d σ W bv h40 hN hW)
    obtain ⟨rr, hrr⟩ : ∃ rr, rr = run N 3 d [] σ := ⟨_, rfl⟩
    rw [← hrr] at HC ⊢
    rw [h40] at ct
    have HP' := Lib.hid hP
    clear hP ha hrr hn hR hN hx h40
    go_enter Tryd.func29, Tryd.ntmps29
    go_wp2
    go_quiet (fail)
    have HRq := Lib.hid (HR0.out.drewN nq)
    have HBq : Hid (Blk ((w.alloc (.cells zeros 27)).drewN nq) w.heap.size 27 zeros) := Lib.hid HB0.out
    have hF := HF0.out.drewN nq
    unfold zeros at HRq HBq hF
    go_wp2_with fail
    refine (HC.out _ HRq.out).mono ?_
    rintro e w1 hP1
    cases rr with
    | error f =>
      obtain ⟨rfl, hB, hF1⟩ := hP1
      unfold zeros
      have hB1 := hF1.blk HRq.out HBq.out (by decide) (by decide)
      have hz := hB1.zero
      have hfz := hB1.frozen
      go_wp2
      exact ret_node rfl rfl rfl rfl (st7_blk hB1) ⟨rfl, hB.st7 (by omega), (hF.trans hF1).st7 (Nat.le_refl _)⟩
    | ok y =>
      obtain ⟨nd, σ1⟩ := y
      obtain ⟨sv, kv, bv1, rfl, hNd, hR1, hF1⟩ := hP1
      obtain ⟨A1, A2, p1, p2, rfl, rfl⟩ := hNd.lens
      have hB1 := hF1.blk HRq.out HBq.out (by decide) (by decide)
      have hz := hB1.zero
      have hfz := hB1.frozen
      have HP1 := Lib.hid (And.intro hNd (And.intro hR1 (hF.trans hF1)))
      clear hNd hR1 hF1 hF
      simp only [ndVal]
      go_wp2
      exact ret_node rfl rfl rfl rfl (st7_blk hB1) ⟨_, _, bv1, rfl, (HP1.out.1.st7 hB1 (by simp)).low (by simp), HP1.out.2.1.st7 hB1 HR.out.size, HP1.out.2.2.st7 (Nat.le_refl _)⟩
  · by_cases h91 : at_ σ.t 0 = 91
    · have ha : atomR N d σ = brackets σ := by unfold atomR atomP; rw [if_neg h40, if_pos h91]
      rw [ha]
      have HC := Lib.hid (fun W (hW : Rd n₀ rb tb cap s W σ d fc fa bv) => brackets_any h91 hW)
      obtain ⟨rr, hrr⟩ : ∃ rr, rr = brackets σ := ⟨_, rfl⟩
      rw [← hrr] at HC ⊢
      rw [h91] at ct
      have HP' := Lib.hid hP
      clear hP ha hrr hn hR hN hx h91
      go_enter Tryd.func29, Tryd.ntmps29
      go_wp2
      go_quiet (fail)
      have HRq := Lib.hid (HR0.out.drewN nq)
      have HBq : Hid (Blk ((w.alloc (.cells zeros 27)).drewN nq) w.heap.size 27 zeros) := Lib.hid HB0.out
      have hF := HF0.out.drewN nq
      unfold zeros at HRq HBq hF
      go_wp2_with fail
      refine (HC.out _ HRq.out).mono ?_
      rintro e w1 hP1
      cases rr with
      | error f =>
        obtain ⟨rfl, hB, hF1⟩ := hP1
        unfold zeros
        have hB1 := hF1.blk HRq.out HBq.out (by decide) (by decide)
        have hz := hB1.zero
        have hfz := hB1.frozen
        go_wp2
        exact ret_node rfl rfl rfl rfl (st7_blk hB1) ⟨rfl, hB.st7 (by omega), (hF.trans hF1).st7 (Nat.le_refl _)⟩
      | ok y =>
        obtain ⟨nd, σ1⟩ := y
        obtain ⟨sv, kv, bv1, rfl, hNd, hR1, hF1⟩ := hP1
        obtain ⟨A1, A2, p1, p2, rfl, rfl⟩ := hNd.lens
        have hB1 := hF1.blk HRq.out HBq.out (by decide) (by decide)
        have hz := hB1.zero
        have hfz := hB1.frozen
        have HP1 := Lib.hid (And.intro hNd (And.intro hR1 (hF.trans hF1)))
        clear hNd hR1 hF1 hF
        simp only [ndVal]
        go_wp2
        exact ret_node rfl rfl rfl rfl (st7_blk hB1) ⟨_, _, bv1, rfl, (HP1.out.1.st7 hB1 (by simp)).low (by simp), HP1.out.2.1.st7 hB1 HR.out.size, HP1.out.2.2.st7 (Nat.le_refl _)⟩
    · by_cases h92 : at_ σ.t 0 = 92
      · have ha : atomR N d σ = escape σ := by unfold atomR atomP; rw [if_neg h40, if_neg h91, if_pos h92]
        rw [ha]
        have HC := Lib.hid (fun W (hW : Rd n₀ rb tb cap s W σ d fc fa bv) => escape_any hW)
        obtain ⟨rr, hrr⟩ : ∃ rr, rr = escape σ := ⟨_, rfl⟩
        rw [← hrr] at HC ⊢
        rw [h92] at ct
        have HP' := Lib.hid hP
        clear hP ha hrr hn hR hN hx h92
        go_enter Tryd.func29, Tryd.ntmps29
        go_wp2
        go_quiet (fail)
        have HRq := Lib.hid (HR0.out.drewN nq)
        have HBq : Hid (Blk ((w.alloc (.cells zeros 27)).drewN nq) w.heap.size 27 zeros) := Lib.hid HB0.out
        have hF := HF0.out.drewN nq
        unfold zeros at HRq HBq hF
        go_wp2_with fail
        refine (HC.out _ HRq.out).mono ?_
        rintro e w1 hP1
        cases rr with
        | error f =>
          obtain ⟨rfl, hB, hF1⟩ := hP1
          unfold zeros
          have hB1 := hF1.blk HRq.out HBq.out (by decide) (by decide)
          have hz := hB1.zero
          have hfz := hB1.frozen
          go_wp2
          exact ret_node rfl rfl rfl rfl (st7_blk hB1) ⟨rfl, hB.st7 (by omega), (hF.trans hF1).st7 (Nat.le_refl _)⟩
        | ok y =>
          obtain ⟨nd, σ1⟩ := y
          obtain ⟨sv, kv, bv1, rfl, hNd, hR1, hF1⟩ := hP1
          obtain ⟨A1, A2, p1, p2, rfl, rfl⟩ := hNd.lens
          have hB1 := hF1.blk HRq.out HBq.out (by decide) (by decide)
          have hz := hB1.zero
          have hfz := hB1.frozen
          have HP1 := Lib.hid (And.intro hNd (And.intro hR1 (hF.trans hF1)))
          clear hNd hR1 hF1 hF
          simp only [ndVal]
          go_wp2
          exact ret_node rfl rfl rfl rfl (st7_blk hB1) ⟨_, _, bv1, rfl, (HP1.out.1.st7 hB1 (by simp)).low (by simp), HP1.out.2.1.st7 hB1 HR.out.size, HP1.out.2.2.st7 (Nat.le_refl _)⟩
      · by_cases h42 : at_ σ.t 0 = 42
        · have ha : atomR N d σ = .error (23, σ.pos) := by unfold atomR atomP; rw [if_neg h40, if_neg h91, if_neg h92, if_pos (by rw [h42]; decide)]
          rw [ha]
          rw [h42] at ct
          clear hP ha hn hR hN hx h42
          go_enter Tryd.func29, Tryd.ntmps29
          go_wp2
          go_quiet (fail)
          have HRq := Lib.hid (HR0.out.drewN nq)
          have HBq : Hid (Blk ((w.alloc (.cells zeros 27)).drewN nq) w.heap.size 27 zeros) := Lib.hid HB0.out
          have hF := HF0.out.drewN nq
          unfold zeros at HRq HBq hF
          have c1q := HRq.out.c1
          go_wp2_with fail
          refine (refuse_bad 23 σ.pos HRq.out).mono ?_
          rintro e w1 ⟨rfl, hB, hF1⟩
          have hB1 := hF1.blk HRq.out HBq.out (by decide) (by decide)
          have hz := hB1.zero
          have hfz := hB1.frozen
          go_wp2
          exact ret_node rfl rfl rfl rfl (st7_blk hB1) ⟨rfl, hB.st7 (by omega), (hF.trans hF1).st7 (Nat.le_refl _)⟩
        · by_cases h43 : at_ σ.t 0 = 43
          · have ha : atomR N d σ = .error (23, σ.pos) := by unfold atomR atomP; rw [if_neg h40, if_neg h91, if_neg h92, if_pos (by rw [h43]; decide)]
            rw [ha]
            rw [h43] at ct
            clear hP ha hn hR hN hx h43
            go_enter Tryd.func29, Tryd.ntmps29
            go_wp2
            go_quiet (fail)
            have HRq := Lib.hid (HR0.out.drewN nq)
            have HBq : Hid (Blk ((w.alloc (.cells zeros 27)).drewN nq) w.heap.size 27 zeros) := Lib.hid HB0.out
            have hF := HF0.out.drewN nq
            unfold zeros at HRq HBq hF
            have c1q := HRq.out.c1
            go_wp2_with fail
            refine (refuse_bad 23 σ.pos HRq.out).mono ?_
            rintro e w1 ⟨rfl, hB, hF1⟩
            have hB1 := hF1.blk HRq.out HBq.out (by decide) (by decide)
            have hz := hB1.zero
            have hfz := hB1.frozen
            go_wp2
            exact ret_node rfl rfl rfl rfl (st7_blk hB1) ⟨rfl, hB.st7 (by omega), (hF.trans hF1).st7 (Nat.le_refl _)⟩
          · by_cases h63 : at_ σ.t 0 = 63
            · have ha : atomR N d σ = .error (23, σ.pos) := by unfold atomR atomP; rw [if_neg h40, if_neg h91, if_neg h92, if_pos (by rw [h63]; decide)]
              rw [ha]
              rw [h63] at ct
              clear hP ha hn hR hN hx h63
              go_enter Tryd.func29, Tryd.ntmps29
              go_wp2
              go_quiet (fail)
              have HRq := Lib.hid (HR0.out.drewN nq)
              have HBq : Hid (Blk ((w.alloc (.cells zeros 27)).drewN nq) w.heap.size 27 zeros) := Lib.hid HB0.out
              have hF := HF0.out.drewN nq
              unfold zeros at HRq HBq hF
              have c1q := HRq.out.c1
              go_wp2_with fail
              refine (refuse_bad 23 σ.pos HRq.out).mono ?_
              rintro e w1 ⟨rfl, hB, hF1⟩
              have hB1 := hF1.blk HRq.out HBq.out (by decide) (by decide)
              have hz := hB1.zero
              have hfz := hB1.frozen
              go_wp2
              exact ret_node rfl rfl rfl rfl (st7_blk hB1) ⟨rfl, hB.st7 (by omega), (hF.trans hF1).st7 (Nat.le_refl _)⟩
            · by_cases h123 : at_ σ.t 0 = 123
              · have ha : atomR N d σ = .error (23, σ.pos) := by unfold atomR atomP; rw [if_neg h40, if_neg h91, if_neg h92, if_pos (by rw [h123]; decide)]
                rw [ha]
                rw [h123] at ct
                clear hP ha hn hR hN hx h123
                go_enter Tryd.func29, Tryd.ntmps29
                go_wp2
                go_quiet (fail)
                have HRq := Lib.hid (HR0.out.drewN nq)
                have HBq : Hid (Blk ((w.alloc (.cells zeros 27)).drewN nq) w.heap.size 27 zeros) := Lib.hid HB0.out
                have hF := HF0.out.drewN nq
                unfold zeros at HRq HBq hF
                have c1q := HRq.out.c1
                go_wp2_with fail
                refine (refuse_bad 23 σ.pos HRq.out).mono ?_
                rintro e w1 ⟨rfl, hB, hF1⟩
                have hB1 := hF1.blk HRq.out HBq.out (by decide) (by decide)
                have hz := hB1.zero
                have hfz := hB1.frozen
                go_wp2
                exact ret_node rfl rfl rfl rfl (st7_blk hB1) ⟨rfl, hB.st7 (by omega), (hF.trans hF1).st7 (Nat.le_refl _)⟩
              · by_cases h93 : at_ σ.t 0 = 93
                · have ha : atomR N d σ = .error (20, σ.pos) := by unfold atomR atomP; rw [if_neg h40, if_neg h91, if_neg h92, if_neg (by simp [isQ, h42, h43, h63, h123]), if_pos (by omega)]
                  rw [ha]
                  rw [h93] at ct
                  clear hP ha hn hR hN hx h93
                  go_enter Tryd.func29, Tryd.ntmps29
                  go_wp2
                  go_quiet (fail)
                  have HRq := Lib.hid (HR0.out.drewN nq)
                  have HBq : Hid (Blk ((w.alloc (.cells zeros 27)).drewN nq) w.heap.size 27 zeros) := Lib.hid HB0.out
                  have hF := HF0.out.drewN nq
                  unfold zeros at HRq HBq hF
                  have c1q := HRq.out.c1
                  go_wp2_with fail
                  refine (refuse_bad 20 σ.pos HRq.out).mono ?_
                  rintro e w1 ⟨rfl, hB, hF1⟩
                  have hB1 := hF1.blk HRq.out HBq.out (by decide) (by decide)
                  have hz := hB1.zero
                  have hfz := hB1.frozen
                  go_wp2
                  exact ret_node rfl rfl rfl rfl (st7_blk hB1) ⟨rfl, hB.st7 (by omega), (hF.trans hF1).st7 (Nat.le_refl _)⟩
                · by_cases h125 : at_ σ.t 0 = 125
                  · have ha : atomR N d σ = .error (20, σ.pos) := by unfold atomR atomP; rw [if_neg h40, if_neg h91, if_neg h92, if_neg (by simp [isQ, h42, h43, h63, h123]), if_pos (by omega)]
                    rw [ha]
                    rw [h125] at ct
                    clear hP ha hn hR hN hx h125
                    go_enter Tryd.func29, Tryd.ntmps29
                    go_wp2
                    go_quiet (fail)
                    have HRq := Lib.hid (HR0.out.drewN nq)
                    have HBq : Hid (Blk ((w.alloc (.cells zeros 27)).drewN nq) w.heap.size 27 zeros) := Lib.hid HB0.out
                    have hF := HF0.out.drewN nq
                    unfold zeros at HRq HBq hF
                    have c1q := HRq.out.c1
                    go_wp2_with fail
                    refine (refuse_bad 20 σ.pos HRq.out).mono ?_
                    rintro e w1 ⟨rfl, hB, hF1⟩
                    have hB1 := hF1.blk HRq.out HBq.out (by decide) (by decide)
                    have hz := hB1.zero
                    have hfz := hB1.frozen
                    go_wp2
                    exact ret_node rfl rfl rfl rfl (st7_blk hB1) ⟨rfl, hB.st7 (by omega), (hF.trans hF1).st7 (Nat.le_refl _)⟩
                  · by_cases h46 : at_ σ.t 0 = 46
                    · have ha : atomR N d σ = .ok (setN [(0, 9), (11, 1114367)], σ.adv 1) := by unfold atomR atomP; rw [if_neg h40, if_neg h91, if_neg h92, if_neg (by simp [isQ, h42, h43, h63, h123]), if_neg (by omega), if_pos h46]
                      rw [ha]
                      have HT := Lib.hid (fun W (hW : Rd n₀ rb tb cap s W σ d fc fa bv) => take1_yes 46 (by decide) (by simpa using h46) hW)
                      have e0 : ((at_ σ.t 0 : Int) == 40) = false := by simp; omega
                      have e1 : ((at_ σ.t 0 : Int) == 91) = false := by simp; omega
                      have e2 : ((at_ σ.t 0 : Int) == 92) = false := by simp; omega
                      have e3 : ((at_ σ.t 0 : Int) == 42) = false := by simp; omega
                      have e4 : ((at_ σ.t 0 : Int) == 43) = false := by simp; omega
                      have e5 : ((at_ σ.t 0 : Int) == 63) = false := by simp; omega
                      have e6 : ((at_ σ.t 0 : Int) == 123) = false := by simp; omega
                      have e7 : ((at_ σ.t 0 : Int) == 93) = false := by simp; omega
                      have e8 : ((at_ σ.t 0 : Int) == 125) = false := by simp; omega
                      rw [h46] at ct
                      clear e0 e1 e2 e3 e4 e5 e6 e7 e8 hP ha hn hR hN hx h46
                      go_enter Tryd.func29, Tryd.ntmps29
                      go_wp2
                      go_quiet (fail)
                      have HRq := Lib.hid (HR0.out.drewN nq)
                      have HBq : Hid (Blk ((w.alloc (.cells zeros 27)).drewN nq) w.heap.size 27 zeros) := Lib.hid HB0.out
                      have hF := HF0.out.drewN nq
                      unfold zeros at HRq HBq hF
                      go_wp2_with fail
                      refine (HT.out _ HRq.out).mono ?_
                      rintro e wz ⟨rfl, hRz, hFz⟩
                      have hBz := Lib.hid (hFz.blk HRq.out HBq.out (by decide) (by decide))
                      have HRz := Lib.hid hRz
                      replace hF := hF.trans hFz
                      clear hRz hFz
                      go_wp2_with fail
                      refine (dot_any _).mono ?_
                      rintro e w9 ⟨sv, rfl, hS, hb9⟩
                      obtain ⟨A4, p4, rfl, hp4, hx4⟩ := id hS
                      clear hp4 hx4
                      have hB9 := hBz.out.on hb9
                      have hz := hB9.zero
                      have hfz := hB9.frozen
                      have hR9 : Hid (Rd n₀ rb tb cap s w9 (σ.adv 1) d fc fa bv) := Lib.hid (HRz.out.on hb9)
                      have HS := Lib.hid hS
                      clear hS
                      go_wp2
                      exact ret_node rfl rfl rfl rfl (st7_blk hB9) ⟨_, _, bv, rfl, NodeV.leaf ((HS.out.st7 hB9).ok (hR9.out.st7 hB9 HR.out.size)) (by simp), hR9.out.st7 hB9 HR.out.size, (hF.trans (Fr.of_below hb9)).st7 (Nat.le_refl _)⟩
                    · have HT0 := Lib.hid (fun W (hW : Rd n₀ rb tb cap s W σ d fc fa bv) => take1_no 46 (by decide) (by simpa using h46) hW)
                      by_cases h94 : at_ σ.t 0 = 94
                      · have ha : atomR N d σ = .ok (edgeN 0, σ.adv 1) := by unfold atomR atomP; rw [if_neg h40, if_neg h91, if_neg h92, if_neg (by simp [isQ, h42, h43, h63, h123]), if_neg (by omega), if_neg h46, if_pos h94]
                        rw [ha]
                        have HT := Lib.hid (fun W (hW : Rd n₀ rb tb cap s W σ d fc fa bv) => take1_yes 94 (by decide) (by simpa using h94) hW)
                        have e0 : ((at_ σ.t 0 : Int) == 40) = false := by simp; omega
                        have e1 : ((at_ σ.t 0 : Int) == 91) = false := by simp; omega
                        have e2 : ((at_ σ.t 0 : Int) == 92) = false := by simp; omega
                        have e3 : ((at_ σ.t 0 : Int) == 42) = false := by simp; omega
                        have e4 : ((at_ σ.t 0 : Int) == 43) = false := by simp; omega
                        have e5 : ((at_ σ.t 0 : Int) == 63) = false := by simp; omega
                        have e6 : ((at_ σ.t 0 : Int) == 123) = false := by simp; omega
                        have e7 : ((at_ σ.t 0 : Int) == 93) = false := by simp; omega
                        have e8 : ((at_ σ.t 0 : Int) == 125) = false := by simp; omega
                        rw [h94] at ct
                        clear e0 e1 e2 e3 e4 e5 e6 e7 e8 hP ha hn hR hN hx h94
                        go_enter Tryd.func29, Tryd.ntmps29
                        go_wp2
                        go_quiet (fail)
                        have HRq := Lib.hid (HR0.out.drewN nq)
                        have HBq : Hid (Blk ((w.alloc (.cells zeros 27)).drewN nq) w.heap.size 27 zeros) := Lib.hid HB0.out
                        have hF := HF0.out.drewN nq
                        unfold zeros at HRq HBq hF
                        go_wp2_with fail
                        refine (HT0.out _ HRq.out).mono ?_
                        rintro e w1 ⟨rfl, hb1⟩
                        have hR1 := Lib.hid (HRq.out.on hb1)
                        have hB1 := Lib.hid (HBq.out.on hb1)
                        replace hF := hF.trans (Fr.of_below hb1)
                        go_wp2_with fail
                        refine (HT.out _ hR1.out).mono ?_
                        rintro e wz ⟨rfl, hRz, hFz⟩
                        have hBz := Lib.hid (hFz.blk hR1.out hB1.out (by decide) (by decide))
                        have HRz := Lib.hid hRz
                        replace hF := hF.trans hFz
                        clear hRz hFz
                        have hB9 := hBz.out
                        have hz := hB9.zero
                        have hfz := hB9.frozen
                        go_wp2
                        exact ret_node rfl rfl rfl rfl (st7_blk hB9) ⟨_, _, bv, rfl, NodeV.leaf (SetK.nil _ _) (by simp), HRz.out.st7 hB9 HR.out.size, hF.st7 (Nat.le_refl _)⟩
                      · have HT1 := Lib.hid (fun W (hW : Rd n₀ rb tb cap s W σ d fc fa bv) => take1_no 94 (by decide) (by simpa using h94) hW)
                        by_cases h36 : at_ σ.t 0 = 36
                        · have ha : atomR N d σ = .ok (edgeN 1, σ.adv 1) := by unfold atomR atomP; rw [if_neg h40, if_neg h91, if_neg h92, if_neg (by simp [isQ, h42, h43, h63, h123]), if_neg (by omega), if_neg h46, if_neg h94, if_pos h36]
                          rw [ha]
                          have HT := Lib.hid (fun W (hW : Rd n₀ rb tb cap s W σ d fc fa bv) => take1_yes 36 (by decide) (by simpa using h36) hW)
                          have e0 : ((at_ σ.t 0 : Int) == 40) = false := by simp; omega
                          have e1 : ((at_ σ.t 0 : Int) == 91) = false := by simp; omega
                          have e2 : ((at_ σ.t 0 : Int) == 92) = false := by simp; omega
                          have e3 : ((at_ σ.t 0 : Int) == 42) = false := by simp; omega
                          have e4 : ((at_ σ.t 0 : Int) == 43) = false := by simp; omega
                          have e5 : ((at_ σ.t 0 : Int) == 63) = false := by simp; omega
                          have e6 : ((at_ σ.t 0 : Int) == 123) = false := by simp; omega
                          have e7 : ((at_ σ.t 0 : Int) == 93) = false := by simp; omega
                          have e8 : ((at_ σ.t 0 : Int) == 125) = false := by simp; omega
                          rw [h36] at ct
                          clear e0 e1 e2 e3 e4 e5 e6 e7 e8 hP ha hn hR hN hx h36
                          go_enter Tryd.func29, Tryd.ntmps29
                          go_wp2
                          go_quiet (fail)
                          have HRq := Lib.hid (HR0.out.drewN nq)
                          have HBq : Hid (Blk ((w.alloc (.cells zeros 27)).drewN nq) w.heap.size 27 zeros) := Lib.hid HB0.out
                          have hF := HF0.out.drewN nq
                          unfold zeros at HRq HBq hF
                          go_wp2_with fail
                          refine (HT0.out _ HRq.out).mono ?_
                          rintro e w1 ⟨rfl, hb1⟩
                          have hR1 := Lib.hid (HRq.out.on hb1)
                          have hB1 := Lib.hid (HBq.out.on hb1)
                          replace hF := hF.trans (Fr.of_below hb1)
                          go_wp2_with fail
                          refine (HT1.out _ hR1.out).mono ?_
                          rintro e w2 ⟨rfl, hb2⟩
                          have hR2 := Lib.hid (hR1.out.on hb2)
                          have hB2 := Lib.hid (hB1.out.on hb2)
                          replace hF := hF.trans (Fr.of_below hb2)
                          go_wp2_with fail
                          refine (HT.out _ hR2.out).mono ?_
                          rintro e wz ⟨rfl, hRz, hFz⟩
                          have hBz := Lib.hid (hFz.blk hR2.out hB2.out (by decide) (by decide))
                          have HRz := Lib.hid hRz
                          replace hF := hF.trans hFz
                          clear hRz hFz
                          have hB9 := hBz.out
                          have hz := hB9.zero
                          have hfz := hB9.frozen
                          go_wp2
                          exact ret_node rfl rfl rfl rfl (st7_blk hB9) ⟨_, _, bv, rfl, NodeV.leaf (SetK.nil _ _) (by simp), HRz.out.st7 hB9 HR.out.size, hF.st7 (Nat.le_refl _)⟩
                        · have HT2 := Lib.hid (fun W (hW : Rd n₀ rb tb cap s W σ d fc fa bv) => take1_no 36 (by decide) (by simpa using h36) hW)
                          have ha : atomR N d σ = .ok (setN [(((nx σ.t).1 : Int), ((nx σ.t).1 : Int))], σ.adv (nx σ.t).2) := by unfold atomR atomP; rw [if_neg h40, if_neg h91, if_neg h92, if_neg (by simp [isQ, h42, h43, h63, h123]), if_neg (by omega), if_neg h46, if_neg h94, if_neg h36]
                          rw [ha]
                          have e0 : ((at_ σ.t 0 : Int) == 40) = false := by simp; omega
                          have e1 : ((at_ σ.t 0 : Int) == 91) = false := by simp; omega
                          have e2 : ((at_ σ.t 0 : Int) == 92) = false := by simp; omega
                          have e3 : ((at_ σ.t 0 : Int) == 42) = false := by simp; omega
                          have e4 : ((at_ σ.t 0 : Int) == 43) = false := by simp; omega
                          have e5 : ((at_ σ.t 0 : Int) == 63) = false := by simp; omega
                          have e6 : ((at_ σ.t 0 : Int) == 123) = false := by simp; omega
                          have e7 : ((at_ σ.t 0 : Int) == 93) = false := by simp; omega
                          have e8 : ((at_ σ.t 0 : Int) == 125) = false := by simp; omega
                          have HPl := Lib.hid (fun W (hW : Rd n₀ rb tb cap s W σ d fc fa bv) => plain_any hn hW)
                          obtain ⟨u, hu⟩ : ∃ u, u = (nx σ.t).1 := ⟨_, rfl⟩
                          obtain ⟨z, hz⟩ : ∃ z, z = (nx σ.t).2 := ⟨_, rfl⟩
                          rw [← hu, ← hz] at HPl ⊢
                          obtain ⟨c, hc⟩ : ∃ c, c = at_ σ.t 0 := ⟨_, rfl⟩
                          rw [← hc] at ct hx e0 e1 e2 e3 e4 e5 e6 e7 e8
                          clear hP ha hn hR hN hu hz hc h40 h91 h92 h42 h43 h63 h123 h93 h125 h46 h94 h36
                          go_enter Tryd.func29, Tryd.ntmps29
                          go_wp2
                          go_quiet (fail)
                          have HRq := Lib.hid (HR0.out.drewN nq)
                          have HBq : Hid (Blk ((w.alloc (.cells zeros 27)).drewN nq) w.heap.size 27 zeros) := Lib.hid HB0.out
                          have hF := HF0.out.drewN nq
                          unfold zeros at HRq HBq hF
                          go_wp2_with fail
                          refine (HT0.out _ HRq.out).mono ?_
                          rintro e w1 ⟨rfl, hb1⟩
                          have hR1 := Lib.hid (HRq.out.on hb1)
                          have hB1 := Lib.hid (HBq.out.on hb1)
                          replace hF := hF.trans (Fr.of_below hb1)
                          go_wp2_with fail
                          refine (HT1.out _ hR1.out).mono ?_
                          rintro e w2 ⟨rfl, hb2⟩
                          have hR2 := Lib.hid (hR1.out.on hb2)
                          have hB2 := Lib.hid (hB1.out.on hb2)
                          replace hF := hF.trans (Fr.of_below hb2)
                          go_wp2_with fail
                          refine (HT2.out _ hR2.out).mono ?_
                          rintro e w3 ⟨rfl, hb3⟩
                          have hR3 := Lib.hid (hR2.out.on hb3)
                          have hB3 := Lib.hid (hB2.out.on hb3)
                          replace hF := hF.trans (Fr.of_below hb3)
                          go_wp2_with fail
                          refine (HPl.out _ hR3.out).mono ?_
                          rintro e w4 ⟨rfl, hR4, hF4⟩
                          have hB4 := Lib.hid (hF4.blk hR3.out hB3.out (by decide) (by decide))
                          have HR4 := Lib.hid hR4
                          replace hF := hF.trans hF4
                          clear hR4 hF4
                          go_wp2_with fail
                          refine (one_any u _).mono ?_
                          rintro e w9 ⟨sv, rfl, hS, hb9⟩
                          obtain ⟨A4, p4, rfl, hp4, hx4⟩ := id hS
                          clear hp4 hx4
                          have hB9 := hB4.out.on hb9
                          have hz := hB9.zero
                          have hfz := hB9.frozen
                          have hR9 := Lib.hid (HR4.out.on hb9)
                          have HS := Lib.hid hS
                          clear hS
                          go_wp2
                          exact ret_node rfl rfl rfl rfl (st7_blk hB9) ⟨_, _, bv, rfl, NodeV.leaf ((HS.out.st7 hB9).ok (hR9.out.st7 hB9 HR.out.size)) (by simp), hR9.out.st7 hB9 HR.out.size, (hF.trans (Fr.of_below hb9)).st7 (Nat.le_refl _)⟩

end Go.Proofs.YthipgidddgdojaaDoor
