/- Joined: PM, PQ, PR. -/
import Derived.Test.YtefgobmpleoafaaGreatDoorJPc
/- An atom: a step of the reader. -/
namespace Go.Proofs.YtefgobmpleoafaaGreatDoor
open Go.RowKit
variable {n₀ rb tb cap d : Nat} {s : List UInt8} {w w' : World} {σ σ1 : St} {fc fa : Int} {bv v : Value}

/-- What an atom is. -/
def atomR (N d : Nat) (σ : St) : R := if at_ σ.t 0 = 40 then run N 3 d [] σ else atomP σ
theorem run_q (n d : Nat) (acc : List Nd) (σ : St) : run (n + 1) 2 d acc σ = match atomR n d σ with
    | .error e => .error e
    | .ok (a, σ1) => quantRest (pre [40, 63, 58] σ.t) a σ1 := rfl

set_option maxRecDepth 100000 in
set_option maxHeartbeats 16000000 in
theorem atom_any (N : Nat) (hP : ParC n₀ rb tb cap s fc fa N) (hn : σ.t ≠ []) (hN : 4 * σ.t.length ≤ N + 1) (hR : Rd n₀ rb tb cap s w σ d fc fa bv) :
    Calls Tryz.prog 129 #[.pointer (some ⟨rb, 0, none⟩)] w (NPost n₀ rb tb cap s d fc fa w (atomR N d σ)) := by
  have hrl := hR.blk.lt
  have hpos := hR.pos
  have ht := hR.tl
  have hl := hR.len
  have hlen := len_ne hn
  have HB0 := Lib.hid (Blk.new w 117 zeros)
  have HR0 := Lib.hid (hR.alloc (.cells zeros 117))
  have HF0 : Hid (Fr n₀ rb w (w.alloc (.cells zeros 117))) := Lib.hid ((Fr.refl w).alloc _)
  have HR := Lib.hid hR
  have c0 := HR0.out.c0
  have c1 := HR0.out.c1
  have ct : (w.alloc (.cells zeros 117)).cell? ⟨tb, σ.pos, none⟩ = some (.int .u8 ((at_ σ.t 0 : Nat) : Int)) := by
    have := HR0.out.at_ (j := 0) hlen
    rwa [Nat.zero_add, Nat.add_zero] at this
  unfold zeros at c0 c1 ct
  have hi0 : (0 : Int) ≤ (σ.pos : Int) := by omega
  have hi1 : (σ.pos : Int) < (s.length : Int) := by omega
  have hx := at_lt σ.t 0
  by_cases h40 : at_ σ.t 0 = 40
  · have ha : atomR N d σ = run N 3 d [] σ := by unfold atomR; exact if_pos h40
    rw [ha]
    have HC := Lib.hid (fun W (hW : Rd n₀ rb tb cap s W σ d fc fa bv) => hP d σ W bv h40 hN hW)
    obtain ⟨rr, hrr⟩ : ∃ rr, rr = run N 3 d [] σ := ⟨_, rfl⟩
    rw [← hrr] at HC ⊢
    rw [h40] at ct
    have HP' := Lib.hid hP
    clear hP ha hrr hn hR hN hx h40
    go_enter Tryz.func129, Tryz.ntmps129
    go_wp2
    go_quiet (fail)
    have HRq := Lib.hid (HR0.out.drewN nq)
    have HBq : Hid (Blk ((w.alloc (.cells zeros 117)).drewN nq) w.heap.size 117 zeros) := Lib.hid HB0.out
    have hF := HF0.out.drewN nq
    unfold zeros at HRq HBq hF
    go_wp2_with fail
    refine (HC.out _ HRq.out).mono ?_
    rintro e w1 hP1
    cases rr with
    | error f =>
      obtain ⟨rfl, hB, hF1⟩ := hP1
      unfold zeros
      have hB1 := hF1.blk HRq.out HBq.out (by decide) (by decide)
      have hz := hB1.zero
      have hfz := hB1.frozen
      go_wp2
      exact ret_node rfl rfl rfl rfl (st7_blk hB1) ⟨rfl, hB.st7 (by omega), (hF.trans hF1).st7 (Nat.le_refl _)⟩
    | ok y =>
      obtain ⟨nd, σ1⟩ := y
      obtain ⟨sv, kv, bv1, rfl, hNd, hR1, hF1⟩ := hP1
      obtain ⟨A1, A2, p1, p2, rfl, rfl⟩ := hNd.lens
      have hB1 := hF1.blk HRq.out HBq.out (by decide) (by decide)
      have hz := hB1.zero
      have hfz := hB1.frozen
      have HP1 := Lib.hid (And.intro hNd (And.intro hR1 (hF.trans hF1)))
      clear hNd hR1 hF1 hF
      simp only [ndVal]
      go_wp2
      exact ret_node rfl rfl rfl rfl (st7_blk hB1) ⟨_, _, bv1, rfl, (HP1.out.1.st7 hB1 (by simp)).low (by simp), HP1.out.2.1.st7 hB1 HR.out.size, HP1.out.2.2.st7 (Nat.le_refl _)⟩
  · by_cases h91 : at_ σ.t 0 = 91
    · have ha : atomR N d σ = brackets σ := by unfold atomR atomP; rw [if_neg h40, if_pos h91]
      rw [ha]
      have HC := Lib.hid (fun W (hW : Rd n₀ rb tb cap s W σ d fc fa bv) => brackets_any h91 hW)
      obtain ⟨rr, hrr⟩ : ∃ rr, rr = brackets σ := ⟨_, rfl⟩
      rw [← hrr] at HC ⊢
      rw [h91] at ct
      have HP' := Lib.hid hP
      clear hP ha hrr hn hR hN hx h91
      go_enter Tryz.func129, Tryz.ntmps129
      go_wp2
      go_quiet (fail)
      have HRq := Lib.hid (HR0.out.drewN nq)
      have HBq : Hid (Blk ((w.alloc (.cells zeros 117)).drewN nq) w.heap.size 117 zeros) := Lib.hid HB0.out
      have hF := HF0.out.drewN nq
      unfold zeros at HRq HBq hF
      go_wp2_with fail
      refine (HC.out _ HRq.out).mono ?_
      rintro e w1 hP1
      cases rr with
      | error f =>
        obtain ⟨rfl, hB, hF1⟩ := hP1
        unfold zeros
        have hB1 := hF1.blk HRq.out HBq.out (by decide) (by decide)
        have hz := hB1.zero
        have hfz := hB1.frozen
        go_wp2
        exact ret_node rfl rfl rfl rfl (st7_blk hB1) ⟨rfl, hB.st7 (by omega), (hF.trans hF1).st7 (Nat.le_refl _)⟩
      | ok y =>
        obtain ⟨nd, σ1⟩ := y
        obtain ⟨sv, kv, bv1, rfl, hNd, hR1, hF1⟩ := hP1
        obtain ⟨A1, A2, p1, p2, rfl, rfl⟩ := hNd.lens
        have hB1 := hF1.blk HRq.out HBq.out (by decide) (by decide)
        have hz := hB1.zero
        have hfz := hB1.frozen
        have HP1 := Lib.hid (And.intro hNd (And.intro hR1 (hF.trans hF1)))
        clear hNd hR1 hF1 hF
        simp only [ndVal]
        go_wp2
        exact ret_node rfl rfl rfl rfl (st7_blk hB1) ⟨_, _, bv1, rfl, (HP1.out.1.st7 hB1 (by simp)).low (by simp), HP1.out.2.1.st7 hB1 HR.out.size, HP1.out.2.2.st7 (Nat.le_refl _)⟩
    · by_cases h92 : at_ σ.t 0 = 92
      · have ha : atomR N d σ = escape σ := by unfold atomR atomP; rw [if_neg h40, if_neg h91, if_pos h92]
        rw [ha]
        have HC := Lib.hid (fun W (hW : Rd n₀ rb tb cap s W σ d fc fa bv) => escape_any hW)
        obtain ⟨rr, hrr⟩ : ∃ rr, rr = escape σ := ⟨_, rfl⟩
        rw [← hrr] at HC ⊢
        rw [h92] at ct
        have HP' := Lib.hid hP
        clear hP ha hrr hn hR hN hx h92
        go_enter Tryz.func129, Tryz.ntmps129
        go_wp2
        go_quiet (fail)
        have HRq := Lib.hid (HR0.out.drewN nq)
        have HBq : Hid (Blk ((w.alloc (.cells zeros 117)).drewN nq) w.heap.size 117 zeros) := Lib.hid HB0.out
        have hF := HF0.out.drewN nq
        unfold zeros at HRq HBq hF
        go_wp2_with fail
        refine (HC.out _ HRq.out).mono ?_
        rintro e w1 hP1
        cases rr with
        | error f =>
          obtain ⟨rfl, hB, hF1⟩ := hP1
          unfold zeros
          have hB1 := hF1.blk HRq.out HBq.out (by decide) (by decide)
          have hz := hB1.zero
          have hfz := hB1.frozen
          go_wp2
          exact ret_node rfl rfl rfl rfl (st7_blk hB1) ⟨rfl, hB.st7 (by omega), (hF.trans hF1).st7 (Nat.le_refl _)⟩
        | ok y =>
          obtain ⟨nd, σ1⟩ := y
          obtain ⟨sv, kv, bv1, rfl, hNd, hR1, hF1⟩ := hP1
          obtain ⟨A1, A2, p1, p2, rfl, rfl⟩ := hNd.lens
          have hB1 := hF1.blk HRq.out HBq.out (by decide) (by decide)
          have hz := hB1.zero
          have hfz := hB1.frozen
          have HP1 := Lib.hid (And.intro hNd (And.intro hR1 (hF.trans hF1)))
          clear hNd hR1 hF1 hF
          simp only [ndVal]
          go_wp2
          exact ret_node rfl rfl rfl rfl (st7_blk hB1) ⟨_, _, bv1, rfl, (HP1.out.1.st7 hB1 (by simp)).low (by simp), HP1.out.2.1.st7 hB1 HR.out.size, HP1.out.2.2.st7 (Nat.le_refl _)⟩
      · by_cases h42 : at_ σ.t 0 = 42
        · have ha : atomR N d σ = .error (23, σ.pos) := by unfold atomR atomP; rw [if_neg h40, if_neg h91, if_neg h92, if_pos (by rw [h42]; decide)]
          rw [ha]
          rw [h42] at ct
          clear hP ha hn hR hN hx h42
          go_enter Tryz.func129, Tryz.ntmps129
          go_wp2
          go_quiet (fail)
          have HRq := Lib.hid (HR0.out.drewN nq)
          have HBq : Hid (Blk ((w.alloc (.cells zeros 117)).drewN nq) w.heap.size 117 zeros) := Lib.hid HB0.out
          have hF := HF0.out.drewN nq
          unfold zeros at HRq HBq hF
          have c1q := HRq.out.c1
          go_wp2_with fail
          refine (refuse_bad 23 σ.pos HRq.out).mono ?_
          rintro e w1 ⟨rfl, hB, hF1⟩
          have hB1 := hF1.blk HRq.out HBq.out (by decide) (by decide)
          have hz := hB1.zero
          have hfz := hB1.frozen
          go_wp2
          exact ret_node rfl rfl rfl rfl (st7_blk hB1) ⟨rfl, hB.st7 (by omega), (hF.trans hF1).st7 (Nat.le_refl _)⟩
        · by_cases h43 : at_ σ.t 0 = 43
          · have ha : atomR N d σ = .error (23, σ.pos) := by unfold atomR atomP; rw [if_neg h40, if_neg h91, if_neg h92, if_pos (by rw [h43]; decide)]
            rw [ha]
            rw [h43] at ct
            clear hP ha hn hR hN hx h43
            go_enter Tryz.func129, Tryz.ntmps129
            go_wp2
            go_quiet (fail)
            have HRq := Lib.hid (HR0.out.drewN nq)
            have HBq : Hid (Blk ((w.alloc (.cells zeros 117)).drewN nq) w.heap.size 117 zeros) := Lib.hid HB0.out
            have hF := HF0.out.drewN nq
            unfold zeros at HRq HBq hF
            have c1q := HRq.out.c1
            go_wp2_with fail
            refine (refuse_bad 23 σ.pos HRq.out).mono ?_
            rintro e w1 ⟨rfl, hB, hF1⟩
            have hB1 := hF1.blk HRq.out HBq.out (by decide) (by decide)
            have hz := hB1.zero
            have hfz := hB1.frozen
            go_wp2
            exact ret_node rfl rfl rfl rfl (st7_blk hB1) ⟨rfl, hB.st7 (by omega), (hF.trans hF1).st7 (Nat.le_refl _)⟩
          · by_cases h63 : at_ σ.t 0 = 63
            · have ha : atomR N d σ = .error (23, σ.pos) := by unfold atomR atomP; rw [if_neg h40, if_neg h91, if_neg h92, if_pos (by rw [h63]; decide)]
              rw [ha]
              rw [h63] at ct
              clear hP ha hn hR hN hx h63
              go_enter Tryz.func129, Tryz.ntmps129
              go_wp2
              go_quiet (fail)
              have HRq := Lib.hid (HR0.out.drewN nq)
              have HBq : Hid (Blk ((w.alloc (.cells zeros 117)).drewN nq) w.heap.size 117 zeros) := Lib.hid HB0.out
              have hF := HF0.out.drewN nq
              unfold zeros at HRq HBq hF
              have c1q := HRq.out.c1
              go_wp2_with fail
              refine (refuse_bad 23 σ.pos HRq.out).mono ?_
              rintro e w1 ⟨rfl, hB, hF1⟩
              have hB1 := hF1.blk HRq.out HBq.out (by decide) (by decide)
              have hz := hB1.zero
              have hfz := hB1.frozen
              go_wp2
              exact ret_node rfl rfl rfl rfl (st7_blk hB1) ⟨rfl, hB.st7 (by omega), (hF.trans hF1).st7 (Nat.le_refl _)⟩
            · by_cases h123 : at_ σ.t 0 = 123
              · have ha : atomR N d σ = .error (23, σ.pos) := by unfold atomR atomP; rw [if_neg h40, if_neg h91, if_neg h92, if_pos (by rw [h123]; decide)]
                rw [ha]
                rw [h123] at ct
                clear hP ha hn hR hN hx h123
                go_enter Tryz.func129, Tryz.ntmps129
                go_wp2
                go_quiet (fail)
                have HRq := Lib.hid (HR0.out.drewN nq)
                have HBq : Hid (Blk ((w.alloc (.cells zeros 117)).drewN nq) w.heap.size 117 zeros) := Lib.hid HB0.out
                have hF := HF0.out.drewN nq
                unfold zeros at HRq HBq hF
                have c1q := HRq.out.c1
                go_wp2_with fail
                refine (refuse_bad 23 σ.pos HRq.out).mono ?_
                rintro e w1 ⟨rfl, hB, hF1⟩
                have hB1 := hF1.blk HRq.out HBq.out (by decide) (by decide)
                have hz := hB1.zero
                have hfz := hB1.frozen
                go_wp2
                exact ret_node rfl rfl rfl rfl (st7_blk hB1) ⟨rfl, hB.st7 (by omega), (hF.trans hF1).st7 (Nat.le_refl _)⟩
              · by_cases h93 : at_ σ.t 0 = 93
                · have ha : atomR N d σ = .error (20, σ.pos) := by unfold atomR atomP; rw [if_neg h40, if_neg h91, if_neg h92, if_neg (by simp [isQ, h42, h43, h63, h123]), if_pos (by omega)]
                  rw [ha]
                  rw [h93] at ct
                  clear hP ha hn hR hN hx h93
                  go_enter Tryz.func129, Tryz.ntmps129
                  go_wp2
                  go_quiet (fail)
                  have HRq := Lib.hid (HR0.out.drewN nq)
                  have HBq : Hid (Blk ((w.alloc (.cells zeros 117)).drewN nq) w.heap.size 117 zeros) := Lib.hid HB0.out
                  have hF := HF0.out.drewN nq
                  unfold zeros at HRq HBq hF
                  have c1q := HRq.out.c1
                  go_wp2_with fail
                  refine (refuse_bad 20 σ.pos HRq.out).mono ?_
                  rintro e w1 ⟨rfl, hB, hF1⟩
                  have hB1 := hF1.blk HRq.out HBq.out (by decide) (by decide)
                  have hz := hB1.zero
                  have hfz := hB1.frozen
                  go_wp2
                  exact ret_node rfl rfl rfl rfl (st7_blk hB1) ⟨rfl, hB.st7 (by omega), (hF.trans hF1).st7 (Nat.le_refl _)⟩
                · by_cases h125 : at_ σ.t 0 = 125
                  · have ha : atomR N d σ = .error (20, σ.pos) := by unfold atomR atomP; rw [if_neg h40, if_neg h91, if_neg h92, if_neg (by simp [isQ, h42, h43, h63, h123]), if_pos (by omega)]
                    rw [ha]
                    rw [h125] at ct
                    clear hP ha hn hR hN hx h125
                    go_enter Tryz.func129, Tryz.ntmps129
                    go_wp2
                    go_quiet (fail)
                    have HRq := Lib.hid (HR0.out.drewN nq)
                    have HBq : Hid (Blk ((w.alloc (.cells zeros 117)).drewN nq) w.heap.size 117 zeros) := Lib.hid HB0.out
                    have hF := HF0.out.drewN nq
                    unfold zeros at HRq HBq hF
                    have c1q := HRq.out.c1
                    go_wp2_with fail
                    refine (refuse_bad 20 σ.pos HRq.out).mono ?_
                    rintro e w1 ⟨rfl, hB, hF1⟩
                    have hB1 := hF1.blk HRq.out HBq.out (by decide) (by decide)
                    have hz := hB1.zero
                    have hfz := hB1.frozen
                    go_wp2
                    exact ret_node rfl rfl rfl rfl (st7_blk hB1) ⟨rfl, hB.st7 (by omega), (hF.trans hF1).st7 (Nat.le_refl _)⟩
                  · by_cases h46 : at_ σ.t 0 = 46
                    · have ha : atomR N d σ = .ok (setN [(0, 9), (11, 1114367)], σ.adv 1) := by unfold atomR atomP; rw [if_neg h40, if_neg h91, if_neg h92, if_neg (by simp [isQ, h42, h43, h63, h123]), if_neg (by omega), if_pos h46]
                      rw [ha]
                      have HT := Lib.hid (fun W (hW : Rd n₀ rb tb cap s W σ d fc fa bv) => take1_yes 46 (by decide) (by simpa using h46) hW)
                      have e0 : ((at_ σ.t 0 : Int) == 40) = false := by simp; omega
                      have e1 : ((at_ σ.t 0 : Int) == 91) = false := by simp; omega
                      have e2 : ((at_ σ.t 0 : Int) == 92) = false := by simp; omega
                      have e3 : ((at_ σ.t 0 : Int) == 42) = false := by simp; omega
                      have e4 : ((at_ σ.t 0 : Int) == 43) = false := by simp; omega
                      have e5 : ((at_ σ.t 0 : Int) == 63) = false := by simp; omega
                      have e6 : ((at_ σ.t 0 : Int) == 123) = false := by simp; omega
                      have e7 : ((at_ σ.t 0 : Int) == 93) = false := by simp; omega
                      have e8 : ((at_ σ.t 0 : Int) == 125) = false := by simp; omega
                      rw [h46] at ct
                      clear e0 e1 e2 e3 e4 e5 e6 e7 e8 hP ha hn hR hN hx h46
                      go_enter Tryz.func129, Tryz.ntmps129
                      go_wp2
                      go_quiet (fail)
                      have HRq := Lib.hid (HR0.out.drewN nq)
                      have HBq : Hid (Blk ((w.alloc (.cells zeros 117)).drewN nq) w.heap.size 117 zeros) := Lib.hid HB0.out
                      have hF := HF0.out.drewN nq
                      unfold zeros at HRq HBq hF
                      go_wp2_with fail
                      refine (HT.out _ HRq.out).mono ?_
                      rintro e wz ⟨rfl, hRz, hFz⟩
                      have hBz := Lib.hid (hFz.blk HRq.out HBq.out (by decide) (by decide))
                      have HRz := Lib.hid hRz
                      replace hF := hF.trans hFz
                      clear hRz hFz
                      go_wp2_with fail
                      refine (dot_any _).mono ?_
                      rintro e w9 ⟨sv, rfl, hS, hb9⟩
                      obtain ⟨A4, p4, rfl, hp4, hx4⟩ := id hS
                      clear hp4 hx4
                      have hB9 := hBz.out.on hb9
                      have hz := hB9.zero
                      have hfz := hB9.frozen
                      have hR9 : Hid (Rd n₀ rb tb cap s w9 (σ.adv 1) d fc fa bv) := Lib.hid (HRz.out.on hb9)
                      have HS := Lib.hid hS
                      clear hS
                      go_wp2
                      exact ret_node rfl rfl rfl rfl (st7_blk hB9) ⟨_, _, bv, rfl, NodeV.leaf ((HS.out.st7 hB9).ok (hR9.out.st7 hB9 HR.out.size)) (by simp), hR9.out.st7 hB9 HR.out.size, (hF.trans (Fr.of_below hb9)).st7 (Nat.le_refl _)⟩
                    · have HT0 := Lib.hid (fun W (hW : Rd n₀ rb tb cap s W σ d fc fa bv) => take1_no 46 (by decide) (by simpa using h46) hW)
                      by_cases h94 : at_ σ.t 0 = 94
                      · have ha : atomR N d σ = .ok (edgeN 0, σ.adv 1) := by unfold atomR atomP; rw [if_neg h40, if_neg h91, if_neg h92, if_neg (by simp [isQ, h42, h43, h63, h123]), if_neg (by omega), if_neg h46, if_pos h94]
                        rw [ha]
                        have HT := Lib.hid (fun W (hW : Rd n₀ rb tb cap s W σ d fc fa bv) => take1_yes 94 (by decide) (by simpa using h94) hW)
                        have e0 : ((at_ σ.t 0 : Int) == 40) = false := by simp; omega
                        have e1 : ((at_ σ.t 0 : Int) == 91) = false := by simp; omega
                        have e2 : ((at_ σ.t 0 : Int) == 92) = false := by simp; omega
                        have e3 : ((at_ σ.t 0 : Int) == 42) = false := by simp; omega
                        have e4 : ((at_ σ.t 0 : Int) == 43) = false := by simp; omega
                        have e5 : ((at_ σ.t 0 : Int) == 63) = false := by simp; omega
                        have e6 : ((at_ σ.t 0 : Int) == 123) = false := by simp; omega
                        have e7 : ((at_ σ.t 0 : Int) == 93) = false := by simp; omega
                        have e8 : ((at_ σ.t 0 : Int) == 125) = false := by simp; omega
                        rw [h94] at ct
                        clear e0 e1 e2 e3 e4 e5 e6 e7 e8 hP ha hn hR hN hx h94
                        go_enter Tryz.func129, Tryz.ntmps129
                        go_wp2
                        go_quiet (fail)
                        have HRq := Lib.hid (HR0.out.drewN nq)
                        have HBq : Hid (Blk ((w.alloc (.cells zeros 117)).drewN nq) w.heap.size 117 zeros) := Lib.hid HB0.out
                        have hF := HF0.out.drewN nq
                        unfold zeros at HRq HBq hF
                        go_wp2_with fail
                        refine (HT0.out _ HRq.out).mono ?_
                        rintro e w1 ⟨rfl, hb1⟩
                        have hR1 := Lib.hid (HRq.out.on hb1)
                        have hB1 := Lib.hid (HBq.out.on hb1)
                        replace hF := hF.trans (Fr.of_below hb1)
                        go_wp2_with fail
                        refine (HT.out _ hR1.out).mono ?_
                        rintro e wz ⟨rfl, hRz, hFz⟩
                        have hBz := Lib.hid (hFz.blk hR1.out hB1.out (by decide) (by decide))
                        have HRz := Lib.hid hRz
                        replace hF := hF.trans hFz
                        clear hRz hFz
                        have hB9 := hBz.out
                        have hz := hB9.zero
                        have hfz := hB9.frozen
                        go_wp2
                        exact ret_node rfl rfl rfl rfl (st7_blk hB9) ⟨_, _, bv, rfl, NodeV.leaf (SetK.nil _ _) (by simp), HRz.out.st7 hB9 HR.out.size, hF.st7 (Nat.le_refl _)⟩
                      · have HT1 := Lib.hid (fun W (hW : Rd n₀ rb tb cap s W σ d fc fa bv) => take1_no 94 (by decide) (by simpa using h94) hW)
                        by_cases h36 : at_ σ.t 0 = 36
                        · have ha : atomR N d σ = .ok (edgeN 1, σ.adv 1) := by unfold atomR atomP; rw [if_neg h40, if_neg h91, if_neg h92, if_neg (by simp [isQ, h42, h43, h63, h123]), if_neg (by omega), if_neg h46, if_neg h94, if_pos h36]
                          rw [ha]
                          have HT := Lib.hid (fun W (hW : Rd n₀ rb tb cap s W σ d fc fa bv) => take1_yes 36 (by decide) (by simpa using h36) hW)
                          have e0 : ((at_ σ.t 0 : Int) == 40) = false := by simp; omega
                          have e1 : ((at_ σ.t 0 : Int) == 91) = false := by simp; omega
                          have e2 : ((at_ σ.t 0 : Int) == 92) = false := by simp; omega
                          have e3 : ((at_ σ.t 0 : Int) == 42) = false := by simp; omega
                          have e4 : ((at_ σ.t 0 : Int) == 43) = false := by simp; omega
                          have e5 : ((at_ σ.t 0 : Int) == 63) = false := by simp; omega
                          have e6 : ((at_ σ.t 0 : Int) == 123) = false := by simp; omega
                          have e7 : ((at_ σ.t 0 : Int) == 93) = false := by simp; omega
                          have e8 : ((at_ σ.t 0 : Int) == 125) = false := by simp; omega
                          rw [h36] at ct
                          clear e0 e1 e2 e3 e4 e5 e6 e7 e8 hP ha hn hR hN hx h36
                          go_enter Tryz.func129, Tryz.ntmps129
                          go_wp2
                          go_quiet (fail)
                          have HRq := Lib.hid (HR0.out.drewN nq)
                          have HBq : Hid (Blk ((w.alloc (.cells zeros 117)).drewN nq) w.heap.size 117 zeros) := Lib.hid HB0.out
                          have hF := HF0.out.drewN nq
                          unfold zeros at HRq HBq hF
                          go_wp2_with fail
                          refine (HT0.out _ HRq.out).mono ?_
                          rintro e w1 ⟨rfl, hb1⟩
                          have hR1 := Lib.hid (HRq.out.on hb1)
                          have hB1 := Lib.hid (HBq.out.on hb1)
                          replace hF := hF.trans (Fr.of_below hb1)
                          go_wp2_with fail
                          refine (HT1.out _ hR1.out).mono ?_
                          rintro e w2 ⟨rfl, hb2⟩
                          have hR2 := Lib.hid (hR1.out.on hb2)
                          have hB2 := Lib.hid (hB1.out.on hb2)
                          replace hF := hF.trans (Fr.of_below hb2)
                          go_wp2_with fail
                          refine (HT.out _ hR2.out).mono ?_
                          rintro e wz ⟨rfl, hRz, hFz⟩
                          have hBz := Lib.hid (hFz.blk hR2.out hB2.out (by decide) (by decide))
                          have HRz := Lib.hid hRz
                          replace hF := hF.trans hFz
                          clear hRz hFz
                          have hB9 := hBz.out
                          have hz := hB9.zero
                          have hfz := hB9.frozen
                          go_wp2
                          exact ret_node rfl rfl rfl rfl (st7_blk hB9) ⟨_, _, bv, rfl, NodeV.leaf (SetK.nil _ _) (by simp), HRz.out.st7 hB9 HR.out.size, hF.st7 (Nat.le_refl _)⟩
                        · have HT2 := Lib.hid (fun W (hW : Rd n₀ rb tb cap s W σ d fc fa bv) => take1_no 36 (by decide) (by simpa using h36) hW)
                          have ha : atomR N d σ = .ok (setN [(((nx σ.t).1 : Int), ((nx σ.t).1 : Int))], σ.adv (nx σ.t).2) := by unfold atomR atomP; rw [if_neg h40, if_neg h91, if_neg h92, if_neg (by simp [isQ, h42, h43, h63, h123]), if_neg (by omega), if_neg h46, if_neg h94, if_neg h36]
                          rw [ha]
                          have e0 : ((at_ σ.t 0 : Int) == 40) = false := by simp; omega
                          have e1 : ((at_ σ.t 0 : Int) == 91) = false := by simp; omega
                          have e2 : ((at_ σ.t 0 : Int) == 92) = false := by simp; omega
                          have e3 : ((at_ σ.t 0 : Int) == 42) = false := by simp; omega
                          have e4 : ((at_ σ.t 0 : Int) == 43) = false := by simp; omega
                          have e5 : ((at_ σ.t 0 : Int) == 63) = false := by simp; omega
                          have e6 : ((at_ σ.t 0 : Int) == 123) = false := by simp; omega
                          have e7 : ((at_ σ.t 0 : Int) == 93) = false := by simp; omega
                          have e8 : ((at_ σ.t 0 : Int) == 125) = false := by simp; omega
                          have HPl := Lib.hid (fun W (hW : Rd n₀ rb tb cap s W σ d fc fa bv) => plain_any hn hW)
                          obtain ⟨u, hu⟩ : ∃ u, u = (nx σ.t).1 := ⟨_, rfl⟩
                          obtain ⟨z, hz⟩ : ∃ z, z = (nx σ.t).2 := ⟨_, rfl⟩
                          rw [← hu, ← hz] at HPl ⊢
                          obtain ⟨c, hc⟩ : ∃ c, c = at_ σ.t 0 := ⟨_, rfl⟩
                          rw [← hc] at ct hx e0 e1 e2 e3 e4 e5 e6 e7 e8
                          clear hP ha hn hR hN hu hz hc h40 h91 h92 h42 h43 h63 h123 h93 h125 h46 h94 h36
                          go_enter Tryz.func129, Tryz.ntmps129
                          go_wp2
                          go_quiet (fail)
                          have HRq := Lib.hid (HR0.out.drewN nq)
                          have HBq : Hid (Blk ((w.alloc (.cells zeros 117)).drewN nq) w.heap.size 117 zeros) := Lib.hid HB0.out
                          have hF := HF0.out.drewN nq
                          unfold zeros at HRq HBq hF
                          go_wp2_with fail
                          refine (HT0.out _ HRq.out).mono ?_
                          rintro e w1 ⟨rfl, hb1⟩
                          have hR1 := Lib.hid (HRq.out.on hb1)
                          have hB1 := Lib.hid (HBq.out.on hb1)
                          replace hF := hF.trans (Fr.of_below hb1)
                          go_wp2_with fail
                          refine (HT1.out _ hR1.out).mono ?_
                          rintro e w2 ⟨rfl, hb2⟩
                          have hR2 := Lib.hid (hR1.out.on hb2)
                          have hB2 := Lib.hid (hB1.out.on hb2)
                          replace hF := hF.trans (Fr.of_below hb2)
                          go_wp2_with fail
                          refine (HT2.out _ hR2.out).mono ?_
                          rintro e w3 ⟨rfl, hb3⟩
                          have hR3 := Lib.hid (hR2.out.on hb3)
                          have hB3 := Lib.hid (hB2.out.on hb3)
                          replace hF := hF.trans (Fr.of_below hb3)
                          go_wp2_with fail
                          refine (HPl.out _ hR3.out).mono ?_
                          rintro e w4 ⟨rfl, hR4, hF4⟩
                          have hB4 := Lib.hid (hF4.blk hR3.out hB3.out (by decide) (by decide))
                          have HR4 := Lib.hid hR4
                          replace hF := hF.trans hF4
                          clear hR4 hF4
                          go_wp2_with fail
                          refine (one_any u _).mono ?_
                          rintro e w9 ⟨sv, rfl, hS, hb9⟩
                          obtain ⟨A4, p4, rfl, hp4, hx4⟩ := id hS
                          clear hp4 hx4
                          have hB9 := hB4.out.on hb9
                          have hz := hB9.zero
                          have hfz := hB9.frozen
                          have hR9 := Lib.hid (HR4.out.on hb9)
                          have HS := Lib.hid hS
                          clear hS
                          go_wp2
                          exact ret_node rfl rfl rfl rfl (st7_blk hB9) ⟨_, _, bv, rfl, NodeV.leaf ((HS.out.st7 hB9).ok (hR9.out.st7 hB9 HR.out.size)) (by simp), hR9.out.st7 hB9 HR.out.size, (hF.trans (Fr.of_below hb9)).st7 (Nat.le_refl _)⟩

end Go.Proofs.YtefgobmpleoafaaGreatDoor

/- An atom with its quantifier: a step of the reader. -/
namespace Go.Proofs.YtefgobmpleoafaaGreatDoor
open Go.RowKit
variable {n₀ rb tb cap d : Nat} {s : List UInt8} {w w' : World} {σ σ1 : St} {fc fa : Int} {bv v : Value}

def QuaC (n₀ rb tb cap : Nat) (s : List UInt8) (fc fa : Int) (N : Nat) : Prop :=
  ∀ (d : Nat) (σ : St) (w : World) (bv : Value), σ.t ≠ [] → 4 * σ.t.length ≤ N → Rd n₀ rb tb cap s w σ d fc fa bv → Calls Tryz.prog 114 #[.pointer (some ⟨rb, 0, none⟩)] w (NPost n₀ rb tb cap s d fc fa w (run N 2 d [] σ))
/-- What stands behind an atom. -/
def quaClose (gr : Bool) (ra : R) : R :=
  match ra with
  | .error e => .error e
  | .ok (a, σ1) => quantRest gr a σ1
theorem run_qua (n d : Nat) (acc : List Nd) (σ : St) : run (n + 1) 2 d acc σ = quaClose (pre [40, 63, 58] σ.t) (atomR n d σ) := rfl

set_option maxRecDepth 100000 in
set_option maxHeartbeats 16000000 in
theorem quant_step (N : Nat) (hP : ParC n₀ rb tb cap s fc fa N) : QuaC n₀ rb tb cap s fc fa (N + 1) := by
  intro d σ w bv hn hN hR
  rw [run_qua]
  have hrl := hR.blk.lt
  have HB0 := Lib.hid (Blk.new w 117 zeros)
  have HR0 := Lib.hid (hR.alloc (.cells zeros 117))
  have HF0 : Hid (Fr n₀ rb w (w.alloc (.cells zeros 117))) := Lib.hid ((Fr.refl w).alloc _)
  have HR := Lib.hid hR
  have HS := Lib.hid (sees_any [40, 63, 58] HR0.out)
  have HA := Lib.hid (fun W (hW : Rd n₀ rb tb cap s W σ d fc fa bv) => atom_any N hP hn hN hW)
  obtain ⟨gr, hgr⟩ : ∃ gr, gr = pre [40, 63, 58] σ.t := ⟨_, rfl⟩
  obtain ⟨ra, hra⟩ : ∃ ra, ra = atomR N d σ := ⟨_, rfl⟩
  rw [← hgr] at HS ⊢
  rw [← hra] at HA ⊢
  clear hgr hra hP hn hN hR
  go_enter Tryz.func114, Tryz.ntmps114
  go_wp2_with fail
  refine HS.out.mono ?_
  rintro e w1 ⟨rfl, hb1⟩
  have HR1 := Lib.hid (HR0.out.on hb1)
  have HB1 := Lib.hid (HB0.out.on hb1)
  have hF := HF0.out.trans (Fr.of_below hb1)
  have h01 : w.heap.size < w1.heap.size := HB1.out.lt
  go_wp2_with fail
  refine (HA.out _ HR1.out).mono ?_
  rintro e w2 hP2
  cases ra with
  | error f =>
    obtain ⟨rfl, hB, hF2⟩ := hP2
    unfold zeros
    have hB2 := (hF2.blk HR1.out HB1.out (by decide) (by decide)).alloc (.cells zeros 117)
    have hz := hB2.zero
    have hfz := hB2.frozen
    unfold zeros at hz hfz
    go_wp2
    exact ret_node rfl rfl rfl rfl (st7_blk hB2) ⟨rfl, (hB.alloc _).st7 (by omega), ((hF.trans hF2).alloc _).st7 (Nat.le_refl _)⟩
  | ok y =>
    obtain ⟨a, σ1⟩ := y
    obtain ⟨sv, kv, bv2, rfl, hNd, hR2, hF2⟩ := hP2
    obtain ⟨A1, A2, p1, p2, rfl, rfl⟩ := hNd.lens
    have hw2 := hF2.size
    obtain ⟨nk, hnk⟩ : ∃ nk : Array Value, nk = #[.int .i64 a.kind, .int .i64 a.lo, .int .i64 a.hi, .int .i64 a.mode, .int .i64 a.ref, .slice A1 a.set.length p1, .slice A2 a.kids.length p2] := ⟨_, rfl⟩
    have HB3 := Lib.hid ((hF2.blk HR1.out HB1.out (by decide) (by decide)).alloc (.cells nk 117))
    have HB5 := Lib.hid (Blk.new w2 117 nk)
    have HR3 := Lib.hid (hR2.alloc (.cells nk 117))
    have HN3 := Lib.hid (hNd.fr ((Fr.refl w2).alloc (.cells nk 117)))
    replace hF := (hF.trans hF2).alloc (.cells nk 117)
    have c1 := HR3.out.c1
    have hsz : w2.heap.size < (w2.alloc (.cells nk 117)).heap.size := by simp
    have hq := quant_seen HR3.out
    have HQ := Lib.hid hq
    have htm := fun (hq : isQ (at_ σ1.t 0) = true) W (hW : Rd n₀ rb tb cap s W σ1 d fc fa bv2) => times_any hq hW
    have HTM := Lib.hid htm
    clear hNd hR2 hF2 hq htm
    simp only [ndVal]
    subst hnk
    go_upto_region 6 with (fail)
    generalize w2.alloc (.cells #[.int .i64 a.kind, .int .i64 a.lo, .int .i64 a.hi, .int .i64 a.mode, .int .i64 a.ref, .slice A1 a.set.length p1, .slice A2 a.kids.length p2] 117) = W3 at HB3 HB5 HR3 HN3 hF c1 hsz HQ ⊢
    cases hq : isQ (at_ σ1.t 0) with
    | false =>
      rw [hq] at HQ
      have hpc : Hid (quaClose gr (.ok (a, σ1)) = .ok (a, σ1)) := Lib.hid (by unfold quaClose quantRest; exact if_neg (by rw [hq]; decide))
      clear hq HTM
      go_wp2_with fail
      refine HQ.out.mono ?_
      rintro e w4 ⟨rfl, hb4⟩
      have hB4 := HB3.out.on hb4
      have hz := hB4.zero
      have hfz := hB4.frozen
      have b5 := (HB5.out.on hb4).seven
      go_wp2
      exact ret_node rfl rfl rfl rfl (st7_blk hB4) (by
        rw [hpc.out]
        exact ⟨_, _, bv2, rfl, ((HN3.out.fr (Fr.of_below hb4)).st7 hB4 h01).low (by omega), (HR3.out.on hb4).st7 hB4 HR.out.size, (hF.trans (Fr.of_below hb4)).st7 (Nat.le_refl _)⟩)
    | true =>
      rw [hq] at HQ
      cases gr with
      | true =>
        have hpc : quaClose true (.ok (a, σ1)) = (match times σ1 with | none => .error (23, σ1.pos) | some ((lo, hi), σ2) => .ok (repN lo hi (modeOf σ2.t) a, behindMode σ2)) := by show quantRest true a σ1 = _; unfold quantRest; rw [if_pos hq, if_neg (by simp)]; rfl
        have HTM' := Lib.hid (HTM.out hq)
        obtain ⟨rt, hrt⟩ : ∃ rt, rt = times σ1 := ⟨_, rfl⟩
        rw [← hrt] at hpc HTM'
        have HPC := Lib.hid hpc
        clear hpc hq HTM hrt
        go_wp2_with fail
        refine HQ.out.mono ?_
        rintro e w4 ⟨rfl, hb4⟩
        have HB4 := Lib.hid (HB3.out.on hb4)
        have HB54 := Lib.hid (HB5.out.on hb4)
        have HR4 := Lib.hid (HR3.out.on hb4)
        have HN4 := Lib.hid (HN3.out.fr (Fr.of_below hb4))
        replace hF := hF.trans (Fr.of_below hb4)
        have b5 := HB54.out.seven
        clear HB3 HB5 HR3 HN3 hb4 HQ
        go_wp2_with fail
        refine (HTM'.out _ HR4.out).mono ?_
        rintro e w5 hP5
        cases rt with
        | none =>
          obtain ⟨rfl, ⟨σx, hRx⟩, hF5⟩ := hP5
          have hpc := HPC.out
          simp only at hpc
          have HB5 := Lib.hid (hF5.blk HR4.out HB4.out (by decide) (by decide))
          have HRx := Lib.hid hRx
          replace hF := hF.trans hF5
          have HPC2 := Lib.hid hpc
          clear hRx hF5 HPC hpc
          go_wp2_with fail
          refine (refuse_bad 23 σ1.pos HRx.out).mono ?_
          rintro e w6 ⟨rfl, hB, hF6⟩
          have hB6 := hF6.blk HRx.out HB5.out (by decide) (by decide)
          have hz := hB6.zero
          have hfz := hB6.frozen
          go_wp2
          exact ret_node rfl rfl rfl rfl (st7_blk hB6) (by
            rw [HPC2.out]
            exact ⟨rfl, hB.st7 (by omega), (hF.trans hF6).st7 (Nat.le_refl _)⟩)
        | some z =>
          obtain ⟨⟨lo, hi⟩, σ2⟩ := z
          obtain ⟨rfl, hR5, hF5⟩ := hP5
          have hpc := HPC.out
          simp only at hpc hR5
          have HB5 := Lib.hid (hF5.blk HR4.out HB4.out (by decide) (by decide))
          have HB55 := Lib.hid (hF5.blk HR4.out HB54.out (by decide) (by decide))
          have HR5 := Lib.hid hR5
          have HN5 := Lib.hid (HN4.out.fr hF5)
          replace hF := hF.trans hF5
          have HPC2 := Lib.hid hpc
          have HMd := Lib.hid (fun W (hW : Rd n₀ rb tb cap s W σ2 d fc fa bv2) => mode_any hW)
          obtain ⟨md, hmd⟩ : ∃ md, md = modeOf σ2.t := ⟨_, rfl⟩
          rw [← hmd] at HMd HPC2
          clear hR5 hF5 HPC hpc hmd b5 HB4 HB54 HR4 HN4 HTM'
          have h52 : w2.heap.size ≠ w.heap.size := by omega
          go_upto_region 13 with (fail)
          refine wp_region_held_drew (S := fun W => Blk W w2.heap.size 117 #[.int .i64 a.kind, .int .i64 a.lo, .int .i64 a.hi, .int .i64 a.mode, .int .i64 a.ref, .slice A1 a.set.length p1, .slice A2 a.kids.length p2]) (by kernel_rfl) HB55.out (fun hHeld => ?_)
          refine take_d 0 56 (.int .i64 lo) _ rfl rfl (by kernel_rfl) (by kernel_rfl) (by kernel_rfl) (fun _ _ _ h => h) (Or.inl ⟨by rfl, fun w' hSw => ?_⟩) hHeld ?_
          · go_simp
          simp only [List.setIfInBounds_toArray, List.set_cons_zero, List.set_cons_succ]
          refine take_d 1 57 (.int .i64 hi) _ rfl rfl (by kernel_rfl) (by kernel_rfl) (by kernel_rfl) (fun _ _ _ h => h) (Or.inl ⟨by rfl, fun w' hSw => ?_⟩) hHeld ?_
          · go_simp
          simp only [List.setIfInBounds_toArray, List.set_cons_zero, List.set_cons_succ]
          refine take_d 2 58 (.pointer (some ⟨rb, 0, none⟩)) _ rfl rfl (by kernel_rfl) (by kernel_rfl) (by kernel_rfl) (fun _ _ _ h => h) (Or.inl ⟨by rfl, fun w' hSw => ?_⟩) hHeld ?_
          · go_simp
          simp only [List.setIfInBounds_toArray, List.set_cons_zero, List.set_cons_succ]
          refine take_d 4 60 (.agg #[.int .i64 a.kind, .int .i64 a.lo, .int .i64 a.hi, .int .i64 a.mode, .int .i64 a.ref, .slice A1 a.set.length p1, .slice A2 a.kids.length p2]) _ rfl rfl (by kernel_rfl) (by kernel_rfl) (by kernel_rfl) (fun _ _ _ h => h) (Or.inl ⟨by rfl, fun w' hSw => ?_⟩) hHeld ?_
          · have hS7 := Blk.seven hSw
            clear hSw
            go_simp
          simp only [List.setIfInBounds_toArray, List.set_cons_zero, List.set_cons_succ]
          refine wpAnyH_ready (rs := [3, 5]) (by kernel_rfl) (by simp) ?_
          refine AllReadyH.cons rfl (fun K hK => ?_) (AllReadyH.cons rfl (fun K hK => ?_) AllReadyH.nil)
          · go_simp
            refine (HMd.out _ HR5.out.drew).mono ?_
            rintro e w6 ⟨rfl, hR6, hF6⟩
            have HB06 := Lib.hid (hF6.blk HR5.out.drew (show Blk w5.drew w.heap.size 117 zeros from HB5.out) (by decide) (by decide))
            have HB56 := Lib.hid (hF6.blk HR5.out.drew (show Blk w5.drew w2.heap.size 117 _ from HB55.out) (by decide) (by decide))
            refine hK.out _ _ HB56.out (fun hHeld => ?_)
            clear hK K
            refine wpAnyH_ready (rs := [5]) (by kernel_rfl) (by simp) ?_
            refine AllReadyH.cons rfl (fun K hK => ?_) AllReadyH.nil
            go_simp
            refine hK.out _ _ (HB56.out.alloc _) (fun hHeld => ?_)
            clear hK K
            have HBf := Lib.hid (HB06.out.alloc (.cells #[.int .i64 a.kind, .int .i64 a.lo, .int .i64 a.hi, .int .i64 a.mode, .int .i64 a.ref, .slice A1 a.set.length p1, .slice A2 a.kids.length p2] 117))
            have HBg := Lib.hid (HB56.out.alloc (.cells #[.int .i64 a.kind, .int .i64 a.lo, .int .i64 a.hi, .int .i64 a.mode, .int .i64 a.ref, .slice A1 a.set.length p1, .slice A2 a.kids.length p2] 117))
            have HBs := Lib.hid (Blk.new w6 117 #[.int .i64 a.kind, .int .i64 a.lo, .int .i64 a.hi, .int .i64 a.mode, .int .i64 a.ref, .slice A1 a.set.length p1, .slice A2 a.kids.length p2])
            have HNf := Lib.hid ((HN5.out.fr (((Fr.refl w5).drewN 1).trans hF6)).fr ((Fr.refl w6).alloc (.cells #[.int .i64 a.kind, .int .i64 a.lo, .int .i64 a.hi, .int .i64 a.mode, .int .i64 a.ref, .slice A1 a.set.length p1, .slice A2 a.kids.length p2] 117)))
            have HRf := Lib.hid (hR6.alloc (.cells #[.int .i64 a.kind, .int .i64 a.lo, .int .i64 a.hi, .int .i64 a.mode, .int .i64 a.ref, .slice A1 a.set.length p1, .slice A2 a.kids.length p2] 117))
            have hFf := ((hF.drewN 1).trans hF6).alloc (.cells #[.int .i64 a.kind, .int .i64 a.lo, .int .i64 a.hi, .int .i64 a.mode, .int .i64 a.ref, .slice A1 a.set.length p1, .slice A2 a.kids.length p2] 117)
            have hsf : w6.heap.size ≠ w.heap.size := by have := HB06.out.lt; omega
            have hsr : w6.heap.size ≠ rb := by have := hR6.blk.lt; omega
            have hs6 : w.heap.size < w6.heap.size := HB06.out.lt
            clear hR6 hF6
            generalize w6.alloc (.cells #[.int .i64 a.kind, .int .i64 a.lo, .int .i64 a.hi, .int .i64 a.mode, .int .i64 a.ref, .slice A1 a.set.length p1, .slice A2 a.kids.length p2] 117) = W7 at HBf HBg HBs HNf HRf hFf hHeld ⊢
            refine take_d 6 62 (.agg #[.int .i64 4, .int .i64 lo, .int .i64 hi, .int .i64 (md : Nat), .int .i64 0, .slice none 0 0, .slice (some ⟨w6.heap.size, 0, none⟩) 1 1]) _ rfl rfl (by kernel_rfl) (by kernel_rfl) (by kernel_rfl) (fun _ _ _ h => h) (Or.inl ⟨by rfl, fun w' hSw => ?_⟩) hHeld ?_
            · go_simp
            simp only [List.setIfInBounds_toArray, List.set_cons_zero, List.set_cons_succ]
            have hz := HBf.out.zero
            have hfz := HBf.out.frozen
            refine wpAnyH_ready (rs := [7]) (by kernel_rfl) (by simp) ?_
            refine AllReadyH.cons rfl (fun K hK => ?_) AllReadyH.nil
            go_simp
            refine hK.out _ _ (HBg.out.st7 h52) (fun hHeld => ?_)
            clear hK K
            refine take_d 8 3 (.bool true) _ rfl rfl (by kernel_rfl) (by kernel_rfl) (by kernel_rfl) (fun _ _ _ h => h) (Or.inl ⟨by rfl, fun w' hSw => ?_⟩) hHeld ?_
            · go_simp
            simp only [List.setIfInBounds_toArray, List.set_cons_zero, List.set_cons_succ]
            refine wpAnyH_done (by kernel_rfl) ?_ _
            clear hHeld hz hfz
            go_wp2
            exact ret_node rfl rfl rfl rfl (st7_blk HBf.out) (by
              rw [HPC2.out]
              exact ⟨_, _, bv2, rfl, NodeV.one (SetK.nil _ _) (by simp) (Nat.le_refl _) (KB.new (HBs.out.st7 hsf) hsr (by omega)) ((HNf.out.st7 HBf.out h01).low (by omega)) (NCells.of_blk (HBs.out.st7 hsf)), HRf.out.st7 HBf.out HR.out.size, hFf.st7 (Nat.le_refl _)⟩)
          · go_simp
            refine hK.out _ _ (show Blk (w5.drew.alloc (.cells #[.int .i64 a.kind, .int .i64 a.lo, .int .i64 a.hi, .int .i64 a.mode, .int .i64 a.ref, .slice A1 a.set.length p1, .slice A2 a.kids.length p2] 117)) w2.heap.size 117 _ from Blk.alloc (w := w5.drew) HB55.out _) (fun hHeld => ?_)
            clear hK K
            refine wpAnyH_ready (rs := [3]) (by kernel_rfl) (by simp) ?_
            refine AllReadyH.cons rfl (fun K hK => ?_) AllReadyH.nil
            go_simp
            have hRa : Rd n₀ rb tb cap s (w5.drew.alloc (.cells #[.int .i64 a.kind, .int .i64 a.lo, .int .i64 a.hi, .int .i64 a.mode, .int .i64 a.ref, .slice A1 a.set.length p1, .slice A2 a.kids.length p2] 117)) σ2 d fc fa bv2 := HR5.out.drew.alloc _
            refine (HMd.out _ hRa).mono ?_
            rintro e w6 ⟨rfl, hR6, hF6⟩
            have HBf := Lib.hid (hF6.blk hRa (show Blk (w5.drew.alloc (.cells #[.int .i64 a.kind, .int .i64 a.lo, .int .i64 a.hi, .int .i64 a.mode, .int .i64 a.ref, .slice A1 a.set.length p1, .slice A2 a.kids.length p2] 117)) w.heap.size 117 zeros from Blk.alloc (w := w5.drew) HB5.out _) (by decide) (by decide))
            have HBg := Lib.hid (hF6.blk hRa (show Blk (w5.drew.alloc (.cells #[.int .i64 a.kind, .int .i64 a.lo, .int .i64 a.hi, .int .i64 a.mode, .int .i64 a.ref, .slice A1 a.set.length p1, .slice A2 a.kids.length p2] 117)) w2.heap.size 117 _ from Blk.alloc (w := w5.drew) HB55.out _) (by decide) (by decide))
            have HBs := Lib.hid (hF6.blk hRa (Blk.new_at w5.drew w5.heap.size rfl 117 #[.int .i64 a.kind, .int .i64 a.lo, .int .i64 a.hi, .int .i64 a.mode, .int .i64 a.ref, .slice A1 a.set.length p1, .slice A2 a.kids.length p2]) (by decide) (by decide))
            have HNf := Lib.hid ((HN5.out.fr ((Fr.refl w5).drewN 1)).fr (((Fr.refl w5.drew).alloc (.cells #[.int .i64 a.kind, .int .i64 a.lo, .int .i64 a.hi, .int .i64 a.mode, .int .i64 a.ref, .slice A1 a.set.length p1, .slice A2 a.kids.length p2] 117)).trans hF6))
            have HRf := Lib.hid hR6
            have hFf := ((hF.drewN 1).alloc (.cells #[.int .i64 a.kind, .int .i64 a.lo, .int .i64 a.hi, .int .i64 a.mode, .int .i64 a.ref, .slice A1 a.set.length p1, .slice A2 a.kids.length p2] 117)).trans hF6
            have hsf : w5.heap.size ≠ w.heap.size := by have := HB5.out.lt; omega
            have hsr : w5.heap.size ≠ rb := by have := HR5.out.blk.lt; omega
            have hs6 : w.heap.size < w5.heap.size := HB5.out.lt
            refine hK.out _ _ HBg.out (fun hHeld => ?_)
            clear hK K hR6 hF6 hRa
            refine take_d 6 62 (.agg #[.int .i64 4, .int .i64 lo, .int .i64 hi, .int .i64 (md : Nat), .int .i64 0, .slice none 0 0, .slice (some ⟨w5.heap.size, 0, none⟩) 1 1]) _ rfl rfl (by kernel_rfl) (by kernel_rfl) (by kernel_rfl) (fun _ _ _ h => h) (Or.inl ⟨by rfl, fun w' hSw => ?_⟩) hHeld ?_
            · go_simp
            simp only [List.setIfInBounds_toArray, List.set_cons_zero, List.set_cons_succ]
            have hz := HBf.out.zero
            have hfz := HBf.out.frozen
            refine wpAnyH_ready (rs := [7]) (by kernel_rfl) (by simp) ?_
            refine AllReadyH.cons rfl (fun K hK => ?_) AllReadyH.nil
            go_simp
            refine hK.out _ _ (HBg.out.st7 h52) (fun hHeld => ?_)
            clear hK K
            refine take_d 8 3 (.bool true) _ rfl rfl (by kernel_rfl) (by kernel_rfl) (by kernel_rfl) (fun _ _ _ h => h) (Or.inl ⟨by rfl, fun w' hSw => ?_⟩) hHeld ?_
            · go_simp
            simp only [List.setIfInBounds_toArray, List.set_cons_zero, List.set_cons_succ]
            refine wpAnyH_done (by kernel_rfl) ?_ _
            clear hHeld hz hfz
            go_wp2
            exact ret_node rfl rfl rfl rfl (st7_blk HBf.out) (by
              rw [HPC2.out]
              exact ⟨_, _, bv2, rfl, NodeV.one (SetK.nil _ _) (by simp) (Nat.le_refl _) (KB.new (HBs.out.st7 hsf) hsr (by omega)) ((HNf.out.st7 HBf.out h01).low (by omega)) (NCells.of_blk (HBs.out.st7 hsf)), HRf.out.st7 HBf.out HR.out.size, hFf.st7 (Nat.le_refl _)⟩)
      | false =>
        by_cases k9 : a.kind = 9
        · have e9 : (a.kind == 9) = true := by simpa using k9
          have hpc : Hid (quaClose false (.ok (a, σ1)) = .error (23, σ1.pos)) := Lib.hid (by unfold quaClose quantRest; simp [hq, k9])
          clear hq HTM k9
          go_wp2_with fail
          refine HQ.out.mono ?_
          rintro e w4 ⟨rfl, hb4⟩
          have HB4 := Lib.hid (HB3.out.on hb4)
          have HB54 := Lib.hid (HB5.out.on hb4)
          have HR4 := Lib.hid (HR3.out.on hb4)
          have HN4 := Lib.hid (HN3.out.fr (Fr.of_below hb4))
          replace hF := hF.trans (Fr.of_below hb4)
          have b5 := HB54.out.seven
          clear HB3 HB5 HR3 HN3 hb4 HQ
          go_wp2_with fail
          refine (refuse_bad 23 σ1.pos HR4.out).mono ?_
          rintro e w5 ⟨rfl, hB, hF5⟩
          have hB5 := hF5.blk HR4.out HB4.out (by decide) (by decide)
          have hz := hB5.zero
          have hfz := hB5.frozen
          go_wp2
          exact ret_node rfl rfl rfl rfl (st7_blk hB5) (by
            rw [hpc.out]
            exact ⟨rfl, hB.st7 (by omega), (hF.trans hF5).st7 (Nat.le_refl _)⟩)
        · have e9 : (a.kind == 9) = false := by simpa using k9
          by_cases k7 : a.kind = 7
          · have e7 : (a.kind == 7) = true := by simpa using k7
            have hpc : Hid (quaClose false (.ok (a, σ1)) = .error (23, σ1.pos)) := Lib.hid (by unfold quaClose quantRest; simp [hq, k7])
            clear hq HTM k7 k9
            go_wp2_with fail
            refine HQ.out.mono ?_
            rintro e w4 ⟨rfl, hb4⟩
            have HB4 := Lib.hid (HB3.out.on hb4)
            have HB54 := Lib.hid (HB5.out.on hb4)
            have HR4 := Lib.hid (HR3.out.on hb4)
            have HN4 := Lib.hid (HN3.out.fr (Fr.of_below hb4))
            replace hF := hF.trans (Fr.of_below hb4)
            have b5 := HB54.out.seven
            clear HB3 HB5 HR3 HN3 hb4 HQ
            go_wp2_with fail
            refine (refuse_bad 23 σ1.pos HR4.out).mono ?_
            rintro e w5 ⟨rfl, hB, hF5⟩
            have hB5 := hF5.blk HR4.out HB4.out (by decide) (by decide)
            have hz := hB5.zero
            have hfz := hB5.frozen
            go_wp2
            exact ret_node rfl rfl rfl rfl (st7_blk hB5) (by
              rw [hpc.out]
              exact ⟨rfl, hB.st7 (by omega), (hF.trans hF5).st7 (Nat.le_refl _)⟩)
          · have e7 : (a.kind == 7) = false := by simpa using k7
            have hpc : quaClose false (.ok (a, σ1)) = (match times σ1 with | none => .error (23, σ1.pos) | some ((lo, hi), σ2) => .ok (repN lo hi (modeOf σ2.t) a, behindMode σ2)) := by show quantRest false a σ1 = _; unfold quantRest; rw [if_pos hq, if_neg (by simp [k9, k7])]; rfl
            clear k9 k7
            have HTM' := Lib.hid (HTM.out hq)
            obtain ⟨rt, hrt⟩ : ∃ rt, rt = times σ1 := ⟨_, rfl⟩
            rw [← hrt] at hpc HTM'
            have HPC := Lib.hid hpc
            clear hpc hq HTM hrt
            go_wp2_with fail
            refine HQ.out.mono ?_
            rintro e w4 ⟨rfl, hb4⟩
            have HB4 := Lib.hid (HB3.out.on hb4)
            have HB54 := Lib.hid (HB5.out.on hb4)
            have HR4 := Lib.hid (HR3.out.on hb4)
            have HN4 := Lib.hid (HN3.out.fr (Fr.of_below hb4))
            replace hF := hF.trans (Fr.of_below hb4)
            have b5 := HB54.out.seven
            clear HB3 HB5 HR3 HN3 hb4 HQ
            go_wp2_with fail
            refine (HTM'.out _ HR4.out).mono ?_
            rintro e w5 hP5
            cases rt with
            | none =>
              obtain ⟨rfl, ⟨σx, hRx⟩, hF5⟩ := hP5
              have hpc := HPC.out
              simp only at hpc
              have HB5 := Lib.hid (hF5.blk HR4.out HB4.out (by decide) (by decide))
              have HRx := Lib.hid hRx
              replace hF := hF.trans hF5
              have HPC2 := Lib.hid hpc
              clear hRx hF5 HPC hpc
              go_wp2_with fail
              refine (refuse_bad 23 σ1.pos HRx.out).mono ?_
              rintro e w6 ⟨rfl, hB, hF6⟩
              have hB6 := hF6.blk HRx.out HB5.out (by decide) (by decide)
              have hz := hB6.zero
              have hfz := hB6.frozen
              go_wp2
              exact ret_node rfl rfl rfl rfl (st7_blk hB6) (by
                rw [HPC2.out]
                exact ⟨rfl, hB.st7 (by omega), (hF.trans hF6).st7 (Nat.le_refl _)⟩)
            | some z =>
              obtain ⟨⟨lo, hi⟩, σ2⟩ := z
              obtain ⟨rfl, hR5, hF5⟩ := hP5
              have hpc := HPC.out
              simp only at hpc hR5
              have HB5 := Lib.hid (hF5.blk HR4.out HB4.out (by decide) (by decide))
              have HB55 := Lib.hid (hF5.blk HR4.out HB54.out (by decide) (by decide))
              have HR5 := Lib.hid hR5
              have HN5 := Lib.hid (HN4.out.fr hF5)
              replace hF := hF.trans hF5
              have HPC2 := Lib.hid hpc
              have HMd := Lib.hid (fun W (hW : Rd n₀ rb tb cap s W σ2 d fc fa bv2) => mode_any hW)
              obtain ⟨md, hmd⟩ : ∃ md, md = modeOf σ2.t := ⟨_, rfl⟩
              rw [← hmd] at HMd HPC2
              clear hR5 hF5 HPC hpc hmd b5 HB4 HB54 HR4 HN4 HTM'
              have h52 : w2.heap.size ≠ w.heap.size := by omega
              go_upto_region 13 with (fail)
              refine wp_region_held_drew (S := fun W => Blk W w2.heap.size 117 #[.int .i64 a.kind, .int .i64 a.lo, .int .i64 a.hi, .int .i64 a.mode, .int .i64 a.ref, .slice A1 a.set.length p1, .slice A2 a.kids.length p2]) (by kernel_rfl) HB55.out (fun hHeld => ?_)
              refine take_d 0 56 (.int .i64 lo) _ rfl rfl (by kernel_rfl) (by kernel_rfl) (by kernel_rfl) (fun _ _ _ h => h) (Or.inl ⟨by rfl, fun w' hSw => ?_⟩) hHeld ?_
              · go_simp
              simp only [List.setIfInBounds_toArray, List.set_cons_zero, List.set_cons_succ]
              refine take_d 1 57 (.int .i64 hi) _ rfl rfl (by kernel_rfl) (by kernel_rfl) (by kernel_rfl) (fun _ _ _ h => h) (Or.inl ⟨by rfl, fun w' hSw => ?_⟩) hHeld ?_
              · go_simp
              simp only [List.setIfInBounds_toArray, List.set_cons_zero, List.set_cons_succ]
              refine take_d 2 58 (.pointer (some ⟨rb, 0, none⟩)) _ rfl rfl (by kernel_rfl) (by kernel_rfl) (by kernel_rfl) (fun _ _ _ h => h) (Or.inl ⟨by rfl, fun w' hSw => ?_⟩) hHeld ?_
              · go_simp
              simp only [List.setIfInBounds_toArray, List.set_cons_zero, List.set_cons_succ]
              refine take_d 4 60 (.agg #[.int .i64 a.kind, .int .i64 a.lo, .int .i64 a.hi, .int .i64 a.mode, .int .i64 a.ref, .slice A1 a.set.length p1, .slice A2 a.kids.length p2]) _ rfl rfl (by kernel_rfl) (by kernel_rfl) (by kernel_rfl) (fun _ _ _ h => h) (Or.inl ⟨by rfl, fun w' hSw => ?_⟩) hHeld ?_
              · have hS7 := Blk.seven hSw
                clear hSw
                go_simp
              simp only [List.setIfInBounds_toArray, List.set_cons_zero, List.set_cons_succ]
              refine wpAnyH_ready (rs := [3, 5]) (by kernel_rfl) (by simp) ?_
              refine AllReadyH.cons rfl (fun K hK => ?_) (AllReadyH.cons rfl (fun K hK => ?_) AllReadyH.nil)
              · go_simp
                refine (HMd.out _ HR5.out.drew).mono ?_
                rintro e w6 ⟨rfl, hR6, hF6⟩
                have HB06 := Lib.hid (hF6.blk HR5.out.drew (show Blk w5.drew w.heap.size 117 zeros from HB5.out) (by decide) (by decide))
                have HB56 := Lib.hid (hF6.blk HR5.out.drew (show Blk w5.drew w2.heap.size 117 _ from HB55.out) (by decide) (by decide))
                refine hK.out _ _ HB56.out (fun hHeld => ?_)
                clear hK K
                refine wpAnyH_ready (rs := [5]) (by kernel_rfl) (by simp) ?_
                refine AllReadyH.cons rfl (fun K hK => ?_) AllReadyH.nil
                go_simp
                refine hK.out _ _ (HB56.out.alloc _) (fun hHeld => ?_)
                clear hK K
                have HBf := Lib.hid (HB06.out.alloc (.cells #[.int .i64 a.kind, .int .i64 a.lo, .int .i64 a.hi, .int .i64 a.mode, .int .i64 a.ref, .slice A1 a.set.length p1, .slice A2 a.kids.length p2] 117))
                have HBg := Lib.hid (HB56.out.alloc (.cells #[.int .i64 a.kind, .int .i64 a.lo, .int .i64 a.hi, .int .i64 a.mode, .int .i64 a.ref, .slice A1 a.set.length p1, .slice A2 a.kids.length p2] 117))
                have HBs := Lib.hid (Blk.new w6 117 #[.int .i64 a.kind, .int .i64 a.lo, .int .i64 a.hi, .int .i64 a.mode, .int .i64 a.ref, .slice A1 a.set.length p1, .slice A2 a.kids.length p2])
                have HNf := Lib.hid ((HN5.out.fr (((Fr.refl w5).drewN 1).trans hF6)).fr ((Fr.refl w6).alloc (.cells #[.int .i64 a.kind, .int .i64 a.lo, .int .i64 a.hi, .int .i64 a.mode, .int .i64 a.ref, .slice A1 a.set.length p1, .slice A2 a.kids.length p2] 117)))
                have HRf := Lib.hid (hR6.alloc (.cells #[.int .i64 a.kind, .int .i64 a.lo, .int .i64 a.hi, .int .i64 a.mode, .int .i64 a.ref, .slice A1 a.set.length p1, .slice A2 a.kids.length p2] 117))
                have hFf := ((hF.drewN 1).trans hF6).alloc (.cells #[.int .i64 a.kind, .int .i64 a.lo, .int .i64 a.hi, .int .i64 a.mode, .int .i64 a.ref, .slice A1 a.set.length p1, .slice A2 a.kids.length p2] 117)
                have hsf : w6.heap.size ≠ w.heap.size := by have := HB06.out.lt; omega
                have hsr : w6.heap.size ≠ rb := by have := hR6.blk.lt; omega
                have hs6 : w.heap.size < w6.heap.size := HB06.out.lt
                clear hR6 hF6
                generalize w6.alloc (.cells #[.int .i64 a.kind, .int .i64 a.lo, .int .i64 a.hi, .int .i64 a.mode, .int .i64 a.ref, .slice A1 a.set.length p1, .slice A2 a.kids.length p2] 117) = W7 at HBf HBg HBs HNf HRf hFf hHeld ⊢
                refine take_d 6 62 (.agg #[.int .i64 4, .int .i64 lo, .int .i64 hi, .int .i64 (md : Nat), .int .i64 0, .slice none 0 0, .slice (some ⟨w6.heap.size, 0, none⟩) 1 1]) _ rfl rfl (by kernel_rfl) (by kernel_rfl) (by kernel_rfl) (fun _ _ _ h => h) (Or.inl ⟨by rfl, fun w' hSw => ?_⟩) hHeld ?_
                · go_simp
                simp only [List.setIfInBounds_toArray, List.set_cons_zero, List.set_cons_succ]
                have hz := HBf.out.zero
                have hfz := HBf.out.frozen
                refine wpAnyH_ready (rs := [7]) (by kernel_rfl) (by simp) ?_
                refine AllReadyH.cons rfl (fun K hK => ?_) AllReadyH.nil
                go_simp
                refine hK.out _ _ (HBg.out.st7 h52) (fun hHeld => ?_)
                clear hK K
                refine take_d 8 3 (.bool true) _ rfl rfl (by kernel_rfl) (by kernel_rfl) (by kernel_rfl) (fun _ _ _ h => h) (Or.inl ⟨by rfl, fun w' hSw => ?_⟩) hHeld ?_
                · go_simp
                simp only [List.setIfInBounds_toArray, List.set_cons_zero, List.set_cons_succ]
                refine wpAnyH_done (by kernel_rfl) ?_ _
                clear hHeld hz hfz
                go_wp2
                exact ret_node rfl rfl rfl rfl (st7_blk HBf.out) (by
                  rw [HPC2.out]
                  exact ⟨_, _, bv2, rfl, NodeV.one (SetK.nil _ _) (by simp) (Nat.le_refl _) (KB.new (HBs.out.st7 hsf) hsr (by omega)) ((HNf.out.st7 HBf.out h01).low (by omega)) (NCells.of_blk (HBs.out.st7 hsf)), HRf.out.st7 HBf.out HR.out.size, hFf.st7 (Nat.le_refl _)⟩)
              · go_simp
                refine hK.out _ _ (show Blk (w5.drew.alloc (.cells #[.int .i64 a.kind, .int .i64 a.lo, .int .i64 a.hi, .int .i64 a.mode, .int .i64 a.ref, .slice A1 a.set.length p1, .slice A2 a.kids.length p2] 117)) w2.heap.size 117 _ from Blk.alloc (w := w5.drew) HB55.out _) (fun hHeld => ?_)
                clear hK K
                refine wpAnyH_ready (rs := [3]) (by kernel_rfl) (by simp) ?_
                refine AllReadyH.cons rfl (fun K hK => ?_) AllReadyH.nil
                go_simp
                have hRa : Rd n₀ rb tb cap s (w5.drew.alloc (.cells #[.int .i64 a.kind, .int .i64 a.lo, .int .i64 a.hi, .int .i64 a.mode, .int .i64 a.ref, .slice A1 a.set.length p1, .slice A2 a.kids.length p2] 117)) σ2 d fc fa bv2 := HR5.out.drew.alloc _
                refine (HMd.out _ hRa).mono ?_
                rintro e w6 ⟨rfl, hR6, hF6⟩
                have HBf := Lib.hid (hF6.blk hRa (show Blk (w5.drew.alloc (.cells #[.int .i64 a.kind, .int .i64 a.lo, .int .i64 a.hi, .int .i64 a.mode, .int .i64 a.ref, .slice A1 a.set.length p1, .slice A2 a.kids.length p2] 117)) w.heap.size 117 zeros from Blk.alloc (w := w5.drew) HB5.out _) (by decide) (by decide))
                have HBg := Lib.hid (hF6.blk hRa (show Blk (w5.drew.alloc (.cells #[.int .i64 a.kind, .int .i64 a.lo, .int .i64 a.hi, .int .i64 a.mode, .int .i64 a.ref, .slice A1 a.set.length p1, .slice A2 a.kids.length p2] 117)) w2.heap.size 117 _ from Blk.alloc (w := w5.drew) HB55.out _) (by decide) (by decide))
                have HBs := Lib.hid (hF6.blk hRa (Blk.new_at w5.drew w5.heap.size rfl 117 #[.int .i64 a.kind, .int .i64 a.lo, .int .i64 a.hi, .int .i64 a.mode, .int .i64 a.ref, .slice A1 a.set.length p1, .slice A2 a.kids.length p2]) (by decide) (by decide))
                have HNf := Lib.hid ((HN5.out.fr ((Fr.refl w5).drewN 1)).fr (((Fr.refl w5.drew).alloc (.cells #[.int .i64 a.kind, .int .i64 a.lo, .int .i64 a.hi, .int .i64 a.mode, .int .i64 a.ref, .slice A1 a.set.length p1, .slice A2 a.kids.length p2] 117)).trans hF6))
                have HRf := Lib.hid hR6
                have hFf := ((hF.drewN 1).alloc (.cells #[.int .i64 a.kind, .int .i64 a.lo, .int .i64 a.hi, .int .i64 a.mode, .int .i64 a.ref, .slice A1 a.set.length p1, .slice A2 a.kids.length p2] 117)).trans hF6
                have hsf : w5.heap.size ≠ w.heap.size := by have := HB5.out.lt; omega
                have hsr : w5.heap.size ≠ rb := by have := HR5.out.blk.lt; omega
                have hs6 : w.heap.size < w5.heap.size := HB5.out.lt
                refine hK.out _ _ HBg.out (fun hHeld => ?_)
                clear hK K hR6 hF6 hRa
                refine take_d 6 62 (.agg #[.int .i64 4, .int .i64 lo, .int .i64 hi, .int .i64 (md : Nat), .int .i64 0, .slice none 0 0, .slice (some ⟨w5.heap.size, 0, none⟩) 1 1]) _ rfl rfl (by kernel_rfl) (by kernel_rfl) (by kernel_rfl) (fun _ _ _ h => h) (Or.inl ⟨by rfl, fun w' hSw => ?_⟩) hHeld ?_
                · go_simp
                simp only [List.setIfInBounds_toArray, List.set_cons_zero, List.set_cons_succ]
                have hz := HBf.out.zero
                have hfz := HBf.out.frozen
                refine wpAnyH_ready (rs := [7]) (by kernel_rfl) (by simp) ?_
                refine AllReadyH.cons rfl (fun K hK => ?_) AllReadyH.nil
                go_simp
                refine hK.out _ _ (HBg.out.st7 h52) (fun hHeld => ?_)
                clear hK K
                refine take_d 8 3 (.bool true) _ rfl rfl (by kernel_rfl) (by kernel_rfl) (by kernel_rfl) (fun _ _ _ h => h) (Or.inl ⟨by rfl, fun w' hSw => ?_⟩) hHeld ?_
                · go_simp
                simp only [List.setIfInBounds_toArray, List.set_cons_zero, List.set_cons_succ]
                refine wpAnyH_done (by kernel_rfl) ?_ _
                clear hHeld hz hfz
                go_wp2
                exact ret_node rfl rfl rfl rfl (st7_blk HBf.out) (by
                  rw [HPC2.out]
                  exact ⟨_, _, bv2, rfl, NodeV.one (SetK.nil _ _) (by simp) (Nat.le_refl _) (KB.new (HBs.out.st7 hsf) hsr (by omega)) ((HNf.out.st7 HBf.out h01).low (by omega)) (NCells.of_blk (HBs.out.st7 hsf)), HRf.out.st7 HBf.out HR.out.size, hFf.st7 (Nat.le_refl _)⟩)

end Go.Proofs.YtefgobmpleoafaaGreatDoor

/- Rows of nodes that a call collects; append of a node. -/
namespace Go.Proofs.YtefgobmpleoafaaGreatDoor
open Go.RowKit
open Go.Proofs.YtefgobmpleoafaaGreatDoor.Cl (info_three)
variable {n₀ rb tb cap d : Nat} {s : List UInt8} {w w' : World} {σ σ1 : St} {fc fa : Int} {bv v : Value}

theorem info27 : (Tryz.prog.info? 117).map (fun i => (i.zero, i.size, i.bytes)) = some (some (.agg zeros), 7, 88) := by kernel_rfl

structure RowR (n₀ rb : Nat) (a w : World) (base : Nat) (v : Value) (L : List (Nd × Value × Value)) : Prop where
  own : w.ownsRow base 117 7 v L.length (rowCells L)
  nodes : ∀ x ∈ L, NodeV (fun b => KB n₀ rb a w b ∧ some b ≠ v.ownBlock) w x.1 x.2.1 x.2.2
  low : a.heap.size ≤ base
theorem RowR.nil (n₀ rb : Nat) (a w : World) (base : Nat) (h : a.heap.size ≤ base) : RowR n₀ rb a w base (.slice none 0 0) [] := ⟨World.ownsRow_nil _ _ _ _, by simp, h⟩
theorem own_block {base : Nat} {e : TypeId} {size n : Nat} {v : Value} {xs : List Value} (h : w.ownsRow base e size v n xs) {i : Nat} (hi : some i = v.ownBlock) : ∃ cs, w.heap[i]? = some (.cells cs e (0, 0)) := by
  rcases h.2 with ⟨rfl, _⟩ | ⟨g, cap, cur, rfl, _, hh, _⟩
  · simp [Value.ownBlock] at hi
  · have : i = g := by simpa [Value.ownBlock] using hi
    subst this
    exact ⟨cur, hh⟩
theorem own_fr {base : Nat} {size n : Nat} {v : Value} {xs : List Value} (h : w.ownsRow base 117 size v n xs) (hR : Rd n₀ rb tb cap s w σ d fc fa bv) (hF : Fr n₀ rb w w') : w'.ownsRow base 117 size v n xs :=
  own_keep h fun i hi => by
    obtain ⟨cs, hh⟩ := own_block h hi
    exact hF.same (okB.of_type hh (by decide) (ne_of_types hh hR.blk (by decide)))
theorem KB.fr {a : World} {b : Nat} (h : KB n₀ rb a w b) (hF : Fr n₀ rb w w') : KB n₀ rb a w' b := ⟨hF.ok h.1, h.2.imp id (fun k => k.keep (hF.same h.1))⟩
theorem RowR.fr {a : World} {base : Nat} {L : List (Nd × Value × Value)} (h : RowR n₀ rb a w base v L) (hR : Rd n₀ rb tb cap s w σ d fc fa bv) (hF : Fr n₀ rb w w') : RowR n₀ rb a w' base v L :=
  ⟨own_fr h.own hR hF, fun x hx => (h.nodes x hx).keep fun _ hb => ⟨⟨hb.1.fr hF, hb.2⟩, hF.same hb.1.1⟩, h.low⟩
theorem RowR.node {a : World} {base : Nat} {L : List (Nd × Value × Value)} (h : RowR n₀ rb a w base v L) (hR : Rd n₀ rb tb cap s w σ d fc fa bv) (k : Int) (hne : L ≠ []) (hm : L.length ≤ 1000000) :
    NodeV (KB n₀ rb a w) w (.mk k 0 0 0 0 [] (L.map (·.1))) (.slice none 0 0) v :=
  RowN.node (K := KB n₀ rb a w) ⟨h.own, fun x hx => (h.nodes x hx).keep fun _ hb => ⟨hb.1, rfl⟩⟩ (fun g hg => by
    obtain ⟨cs, hh⟩ := own_block h.own hg.symm
    exact ⟨okB.of_type hh (by decide) (ne_of_types hh hR.blk (by decide)), .inl (Nat.le_trans h.low (h.own.lt g hg).1)⟩) k 0 0 0 0 hne hm
theorem RowR.form {a : World} {base : Nat} {L : List (Nd × Value × Value)} (h : RowR n₀ rb a w base v L) : ∃ A c, v = .slice A L.length c := by
  rcases h.own.2 with ⟨hv, hn⟩ | ⟨g, c, cur, hv, _⟩
  · exact ⟨none, 0, by rw [hv, hn]⟩
  · exact ⟨_, c, hv⟩
/-- The only node of a row. -/
theorem RowR.first {a : World} {base : Nat} {x : Nd × Value × Value} (h : RowR n₀ rb a w base v [x]) :
    ∃ g c, v = .slice (some ⟨g, 0, none⟩) 1 c ∧ NodeV (KB n₀ rb a w) w x.1 x.2.1 x.2.2 ∧ ∀ j u, (ndCells x.1 x.2.1 x.2.2)[j]? = some u → w.cell? ⟨g, j, none⟩ = some u := by
  obtain ⟨g, c, hv⟩ := own_slice h.own (by simp)
  refine ⟨g, c, hv, (h.nodes x (by simp)).keep fun _ hb => ⟨hb.1, rfl⟩, fun j u hu => ?_⟩
  have hv' := hv
  subst hv
  have hc := h.own.cells (g := g) rfl j u (by
    have := rowCells_get [x] 0 j x u rfl hu
    simpa using this)
  rw [← hc]
  unfold Addr.add
  split <;> simp_all
/-- A node more. -/
theorem RowR.push {a a' : World} {base : Nat} {L : List (Nd × Value × Value)} {nd : Nd} {sv kv v' : Value} (h : RowR n₀ rb a w base v L) (hN : NodeV (KB n₀ rb a' w) w nd sv kv) (ha : a.heap.size ≤ a'.heap.size) (hv : ∀ g, v.ownBlock = some g → g < a'.heap.size)
    (hO : w'.ownsRow base 117 7 v' (L.length + 1) (rowCells L ++ ndCells nd sv kv)) (hg : w.grownBy w' v.ownBlock) (hb : v'.ownBlock = v.ownBlock ∨ v'.ownBlock = some w.heap.size) :
    RowR n₀ rb a w' base v' (L ++ [(nd, sv, kv)]) := by
  have hF : ∀ b, KB n₀ rb a w b ∧ some b ≠ v.ownBlock → (KB n₀ rb a w' b ∧ some b ≠ v'.ownBlock) ∧ w'.heap[b]? = w.heap[b]? := by
    rintro b ⟨⟨⟨h1, h2⟩, h3⟩, h4⟩
    have hs := hg.block b h1 h4
    refine ⟨⟨⟨⟨Nat.lt_of_lt_of_le h1 hg.size, h2.imp id fun ⟨k1, k2⟩ => ⟨k1, fun ⟨cs, z, hh⟩ => k2 ⟨cs, z, by rw [← hs]; exact hh⟩⟩⟩, h3.imp id fun k => k.keep hs⟩, ?_⟩, hs⟩
    rcases hb with e | e
    · rw [e]; exact h4
    · rw [e]
      intro e'
      have := Option.some.inj e'
      omega
  refine ⟨?_, fun x hx => ?_, h.low⟩
  · rw [List.length_append, rowCells_append, rowCells_one]
    exact hO
  · rcases List.mem_append.1 hx with hx | hx
    · exact (h.nodes x hx).keep hF
    · obtain rfl := List.mem_singleton.1 hx
      exact (hN.keep (K' := fun b => KB n₀ rb a w b ∧ some b ≠ v.ownBlock) fun b hb' => ⟨⟨⟨hb'.1, hb'.2.imp (fun k => Nat.le_trans ha k) id⟩, fun e => by
        rcases hb'.2 with k | ⟨_, _, k⟩
        · have := hv b e.symm
          omega
        · obtain ⟨cs, hh⟩ := own_block h.own e
          exact ne_of_types k hh (by decide) rfl⟩, rfl⟩).keep hF

theorem nd_one {nd : Nd} {A B : Option Addr} {n c m e : Nat} : ∀ u ∈ ndCells nd (.slice A n c) (.slice B m e), u.oneCell' = true := by
  intro u hu
  simp [ndCells] at hu
  rcases hu with rfl | rfl | rfl | rfl | rfl | rfl | rfl <;> rfl

theorem wpList_append_node {ops : Array Oper} {rest : List Oper} {o : Oper} {a : Act} {Q : Exit → Act → World → Prop} (w : World) (hgd : o.guard = none) (x y : Operand)
    (ho : o.op = .call { callee := .builtin .append, args := #[x, y], argTypes := #[115, 115] }) (base : Nat) (i : TypeInfo) (hi : Tryz.prog.info? 117 = some i) (hz : i.zero = some (.agg zeros)) (hsize : i.size = 7) (hby : i.bytes = 88)
    (v : Value) (L : List (Nd × Value × Value)) (hs : a.eval x = v) (hown : w.ownsRow base 117 7 v L.length (rowCells L)) (b : Nat) (nd : Nd) (A B : Option Addr) (n c m e : Nat) (hy : a.eval y = .slice (some ⟨b, 0, none⟩) 1 1)
    (hb : Blk w b 117 #[.int .i64 nd.kind, .int .i64 nd.lo, .int .i64 nd.hi, .int .i64 nd.mode, .int .i64 nd.ref, .slice A n c, .slice B m e]) (hL : L.length ≤ 1000) (hbase : base ≤ w.heap.size)
    (h : ∀ v' w', w'.ownsRow base 117 7 v' (L.length + 1) (rowCells L ++ ndCells nd (.slice A n c) (.slice B m e)) → w.grownBy w' v.ownBlock → (v'.ownBlock = v.ownBlock ∨ v'.ownBlock = some w.heap.size) → wpList Tryz.prog ops Q rest (a.put o.dst v') w') : wpList Tryz.prog ops Q (o :: rest) a w := by
  refine wpList_plain hgd fun K hK => ?_
  obtain ⟨v', w', hrun, h2, h3, _, h5⟩ := run_append_own_at (P := Tryz.prog) w base 115 o.type 117 i (.agg zeros) 7 88 Tryz.underlying115 hi hz hsize hby rfl (by decide) v L.length (rowCells L) hown ⟨b, 0, none⟩ 1 1 (ndCells nd (.slice A n c) (.slice B m e)) rfl
    (fun j u hu => by
      have := NCells.of_blk hb j u hu
      rw [← this]
      unfold Addr.add
      split <;> simp_all) nd_one (by unfold maxLen; omega) (by omega) hbase
  unfold Oper.wp execOp
  simp only [ho, resolve, invoke, builtin, Sem.run_bind, Sem.run_pure, Result.andThen_ok, List.map_toArray, List.map_cons, List.map_nil, hs, hy, hrun]
  exact hK _ _ (h v' w' h2 h3 h5)

end Go.Proofs.YtefgobmpleoafaaGreatDoor

