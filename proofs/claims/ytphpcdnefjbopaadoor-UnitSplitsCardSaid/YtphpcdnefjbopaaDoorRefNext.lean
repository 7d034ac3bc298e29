/- The reference's Next, as a contract: the first unit of what stands at a place. -/
import Derived.Test.YtphpcdnefjbopaaDoorRefM
import Derived.Test.YtphpcdnefjbopaaDoorBack
import Derived.Deep.RegionHeld3
import Derived.Deep.QuietTactic
import Derived.BigQuiet
import Derived.IntWalk
namespace Go.Proofs.YtphpcdnefjbopaaDoor
open Go.RowKit Go.Shelf

theorem char_is (n : Int) (b : Bool) (h : charB n = b) (w : World) : Calls Tryd.prog 20 #[.int .i64 n] w fun e w' => e = .returned (.bool b) ∧ w' = w :=
  (char_any n w).mono fun _ _ ⟨h1, h2⟩ => ⟨by rw [h1, h], h2.symm⟩
theorem bytes_int (n : Int) (h : charB n = true) (w : World) : Calls Tryd.prog 19 #[.int .i64 n] w fun e w' => ∃ v, e = .returned v ∧ Bytes w'.heap.size w' v (toB (encN n.toNat)) ∧ Below w.heap.size w w' := by
  have hn : ((n.toNat : Nat) : Int) = n := by simp [charB] at h; omega
  have := bytes_any n.toNat (isCh_of h) w
  rwa [hn] at this
theorem at_take (t : List UInt8) {j n : Nat} (h : j < n) : at_ (t.take n) j = at_ t j := by
  simp [at_, List.getD_eq_getElem?_getD, h]
theorem toB_inj {a b : List Nat} (ha : ∀ x ∈ a, x < 256) (hb : ∀ x ∈ b, x < 256) (h : toB a = toB b) : a = b := by
  have h2 := congrArg (List.map UInt8.toNat) h
  simp only [toB, List.map_map] at h2
  have e : ∀ l : List Nat, (∀ x ∈ l, x < 256) → l.map (UInt8.toNat ∘ Nat.toUInt8) = l := by
    intro l hl
    conv => rhs; rw [← List.map_id l]
    apply List.map_congr_left
    intro x hx
    have := hl x hx
    simp
    omega
  rw [e a ha, e b hb] at h2
  exact h2
theorem tk_byte (t : List UInt8) (k : Nat) : ∀ x ∈ tk t k, x < 256 := by
  intro x hx
  obtain ⟨i, _, rfl⟩ := List.mem_map.1 hx
  exact at_lt t i
/-- Equal as bytes, or as numbers. -/
theorem enc_iff (c : Nat) (t : List UInt8) (k : Nat) (hc : isCh c) : k ≤ t.length → (toB (encN c) = t.take k ↔ encN c = tk t k) := fun hk => by
  rw [take_of_tk hk rfl]
  exact ⟨fun h => toB_inj (encN_byte c hc.1) (tk_byte t k) h, fun h => by rw [h]⟩
/-- An operation of a region that draws its order, taken first: its slot is named. -/
theorem take_d {P : Program} {md : Region.Mode} {ops : Array Oper} {Q : Exit → Act → World → Prop} {S : World → Prop} {fuel : Nat} {listed : Array Bool} {a : Act} {w : World} (i d : Nat) (v : Value) (oi : Oper) (hi : ops[i]? = some oi) (hd : oi.dst = some d)
    (hs : Region.noSelect ops = true) (hf : Region.free md ops listed i = true) (hr : (Region.ready md ops listed).contains i = true)
    (hQ : ∀ c a w, Q (.panic c) (a.put oi.dst v) w → Q (.panic c) a w) (hy : YieldsIf P ops S oi v a) (hS : S w)
    (h : wpAnyH P md ops Q S fuel (listed.setIfInBounds i true) { tmps := a.tmps.setIfInBounds d v, defers := a.defers } w) : wpAnyH P md ops Q S (fuel + 1) listed a w :=
  wpAnyH_take hi hs hf hr hQ hy hS (by rw [hd]; exact h)
theorem below_drewN' (w : World) (n : Nat) : Below w.heap.size w (w.drewN n) := ⟨rfl, rfl, rfl, Nat.le_refl _, fun _ _ => rfl⟩

set_option maxHeartbeats 2000000 in
set_option maxRecDepth 100000 in
theorem refNext_in (s : List UInt8) (b off cap len k : Nat) (hl : len = s.length) (hk : k < len) (hcap : len ≤ cap) (hmax : len ≤ 1000000) (w : World) (hp : Txt w b off s) :
    Calls Tryd.prog 11 #[.slice (some ⟨b, off, none⟩) len cap, .int .i64 k] w fun e w' =>
      e = .returned (.tuple #[.int .i64 (nx (s.drop k)).1, .int .i64 (nx (s.drop k)).2]) ∧ Below w.heap.size w w' := by
  have hne : s.drop k ≠ [] := fun e => by have := congrArg List.length e; rw [List.length_drop, List.length_nil] at this; omega
  obtain ⟨t, ht⟩ : ∃ t, t = s.drop k := ⟨_, rfl⟩
  have htl : t.length = len - k := by rw [ht, List.length_drop, hl]
  have hcell : ∀ j, j < len - k → w.cell? ⟨b, off + (k + j), none⟩ = some (.int .u8 ((at_ t j : Nat) : Int)) := by
    intro j hj
    rw [ht, at_drop]
    exact hp (k + j) (by omega)
  have c0 := hcell 0 (by omega)
  rw [Nat.add_zero] at c0
  have hblt : b < w.heap.size := block_lt_of_cell c0
  rw [← ht] at hne ⊢
  have b0 := at_lt t 0
  obtain ⟨x0, hx0⟩ : ∃ x0, x0 = at_ t 0 := ⟨_, rfl⟩
  obtain ⟨g, hg⟩ : ∃ g, g = guessN (x0 : Nat) := ⟨_, rfl⟩
  obtain ⟨m, hm⟩ : ∃ m, m = guessM (x0 : Nat) := ⟨_, rfl⟩
  have hgr := guess_range x0
  rw [← hg, ← hm] at hgr
  obtain ⟨hg0, hg1, hm3⟩ := hgr
  rw [← hx0] at c0 b0
  have hstray : ¬ refOK t → nx t = (1114112 + x0, 1) := by rw [hx0]; exact nx_not_ref t hne
  have hgu := guess_any (x0 : Int) (by omega) (by omega)
  rw [← hg, ← hm] at hgu
  have HG := Lib.hid hgu
  have HX := Lib.hid hx0
  have HGN := Lib.hid hg
  have HM := Lib.hid hm
  have HC := Lib.hid hcell
  have HS := Lib.hid hstray
  have HT := Lib.hid ht
  have HTL := Lib.hid htl
  have HL := Lib.hid hl
  clear hgu hx0 hg hm hcell hstray ht htl hl hp
  by_cases h1 : 0 ≤ g
  · by_cases h2 : k + m < len
    · go_enter Tryd.func11, Tryd.ntmps11
      go_wp2_with fail
      refine (HG.out _).mono ?_
      rintro e wx ⟨rfl, rfl⟩
      go_wp2_with fail
      go_loop [6, 8] (fun n i => ∃ j : Nat, 1 ≤ j ∧ j ≤ m + 1 ∧ i = .int .i64 j ∧ n = .int .i64 (acc t (j - 1))) (fun _ i => m + 1 - (intOf i).toNat)
      case atStart => exact ⟨1, Nat.le_refl _, by omega, rfl, by rw [HGN.out, HX.out]; rfl⟩
      case round =>
        obtain ⟨j, hj1, hjm, rfl, rfl⟩ := hrel
        by_cases hlt : j ≤ m
        · have hcj := HC.out j (by omega)
          have hbj := at_lt t j
          have hacc := acc_range t (j - 1) (by omega)
          obtain ⟨ha0, ha1⟩ := hacc
          have hnext : acc t (j + 1 - 1) = acc t (j - 1) * 64 + (at_ t j : Nat) - 128 := by
            obtain ⟨i, rfl⟩ : ∃ i, j = i + 1 := ⟨j - 1, by omega⟩
            rfl
          have HNX := Lib.hid hnext
          obtain ⟨a, ha⟩ : ∃ a, a = acc t (j - 1) := ⟨_, rfl⟩
          obtain ⟨x, hx⟩ : ∃ x, x = at_ t j := ⟨_, rfl⟩
          rw [← ha] at ha0 ha1 HNX ⊢
          rw [← hx] at hcj hbj HNX
          clear ha hx hnext
          have hki : (k : Int) + (j : Int) < (len : Int) := by omega
          go_wp2
          go_round
          case rel => exact ⟨j + 1, by omega, by omega, by go_num, by rw [HNX.out]⟩
          case measure => simp [intOf]; omega
        · obtain rfl : j = m + 1 := by omega
          have hacc := acc_range t m (by omega)
          obtain ⟨ha0, ha1⟩ := hacc
          rw [Nat.add_sub_cancel]
          obtain ⟨A, hA⟩ : ∃ A, A = acc t m := ⟨_, rfl⟩
          rw [← hA] at ha0 ha1 ⊢
          have HA := Lib.hid hA
          clear hA
          cases hch : charB A with
          | false =>
            have hnr : ¬ refOK t := by
              rintro ⟨_, _, q, _⟩
              rw [← HX.out, ← HM.out, ← HA.out, hch] at q
              cases q
            have HN := Lib.hid (HS.out hnr)
            clear hnr
            go_wp2_with fail
            go_quiet ((go_at_call 20; exact Calls.quiet_of_same (char_is A false hch _)))
            go_wp2
            go_ret2
            rw [HN.out]
            exact ⟨ret_int_int (by simp) (by simp), below_drewN' _ _⟩
          | true =>
            have hsl : Bytes w.heap.size w (.slice (some ⟨b, off + k, none⟩) (m + 1) (cap - k)) (t.take (m + 1)) := by
              have e : (t.take (m + 1)).length = m + 1 := by rw [List.length_take, HTL.out]; omega
              refine ⟨some ⟨b, off + k, none⟩, cap - k, by rw [e], by rw [e]; omega, fun _ => ⟨b, off + k, rfl, hblt, fun j hj => ?_⟩⟩
              rw [e] at hj
              rw [at_take t hj, Nat.add_assoc]
              exact HC.out j (by omega)
            have hiff := enc_iff A.toNat t (m + 1) (isCh_of hch)
            obtain ⟨Y, hY⟩ : ∃ Y, Y = t.take (m + 1) := ⟨_, rfl⟩
            obtain ⟨X, hX⟩ : ∃ X, X = toB (encN A.toNat) := ⟨_, rfl⟩
            have hby : ∀ W, Calls Tryd.prog 19 #[.int .i64 A] W fun e w' => ∃ v, e = .returned v ∧ Bytes w'.heap.size w' v X ∧ Below W.heap.size W w' := by
              intro W; rw [hX]; exact bytes_int A hch W
            rw [← hY] at hsl hiff
            rw [← hX] at hiff
            have HBY := Lib.hid hby
            have HSL := Lib.hid hsl
            have HIF := Lib.hid hiff
            clear hby hsl hiff hY hX
            have hkm : (k : Int) + (m : Int) + 1 ≤ (len : Int) := by omega
            have k1 : (convert 22 9 (.slice (some ⟨b, off + k, none⟩) (m + 1) (cap - k))).run Tryd.prog w.drew = .ok (.string ⟨Y.toArray⟩) w.drew := run_string_bytes (HSL.out.below (below_drewN' w 1))
            by_cases hXY : X = Y
            · have hbb : (X == Y) = true := by simp [hXY]
              have hro : refOK t := ⟨by rw [← HX.out, ← HGN.out]; exact h1, by rw [← HX.out, ← HM.out, HTL.out]; omega, by rw [← HX.out, ← HM.out, ← HA.out]; exact hch, by
                rw [← HX.out, ← HM.out, ← HA.out]; exact (HIF.out (by rw [HTL.out]; omega)).1 hXY⟩
              have hnr := nx_of_ref t hro
              rw [← HX.out, ← HM.out, ← HA.out] at hnr
              have hAn : ((A.toNat : Nat) : Int) = A := by simp [charB] at hch; omega
              have HAN := Lib.hid hAn
              have HNR := Lib.hid hnr
              clear hXY hro hAn hnr
              go_wp2_with fail
              refine wp_region_held_drew (S := fun w' => (convert 22 9 (.slice (some ⟨b, off + k, none⟩) (m + 1) (cap - k))).run Tryd.prog w' = .ok (.string ⟨Y.toArray⟩) w') (by kernel_rfl) k1 (fun hHeld => ?_)
              refine take_d 0 44 (.int .i64 A) _ rfl rfl (by kernel_rfl) (by kernel_rfl) (by kernel_rfl) (fun _ _ _ h => h) (Or.inl ⟨by rfl, fun w' hSw => ?_⟩) hHeld ?_
              · go_simp
              simp only [List.setIfInBounds_toArray, List.set_cons_zero, List.set_cons_succ]
              refine wpAnyH_ready (rs := [1]) (by kernel_rfl) (by simp) ?_
              refine AllReadyH.cons rfl (fun K hK => ?_) AllReadyH.nil
              go_simp
              refine (char_is A true hch _).mono ?_
              rintro e w' ⟨rfl, rfl⟩
              refine hK.out _ _ k1 (fun hHeld => ?_)
              clear hK K
              refine take_d 2 46 (.bool true) _ rfl rfl (by kernel_rfl) (by kernel_rfl) (by kernel_rfl) (fun _ _ _ h => h) (Or.inl ⟨by rfl, fun w' hSw => ?_⟩) hHeld ?_
              · go_simp
              simp only [List.setIfInBounds_toArray, List.set_cons_zero, List.set_cons_succ]
              refine take_d 3 47 (.int .i64 A) _ rfl rfl (by kernel_rfl) (by kernel_rfl) (by kernel_rfl) (fun _ _ _ h => h) (Or.inl ⟨by rfl, fun w' hSw => ?_⟩) hHeld ?_
              · go_simp
              simp only [List.setIfInBounds_toArray, List.set_cons_zero, List.set_cons_succ]
              refine take_d 6 50 (.slice (some ⟨b, off, none⟩) len cap) _ rfl rfl (by kernel_rfl) (by kernel_rfl) (by kernel_rfl) (fun _ _ _ h => h) (Or.inl ⟨by rfl, fun w' hSw => ?_⟩) hHeld ?_
              · go_simp
              simp only [List.setIfInBounds_toArray, List.set_cons_zero, List.set_cons_succ]
              refine take_d 7 51 (.int .i64 k) _ rfl rfl (by kernel_rfl) (by kernel_rfl) (by kernel_rfl) (fun _ _ _ h => h) (Or.inl ⟨by rfl, fun w' hSw => ?_⟩) hHeld ?_
              · go_simp
              simp only [List.setIfInBounds_toArray, List.set_cons_zero, List.set_cons_succ]
              refine take_d 8 52 (.int .i64 k) _ rfl rfl (by kernel_rfl) (by kernel_rfl) (by kernel_rfl) (fun _ _ _ h => h) (Or.inl ⟨by rfl, fun w' hSw => ?_⟩) hHeld ?_
              · go_simp
              simp only [List.setIfInBounds_toArray, List.set_cons_zero, List.set_cons_succ]
              refine take_d 9 53 (.int .i64 m) _ rfl rfl (by kernel_rfl) (by kernel_rfl) (by kernel_rfl) (fun _ _ _ h => h) (Or.inl ⟨by rfl, fun w' hSw => ?_⟩) hHeld ?_
              · go_simp
              simp only [List.setIfInBounds_toArray, List.set_cons_zero, List.set_cons_succ]
              have q0 : (0 : Int) ≤ (k : Int) + (m : Int) + 1 := by omega
              have q1 : ((k : Int) + (m : Int) + 1).toNat = k + m + 1 := by omega
              have q2 : k + m + 1 - k = m + 1 := by omega
              have q3 : (k : Int) + (m : Int) + 1 ≤ (cap : Int) := by omega
              have q4 : k ≤ k + m + 1 := by omega
              have q5 : ¬ cap = k := by omega
              have hw1 : IntKind.i64.wrap ((k : Int) + (m : Int)) = (k : Int) + (m : Int) := IntWalk.i64_in _ (by omega)
              have hw2 : IntKind.i64.wrap ((k : Int) + (m : Int) + 1) = (k : Int) + (m : Int) + 1 := IntWalk.i64_in _ (by omega)
              clear hlt hj1 hjm hk hcap hmax hkm h1 h2 hg0 hg1 ha0 ha1 hne
              refine take_d 10 54 (.int .i64 ((k : Int) + (m : Int))) _ rfl rfl (by kernel_rfl) (by kernel_rfl) (by kernel_rfl) (fun _ _ _ h => h) (Or.inl ⟨by rfl, fun w' hSw => ?_⟩) hHeld ?_
              · go_simp
              simp only [List.setIfInBounds_toArray, List.set_cons_zero, List.set_cons_succ]
              refine take_d 11 55 (.int .i64 ((k : Int) + (m : Int) + 1)) _ rfl rfl (by kernel_rfl) (by kernel_rfl) (by kernel_rfl) (fun _ _ _ h => h) (Or.inl ⟨by rfl, fun w' hSw => ?_⟩) hHeld ?_
              · go_simp
              simp only [List.setIfInBounds_toArray, List.set_cons_zero, List.set_cons_succ]
              refine take_d 12 56 (.slice (some ⟨b, off + k, none⟩) (m + 1) (cap - k)) _ rfl rfl (by kernel_rfl) (by kernel_rfl) (by kernel_rfl) (fun _ _ _ h => h) (Or.inl ⟨by rfl, fun w' hSw => ?_⟩) hHeld ?_
              · go_simp
              simp only [List.setIfInBounds_toArray, List.set_cons_zero, List.set_cons_succ]
              refine take_d 13 57 (.string ⟨Y.toArray⟩) _ rfl rfl (by kernel_rfl) (by kernel_rfl) (by kernel_rfl) (fun _ _ _ h => h) (Or.inl ⟨by rfl, fun w' hSw => ?_⟩) hHeld ?_
              · go_simp
              simp only [List.setIfInBounds_toArray, List.set_cons_zero, List.set_cons_succ]
              refine wpAnyH_ready (rs := [4]) (by kernel_rfl) (by simp) ?_
              refine AllReadyH.cons rfl (fun K hK => ?_) AllReadyH.nil
              go_simp
              refine (HBY.out _).mono ?_
              rintro e w2 ⟨v2, rfl, m2, hB2⟩
              have hB := (below_drewN' w 1).trans hB2
              have k2 := run_string_bytes m2
              have k3 := run_string_bytes (HSL.out.below hB)
              refine hK.out _ _ k3 (fun hHeld => ?_)
              clear hK K
              refine wpAnyH_ready (rs := [5]) (by kernel_rfl) (by simp) ?_
              refine AllReadyH.cons rfl (fun K hK => ?_) AllReadyH.nil
              go_simp
              refine hK.out _ _ k3 (fun hHeld => ?_)
              clear hK K
              refine take_d 14 58 (.bool true) _ rfl rfl (by kernel_rfl) (by kernel_rfl) (by kernel_rfl) (fun _ _ _ h => h) (Or.inl ⟨by rfl, fun w' hSw => ?_⟩) hHeld ?_
              · go_simp
              simp only [List.setIfInBounds_toArray, List.set_cons_zero, List.set_cons_succ]
              refine take_d 15 59 (.bool true) _ rfl rfl (by kernel_rfl) (by kernel_rfl) (by kernel_rfl) (fun _ _ _ h => h) (Or.inl ⟨by rfl, fun w' hSw => ?_⟩) hHeld ?_
              · go_simp
              simp only [List.setIfInBounds_toArray, List.set_cons_zero, List.set_cons_succ]
              refine wpAnyH_done (by kernel_rfl) ?_ _
              clear hw1 hw2 q0 q1 q2 q3 q4 q5 k1 k2 k3 hHeld hbb
              go_wp2
              go_ret2
              rw [HNR.out]
              exact ⟨ret_int_int HAN.out.symm (by simp), hB⟩
            · have hbb : (X == Y) = false := by simp [hXY]
              have hro : ¬ refOK t := by
                rintro ⟨_, _, _, q⟩
                rw [← HX.out, ← HM.out, ← HA.out] at q
                exact hXY ((HIF.out (by rw [HTL.out]; omega)).2 q)
              have HNR := Lib.hid (HS.out hro)
              clear hXY hro
              go_wp2_with fail
              refine wp_region_held_drew (S := fun w' => (convert 22 9 (.slice (some ⟨b, off + k, none⟩) (m + 1) (cap - k))).run Tryd.prog w' = .ok (.string ⟨Y.toArray⟩) w') (by kernel_rfl) k1 (fun hHeld => ?_)
              refine take_d 0 44 (.int .i64 A) _ rfl rfl (by kernel_rfl) (by kernel_rfl) (by kernel_rfl) (fun _ _ _ h => h) (Or.inl ⟨by rfl, fun w' hSw => ?_⟩) hHeld ?_
              · go_simp
              simp only [List.setIfInBounds_toArray, List.set_cons_zero, List.set_cons_succ]
              refine wpAnyH_ready (rs := [1]) (by kernel_rfl) (by simp) ?_
              refine AllReadyH.cons rfl (fun K hK => ?_) AllReadyH.nil
              go_simp
              refine (char_is A true hch _).mono ?_
              rintro e w' ⟨rfl, rfl⟩
              refine hK.out _ _ k1 (fun hHeld => ?_)
              clear hK K
              refine take_d 2 46 (.bool true) _ rfl rfl (by kernel_rfl) (by kernel_rfl) (by kernel_rfl) (fun _ _ _ h => h) (Or.inl ⟨by rfl, fun w' hSw => ?_⟩) hHeld ?_
              · go_simp
              simp only [List.setIfInBounds_toArray, List.set_cons_zero, List.set_cons_succ]
              refine take_d 3 47 (.int .i64 A) _ rfl rfl (by kernel_rfl) (by kernel_rfl) (by kernel_rfl) (fun _ _ _ h => h) (Or.inl ⟨by rfl, fun w' hSw => ?_⟩) hHeld ?_
              · go_simp
              simp only [List.setIfInBounds_toArray, List.set_cons_zero, List.set_cons_succ]
              refine take_d 6 50 (.slice (some ⟨b, off, none⟩) len cap) _ rfl rfl (by kernel_rfl) (by kernel_rfl) (by kernel_rfl) (fun _ _ _ h => h) (Or.inl ⟨by rfl, fun w' hSw => ?_⟩) hHeld ?_
              · go_simp
              simp only [List.setIfInBounds_toArray, List.set_cons_zero, List.set_cons_succ]
              refine take_d 7 51 (.int .i64 k) _ rfl rfl (by kernel_rfl) (by kernel_rfl) (by kernel_rfl) (fun _ _ _ h => h) (Or.inl ⟨by rfl, fun w' hSw => ?_⟩) hHeld ?_
              · go_simp
              simp only [List.setIfInBounds_toArray, List.set_cons_zero, List.set_cons_succ]
              refine take_d 8 52 (.int .i64 k) _ rfl rfl (by kernel_rfl) (by kernel_rfl) (by kernel_rfl) (fun _ _ _ h => h) (Or.inl ⟨by rfl, fun w' hSw => ?_⟩) hHeld ?_
              · go_simp
              simp only [List.setIfInBounds_toArray, List.set_cons_zero, List.set_cons_succ]
              refine take_d 9 53 (.int .i64 m) _ rfl rfl (by kernel_rfl) (by kernel_rfl) (by kernel_rfl) (fun _ _ _ h => h) (Or.inl ⟨by rfl, fun w' hSw => ?_⟩) hHeld ?_
              · go_simp
              simp only [List.setIfInBounds_toArray, List.set_cons_zero, List.set_cons_succ]
              have q0 : (0 : Int) ≤ (k : Int) + (m : Int) + 1 := by omega
              have q1 : ((k : Int) + (m : Int) + 1).toNat = k + m + 1 := by omega
              have q2 : k + m + 1 - k = m + 1 := by omega
              have q3 : (k : Int) + (m : Int) + 1 ≤ (cap : Int) := by omega
              have q4 : k ≤ k + m + 1 := by omega
              have q5 : ¬ cap = k := by omega
              have hw1 : IntKind.i64.wrap ((k : Int) + (m : Int)) = (k : Int) + (m : Int) := IntWalk.i64_in _ (by omega)
              have hw2 : IntKind.i64.wrap ((k : Int) + (m : Int) + 1) = (k : Int) + (m : Int) + 1 := IntWalk.i64_in _ (by omega)
              clear hlt hj1 hjm hk hcap hmax hkm h1 h2 hg0 hg1 ha0 ha1 hne
              refine take_d 10 54 (.int .i64 ((k : Int) + (m : Int))) _ rfl rfl (by kernel_rfl) (by kernel_rfl) (by kernel_rfl) (fun _ _ _ h => h) (Or.inl ⟨by rfl, fun w' hSw => ?_⟩) hHeld ?_
              · go_simp
              simp only [List.setIfInBounds_toArray, List.set_cons_zero, List.set_cons_succ]
              refine take_d 11 55 (.int .i64 ((k : Int) + (m : Int) + 1)) _ rfl rfl (by kernel_rfl) (by kernel_rfl) (by kernel_rfl) (fun _ _ _ h => h) (Or.inl ⟨by rfl, fun w' hSw => ?_⟩) hHeld ?_
              · go_simp
              simp only [List.setIfInBounds_toArray, List.set_cons_zero, List.set_cons_succ]
              refine take_d 12 56 (.slice (some ⟨b, off + k, none⟩) (m + 1) (cap - k)) _ rfl rfl (by kernel_rfl) (by kernel_rfl) (by kernel_rfl) (fun _ _ _ h => h) (Or.inl ⟨by rfl, fun w' hSw => ?_⟩) hHeld ?_
              · go_simp
              simp only [List.setIfInBounds_toArray, List.set_cons_zero, List.set_cons_succ]
              refine take_d 13 57 (.string ⟨Y.toArray⟩) _ rfl rfl (by kernel_rfl) (by kernel_rfl) (by kernel_rfl) (fun _ _ _ h => h) (Or.inl ⟨by rfl, fun w' hSw => ?_⟩) hHeld ?_
              · go_simp
              simp only [List.setIfInBounds_toArray, List.set_cons_zero, List.set_cons_succ]
              refine wpAnyH_ready (rs := [4]) (by kernel_rfl) (by simp) ?_
              refine AllReadyH.cons rfl (fun K hK => ?_) AllReadyH.nil
              go_simp
              refine (HBY.out _).mono ?_
              rintro e w2 ⟨v2, rfl, m2, hB2⟩
              have hB := (below_drewN' w 1).trans hB2
              have k2 := run_string_bytes m2
              have k3 := run_string_bytes (HSL.out.below hB)
              refine hK.out _ _ k3 (fun hHeld => ?_)
              clear hK K
              refine wpAnyH_ready (rs := [5]) (by kernel_rfl) (by simp) ?_
              refine AllReadyH.cons rfl (fun K hK => ?_) AllReadyH.nil
              go_simp
              refine hK.out _ _ k3 (fun hHeld => ?_)
              clear hK K
              refine take_d 14 58 (.bool false) _ rfl rfl (by kernel_rfl) (by kernel_rfl) (by kernel_rfl) (fun _ _ _ h => h) (Or.inl ⟨by rfl, fun w' hSw => ?_⟩) hHeld ?_
              · go_simp
              simp only [List.setIfInBounds_toArray, List.set_cons_zero, List.set_cons_succ]
              refine take_d 15 59 (.bool false) _ rfl rfl (by kernel_rfl) (by kernel_rfl) (by kernel_rfl) (fun _ _ _ h => h) (Or.inl ⟨by rfl, fun w' hSw => ?_⟩) hHeld ?_
              · go_simp
              simp only [List.setIfInBounds_toArray, List.set_cons_zero, List.set_cons_succ]
              refine wpAnyH_done (by kernel_rfl) ?_ _
              clear hw1 hw2 q0 q1 q2 q3 q4 q5 k1 k2 k3 hHeld hbb
              have c2 := (hB.cell (p := ⟨b, off + k, none⟩) hblt).trans c0
              go_wp2
              go_ret2
              rw [HNR.out]
              exact ⟨ret_int_int (by simp) (by simp), hB⟩
    · have h2' : ¬ (k : Int) + (m : Int) < (len : Int) := by omega
      have hnr : ¬ refOK t := by
        rintro ⟨_, q, _⟩
        rw [← HX.out, ← HM.out, HTL.out] at q
        omega
      have HN := Lib.hid (HS.out hnr)
      go_enter Tryd.func11, Tryd.ntmps11
      go_wp2_with fail
      refine (HG.out _).mono ?_
      rintro e wx ⟨rfl, rfl⟩
      go_wp2
      go_ret2
      rw [HN.out]
      exact ⟨ret_int_int (by simp) (by simp), Below.refl _ _⟩
  · have hnr : ¬ refOK t := by
      rintro ⟨q, _⟩
      rw [← HX.out, ← HGN.out] at q
      exact h1 q
    have HN := Lib.hid (HS.out hnr)
    go_enter Tryd.func11, Tryd.ntmps11
    go_wp2_with fail
    refine (HG.out _).mono ?_
    rintro e wx ⟨rfl, rfl⟩
    go_wp2
    go_ret2
    rw [HN.out]
    exact ⟨ret_int_int (by simp) (by simp), Below.refl _ _⟩

end Go.Proofs.YtphpcdnefjbopaaDoor
