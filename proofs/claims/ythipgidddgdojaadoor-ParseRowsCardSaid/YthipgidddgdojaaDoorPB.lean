/- The reader's small steps, as contracts: take, ended, plain, sign; digits and signs. -/
import Derived.Test.YthipgidddgdojaaDoorPA
namespace Go.Proofs.YthipgidddgdojaaDoor
open Go.RowKit
variable {n₀ rb tb cap d : Nat} {s : List UInt8} {w w' : World} {σ : St} {fc fa : Int} {bv : Value}

theorem Rd.step' (h : Rd n₀ rb tb cap s w σ d fc fa bv) {n : Nat} (hn : n ≤ σ.t.length) : Rd n₀ rb tb cap s (w.setCell ⟨rb, 1, none⟩ (.int .i64 ((σ.pos : Int) + (n : Int)))) (σ.adv n) d fc fa bv := by
  have := h.step hn
  rwa [Int.natCast_add] at this
theorem Rd.below_set (hR : Rd n₀ rb tb cap s w σ d fc fa bv) {a : World} (h : Fr n₀ rb a w) (j : Nat) (u : Value) : Fr n₀ rb a (w.setCell ⟨rb, j, none⟩ u) := h.set_ hR.low (.inr rfl) u

theorem bdrew (w : World) (n : Nat) : Below w.heap.size w (w.drewN n) := ⟨rfl, rfl, rfl, Nat.le_refl _, fun _ _ => rfl⟩
theorem Rd.drew (hR : Rd n₀ rb tb cap s w σ d fc fa bv) : Rd n₀ rb tb cap s w.drew σ d fc fa bv := hR.drewN 1

theorem take_no (ws : List UInt8) (h : pre ws σ.t = false) (hR : Rd n₀ rb tb cap s w σ d fc fa bv) :
    Calls Tryd.prog 19 #[.pointer (some ⟨rb, 0, none⟩), .string ⟨ws.toArray⟩] w fun e w' => e = .returned (.bool false) ∧ Below w.heap.size w w' := by
  have hs := sees_any ws hR
  rw [h] at hs
  have H := Lib.hid hs
  clear hs hR h
  go_enter Tryd.func19, Tryd.ntmps19
  go_wp2_with fail
  refine H.out.mono ?_
  rintro e w1 ⟨rfl, hb⟩
  go_wp2
  go_ret
  exact ⟨rfl, hb⟩
theorem take_yes (ws : List UInt8) (h : pre ws σ.t = true) (hR : Rd n₀ rb tb cap s w σ d fc fa bv) :
    Calls Tryd.prog 19 #[.pointer (some ⟨rb, 0, none⟩), .string ⟨ws.toArray⟩] w fun e w' => e = .returned (.bool true) ∧ Rd n₀ rb tb cap s w' (σ.adv ws.length) d fc fa bv ∧ Fr n₀ rb w w' := by
  have hs := sees_any ws hR
  rw [h] at hs
  have H := Lib.hid hs
  have hl := pre_len h
  have hp := hR.pos
  have ht := hR.tl
  have hm := hR.len.2
  have HR := Lib.hid hR
  have hz : (ByteArray.mk ws.toArray).size = ws.length := rfl
  clear hs hR h
  go_enter Tryd.func19, Tryd.ntmps19
  go_wp2_with fail
  refine H.out.mono ?_
  rintro e w1 ⟨rfl, hb⟩
  have hR1 := HR.out.on hb
  have c1 := hR1.c1
  have f1 := hR1.fz 1
  have HR1 := Lib.hid hR1
  clear hR1
  go_wp2
  go_ret
  exact ⟨rfl, HR1.out.step' hl, HR1.out.below_set (Fr.of_below hb) _ _⟩

theorem ended_any (hR : Rd n₀ rb tb cap s w σ d fc fa bv) :
    Calls Tryd.prog 21 #[.pointer (some ⟨rb, 0, none⟩)] w fun e w' => e = .returned (.bool σ.t.isEmpty) ∧ Below w.heap.size w w' := by
  have c0 := hR.c0
  have c1 := hR.c1
  have hp := hR.pos
  have ht := hR.tl
  clear hR
  by_cases h : σ.pos < s.length
  · have he : σ.t.isEmpty = false := by cases e : σ.t <;> simp_all <;> omega
    have HE := Lib.hid he
    have h' : ¬ s.length ≤ σ.pos := by omega
    clear he
    go_enter Tryd.func21, Tryd.ntmps21
    go_wp2
    go_quiet (fail)
    go_wp2
    go_ret
    exact ⟨by rw [HE.out]; rfl, bdrew _ _⟩
  · have he : σ.t.isEmpty = true := by cases e : σ.t <;> simp_all <;> omega
    have HE := Lib.hid he
    have h' : s.length ≤ σ.pos := by omega
    clear he
    go_enter Tryd.func21, Tryd.ntmps21
    go_wp2
    go_quiet (fail)
    go_wp2
    go_ret
    exact ⟨by rw [HE.out]; rfl, bdrew _ _⟩

theorem plain_any (hn : σ.t ≠ []) (hR : Rd n₀ rb tb cap s w σ d fc fa bv) :
    Calls Tryd.prog 38 #[.pointer (some ⟨rb, 0, none⟩)] w fun e w' => e = .returned (.int .i64 ((nx σ.t).1 : Nat)) ∧ Rd n₀ rb tb cap s w' (σ.adv (nx σ.t).2) d fc fa bv ∧ Fr n₀ rb w w' := by
  have c0 := hR.c0
  have c1 := hR.c1
  have hlt := hR.blk.lt
  have hp := hR.pos
  have ht := hR.tl
  have hm := hR.len
  have hne := len_ne hn
  have hle := nx_le σ.t hn
  have hnx := next_in s tb 0 cap s.length σ.pos rfl (by omega) hm.1 w.drew hR.tabs.2 hR.txt
  rw [← hR.suf] at hnx
  obtain ⟨u, hu⟩ : ∃ u, u = (nx σ.t).1 := ⟨_, rfl⟩
  obtain ⟨z, hz⟩ : ∃ z, z = (nx σ.t).2 := ⟨_, rfl⟩
  rw [← hu, ← hz] at hnx
  rw [← hu]
  rw [← hz] at hle ⊢
  have HN := Lib.hid hnx
  have HR := Lib.hid hR
  clear hnx hR hu hz hn hne
  go_enter Tryd.func38, Tryd.ntmps38
  go_wp2
  go_region_held3 (fun w' => w'.cell? ⟨rb, 0, none⟩ = some (.slice (some ⟨tb, 0, none⟩) s.length cap) ∧ w'.cell? ⟨rb, 1, none⟩ = some (.int .i64 (σ.pos : Nat))) (go_keep)
    (first | (go_at_call 47; refine HN.out.mono ?_; rintro e w1 ⟨rfl, hb⟩; have hR1 := HR.out.drew.on hb; have c0' := hR1.c0; have c1' := hR1.c1; have f1' := hR1.fz 1))
  have HR1 := Lib.hid hR1
  clear hR1
  go_wp2
  go_ret
  exact ⟨rfl, HR1.out.step' (by omega), HR1.out.below_set ((Fr.refl w).drewN 1 |>.trans (Fr.of_below hb)) _ _⟩

end Go.Proofs.YthipgidddgdojaaDoor
