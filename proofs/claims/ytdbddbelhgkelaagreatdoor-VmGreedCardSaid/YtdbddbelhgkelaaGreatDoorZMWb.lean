/- Joined: VmE, VmK, VmL, VmN. -/
import Derived.Test.YtdbddbelhgkelaaGreatDoorZMWa
import Derived.Test.YtdbddbelhgkelaaGreatDoorZGo
import Derived.Test.YtdbddbelhgkelaaGreatDoorZClHas
import Derived.Test.YtdbddbelhgkelaaGreatDoorZMVm
/- The machine: what a match reads; a unit taken; an edge at an end. -/
namespace Go.Proofs.YtdbddbelhgkelaaGreatDoor
open Go.RowKit
open Go.Proofs.YtdbddbelhgkelaaGreatDoor.Cl (Rg SetV SetAt rgCells info_three hasB)
variable {w w' w0 : World} {n₀ mb F S : Nat} {cv uv V1 V2 V3 : Value} {s : Ms} {rb pl p fc fg : Nat} {tg : Int} {X : List In} {U : List Int}

/-- The program and the units, as they lay when the match began. -/
structure EnvV (w0 : World) (cv uv : Value) (X : List In) (U : List Int) : Prop where
  pg : PgV 0 w0 cv X
  un : w0.ownsRow 0 3 1 uv U.length (zI U)
  le : U.length ≤ 2000
theorem EnvV.units (h : EnvV w0 cv uv X U) (hb : Below w0.heap.size w0 w) : ∃ A c, uv = .slice A U.length c ∧ U.length ≤ c ∧ ∀ i u, U[i]? = some u → ∃ g, A = some ⟨g, 0, none⟩ ∧ g < w.heap.size ∧ w.cell? ⟨g, i, none⟩ = some (.int .i64 u) := by
  rcases own_at h.un with ⟨hv, h0⟩ | ⟨g, c, hv, hc, _, ⟨cs, z, hg⟩, hcell, _⟩
  · exact ⟨none, 0, by rw [hv, h0], by omega, fun i u hi => by have := (List.getElem?_eq_some_iff.1 hi).1; omega⟩
  · refine ⟨_, c, hv, hc, fun i u hi => ⟨g, rfl, Nat.lt_of_lt_of_le (lt_of_some hg) hb.size, ?_⟩⟩
    have hl := (List.getElem?_eq_some_iff.1 hi).1
    refine (hb.cell (p := ⟨g, i, none⟩) (lt_of_some hg)).trans ?_
    rw [hcell i (by omega), zI_get hi]
theorem EnvV.prog (h : EnvV w0 cv uv X U) (hb : Below w0.heap.size w0 w) : PgV 0 w cv X := h.pg.on hb

set_option maxRecDepth 100000 in
set_option maxHeartbeats 2000000 in
theorem take_end (hE : EnvV w0 cv uv X U) (hb : Below w0.heap.size w0 w) (h : Mch n₀ w mb cv uv F S s V1 V2 V3) (hr : RunB w rb mb pl p tg fc fg) (hp : p = U.length) (sv : Value) :
    Calls Tryz.prog 79 #[.pointer (some ⟨rb, 0, none⟩), sv] w fun e w' => e = .returned (.bool false) ∧ ∃ m, w' = w.drewN m := by
  obtain ⟨k0, _, k2, _⟩ := hr.c6
  obtain ⟨A, c, rfl, hc, _⟩ := hE.units hb
  obtain ⟨_, m1, _⟩ := h.c9
  subst hp
  clear h hr hE hb
  go_enter Tryz.func79, Tryz.ntmps79
  go_wp2
  go_quiet (fail)
  go_wp2
  go_ret
  exact ⟨rfl, _, rfl⟩

set_option maxRecDepth 100000 in
set_option maxHeartbeats 4000000 in
theorem take_has {l : List Rg} {sv : Value} {u : Int} (hE : EnvV w0 cv uv X U) (hb : Below w0.heap.size w0 w) (h : Mch n₀ w mb cv uv F S s V1 V2 V3) (hr : RunB w rb mb pl p tg fc fg) (hu : U[p]? = some u) (hl : l.length ≤ 1000000) (hs : SetV w.heap.size w sv l) (hrb : n₀ ≤ rb) :
    Calls Tryz.prog 79 #[.pointer (some ⟨rb, 0, none⟩), sv] w fun e w' => e = .returned (.bool (hasB l u)) ∧ Mch n₀ w' mb cv uv F S s V1 V2 V3 ∧ RunB w' rb mb pl (if hasB l u then p + 1 else p) tg fc fg ∧ FrV n₀ mb rb w w' := by
  have hpl : p < U.length := (List.getElem?_eq_some_iff.1 hu).1
  have hle := hE.le
  obtain ⟨k0, _, k2, _⟩ := hr.c6
  obtain ⟨A, c, rfl, hc, hcell⟩ := hE.units hb
  obtain ⟨g, rfl, hgl, e0⟩ := hcell p u hu
  obtain ⟨_, m1, _⟩ := h.c9
  have hne : ((p : Int) == (U.length : Int)) = false := beq_false_of_ne (by omega)
  have hpi : (p : Int) < (U.length : Int) := by omega
  have HH := Lib.hid (fun W (hW : Below w.heap.size w W) => Cl.setHas_any sv l u W hl ((hs.below hW).more hW.size))
  obtain ⟨bv, hbv⟩ : ∃ bv, hasB l u = bv := ⟨_, rfl⟩
  rw [hbv] at HH ⊢
  clear hbv
  have HM := Lib.hid h
  have HR := Lib.hid hr
  clear h hr hE hb hcell hs
  go_enter Tryz.func79, Tryz.ntmps79
  go_wp2_with fail
  have hbd : Below w.heap.size w w.drew := (Below.refl _ w).drew
  refine wp_region_held_drew (S := fun w' => w'.cell? ⟨rb, 0, none⟩ = some (.pointer (some ⟨mb, 0, none⟩)) ∧ w'.cell? ⟨rb, 2, none⟩ = some (.int .i64 (p : Nat)) ∧ w'.cell? ⟨mb, 1, none⟩ = some (.slice (some ⟨g, 0, none⟩) U.length c) ∧ w'.cell? ⟨g, p, none⟩ = some (.int .i64 u)) (by kernel_rfl) ⟨k0, k2, m1, e0⟩ (fun hHeld => ?_)
  refine take_v 0 5 (.pointer (some ⟨rb, 0, none⟩)) _ rfl rfl (by kernel_rfl) (by kernel_rfl) (by kernel_rfl) (fun _ _ _ h => h) (Or.inl ⟨by rfl, fun w' hSw => ?_⟩) hHeld ?_
  · obtain ⟨q1, q2, q3, q4⟩ := hSw
    go_simp
  simp only [List.setIfInBounds_toArray, List.set_cons_zero, List.set_cons_succ]
  refine take_v 1 6 (.pointer (some ⟨rb, 0, none⟩)) _ rfl rfl (by kernel_rfl) (by kernel_rfl) (by kernel_rfl) (fun _ _ _ h => h) (Or.inl ⟨by rfl, fun w' hSw => ?_⟩) hHeld ?_
  · obtain ⟨q1, q2, q3, q4⟩ := hSw
    go_simp
  simp only [List.setIfInBounds_toArray, List.set_cons_zero, List.set_cons_succ]
  refine take_v 2 7 (.pointer (some ⟨rb, 2, none⟩)) _ rfl rfl (by kernel_rfl) (by kernel_rfl) (by kernel_rfl) (fun _ _ _ h => h) (Or.inl ⟨by rfl, fun w' hSw => ?_⟩) hHeld ?_
  · obtain ⟨q1, q2, q3, q4⟩ := hSw
    go_simp
  simp only [List.setIfInBounds_toArray, List.set_cons_zero, List.set_cons_succ]
  refine take_v 3 8 (.int .i64 (p : Nat)) _ rfl rfl (by kernel_rfl) (by kernel_rfl) (by kernel_rfl) (fun _ _ _ h => h) (Or.inl ⟨by rfl, fun w' hSw => ?_⟩) hHeld ?_
  · obtain ⟨q1, q2, q3, q4⟩ := hSw
    go_simp
  simp only [List.setIfInBounds_toArray, List.set_cons_zero, List.set_cons_succ]
  refine take_v 4 9 (.pointer (some ⟨rb, 0, none⟩)) _ rfl rfl (by kernel_rfl) (by kernel_rfl) (by kernel_rfl) (fun _ _ _ h => h) (Or.inl ⟨by rfl, fun w' hSw => ?_⟩) hHeld ?_
  · obtain ⟨q1, q2, q3, q4⟩ := hSw
    go_simp
  simp only [List.setIfInBounds_toArray, List.set_cons_zero, List.set_cons_succ]
  refine take_v 5 10 (.pointer (some ⟨rb, 0, none⟩)) _ rfl rfl (by kernel_rfl) (by kernel_rfl) (by kernel_rfl) (fun _ _ _ h => h) (Or.inl ⟨by rfl, fun w' hSw => ?_⟩) hHeld ?_
  · obtain ⟨q1, q2, q3, q4⟩ := hSw
    go_simp
  simp only [List.setIfInBounds_toArray, List.set_cons_zero, List.set_cons_succ]
  refine take_v 6 11 (.pointer (some ⟨rb, 0, none⟩)) _ rfl rfl (by kernel_rfl) (by kernel_rfl) (by kernel_rfl) (fun _ _ _ h => h) (Or.inl ⟨by rfl, fun w' hSw => ?_⟩) hHeld ?_
  · obtain ⟨q1, q2, q3, q4⟩ := hSw
    go_simp
  simp only [List.setIfInBounds_toArray, List.set_cons_zero, List.set_cons_succ]
  refine take_v 7 12 (.pointer (some ⟨mb, 0, none⟩)) _ rfl rfl (by kernel_rfl) (by kernel_rfl) (by kernel_rfl) (fun _ _ _ h => h) (Or.inl ⟨by rfl, fun w' hSw => ?_⟩) hHeld ?_
  · obtain ⟨q1, q2, q3, q4⟩ := hSw
    go_simp
  simp only [List.setIfInBounds_toArray, List.set_cons_zero, List.set_cons_succ]
  refine take_v 8 13 (.pointer (some ⟨mb, 0, none⟩)) _ rfl rfl (by kernel_rfl) (by kernel_rfl) (by kernel_rfl) (fun _ _ _ h => h) (Or.inl ⟨by rfl, fun w' hSw => ?_⟩) hHeld ?_
  · obtain ⟨q1, q2, q3, q4⟩ := hSw
    go_simp
  simp only [List.setIfInBounds_toArray, List.set_cons_zero, List.set_cons_succ]
  refine take_v 9 14 (.pointer (some ⟨mb, 1, none⟩)) _ rfl rfl (by kernel_rfl) (by kernel_rfl) (by kernel_rfl) (fun _ _ _ h => h) (Or.inl ⟨by rfl, fun w' hSw => ?_⟩) hHeld ?_
  · obtain ⟨q1, q2, q3, q4⟩ := hSw
    go_simp
  simp only [List.setIfInBounds_toArray, List.set_cons_zero, List.set_cons_succ]
  refine take_v 10 15 (.slice (some ⟨g, 0, none⟩) U.length c) _ rfl rfl (by kernel_rfl) (by kernel_rfl) (by kernel_rfl) (fun _ _ _ h => h) (Or.inl ⟨by rfl, fun w' hSw => ?_⟩) hHeld ?_
  · obtain ⟨q1, q2, q3, q4⟩ := hSw
    go_simp
  simp only [List.setIfInBounds_toArray, List.set_cons_zero, List.set_cons_succ]
  refine take_v 11 16 (.int .i64 (U.length : Nat)) _ rfl rfl (by kernel_rfl) (by kernel_rfl) (by kernel_rfl) (fun _ _ _ h => h) (Or.inl ⟨by rfl, fun w' hSw => ?_⟩) hHeld ?_
  · obtain ⟨q1, q2, q3, q4⟩ := hSw
    go_simp
  simp only [List.setIfInBounds_toArray, List.set_cons_zero, List.set_cons_succ]
  refine take_v 12 17 (.bool false) _ rfl rfl (by kernel_rfl) (by kernel_rfl) (by kernel_rfl) (fun _ _ _ h => h) (Or.inl ⟨by rfl, fun w' hSw => ?_⟩) hHeld ?_
  · obtain ⟨q1, q2, q3, q4⟩ := hSw
    go_simp
  simp only [List.setIfInBounds_toArray, List.set_cons_zero, List.set_cons_succ]
  refine take_v 13 18 (.bool false) _ rfl rfl (by kernel_rfl) (by kernel_rfl) (by kernel_rfl) (fun _ _ _ h => h) (Or.inl ⟨by rfl, fun w' hSw => ?_⟩) hHeld ?_
  · obtain ⟨q1, q2, q3, q4⟩ := hSw
    go_simp
  simp only [List.setIfInBounds_toArray, List.set_cons_zero, List.set_cons_succ]
  refine take_v 14 19 (sv) _ rfl rfl (by kernel_rfl) (by kernel_rfl) (by kernel_rfl) (fun _ _ _ h => h) (Or.inl ⟨by rfl, fun w' hSw => ?_⟩) hHeld ?_
  · obtain ⟨q1, q2, q3, q4⟩ := hSw
    go_simp
  simp only [List.setIfInBounds_toArray, List.set_cons_zero, List.set_cons_succ]
  refine take_v 15 20 (.pointer (some ⟨rb, 0, none⟩)) _ rfl rfl (by kernel_rfl) (by kernel_rfl) (by kernel_rfl) (fun _ _ _ h => h) (Or.inl ⟨by rfl, fun w' hSw => ?_⟩) hHeld ?_
  · obtain ⟨q1, q2, q3, q4⟩ := hSw
    go_simp
  simp only [List.setIfInBounds_toArray, List.set_cons_zero, List.set_cons_succ]
  refine take_v 16 21 (.pointer (some ⟨rb, 0, none⟩)) _ rfl rfl (by kernel_rfl) (by kernel_rfl) (by kernel_rfl) (fun _ _ _ h => h) (Or.inl ⟨by rfl, fun w' hSw => ?_⟩) hHeld ?_
  · obtain ⟨q1, q2, q3, q4⟩ := hSw
    go_simp
  simp only [List.setIfInBounds_toArray, List.set_cons_zero, List.set_cons_succ]
  refine take_v 17 22 (.pointer (some ⟨rb, 0, none⟩)) _ rfl rfl (by kernel_rfl) (by kernel_rfl) (by kernel_rfl) (fun _ _ _ h => h) (Or.inl ⟨by rfl, fun w' hSw => ?_⟩) hHeld ?_
  · obtain ⟨q1, q2, q3, q4⟩ := hSw
    go_simp
  simp only [List.setIfInBounds_toArray, List.set_cons_zero, List.set_cons_succ]
  refine take_v 18 23 (.pointer (some ⟨mb, 0, none⟩)) _ rfl rfl (by kernel_rfl) (by kernel_rfl) (by kernel_rfl) (fun _ _ _ h => h) (Or.inl ⟨by rfl, fun w' hSw => ?_⟩) hHeld ?_
  · obtain ⟨q1, q2, q3, q4⟩ := hSw
    go_simp
  simp only [List.setIfInBounds_toArray, List.set_cons_zero, List.set_cons_succ]
  refine take_v 19 24 (.pointer (some ⟨mb, 0, none⟩)) _ rfl rfl (by kernel_rfl) (by kernel_rfl) (by kernel_rfl) (fun _ _ _ h => h) (Or.inl ⟨by rfl, fun w' hSw => ?_⟩) hHeld ?_
  · obtain ⟨q1, q2, q3, q4⟩ := hSw
    go_simp
  simp only [List.setIfInBounds_toArray, List.set_cons_zero, List.set_cons_succ]
  refine take_v 20 25 (.pointer (some ⟨mb, 1, none⟩)) _ rfl rfl (by kernel_rfl) (by kernel_rfl) (by kernel_rfl) (fun _ _ _ h => h) (Or.inl ⟨by rfl, fun w' hSw => ?_⟩) hHeld ?_
  · obtain ⟨q1, q2, q3, q4⟩ := hSw
    go_simp
  simp only [List.setIfInBounds_toArray, List.set_cons_zero, List.set_cons_succ]
  refine take_v 21 26 (.slice (some ⟨g, 0, none⟩) U.length c) _ rfl rfl (by kernel_rfl) (by kernel_rfl) (by kernel_rfl) (fun _ _ _ h => h) (Or.inl ⟨by rfl, fun w' hSw => ?_⟩) hHeld ?_
  · obtain ⟨q1, q2, q3, q4⟩ := hSw
    go_simp
  simp only [List.setIfInBounds_toArray, List.set_cons_zero, List.set_cons_succ]
  refine take_v 22 27 (.pointer (some ⟨rb, 0, none⟩)) _ rfl rfl (by kernel_rfl) (by kernel_rfl) (by kernel_rfl) (fun _ _ _ h => h) (Or.inl ⟨by rfl, fun w' hSw => ?_⟩) hHeld ?_
  · obtain ⟨q1, q2, q3, q4⟩ := hSw
    go_simp
  simp only [List.setIfInBounds_toArray, List.set_cons_zero, List.set_cons_succ]
  refine take_v 23 28 (.pointer (some ⟨rb, 0, none⟩)) _ rfl rfl (by kernel_rfl) (by kernel_rfl) (by kernel_rfl) (fun _ _ _ h => h) (Or.inl ⟨by rfl, fun w' hSw => ?_⟩) hHeld ?_
  · obtain ⟨q1, q2, q3, q4⟩ := hSw
    go_simp
  simp only [List.setIfInBounds_toArray, List.set_cons_zero, List.set_cons_succ]
  refine take_v 24 29 (.pointer (some ⟨rb, 2, none⟩)) _ rfl rfl (by kernel_rfl) (by kernel_rfl) (by kernel_rfl) (fun _ _ _ h => h) (Or.inl ⟨by rfl, fun w' hSw => ?_⟩) hHeld ?_
  · obtain ⟨q1, q2, q3, q4⟩ := hSw
    go_simp
  simp only [List.setIfInBounds_toArray, List.set_cons_zero, List.set_cons_succ]
  refine take_v 25 30 (.int .i64 (p : Nat)) _ rfl rfl (by kernel_rfl) (by kernel_rfl) (by kernel_rfl) (fun _ _ _ h => h) (Or.inl ⟨by rfl, fun w' hSw => ?_⟩) hHeld ?_
  · obtain ⟨q1, q2, q3, q4⟩ := hSw
    go_simp
  simp only [List.setIfInBounds_toArray, List.set_cons_zero, List.set_cons_succ]
  refine take_v 26 31 (.pointer (some ⟨g, p, none⟩)) _ rfl rfl (by kernel_rfl) (by kernel_rfl) (by kernel_rfl) (fun _ _ _ h => h) (Or.inl ⟨by rfl, fun w' hSw => ?_⟩) hHeld ?_
  · obtain ⟨q1, q2, q3, q4⟩ := hSw
    go_simp
  simp only [List.setIfInBounds_toArray, List.set_cons_zero, List.set_cons_succ]
  refine take_v 27 32 (.int .i64 u) _ rfl rfl (by kernel_rfl) (by kernel_rfl) (by kernel_rfl) (fun _ _ _ h => h) (Or.inl ⟨by rfl, fun w' hSw => ?_⟩) hHeld ?_
  · obtain ⟨q1, q2, q3, q4⟩ := hSw
    go_simp
  simp only [List.setIfInBounds_toArray, List.set_cons_zero, List.set_cons_succ]
  refine wpAnyH_ready (rs := [28]) (by kernel_rfl) (by simp) ?_
  refine AllReadyH.cons rfl (fun K hK => ?_) AllReadyH.nil
  go_simp
  refine (HH.out _ hbd).mono ?_
  rintro e w9 ⟨rfl, hb9⟩
  have hb9' := hbd.trans (hb9.mono hbd.size)
  have HM9 := Lib.hid (HM.out.on hb9')
  have HR9 : Hid (RunB w9 rb mb pl p tg fc fg) := Lib.hid (Blk.on HR.out hb9')
  have HF9 : Hid (FrV n₀ mb rb w w9) := Lib.hid (FrV.of_below hb9')
  have hS9 := And.intro HR9.out.c6.1 (And.intro HR9.out.c6.2.2.1 (And.intro HM9.out.c9.2.1 ((hb9'.cell (p := ⟨g, p, none⟩) hgl).trans e0)))
  refine hK.out _ _ hS9 (fun hHeld => ?_)
  clear hK K
  refine take_v 29 34 (.bool (!bv)) _ rfl rfl (by kernel_rfl) (by kernel_rfl) (by kernel_rfl) (fun _ _ _ h => h) (Or.inl ⟨by rfl, fun w' hSw => ?_⟩) hHeld ?_
  · obtain ⟨q1, q2, q3, q4⟩ := hSw
    go_simp
  simp only [List.setIfInBounds_toArray, List.set_cons_zero, List.set_cons_succ]
  refine take_v 30 35 (.bool (!bv)) _ rfl rfl (by kernel_rfl) (by kernel_rfl) (by kernel_rfl) (fun _ _ _ h => h) (Or.inl ⟨by rfl, fun w' hSw => ?_⟩) hHeld ?_
  · obtain ⟨q1, q2, q3, q4⟩ := hSw
    go_simp
  simp only [List.setIfInBounds_toArray, List.set_cons_zero, List.set_cons_succ]
  refine wpAnyH_done (by kernel_rfl) ?_ _
  clear k0 k2 m1 e0 hHeld hS9 hb9 hb9'
  cases bv
  · simp only [Bool.not_false]
    go_wp2
    go_ret
    refine ⟨?_, HM9.out, ?_, HF9.out⟩
    · rfl
    · exact HR9.out
  · simp only [Bool.not_true]
    have k2 := HR9.out.c6.2.2.1
    have f2 := HR9.out.fz 2
    go_wp2
    go_ret
    refine ⟨?_, HM9.out.far HR9.out (by decide) (by decide) (by decide) (by decide) _, ?_, HF9.out.set_ (q := ⟨rb, 2, none⟩) (.inr ⟨hrb, .inr (.inl rfl)⟩) _⟩
    · rfl
    · exact HR9.out.pos (p + 1)


end Go.Proofs.YtdbddbelhgkelaaGreatDoor

/- The machine: edges at the ends; atomic groups. -/
namespace Go.Proofs.YtdbddbelhgkelaaGreatDoor
open Go.RowKit
open Go.Proofs.YtdbddbelhgkelaaGreatDoor.Cl (Rg SetV SetAt rgCells info_three hasB)
variable {w w' w0 : World} {n₀ mb F S : Nat} {cv uv V1 V2 V3 : Value} {s : Ms} {rb pl p fc fg : Nat} {tg : Int} {X : List In} {U : List Int}

set_option maxRecDepth 100000 in
set_option maxHeartbeats 2000000 in
theorem edge_any {a : Int} (hE : EnvV w0 cv uv X U) (hb : Below w0.heap.size w0 w) (h : Mch n₀ w mb cv uv F S s V1 V2 V3) (hr : RunB w rb mb pl p tg fc fg) (ha : a = 0 ∨ a = 1) :
    Calls Tryz.prog 82 #[.pointer (some ⟨rb, 0, none⟩), .int .i64 a] w fun e w' => e = .returned (.bool (edgeB U p a)) ∧ ∃ m, w' = w.drewN m := by
  obtain ⟨k0, _, k2, _⟩ := hr.c6
  obtain ⟨A, c, rfl, hc, _⟩ := hE.units hb
  obtain ⟨_, m1, _⟩ := h.c9
  clear h hr hE hb
  rcases ha with rfl | rfl
  · have e1 : edgeB U p 0 = ((p : Int) == 0) := by
      unfold edgeB
      by_cases hp : p = 0
      · simp [hp]
      · have : ¬ (p : Int) = 0 := by omega
        simp [hp]
    rw [e1]
    go_enter Tryz.func82, Tryz.ntmps82
    go_wp2
    go_ret
    exact ⟨rfl, 0, rfl⟩
  · have e1 : edgeB U p 1 = ((p : Int) == (U.length : Int)) := by
      unfold edgeB
      by_cases hp : p = U.length
      · simp [hp]
      · have : ¬ (p : Int) = (U.length : Int) := by omega
        simp [hp, this]
    rw [e1]
    go_enter Tryz.func82, Tryz.ntmps82
    go_wp2
    go_region
    go_wp2
    go_ret
    exact ⟨rfl, 1, rfl⟩

/-- What a call of do gives. -/
def DoPost (w : World) (n₀ mb : Nat) (cv uv V1 : Value) (F S : Nat) (r : Nat × Nat × Ms) (e : Ending) (w' : World) : Prop :=
  e = .returned (.tuple #[.int .i64 (r.1 : Nat), .int .i64 (r.2.1 : Nat)]) ∧ (∃ V2' V3', Mch n₀ w' mb cv uv F S r.2.2 V1 V2' V3') ∧ FrV n₀ mb mb w w'
def DoC (w0 : World) (mb : Nat) (cv uv V1 : Value) (F S : Nat) (X : List In) (U : List Int) (k : Nat) : Prop :=
  ∀ (w : World) (s : Ms) (V2 V3 : Value) (pl p : Nat), Below w0.heap.size w0 w → Mch w0.heap.size w mb cv uv F S s V1 V2 V3 → Fit X U S s → pl < X.length → p ≤ U.length → F ≤ s.steps + k → s.steps ≤ F →
    Calls Tryz.prog 43 #[.pointer (some ⟨mb, 0, none⟩), .int .i64 (pl : Nat), .int .i64 (p : Nat), .int .i64 (-1)] w (DoPost w w0.heap.size mb cv uv V1 F S (runM X U F S k (-1) pl p s))

set_option maxRecDepth 100000 in
set_option maxHeartbeats 4000000 in
theorem atomic_any {k gc o : Nat} {b : Nat} (hD : DoC w0 mb cv uv V1 F S X U k) (hb : Below w0.heap.size w0 w) (h : Mch w0.heap.size w mb cv uv F S s V1 V2 V3) (hr : RunB w rb mb pl p tg fc fg) (hF : Fit X U S s) (hpl : pl + 1 < X.length) (hp : p ≤ U.length) (hk : F ≤ s.steps + k) (hsF : s.steps ≤ F)
    (hX : X.length ≤ 2003) (_ : U.length ≤ 2000) (hgc : gc < w0.heap.size) (d2 : w.cell? ⟨gc, o + 2, none⟩ = some (.int .i64 (b : Nat))) (hrb : w0.heap.size ≤ rb) {r : Nat × Nat × Ms} (hrr : runM X U F S k (-1) (pl + 1) p s = r) (hr2 : r.1 ≤ 2) :
    Calls Tryz.prog 78 #[.pointer (some ⟨rb, 0, none⟩), .pointer (some ⟨gc, o, none⟩)] w fun e w' => e = .returned (.int .i64 ((if r.1 = 1 then 3 else r.1 : Nat) : Int)) ∧ (∃ V2' V3', Mch w0.heap.size w' mb cv uv F S r.2.2 V1 V2' V3') ∧ RunB w' rb mb (if r.1 = 1 then b else pl) (if r.1 = 1 then r.2.1 else p) tg fc fg ∧ FrV w0.heap.size mb rb w w' := by
  obtain ⟨k0, k1, k2, _⟩ := hr.c6
  have hmr : mb ≠ rb := fun e => ne_of_types h.blk hr (by decide) e
  have HD := Lib.hid (hD w.drew s V2 V3 (pl + 1) p (hb.drew) h.drew hF hpl hp hk hsF)
  rw [hrr] at HD
  have HR := Lib.hid hr
  have HB := Lib.hid hb
  have hn : w0.heap.size ≤ w.heap.size := hb.size
  clear h hr hD hF
  obtain ⟨rk, rp, rs⟩ := r
  simp only at hr2 ⊢
  unfold DoPost at HD
  simp only at HD
  go_enter Tryz.func78, Tryz.ntmps78
  go_wp2_with fail
  have ec : ((pl + 1 : Nat) : Int) = (pl : Int) + 1 := by omega
  rw [ec] at HD
  clear ec
  have hw1 : IntKind.i64.wrap ((pl : Int) + 1) = (pl : Int) + 1 := IntWalk.i64_in _ (by omega)
  refine wp_region_held_drew (S := fun w' => w'.cell? ⟨rb, 0, none⟩ = some (.pointer (some ⟨mb, 0, none⟩)) ∧ w'.cell? ⟨rb, 1, none⟩ = some (.int .i64 (pl : Nat)) ∧ w'.cell? ⟨rb, 2, none⟩ = some (.int .i64 (p : Nat))) (by kernel_rfl) ⟨k0, k1, k2⟩ (fun hHeld => ?_)
  refine take_v 0 8 (.pointer (some ⟨rb, 0, none⟩)) _ rfl rfl (by kernel_rfl) (by kernel_rfl) (by kernel_rfl) (fun _ _ _ h => h) (Or.inl ⟨by rfl, fun w' hSw => ?_⟩) hHeld ?_
  · obtain ⟨q1, q2, q3⟩ := hSw
    go_simp
  simp only [List.setIfInBounds_toArray, List.set_cons_zero, List.set_cons_succ]
  refine take_v 1 9 (.pointer (some ⟨rb, 0, none⟩)) _ rfl rfl (by kernel_rfl) (by kernel_rfl) (by kernel_rfl) (fun _ _ _ h => h) (Or.inl ⟨by rfl, fun w' hSw => ?_⟩) hHeld ?_
  · obtain ⟨q1, q2, q3⟩ := hSw
    go_simp
  simp only [List.setIfInBounds_toArray, List.set_cons_zero, List.set_cons_succ]
  refine take_v 2 10 (.pointer (some ⟨rb, 0, none⟩)) _ rfl rfl (by kernel_rfl) (by kernel_rfl) (by kernel_rfl) (fun _ _ _ h => h) (Or.inl ⟨by rfl, fun w' hSw => ?_⟩) hHeld ?_
  · obtain ⟨q1, q2, q3⟩ := hSw
    go_simp
  simp only [List.setIfInBounds_toArray, List.set_cons_zero, List.set_cons_succ]
  refine take_v 3 11 (.pointer (some ⟨mb, 0, none⟩)) _ rfl rfl (by kernel_rfl) (by kernel_rfl) (by kernel_rfl) (fun _ _ _ h => h) (Or.inl ⟨by rfl, fun w' hSw => ?_⟩) hHeld ?_
  · obtain ⟨q1, q2, q3⟩ := hSw
    go_simp
  simp only [List.setIfInBounds_toArray, List.set_cons_zero, List.set_cons_succ]
  refine take_v 4 12 (.pointer (some ⟨rb, 0, none⟩)) _ rfl rfl (by kernel_rfl) (by kernel_rfl) (by kernel_rfl) (fun _ _ _ h => h) (Or.inl ⟨by rfl, fun w' hSw => ?_⟩) hHeld ?_
  · obtain ⟨q1, q2, q3⟩ := hSw
    go_simp
  simp only [List.setIfInBounds_toArray, List.set_cons_zero, List.set_cons_succ]
  refine take_v 5 13 (.pointer (some ⟨rb, 0, none⟩)) _ rfl rfl (by kernel_rfl) (by kernel_rfl) (by kernel_rfl) (fun _ _ _ h => h) (Or.inl ⟨by rfl, fun w' hSw => ?_⟩) hHeld ?_
  · obtain ⟨q1, q2, q3⟩ := hSw
    go_simp
  simp only [List.setIfInBounds_toArray, List.set_cons_zero, List.set_cons_succ]
  refine take_v 6 14 (.pointer (some ⟨rb, 1, none⟩)) _ rfl rfl (by kernel_rfl) (by kernel_rfl) (by kernel_rfl) (fun _ _ _ h => h) (Or.inl ⟨by rfl, fun w' hSw => ?_⟩) hHeld ?_
  · obtain ⟨q1, q2, q3⟩ := hSw
    go_simp
  simp only [List.setIfInBounds_toArray, List.set_cons_zero, List.set_cons_succ]
  refine take_v 7 15 (.int .i64 (pl : Nat)) _ rfl rfl (by kernel_rfl) (by kernel_rfl) (by kernel_rfl) (fun _ _ _ h => h) (Or.inl ⟨by rfl, fun w' hSw => ?_⟩) hHeld ?_
  · obtain ⟨q1, q2, q3⟩ := hSw
    go_simp
  simp only [List.setIfInBounds_toArray, List.set_cons_zero, List.set_cons_succ]
  refine take_v 8 16 (.int .i64 ((pl : Int) + 1)) _ rfl rfl (by kernel_rfl) (by kernel_rfl) (by kernel_rfl) (fun _ _ _ h => h) (Or.inl ⟨by rfl, fun w' hSw => ?_⟩) hHeld ?_
  · obtain ⟨q1, q2, q3⟩ := hSw
    go_simp
  simp only [List.setIfInBounds_toArray, List.set_cons_zero, List.set_cons_succ]
  refine take_v 9 17 (.pointer (some ⟨rb, 0, none⟩)) _ rfl rfl (by kernel_rfl) (by kernel_rfl) (by kernel_rfl) (fun _ _ _ h => h) (Or.inl ⟨by rfl, fun w' hSw => ?_⟩) hHeld ?_
  · obtain ⟨q1, q2, q3⟩ := hSw
    go_simp
  simp only [List.setIfInBounds_toArray, List.set_cons_zero, List.set_cons_succ]
  refine take_v 10 18 (.pointer (some ⟨rb, 0, none⟩)) _ rfl rfl (by kernel_rfl) (by kernel_rfl) (by kernel_rfl) (fun _ _ _ h => h) (Or.inl ⟨by rfl, fun w' hSw => ?_⟩) hHeld ?_
  · obtain ⟨q1, q2, q3⟩ := hSw
    go_simp
  simp only [List.setIfInBounds_toArray, List.set_cons_zero, List.set_cons_succ]
  refine take_v 11 19 (.pointer (some ⟨rb, 2, none⟩)) _ rfl rfl (by kernel_rfl) (by kernel_rfl) (by kernel_rfl) (fun _ _ _ h => h) (Or.inl ⟨by rfl, fun w' hSw => ?_⟩) hHeld ?_
  · obtain ⟨q1, q2, q3⟩ := hSw
    go_simp
  simp only [List.setIfInBounds_toArray, List.set_cons_zero, List.set_cons_succ]
  refine take_v 12 20 (.int .i64 (p : Nat)) _ rfl rfl (by kernel_rfl) (by kernel_rfl) (by kernel_rfl) (fun _ _ _ h => h) (Or.inl ⟨by rfl, fun w' hSw => ?_⟩) hHeld ?_
  · obtain ⟨q1, q2, q3⟩ := hSw
    go_simp
  simp only [List.setIfInBounds_toArray, List.set_cons_zero, List.set_cons_succ]
  refine wpAnyH_ready (rs := [13]) (by kernel_rfl) (by simp) ?_
  refine AllReadyH.cons rfl (fun K hK => ?_) AllReadyH.nil
  go_simp
  refine HD.out.mono ?_
  clear HD
  rintro e w9 ⟨rfl, hm9, hf9⟩
  have HM9 := Lib.hid hm9
  have HR9 : Hid (RunB w9 rb mb pl p tg fc fg) := Lib.hid (FrV.blkRun (w := w.drew) hf9 HR.out hmr)
  have HF9 : Hid (FrV w0.heap.size mb rb w w9) := Lib.hid ((FrV.refl w).drew.trans (hf9.drop (.inr rfl)))
  refine hK.out _ _ ⟨HR9.out.c6.1, HR9.out.c6.2.1, HR9.out.c6.2.2.1⟩ (fun hHeld => ?_)
  clear hK K
  refine take_v 14 7 (.tuple #[.int .i64 (rk : Nat), .int .i64 (rp : Nat)]) _ rfl rfl (by kernel_rfl) (by kernel_rfl) (by kernel_rfl) (fun _ _ _ h => h) (Or.inl ⟨by rfl, fun w' hSw => ?_⟩) hHeld ?_
  · obtain ⟨q1, q2, q3⟩ := hSw
    go_simp
  simp only [List.setIfInBounds_toArray, List.set_cons_zero, List.set_cons_succ]
  refine take_v 15 22 (.int .i64 (rk : Nat)) _ rfl rfl (by kernel_rfl) (by kernel_rfl) (by kernel_rfl) (fun _ _ _ h => h) (Or.inl ⟨by rfl, fun w' hSw => ?_⟩) hHeld ?_
  · obtain ⟨q1, q2, q3⟩ := hSw
    go_simp
  simp only [List.setIfInBounds_toArray, List.set_cons_zero, List.set_cons_succ]
  refine take_v 16 23 (.int .i64 (rp : Nat)) _ rfl rfl (by kernel_rfl) (by kernel_rfl) (by kernel_rfl) (fun _ _ _ h => h) (Or.inl ⟨by rfl, fun w' hSw => ?_⟩) hHeld ?_
  · obtain ⟨q1, q2, q3⟩ := hSw
    go_simp
  simp only [List.setIfInBounds_toArray, List.set_cons_zero, List.set_cons_succ]
  refine take_v 17 5 (.int .i64 (rk : Nat)) _ rfl rfl (by kernel_rfl) (by kernel_rfl) (by kernel_rfl) (fun _ _ _ h => h) (Or.inl ⟨by rfl, fun w' hSw => ?_⟩) hHeld ?_
  · obtain ⟨q1, q2, q3⟩ := hSw
    go_simp
  simp only [List.setIfInBounds_toArray, List.set_cons_zero, List.set_cons_succ]
  refine take_v 18 6 (.int .i64 (rp : Nat)) _ rfl rfl (by kernel_rfl) (by kernel_rfl) (by kernel_rfl) (fun _ _ _ h => h) (Or.inl ⟨by rfl, fun w' hSw => ?_⟩) hHeld ?_
  · obtain ⟨q1, q2, q3⟩ := hSw
    go_simp
  simp only [List.setIfInBounds_toArray, List.set_cons_zero, List.set_cons_succ]
  refine wpAnyH_done (by kernel_rfl) ?_ _
  have hbw : Below w0.heap.size w w9 := HF9.out.old hn
  have d9 := (hbw.cell (p := ⟨gc, o + 2, none⟩) hgc).trans d2
  clear hm9 hf9 k0 k1 k2 d2 hHeld
  by_cases h1 : rk = 1
  · subst h1
    obtain ⟨_, k1, k2, _⟩ := HR9.out.c6
    have g1 := HR9.out.fz 1
    have g2 := HR9.out.fz 2
    go_wp2
    go_ret
    obtain ⟨V2', V3', hm⟩ := HM9.out
    exact ⟨rfl, ⟨V2', V3', (hm.far HR9.out (by decide) (by decide) (by decide) (by decide) _).far (o := 2) (HR9.out.place b) (by decide) (by decide) (by decide) (by decide) _⟩, (HR9.out.place b).pos rp, (HF9.out.set_ (q := ⟨rb, 1, none⟩) (.inr ⟨hrb, .inr (.inl rfl)⟩) _).set_ (q := ⟨rb, 2, none⟩) (.inr ⟨hrb, .inr (.inl rfl)⟩) _⟩
  · have h1' : ¬ (rk : Int) = 1 := by omega
    go_wp2
    go_ret
    dsimp only
    exact ⟨rfl, HM9.out, HR9.out, HF9.out⟩

end Go.Proofs.YtdbddbelhgkelaaGreatDoor

/- The machine: one instruction. -/
namespace Go.Proofs.YtdbddbelhgkelaaGreatDoor
open Go.RowKit
open Go.Proofs.YtdbddbelhgkelaaGreatDoor.Cl (Rg SetV SetAt rgCells info_three hasB)
variable {w w' w0 : World} {mb F S : Nat} {cv uv V1 V2 V3 : Value} {s : Ms} {rb pl p fc fg : Nat} {X : List In} {U : List Int}

/-- Ahead of an instruction. -/
structure StepC (w0 w : World) (mb : Nat) (cv uv V1 V2 V3 : Value) (F S : Nat) (X : List In) (U : List Int) (s : Ms) (k rb pl p fc fg : Nat) : Prop where
  env : EnvV w0 cv uv X U
  below : Below w0.heap.size w0 w
  mch : Mch w0.heap.size w mb cv uv F S s V1 V2 V3
  run : RunB w rb mb pl p (-1) fc fg
  fit : Fit X U S s
  prog : PrOk X
  pos : p ≤ U.length
  fuel : F ≤ s.steps + k
  chg : s.chg.length < s.steps
  bd : s.steps ≤ 1048576 ∧ S ≤ 4096
  low : w0.heap.size ≤ rb
  sF : s.steps ≤ F
theorem StepC.ne {k : Nat} (h : StepC w0 w mb cv uv V1 V2 V3 F S X U s k rb pl p fc fg) : mb ≠ rb := fun e => ne_of_types h.mch.blk h.run (by decide) e
theorem StepC.inst {k : Nat} {x : In} (h : StepC w0 w mb cv uv V1 V2 V3 F S X U s k rb pl p fc fg) (hx : X[pl]? = some x) : ∃ g c A cs, cv = .slice (some ⟨g, 0, none⟩) X.length c ∧ X.length ≤ c ∧ g < w0.heap.size ∧ OwnS w 0 (.slice A x.set.length cs) x.set ∧
    w.cell? ⟨g, pl * 6, none⟩ = some (.int .i64 x.op) ∧ w.cell? ⟨g, pl * 6 + 1, none⟩ = some (.int .i64 x.a) ∧ w.cell? ⟨g, pl * 6 + 2, none⟩ = some (.int .i64 x.b) ∧ w.cell? ⟨g, pl * 6 + 3, none⟩ = some (.int .i64 x.c) ∧ w.cell? ⟨g, pl * 6 + 4, none⟩ = some (.int .i64 x.d) ∧ w.cell? ⟨g, pl * 6 + 5, none⟩ = some (.slice A x.set.length cs) := by
  obtain ⟨g, c, A, cs, h1, h2, _, _, h3, d0, d1, d2, d3, d4, d5⟩ := (h.env.prog h.below).six hx
  obtain ⟨g', _, _, _, h1', _, hg, _⟩ := h.env.pg.six hx
  have e := (Value.slice.inj (h1.symm.trans h1')).1
  obtain ⟨rfl⟩ : g = g' := by simpa using e
  exact ⟨g, c, A, cs, h1, h2, hg, h3, d0, d1, d2, d3, d4, d5⟩
/-- Behind it. -/
def StepP (w0 w : World) (mb : Nat) (cv uv V1 : Value) (F S rb fc fg : Nat) (o : Out) (e : Ending) (w' : World) : Prop :=
  e = .returned (.int .i64 (o.1 : Nat)) ∧ (∃ V2' V3', Mch w0.heap.size w' mb cv uv F S o.2.2.2 V1 V2' V3') ∧ RunB w' rb mb o.2.1 o.2.2.1 (-1) fc fg ∧ FrV w0.heap.size mb rb w w'

set_option maxRecDepth 100000 in
set_option maxHeartbeats 4000000 in
theorem step_0 {k : Nat} {x : In} (hx : X[pl]? = some x) (ho : x.op = 0) (hC : StepC w0 w mb cv uv V1 V2 V3 F S X U s k rb pl p fc fg) (hD : DoC w0 mb cv uv V1 F S X U k) :
    Calls Tryz.prog 63 #[.pointer (some ⟨rb, 0, none⟩)] w (StepP w0 w mb cv uv V1 F S rb fc fg (stepM X U S (fun pl p s => runM X U F S k (-1) pl p s) (-1) pl p s)) := by
  obtain ⟨g, c, As, cs, rfl, hc, hg0, hO, d0, d1, d2, d3, d4, d5⟩ := hC.inst hx
  have HC := Lib.hid hC
  have HD := Lib.hid hD
  have hmr := hC.ne
  have hplX : pl < X.length := (List.getElem?_eq_some_iff.1 hx).1
  have hpli : (pl : Int) < (X.length : Int) := by omega
  have hX3 : X.length ≤ 2003 := hC.prog.1
  have HI := Lib.hid (hC.prog.2 pl x hx)
  obtain ⟨k0, k1, k2, _⟩ := hC.run.c6
  have m0 := hC.mch.c9.1
  have HX := Lib.hid hx
  clear hC hD hx
  obtain ⟨xo, xa, xb, xc, xd, xs⟩ := x
  simp only at ho d0 d1 d2 d3 d4 d5 hO
  subst ho
  have e : stepM X U S (fun pl p s => runM X U F S k (-1) pl p s) (-1) pl p s = (1, pl, p, s) := by unfold stepM; rw [HX.out]; rfl
  rw [e]
  unfold StepP
  go_enter Tryz.func63, Tryz.ntmps63
  go_wp2
  go_region
  go_wp2
  go_ret
  exact ⟨rfl, ⟨_, _, HC.out.mch.drew⟩, HC.out.run, (FrV.refl w).drew⟩

set_option maxRecDepth 100000 in
set_option maxHeartbeats 4000000 in
theorem step_2 {k : Nat} {x : In} (hx : X[pl]? = some x) (ho : x.op = 2) (hC : StepC w0 w mb cv uv V1 V2 V3 F S X U s k rb pl p fc fg) (hD : DoC w0 mb cv uv V1 F S X U k) :
    Calls Tryz.prog 63 #[.pointer (some ⟨rb, 0, none⟩)] w (StepP w0 w mb cv uv V1 F S rb fc fg (stepM X U S (fun pl p s => runM X U F S k (-1) pl p s) (-1) pl p s)) := by
  obtain ⟨g, c, As, cs, rfl, hc, hg0, hO, d0, d1, d2, d3, d4, d5⟩ := hC.inst hx
  have HC := Lib.hid hC
  have HD := Lib.hid hD
  have hmr := hC.ne
  have hplX : pl < X.length := (List.getElem?_eq_some_iff.1 hx).1
  have hpli : (pl : Int) < (X.length : Int) := by omega
  have hX3 : X.length ≤ 2003 := hC.prog.1
  have HI := Lib.hid (hC.prog.2 pl x hx)
  obtain ⟨k0, k1, k2, _⟩ := hC.run.c6
  have m0 := hC.mch.c9.1
  have HX := Lib.hid hx
  clear hC hD hx
  obtain ⟨xo, xa, xb, xc, xd, xs⟩ := x
  simp only at ho d0 d1 d2 d3 d4 d5 hO
  subst ho
  have hj := HI.out.jump (.inl rfl)
  simp only at hj
  obtain ⟨a, rfl⟩ : ∃ a : Nat, xa = (a : Int) := ⟨xa.toNat, by omega⟩
  have e : stepM X U S (fun pl p s => runM X U F S k (-1) pl p s) (-1) pl p s = (3, a, p, s) := by unfold stepM; rw [HX.out]; rfl
  rw [e]
  unfold StepP
  have f1 := HC.out.run.fz 1
  go_enter Tryz.func63, Tryz.ntmps63
  go_wp2
  go_region
  go_wp2
  go_ret
  exact ⟨rfl, ⟨_, _, HC.out.mch.drew.far (show RunB w.drew rb mb pl p (-1) fc fg from HC.out.run) (by decide) (by decide) (by decide) (by decide) _⟩, RunB.place (show RunB w.drew rb mb pl p (-1) fc fg from HC.out.run) a, (FrV.refl w).drew.set_ (q := ⟨rb, 1, none⟩) (.inr ⟨HC.out.low, .inr (.inl rfl)⟩) _⟩

set_option maxRecDepth 100000 in
set_option maxHeartbeats 4000000 in
theorem step_9 {k : Nat} {x : In} (hx : X[pl]? = some x) (ho : x.op = 9) (hC : StepC w0 w mb cv uv V1 V2 V3 F S X U s k rb pl p fc fg) (hD : DoC w0 mb cv uv V1 F S X U k) :
    Calls Tryz.prog 63 #[.pointer (some ⟨rb, 0, none⟩)] w (StepP w0 w mb cv uv V1 F S rb fc fg (stepM X U S (fun pl p s => runM X U F S k (-1) pl p s) (-1) pl p s)) := by
  obtain ⟨g, c, As, cs, rfl, hc, hg0, hO, d0, d1, d2, d3, d4, d5⟩ := hC.inst hx
  have HC := Lib.hid hC
  have HD := Lib.hid hD
  have hmr := hC.ne
  have hplX : pl < X.length := (List.getElem?_eq_some_iff.1 hx).1
  have hpli : (pl : Int) < (X.length : Int) := by omega
  have hX3 : X.length ≤ 2003 := hC.prog.1
  have HI := Lib.hid (hC.prog.2 pl x hx)
  obtain ⟨k0, k1, k2, _⟩ := hC.run.c6
  have m0 := hC.mch.c9.1
  have HX := Lib.hid hx
  clear hC hD hx
  obtain ⟨xo, xa, xb, xc, xd, xs⟩ := x
  simp only at ho d0 d1 d2 d3 d4 d5 hO
  subst ho
  have e : stepM X U S (fun pl p s => runM X U F S k (-1) pl p s) (-1) pl p s = (1, pl, p, s) := by unfold stepM; rw [HX.out]; rfl
  rw [e]
  unfold StepP
  have HN := Lib.hid (done_any (w := w.drew) (mb := mb) (pl := pl) (p := p) (fc := fc) (fg := fg) HC.out.run rfl)
  go_enter Tryz.func63, Tryz.ntmps63
  go_wp2
  go_region
  go_wp2_with fail
  refine HN.out.mono ?_
  rintro e w1 ⟨rfl, m, rfl⟩
  go_wp2
  go_ret
  exact ⟨rfl, ⟨_, _, HC.out.mch.drewN _⟩, HC.out.run, (FrV.refl w).drewN _⟩

end Go.Proofs.YtdbddbelhgkelaaGreatDoor

/- The machine: one instruction, the rest (edges, guards). -/
namespace Go.Proofs.YtdbddbelhgkelaaGreatDoor
open Go.RowKit
open Go.Proofs.YtdbddbelhgkelaaGreatDoor.Cl (Rg SetV SetAt rgCells info_three hasB)
variable {w w' w0 : World} {mb F S : Nat} {cv uv V1 V2 V3 : Value} {s : Ms} {rb pl p fc fg : Nat} {X : List In} {U : List Int}

set_option maxRecDepth 100000 in
set_option maxHeartbeats 4000000 in
theorem step_6 {k : Nat} {x : In} (hx : X[pl]? = some x) (ho : x.op = 6) (hC : StepC w0 w mb cv uv V1 V2 V3 F S X U s k rb pl p fc fg) (hD : DoC w0 mb cv uv V1 F S X U k) :
    Calls Tryz.prog 63 #[.pointer (some ⟨rb, 0, none⟩)] w (StepP w0 w mb cv uv V1 F S rb fc fg (stepM X U S (fun pl p s => runM X U F S k (-1) pl p s) (-1) pl p s)) := by
  obtain ⟨g, c, As, cs, rfl, hc, hg0, hO, d0, d1, d2, d3, d4, d5⟩ := hC.inst hx
  have HC := Lib.hid hC
  have HD := Lib.hid hD
  have hmr := hC.ne
  have hplX : pl < X.length := (List.getElem?_eq_some_iff.1 hx).1
  have hpli : (pl : Int) < (X.length : Int) := by omega
  have hX3 : X.length ≤ 2003 := hC.prog.1
  have HI := Lib.hid (hC.prog.2 pl x hx)
  obtain ⟨k0, k1, k2, _⟩ := hC.run.c6
  have m0 := hC.mch.c9.1
  have HX := Lib.hid hx
  clear hC hD hx
  obtain ⟨xo, xa, xb, xc, xd, xs⟩ := x
  simp only at ho d0 d1 d2 d3 d4 d5 hO
  subst ho
  have e : stepM X U S (fun pl p s => runM X U F S k (-1) pl p s) (-1) pl p s = if edgeB U p xa then (3, pl + 1, p, s) else (0, pl, p, s) := by unfold stepM; rw [HX.out]; rfl
  rw [e]
  clear e
  unfold StepP
  have HN := Lib.hid (edge_any (w := w.drew) (a := xa) HC.out.env HC.out.below.drew HC.out.mch.drew HC.out.run (HI.out.edge rfl))
  generalize edgeB U p xa = bv at *
  go_enter Tryz.func63, Tryz.ntmps63
  go_wp2
  go_region
  go_wp2_with fail
  refine HN.out.mono ?_
  rintro e w1 ⟨rfl, m, hw1⟩
  have HM1 : Hid (Mch w0.heap.size w1 mb (.slice (some ⟨g, 0, none⟩) X.length c) uv F S s V1 V2 V3) := Lib.hid (by rw [hw1]; exact HC.out.mch.drew.drewN m)
  have HR1 : Hid (RunB w1 rb mb pl p (-1) fc fg) := Lib.hid (by rw [hw1]; exact HC.out.run)
  have HF1 : Hid (FrV w0.heap.size mb rb w w1) := Lib.hid (by rw [hw1]; exact (FrV.refl w).drew.drewN m)
  clear hw1 k0 k1 k2 m0 d0 d1 d2 d3 d4 d5
  cases bv
  · go_wp2
    go_ret
    exact ⟨rfl, ⟨_, _, HM1.out⟩, HR1.out, HF1.out⟩
  · dsimp only
    obtain ⟨_, k1, _⟩ := HR1.out.c6
    have f1 := HR1.out.fz 1
    go_wp2
    go_ret
    exact ⟨rfl, ⟨_, _, HM1.out.far HR1.out (by decide) (by decide) (by decide) (by decide) _⟩, HR1.out.place (pl + 1), HF1.out.set_ (q := ⟨rb, 1, none⟩) (.inr ⟨HC.out.low, .inr (.inl rfl)⟩) _⟩

set_option maxRecDepth 100000 in
set_option maxHeartbeats 4000000 in
theorem step_11 {k : Nat} {x : In} (hx : X[pl]? = some x) (ho : x.op = 11) (hC : StepC w0 w mb cv uv V1 V2 V3 F S X U s k rb pl p fc fg) (hD : DoC w0 mb cv uv V1 F S X U k) :
    Calls Tryz.prog 63 #[.pointer (some ⟨rb, 0, none⟩)] w (StepP w0 w mb cv uv V1 F S rb fc fg (stepM X U S (fun pl p s => runM X U F S k (-1) pl p s) (-1) pl p s)) := by
  obtain ⟨g, c, As, cs, rfl, hc, hg0, hO, d0, d1, d2, d3, d4, d5⟩ := hC.inst hx
  have HC := Lib.hid hC
  have HD := Lib.hid hD
  have hmr := hC.ne
  have hplX : pl < X.length := (List.getElem?_eq_some_iff.1 hx).1
  have hpli : (pl : Int) < (X.length : Int) := by omega
  have hX3 : X.length ≤ 2003 := hC.prog.1
  have HI := Lib.hid (hC.prog.2 pl x hx)
  obtain ⟨k0, k1, k2, _⟩ := hC.run.c6
  have m0 := hC.mch.c9.1
  have HX := Lib.hid hx
  clear hC hD hx
  obtain ⟨xo, xa, xb, xc, xd, xs⟩ := x
  simp only at ho d0 d1 d2 d3 d4 d5 hO
  subst ho
  have hj := HI.out.mark (.inr rfl)
  simp only at hj
  obtain ⟨a, rfl⟩ : ∃ a : Nat, xa = (a : Int) := ⟨xa.toNat, by omega⟩
  have hsl := HC.out.fit.sl
  obtain ⟨g1, c1, rfl, hc1, _, _, hcell, _⟩ := V1_form HC.out.mch (by omega)
  have hlt : 20 + a < s.sl.length := by omega
  have hlti : (20 : Int) + (a : Int) < (s.sl.length : Int) := by omega
  have hsl2 : (s.sl.length : Int) ≤ 4100 := by have := marks_le X; omega
  have e9 := hcell (20 + a) _ (List.getElem?_eq_getElem hlt)
  have hgd : s.sl.getD (20 + a) 0 = s.sl[20 + a] := by simp [List.getD, List.getElem?_eq_getElem hlt]
  have m6 := HC.out.mch.c9.2.2.2.2.2.2.1
  have e : stepM X U S (fun pl p s => runM X U F S k (-1) pl p s) (-1) pl p s = if s.sl.getD (20 + a) 0 = (p : Int) then (0, pl, p, s) else (3, pl + 1, p, s) := by unfold stepM; rw [HX.out]; rfl
  rw [e, hgd]
  clear e hcell hgd hsl
  generalize s.sl[20 + a] = z at *
  unfold StepP
  have HM1 := Lib.hid HC.out.mch.drew.drew
  have HR1 : Hid (RunB w.drew.drew rb mb pl p (-1) fc fg) := Lib.hid HC.out.run
  have HF1 : Hid (FrV w0.heap.size mb rb w w.drew.drew) := Lib.hid (FrV.refl w).drew.drew
  by_cases hz : z = (p : Int)
  · subst hz
    rw [if_pos rfl]
    go_enter Tryz.func63, Tryz.ntmps63
    go_wp2
    go_region
    go_wp2
    go_region
    go_wp2
    go_ret
    exact ⟨rfl, ⟨_, _, HM1.out⟩, HR1.out, HF1.out⟩
  · have hzb : (z != (p : Int)) = true := by simp [hz]
    simp only [hz, if_false]
    clear hz
    have f1 := HC.out.run.fz 1
    go_enter Tryz.func63, Tryz.ntmps63
    go_wp2
    go_region
    go_wp2
    go_region
    clear k0 k1 k2 m0 d0 d1 d2 d3 d4 d5 e9 m6 f1
    generalize w.drew.drew = w1 at *
    obtain ⟨_, k1, _⟩ := HR1.out.c6
    have f1 := HR1.out.fz 1
    go_wp2
    go_ret
    exact ⟨rfl, ⟨_, _, HM1.out.far HR1.out (by decide) (by decide) (by decide) (by decide) _⟩, HR1.out.place (pl + 1), HF1.out.set_ (q := ⟨rb, 1, none⟩) (.inr ⟨HC.out.low, .inr (.inl rfl)⟩) _⟩

end Go.Proofs.YtdbddbelhgkelaaGreatDoor

