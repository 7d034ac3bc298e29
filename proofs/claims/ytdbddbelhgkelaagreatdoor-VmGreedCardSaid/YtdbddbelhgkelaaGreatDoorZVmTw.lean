/- VmGreed's two; found where it doesn't matter where. -/
import Derived.Test.YtdbddbelhgkelaaGreatDoorZMWe
import Derived.Test.YtdbddbelhgkelaaGreatDoorZMRf
import Derived.Test.YtdbddbelhgkelaaGreatDoorZVmAh
namespace Go.Proofs.YtdbddbelhgkelaaGreatDoor
open Go.RowKit
open Go.Proofs.YtdbddbelhgkelaaGreatDoor.Cl (Rg SetV SetAt rgCells info_three hasB)
variable {w w' w0 : World} {X : List In} {U : List Int}

theorem dd_two : ∀ k : Nat, k < 21 → ((at_ (dd k) 0 : Nat) : Int) = 48 + (k : Int) / 10 ∧ ((at_ (dd k) 1 : Nat) : Int) = 48 + (k : Int) % 10 ∧ (dd k).length = 2 := by decide
set_option maxRecDepth 100000 in
set_option maxHeartbeats 4000000 in
theorem two_any (k : Nat) (hk : k ≤ 20) (w : World) : Calls Tryz.prog 22 #[.int .i64 (k : Nat)] w fun e w' => e = .returned (.string ⟨(dd k).toArray⟩) ∧ Below w.heap.size w w' := by
  obtain ⟨d0, d1, d2⟩ := dd_two k (by omega)
  have hB : Bytes (w.heap.size + 1) (w.alloc (.cells #[.int .u8 (48 + (k : Int) / 10), .int .u8 (48 + (k : Int) % 10)] 5)) (.slice (some ⟨w.heap.size, 0, none⟩) 2 2) (dd k) := by
    refine ⟨some ⟨w.heap.size, 0, none⟩, 2, by rw [d2], by rw [d2]; exact Nat.le_refl _, fun _ => ⟨w.heap.size, 0, rfl, by omega, fun j hj => ?_⟩⟩
    rw [d2] at hj
    match j, hj with
    | 0, _ => rw [d0]; simp
    | 1, _ => rw [d1]; simp
  have hcs := run_string_bytes6 hB
  clear hB d0 d1 d2
  have HB := Lib.hid ((Below.refl w.heap.size w).alloc (Nat.le_refl _) (.cells #[.int .u8 (48 + (k : Int) / 10), .int .u8 (48 + (k : Int) % 10)] 5))
  generalize dd k = s at hcs ⊢
  go_enter Tryz.func22, Tryz.ntmps22
  go_wp2
  go_ret
  exact ⟨rfl, HB.out⟩

set_option maxRecDepth 100000 in
set_option maxHeartbeats 4000000 in
theorem found_one {x : ByteArray} {uv : Value} {k : Nat} (hl : x.size ≤ 1000000) (hT : TabL w.heap.size w) (hx : prT x = X) (hX : PrOk X) (h0 : 0 < X.length) (hU : w.ownsRow 0 3 1 uv U.length (zI U)) (hle : U.length ≤ 2000)
    (hR : (findM X U 20000 4096 (U.length + 1) 0 (startM X)).1 = k) (h2 : k = 0 ∨ k = 1) :
    Calls Tryz.prog 23 #[.string x, uv] w fun e w' => (∃ a b : Int, e = .returned (.tuple #[.int .i64 (k : Nat), .int .i64 a, .int .i64 b])) ∧ Below w.heap.size w w' := by
  rcases h2 with rfl | rfl
  · have h := found_any (a := 0) (b := 0) hl hT hx hX h0 hU hle rfl (.inl hR)
    rw [hR] at h
    exact h.mono fun e w' ⟨he, hb⟩ => ⟨⟨_, _, he⟩, hb⟩
  have HM := Lib.hid (made6_any x hl hT)
  unfold MadeQ at HM
  rw [hx] at HM
  have q : ∀ (w : World) (a : Option Addr) (n c n' c' : Nat), (binOp .eql 54 (.slice a n c) (.slice none n' c')).run Tryz.prog w = .ok (.bool a.isNone) w := fun w a n c n' c' => Lib.run_eql_slice_nil w _ _ a n c n' c' Tryz.underlying54
  go_enter Tryz.func23, Tryz.ntmps23
  go_wp2_with fail
  refine HM.out.mono ?_
  rintro e w1 ⟨hb1, A, c, rfl, hP⟩
  have hE : EnvV w1 (.slice A X.length c) uv X U := ⟨hP.more (Nat.zero_le _), own_kept hU fun i hi _ _ => hb1.block i hi, hle⟩
  obtain ⟨g, c', _, _, hv, _⟩ := hP.six (List.getElem?_eq_getElem h0)
  obtain ⟨rfl, _, rfl⟩ := Value.slice.inj hv
  have HF := Lib.hid (fun (W : World) (hb : Below w1.heap.size w1 W) => vfind_any (F := 20000) (S := 4096) (hE.on hb) hX h0 (by omega) (by omega))
  generalize findM X U 20000 4096 (U.length + 1) 0 (startM X) = R at HF hR
  clear hv hE hP HM
  go_wp2_with fail
  refine (HF.out w1 (Below.refl _ _)).mono ?_
  rintro e w2 ⟨V, rfl, h1, h3, hb2⟩
  have HB2 := Lib.hid (hb1.trans (hb2.mono hb1.size))
  obtain ⟨k, s⟩ := R
  simp only at h1 h3 hR ⊢
  subst hR
  have hrow := h1 rfl
  rcases own_at hrow with ⟨_, h⟩ | ⟨g', c2, rfl, _, _, ⟨cs, z, hg'⟩, hcell, _⟩
  · omega
  have hl20 : 20 ≤ s.sl.length := by have := hrow.1; simp [zI] at this; omega
  have hlt := lt_of_some hg'
  have ha : w2.cell? ⟨g', 0, none⟩ = some (.int .i64 s.sl[0]) := (hcell 0 (by omega)).trans (zI_get (by rw [List.getElem?_take_of_lt (by omega)]; exact List.getElem?_eq_getElem (by omega)))
  have hb : w2.cell? ⟨g', 1, none⟩ = some (.int .i64 s.sl[1]) := (hcell 1 (by omega)).trans (zI_get (by rw [List.getElem?_take_of_lt (by omega)]; exact List.getElem?_eq_getElem (by omega)))
  generalize s.sl[0] = a at ha
  generalize s.sl[1] = b at hb
  clear h1 h3 hb2 HF hcell hrow
  go_wp2
  go_region
  go_wp2
  go_ret3
  exact ⟨⟨_, _, rfl⟩, (HB2.out.alloc HB2.out.size _).drew⟩

end Go.Proofs.YtdbddbelhgkelaaGreatDoor
