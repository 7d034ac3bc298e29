/- The reference's Bytes, as a contract. -/
import Derived.Test.YtphpcdnefjbopaaDoorAppend
namespace Go.Proofs.YtphpcdnefjbopaaDoor
open Go.RowKit Go.Shelf

theorem byteCells_toB (l : List Nat) (h : ∀ x ∈ l, x < 256) : Lib.byteCells (toB l) = l.map fun x => Value.int .u8 ((x : Nat) : Int) := by
  simp only [Lib.byteCells, toB, List.map_map]
  apply List.map_congr_left
  intro x hx
  have := h x hx
  simp
  omega

theorem enc_cells {c : Nat} {l : List Int} {w : World} {n : Nat} (hn : n = l.length) (h : (encN c).map (fun x => ((x : Nat) : Int)) = l) (hb : ∀ x ∈ encN c, x < 256) :
    Bytes (w.alloc (.cells (l.map (Value.int .u8)).toArray 5)).heap.size (w.alloc (.cells (l.map (Value.int .u8)).toArray 5)) (.slice (some ⟨w.heap.size, 0, none⟩) n n) (toB (encN c)) := by
  rw [World.size_alloc]
  refine bytes_lit w _ _ (0, 0) n (by simp [hn]) ?_
  rw [byteCells_toB _ hb, ← h]
  simp

set_option maxHeartbeats 1000000 in
theorem bytes_any (c : Nat) (hc : isCh c) (w : World) :
    Calls Tryd.prog 19 #[.int .i64 (c : Int)] w fun e w' => ∃ v, e = .returned v ∧ Bytes w'.heap.size w' v (toB (encN c)) ∧ Below w.heap.size w w' := by
  have hb := encN_byte c hc.1
  have h0 : (0 : Int) ≤ (c : Int) := by omega
  have h9 : (c : Int) ≤ 1114111 := by have := hc.1; omega
  have HE : Hid (∀ n l, n = l.length → (encN c).map (fun x => ((x : Nat) : Int)) = l → Bytes (w.alloc (.cells (l.map (Value.int .u8)).toArray 5)).heap.size (w.alloc (.cells (l.map (Value.int .u8)).toArray 5)) (.slice (some ⟨w.heap.size, 0, none⟩) n n) (toB (encN c))) :=
    Lib.hid (fun n l hn h => enc_cells hn h hb)
  clear hb hc
  by_cases h1 : (c : Int) < 128
  · go_enter Tryd.func19, Tryd.ntmps19
    go_wp2
    go_ret
    refine ⟨_, rfl, HE.out 1 [(c : Int)] rfl ?_, (Below.refl _ _).alloc (Nat.le_refl _) _⟩
    simp [encN, show c < 128 by omega]
  · by_cases h2 : (c : Int) < 2048
    · go_enter Tryd.func19, Tryd.ntmps19
      go_wp2
      go_ret
      refine ⟨_, rfl, HE.out 2 [192 + (c : Int) / 64, 128 + (c : Int) % 64] rfl ?_, (Below.refl _ _).alloc (Nat.le_refl _) _⟩
      simp [encN, show ¬ c < 128 by omega, show c < 2048 by omega]
    · by_cases h3 : (c : Int) < 65536
      · go_enter Tryd.func19, Tryd.ntmps19
        go_wp2
        go_ret
        refine ⟨_, rfl, HE.out 3 [224 + (c : Int) / 4096, 128 + (c : Int) / 64 % 64, 128 + (c : Int) % 64] rfl ?_, (Below.refl _ _).alloc (Nat.le_refl _) _⟩
        simp [encN, show ¬ c < 128 by omega, show ¬ c < 2048 by omega, show c < 65536 by omega]
      · go_enter Tryd.func19, Tryd.ntmps19
        go_wp2
        go_ret
        refine ⟨_, rfl, HE.out 4 [240 + (c : Int) / 262144, 128 + (c : Int) / 4096 % 64, 128 + (c : Int) / 64 % 64, 128 + (c : Int) % 64] rfl ?_, (Below.refl _ _).alloc (Nat.le_refl _) _⟩
        simp [encN, show ¬ c < 128 by omega, show ¬ c < 2048 by omega, show ¬ c < 65536 by omega]

end Go.Proofs.YtphpcdnefjbopaaDoor
