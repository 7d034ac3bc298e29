/- unit.Next, by the library's contract for DecodeRune. -/
import Derived.Test.YthipgidddgdojaaDoorSmall
import Derived.Test.YthipgidddgdojaaDoorMath
import Derived.Test.YthipgidddgdojaaDoorShelf
import Derived.Lib.Hide
import Derived.Deep.DeepFit
namespace Go.Proofs.YthipgidddgdojaaDoor
open Go.RowKit

theorem get_list (l : List UInt8) (j : Nat) : (ByteArray.mk l.toArray).get! j = l.getD j 0 := by
  show l.toArray[j]! = _
  simp [List.getD_eq_getElem?_getD]
  rfl
theorem size_list (l : List UInt8) : (ByteArray.mk l.toArray).size = l.length := by simp [ByteArray.size]
theorem decodeGo_eq (l : List UInt8) (h : l ≠ []) : Lib.decodeGo ⟨l.toArray⟩ = dec l := by
  have hl : l.length ≠ 0 := fun e => h (List.eq_nil_of_length_eq_zero e)
  unfold Lib.decodeGo
  rw [size_list, if_neg hl, Lib.decode_at, size_list]
  simp only [get_list, Nat.sub_zero, Nat.zero_add]
  rfl

/-- The bytes of a text lie in the cells from an address on. -/
def Txt (w : World) (b off : Nat) (s : List UInt8) : Prop := ∀ j, j < s.length → w.cell? ⟨b, off + j, none⟩ = some (.int .u8 ((at_ s j : Nat) : Int))
theorem Txt.drop {w : World} {b off k : Nat} {s : List UInt8} (h : Txt w b off s) : Txt w b (off + k) (s.drop k) := fun j hj => by
  rw [at_drop, Nat.add_assoc]
  exact h _ (by rw [List.length_drop] at hj; omega)

theorem decode_list (l : List UInt8) (hl : l ≠ []) (b off cap n : Nat) (hn : n = l.length) (w : World) (hT : Lib.Utf8Tabs 0 1 w) (hp : Txt w b off l) :
    Calls Tryd.prog 63 #[.slice (some ⟨b, off, none⟩) n cap] w fun e w' => e = .returned (.tuple #[.int .i32 (dec l).1, .int .i64 (dec l).2]) ∧ Below w.heap.size w w' := by
  have h := Tryd.utf8_DecodeRune ⟨l.toArray⟩ b off cap w hT (fun j hj => by
    rw [size_list] at hj
    rw [get_list]
    exact hp j hj)
  rw [size_list, decodeGo_eq l hl] at h
  subst hn
  exact h

theorem next_out (A : Option Addr) (len cap : Nat) (k : Int) (h : k < 0 ∨ (len : Int) ≤ k) (w : World) :
    Calls Tryd.prog 47 #[.slice A len cap, .int .i64 k] w fun e w' => e = .returned (.tuple #[.int .i64 0, .int .i64 0]) ∧ w = w' := by
  by_cases h0 : k < 0
  · go_enter Tryd.func47, Tryd.ntmps47
    go_wp2
    go_ret2
    exact ⟨rfl, rfl⟩
  · have h1 : (len : Int) ≤ k := by omega
    clear h
    go_enter Tryd.func47, Tryd.ntmps47
    go_wp2
    go_ret2
    exact ⟨rfl, rfl⟩

theorem dec_le (s : List UInt8) (h : s ≠ []) : (dec s).1 ≤ 1114111 ∧ 1 ≤ (dec s).2 ∧ (dec s).2 ≤ 4 := by
  have hk := nx_le s h
  by_cases hd : dec s = (65533, 1)
  · rw [hd]; simp
  · rcases nx_cases s h with ⟨h1, _⟩ | ⟨_, _, h3⟩
    · have e : nx s = dec s := by unfold nx; rw [if_neg hd]
      rw [e] at h1 hk
      have := h1.1
      omega
    · exact absurd h3 hd

theorem next_in (s : List UInt8) (b off cap n k : Nat) (hn : n = s.length) (hk : k < n) (hcap : n ≤ cap) (w : World) (hT : Lib.Utf8Tabs 0 1 w) (hp : Txt w b off s) :
    Calls Tryd.prog 47 #[.slice (some ⟨b, off, none⟩) n cap, .int .i64 k] w fun e w' =>
      e = .returned (.tuple #[.int .i64 (nx (s.drop k)).1, .int .i64 (nx (s.drop k)).2]) ∧ Below w.heap.size w w' := by
  have hl : s.drop k ≠ [] := fun e => by have := congrArg List.length e; rw [List.length_drop, List.length_nil] at this; omega
  have hd := decode_list (s.drop k) hl b (off + k) (cap - k) (n - k) (by rw [List.length_drop, hn]) w hT hp.drop
  have hc : w.cell? ⟨b, off + k, none⟩ = some (.int .u8 ((at_ s k : Nat) : Int)) := hp k (by omega)
  have hblt : b < w.heap.size := block_lt_of_cell hc
  have hx := at_lt s k
  have hle := dec_le (s.drop k) hl
  have ea : at_ (s.drop k) 0 = at_ s k := by rw [at_drop]; rfl
  obtain ⟨x, ex⟩ : ∃ x, x = at_ s k := ⟨_, rfl⟩
  rw [← ex] at ea hc hx
  obtain ⟨r, z, hrz⟩ : ∃ r z, dec (s.drop k) = (r, z) := ⟨_, _, rfl⟩
  have hnx : nx (s.drop k) = if dec (s.drop k) = (65533, 1) then (1114112 + at_ (s.drop k) 0, 1) else dec (s.drop k) := rfl
  rw [ea] at hnx
  rw [hrz] at hd hle hnx
  simp only at hd hle
  obtain ⟨hr, hz1, hz4⟩ := hle
  have HN := Lib.hid hn
  have HX := Lib.hid hnx
  clear hn hT hp ex ea hrz hnx hl
  have hlt : (k : Int) < (n : Int) := by omega
  have hge : ¬ ((k : Int) < 0) := by omega
  by_cases h1 : r = 65533
  · subst h1
    by_cases h2 : z = 1
    · subst h2
      have H := Lib.hid hd
      clear hd
      go_enter Tryd.func47, Tryd.ntmps47
      go_wp2_with fail
      refine H.out.mono ?_
      rintro e w1 ⟨rfl, hB⟩
      have hc1 := (hB.cell (p := ⟨b, off + k, none⟩) hblt).trans hc
      go_wp2
      go_ret2
      rw [HX.out]
      exact ⟨ret_int_int (by simp) (by simp), hB⟩
    · have h2' : ¬ ((z : Int) = 1) := by omega
      have hz2 : (2 : Int) ≤ (z : Int) := by omega
      have H := Lib.hid hd
      clear hd
      go_enter Tryd.func47, Tryd.ntmps47
      go_wp2_with fail
      refine H.out.mono ?_
      rintro e w1 ⟨rfl, hB⟩
      go_wp2
      go_ret2
      rw [HX.out, if_neg (by simp; omega)]
      exact ⟨ret_int_int (by simp) (by simp), hB⟩
  · have h1' : ((r : Int) == 65533) = false := by simp; omega
    have H := Lib.hid hd
    clear hd
    go_enter Tryd.func47, Tryd.ntmps47
    go_wp2_with fail
    refine H.out.mono ?_
    rintro e w1 ⟨rfl, hB⟩
    go_wp2
    go_ret2
    rw [HX.out, if_neg (by simp [h1])]
    exact ⟨ret_int_int (by simp) (by simp), hB⟩

end Go.Proofs.YthipgidddgdojaaDoor
