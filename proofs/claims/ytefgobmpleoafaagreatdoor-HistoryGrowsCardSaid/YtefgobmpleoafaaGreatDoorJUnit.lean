/- Joined: Small, Shelf, Next, Split. -/
import Derived.Test.YtefgobmpleoafaaGreatDoorChecked
import Derived.WalkKit
import Derived.WalkSpells
import Derived.Outline
import Derived.Shelf.Spec.DecodeRune
import Derived.Test.YtefgobmpleoafaaGreatDoorProg
import Derived.Test.YtefgobmpleoafaaGreatDoorJMath
import Derived.Lib.Hide
import Derived.Deep.DeepFit
import Derived.RangeFuncBox
import Derived.RangeFuncLeaves
import Derived.Shelf.Abstract
import Derived.OwnWalkIn
import Derived.TacticsInMore
import Derived.LoopNIn
import Derived.LoopIn
import Derived.Maps.AppendAt
/- The small functions of the unit layer and of its reference, as contracts. -/
namespace Go.Proofs.YtefgobmpleoafaaGreatDoor
open Go.RowKit

def strayB (n : Int) : Bool := decide (1114240 ≤ n ∧ n ≤ 1114367)
def charB (n : Int) : Bool := decide (0 ≤ n ∧ n ≤ 1114111 ∧ (n < 55296 ∨ 57343 < n))

theorem ret_bool {a b : Bool} (h : a = b) : Ending.returned (.bool a) = .returned (.bool b) := by rw [h]

theorem char_any (n : Int) (w : World) : Calls Tryz.prog 119 #[.int .i64 n] w fun e w' => e = .returned (.bool (charB n)) ∧ w = w' := by
  by_cases h1 : 0 ≤ n
  · by_cases h2 : n ≤ 1114111
    · by_cases h3 : n < 55296
      · go_enter Tryz.func119, Tryz.ntmps119
        go_wp2
        go_ret
        exact ⟨ret_bool (by simp [charB]; omega), rfl⟩
      · by_cases h4 : 57343 < n
        · go_enter Tryz.func119, Tryz.ntmps119
          go_wp2
          go_ret
          exact ⟨ret_bool (by simp [charB]; omega), rfl⟩
        · go_enter Tryz.func119, Tryz.ntmps119
          go_wp2
          go_ret
          exact ⟨ret_bool (by simp [charB]; omega), rfl⟩
    · go_enter Tryz.func119, Tryz.ntmps119
      go_wp2
      go_ret
      exact ⟨ret_bool (by simp [charB]; omega), rfl⟩
  · go_enter Tryz.func119, Tryz.ntmps119
    go_wp2
    go_ret
    exact ⟨ret_bool (by simp [charB]; omega), rfl⟩

def charR (n : Int) : Int := if 0 ≤ n ∧ n ≤ 1114111 then n else 0
def rightB (n : Int) : Bool := charB n || strayB n

theorem ret_int_bool {k : IntKind} {a b : Int} {c d : Bool} (h : a = b) (h' : c = d) : Ending.returned (.tuple #[.int k a, .bool c]) = .returned (.tuple #[.int k b, .bool d]) := by rw [h, h']

/-- guess: the number that a lead byte begins, and how many bytes follow. -/
def guessN (c : Int) : Int := if c < 128 then c else if 192 ≤ c ∧ c < 224 then c - 192 else if 224 ≤ c ∧ c < 240 then c - 224 else if 240 ≤ c ∧ c < 248 then c - 240 else -1
def guessM (c : Int) : Nat := if c < 128 then 0 else if 192 ≤ c ∧ c < 224 then 1 else if 224 ≤ c ∧ c < 240 then 2 else if 240 ≤ c ∧ c < 248 then 3 else 0
theorem ret_int_int {k l : IntKind} {a b : Int} {c d : Int} (h : a = b) (h' : c = d) : Ending.returned (.tuple #[.int k a, .int l c]) = .returned (.tuple #[.int k b, .int l d]) := by rw [h, h']
end Go.Proofs.YtefgobmpleoafaaGreatDoor

/-
  DERIVED: THE SHELF's CONTRACTS AT THIS DUMP, IN PLAIN WORDS (tools/lay-plain.mjs out of 'YtefgobmpleoafaaGreatDoorShelf.lean', which tools/lay-shelf.mjs wrote): THE SAME DECLARATIONS UNDER THE SAME NAMES: 'import', 'namespace', 'open', 'def', 'theorem' AND NOTHING ELSE: no command of the shelf's: FOR A HAND-IN. Each laying: the table of numbers ('.._ren') and one theorem, a field a fact of the dump's own or the kernel's comparison; each contract: ONE APPLICATION.
-/
namespace Go.Proofs
open Go.Shelf
def Tryz.lays7s32_ren : Go.Shelf.Ren := ⟨fun | 32 => 180 | 49 => 184 | n => n, fun | 30 => 137 | 21 => 21 | 3 => 3 | 0 => 0 | 5 => 5 | 4 => 4 | 33 => 233 | 66 => 243 | 25 => 174 | 69 => 246 | 68 => 245 | n => n, fun | 2 => 0 | 3 => 1 | n => n⟩
theorem Tryz.lays7s32 : Go.Proofs.Lays7.n32 Tryz.prog Tryz.lays7s32_ren := {
  mixed := by kernel_rfl
  f32 := Tryz.func180.trans (congrArg some (by kernel_rfl))
  f49 := Tryz.func184.trans (congrArg some (by kernel_rfl))
  t0 := Tryz.underlying0
  a0 := Tryz.isAgg0
  z0 := Tryz.sizeOf0
  v0 := Tryz.zeroValue0
  i0 := by kernel_rfl
  t3 := Tryz.underlying3
  a3 := Tryz.isAgg3
  z3 := Tryz.sizeOf3
  v3 := Tryz.zeroValue3
  i3 := by kernel_rfl
  t4 := Tryz.underlying4
  a4 := Tryz.isAgg4
  z4 := Tryz.sizeOf4
  v4 := Tryz.zeroValue4
  i4 := by kernel_rfl
  t5 := Tryz.underlying5
  a5 := Tryz.isAgg5
  z5 := Tryz.sizeOf5
  v5 := Tryz.zeroValue5
  i5 := by kernel_rfl
  t21 := Tryz.underlying21
  a21 := Tryz.isAgg21
  z21 := Tryz.sizeOf21
  v21 := Tryz.zeroValue21
  i21 := by kernel_rfl
  t25 := Tryz.underlying174
  a25 := Tryz.isAgg174
  z25 := Tryz.sizeOf174
  v25 := Tryz.zeroValue174
  i25 := by kernel_rfl
  t30 := Tryz.underlying137
  a30 := Tryz.isAgg137
  z30 := Tryz.sizeOf137
  v30 := Tryz.zeroValue137
  i30 := by kernel_rfl
  t33 := Tryz.underlying233
  a33 := Tryz.isAgg233
  z33 := Tryz.sizeOf233
  v33 := Tryz.zeroValue233
  i33 := by kernel_rfl
  t66 := Tryz.underlying243
  a66 := Tryz.isAgg243
  z66 := Tryz.sizeOf243
  t68 := Tryz.underlying245
  a68 := Tryz.isAgg245
  z68 := Tryz.sizeOf245
  v68 := Tryz.zeroValue245
  i68 := by kernel_rfl
  t69 := Tryz.underlying246
  a69 := Tryz.isAgg246
  z69 := Tryz.sizeOf246
  v69 := Tryz.zeroValue246
  i69 := by kernel_rfl
  g2 := by kernel_rfl
  g3 := by kernel_rfl }
open Go.RowKit in
theorem Tryz.utf8_DecodeRune (s : ByteArray) (b off cap : Nat) (w : World) (hT : Lib.Utf8Tabs 0 1 w) (hp : ∀ j, j < s.size → w.cell? ⟨b, off + j, none⟩ = some (.int .u8 (s.get! j).toNat)) :
    Calls Tryz.prog 180 #[.slice (some ⟨b, off, none⟩) s.size cap] w fun e w' => e = .returned (.tuple #[.int .i32 (Lib.decodeGo s).1, .int .i64 (Lib.decodeGo s).2]) ∧ Below w.heap.size w w' := Any7.utf8_DecodeRune Tryz.lays7s32 s b off cap w hT hp
end Go.Proofs

/- unit.Next, by the library's contract for DecodeRune. -/
namespace Go.Proofs.YtefgobmpleoafaaGreatDoor
open Go.RowKit

theorem get_list (l : List UInt8) (j : Nat) : (ByteArray.mk l.toArray).get! j = l.getD j 0 := by
  show l.toArray[j]! = _
  simp [List.getD_eq_getElem?_getD]
  rfl
theorem size_list (l : List UInt8) : (ByteArray.mk l.toArray).size = l.length := by simp [ByteArray.size]
theorem decodeGo_eq (l : List UInt8) (h : l ≠ []) : Lib.decodeGo ⟨l.toArray⟩ = dec l := by
  have hl : l.length ≠ 0 := fun e => h (List.eq_nil_of_length_eq_zero e)
  unfold Lib.decodeGo
  rw [size_list, if_neg hl, Lib.decode_at, size_list]
  simp only [get_list, Nat.sub_zero, Nat.zero_add]
  rfl

/-- The bytes of a text lie in the cells from an address on. -/
def Txt (w : World) (b off : Nat) (s : List UInt8) : Prop := ∀ j, j < s.length → w.cell? ⟨b, off + j, none⟩ = some (.int .u8 ((at_ s j : Nat) : Int))
theorem Txt.drop {w : World} {b off k : Nat} {s : List UInt8} (h : Txt w b off s) : Txt w b (off + k) (s.drop k) := fun j hj => by
  rw [at_drop, Nat.add_assoc]
  exact h _ (by rw [List.length_drop] at hj; omega)

theorem decode_list (l : List UInt8) (hl : l ≠ []) (b off cap n : Nat) (hn : n = l.length) (w : World) (hT : Lib.Utf8Tabs 0 1 w) (hp : Txt w b off l) :
    Calls Tryz.prog 180 #[.slice (some ⟨b, off, none⟩) n cap] w fun e w' => e = .returned (.tuple #[.int .i32 (dec l).1, .int .i64 (dec l).2]) ∧ Below w.heap.size w w' := by
  have h := Tryz.utf8_DecodeRune ⟨l.toArray⟩ b off cap w hT (fun j hj => by
    rw [size_list] at hj
    rw [get_list]
    exact hp j hj)
  rw [size_list, decodeGo_eq l hl] at h
  subst hn
  exact h

theorem next_out (A : Option Addr) (len cap : Nat) (k : Int) (h : k < 0 ∨ (len : Int) ≤ k) (w : World) :
    Calls Tryz.prog 161 #[.slice A len cap, .int .i64 k] w fun e w' => e = .returned (.tuple #[.int .i64 0, .int .i64 0]) ∧ w = w' := by
  by_cases h0 : k < 0
  · go_enter Tryz.func161, Tryz.ntmps161
    go_wp2
    go_ret2
    exact ⟨rfl, rfl⟩
  · have h1 : (len : Int) ≤ k := by omega
    clear h
    go_enter Tryz.func161, Tryz.ntmps161
    go_wp2
    go_ret2
    exact ⟨rfl, rfl⟩

theorem dec_le (s : List UInt8) (h : s ≠ []) : (dec s).1 ≤ 1114111 ∧ 1 ≤ (dec s).2 ∧ (dec s).2 ≤ 4 := by
  have hk := nx_le s h
  by_cases hd : dec s = (65533, 1)
  · rw [hd]; simp
  · rcases nx_cases s h with ⟨h1, _⟩ | ⟨_, _, h3⟩
    · have e : nx s = dec s := by unfold nx; rw [if_neg hd]
      rw [e] at h1 hk
      have := h1.1
      omega
    · exact absurd h3 hd

theorem next_in (s : List UInt8) (b off cap n k : Nat) (hn : n = s.length) (hk : k < n) (hcap : n ≤ cap) (w : World) (hT : Lib.Utf8Tabs 0 1 w) (hp : Txt w b off s) :
    Calls Tryz.prog 161 #[.slice (some ⟨b, off, none⟩) n cap, .int .i64 k] w fun e w' =>
      e = .returned (.tuple #[.int .i64 (nx (s.drop k)).1, .int .i64 (nx (s.drop k)).2]) ∧ Below w.heap.size w w' := by
  have hl : s.drop k ≠ [] := fun e => by have := congrArg List.length e; rw [List.length_drop, List.length_nil] at this; omega
  have hd := decode_list (s.drop k) hl b (off + k) (cap - k) (n - k) (by rw [List.length_drop, hn]) w hT hp.drop
  have hc : w.cell? ⟨b, off + k, none⟩ = some (.int .u8 ((at_ s k : Nat) : Int)) := hp k (by omega)
  have hblt : b < w.heap.size := block_lt_of_cell hc
  have hx := at_lt s k
  have hle := dec_le (s.drop k) hl
  have ea : at_ (s.drop k) 0 = at_ s k := by rw [at_drop]; rfl
  obtain ⟨x, ex⟩ : ∃ x, x = at_ s k := ⟨_, rfl⟩
  rw [← ex] at ea hc hx
  obtain ⟨r, z, hrz⟩ : ∃ r z, dec (s.drop k) = (r, z) := ⟨_, _, rfl⟩
  have hnx : nx (s.drop k) = if dec (s.drop k) = (65533, 1) then (1114112 + at_ (s.drop k) 0, 1) else dec (s.drop k) := rfl
  rw [ea] at hnx
  rw [hrz] at hd hle hnx
  simp only at hd hle
  obtain ⟨hr, hz1, hz4⟩ := hle
  have HN := Lib.hid hn
  have HX := Lib.hid hnx
  clear hn hT hp ex ea hrz hnx hl
  have hlt : (k : Int) < (n : Int) := by omega
  have hge : ¬ ((k : Int) < 0) := by omega
  by_cases h1 : r = 65533
  · subst h1
    by_cases h2 : z = 1
    · subst h2
      have H := Lib.hid hd
      clear hd
      go_enter Tryz.func161, Tryz.ntmps161
      go_wp2_with fail
      refine H.out.mono ?_
      rintro e w1 ⟨rfl, hB⟩
      have hc1 := (hB.cell (p := ⟨b, off + k, none⟩) hblt).trans hc
      go_wp2
      go_ret2
      rw [HX.out]
      exact ⟨ret_int_int (by simp) (by simp), hB⟩
    · have h2' : ¬ ((z : Int) = 1) := by omega
      have hz2 : (2 : Int) ≤ (z : Int) := by omega
      have H := Lib.hid hd
      clear hd
      go_enter Tryz.func161, Tryz.ntmps161
      go_wp2_with fail
      refine H.out.mono ?_
      rintro e w1 ⟨rfl, hB⟩
      go_wp2
      go_ret2
      rw [HX.out, if_neg (by simp; omega)]
      exact ⟨ret_int_int (by simp) (by simp), hB⟩
  · have h1' : ((r : Int) == 65533) = false := by simp; omega
    have H := Lib.hid hd
    clear hd
    go_enter Tryz.func161, Tryz.ntmps161
    go_wp2_with fail
    refine H.out.mono ?_
    rintro e w1 ⟨rfl, hB⟩
    go_wp2
    go_ret2
    rw [HX.out, if_neg (by simp [h1])]
    exact ⟨ret_int_int (by simp) (by simp), hB⟩

end Go.Proofs.YtefgobmpleoafaaGreatDoor

/- unit.all and unit.Split: the iterator's contract, and the loop that collects what it yields. -/
namespace Go.Proofs.YtefgobmpleoafaaGreatDoor
open Go.RowKit Go.Shelf

attribute [local go_sem] Oper.semAt_some

theorem txt_below {n₀ b off : Nat} {s : List UInt8} {w w' : World} (h : Txt w b off s) (hb : b < n₀) (hB : Below n₀ w w') : Txt w' b off s :=
  fun j hj => (hB.cell (p := ⟨b, off + j, none⟩) hb).trans (h j hj)
theorem grown_of_below {a w : World} (h : Below a.heap.size a w) (row : Option Nat) : a.grownBy w row := ⟨h.os, h.tape, h.output, h.size, fun i hi _ => h.block i hi⟩

/-- The tables lie below a number of blocks. -/
def TabsAt (n₀ : Nat) (w : World) : Prop := 1 < n₀ ∧ Lib.Utf8Tabs 0 1 w
theorem TabsAt.below {n₀ : Nat} {w w' : World} (h : TabsAt n₀ w) (hB : Below n₀ w w') : TabsAt n₀ w' :=
  ⟨h.1, fun c hc => (hB.cell (p := ⟨0, c, none⟩) (show 0 < n₀ by have := h.1; omega)).trans (h.2.1 c hc),
   fun i hi => ⟨(hB.cell (p := ⟨1, 2 * i, none⟩) h.1).trans (h.2.2 i hi).1, (hB.cell (p := ⟨1, 2 * i + 1, none⟩) h.1).trans (h.2.2 i hi).2⟩⟩

/-- What a round of the loop keeps: all below n₀, and the box of the bytes. -/
def Kp (n₀ Bs : Nat) (sv : Value) (W W' : World) : Prop := Below n₀ W W' ∧ (Boxed W Bs 137 sv → Boxed W' Bs 137 sv)
theorem Kp.t {n₀ Bs : Nat} {sv : Value} {A B C : World} (h : Kp n₀ Bs sv A B) (k : Kp n₀ Bs sv B C) : Kp n₀ Bs sv A C := ⟨h.1.trans k.1, fun x => k.2 (h.2 x)⟩
theorem Kp.b {n₀ Bs : Nat} {sv : Value} {w : World} (hn : n₀ ≤ w.heap.size) (W : World) (l : Nat) (o o' : Obj) (hl : w.heap.size ≤ l) (h : W.heap[l]? = some o) (h1 : o.isCells = false) (h2 : o.isWalk = false) : Kp n₀ Bs sv W (W.putObj l o') :=
  ⟨belowK_b hn W l o o' hl h h1 h2, fun hx => hx.kept (grownBy_putObj' W l o') (fun e => by
    cases e
    rw [show W.heap[Bs]? = _ from hx] at h
    cases h
    cases h1)⟩

/-- A slice value that reads as a text; below n₀; a text of no bytes may lie anywhere. -/
def Bytes (n₀ : Nat) (w : World) (v : Value) (s : List UInt8) : Prop :=
  ∃ A cap, v = .slice A s.length cap ∧ s.length ≤ cap ∧ (s ≠ [] → ∃ b off, A = some ⟨b, off, none⟩ ∧ b < n₀ ∧ Txt w b off s)
theorem Bytes.below {n₀ : Nat} {w w' : World} {v : Value} {s : List UInt8} (h : Bytes n₀ w v s) (hB : Below n₀ w w') : Bytes n₀ w' v s := by
  obtain ⟨A, cap, hv, hc, h⟩ := h
  exact ⟨A, cap, hv, hc, fun hs => by
    obtain ⟨b, off, hA, hb, ht⟩ := h hs
    exact ⟨b, off, hA, hb, txt_below ht hb hB⟩⟩
theorem Bytes.more {n₀ n₁ : Nat} {w : World} {v : Value} {s : List UInt8} (h : Bytes n₀ w v s) (hn : n₀ ≤ n₁) : Bytes n₁ w v s := by
  obtain ⟨A, cap, hv, hc, h⟩ := h
  exact ⟨A, cap, hv, hc, fun hs => by
    obtain ⟨b, off, hA, hb, ht⟩ := h hs
    exact ⟨b, off, hA, by omega, ht⟩⟩

theorem info3 : (Tryz.prog.info? 3).map (fun i => (i.zero, i.size, i.bytes)) = some (some (.int .i64 0), 1, 8) := by kernel_rfl

def ints (l : List Nat) : List Value := l.map fun n => Value.int .i64 ((n : Nat) : Int)
theorem ints_snoc (l : List Nat) (n : Nat) : ints (l ++ [n]) = ints l ++ [.int .i64 ((n : Nat) : Int)] := by simp [ints]

end Go.Proofs.YtefgobmpleoafaaGreatDoor

