/- Joined: Small, Shelf, Next, Split, Same, Append, Enc, RefM. -/
import Derived.Test.YthipgidddgdojaaDoorChecked
import Derived.WalkKit
import Derived.WalkSpells
import Derived.Outline
import Derived.Shelf.Spec.DecodeRune
import Derived.Test.YthipgidddgdojaaDoorProg
import Derived.Test.YthipgidddgdojaaDoorMMath
import Derived.Lib.Hide
import Derived.Deep.DeepFit
import Derived.RangeFuncBox
import Derived.RangeFuncLeaves
import Derived.Shelf.Abstract
import Derived.OwnWalkIn
import Derived.TacticsInMore
import Derived.LoopNIn
import Derived.LoopIn
import Derived.Maps.AppendAt
import Derived.LoopTactic
import Derived.Lib.SlBytesConst
import Derived.WalkLawsBesides
/- The small functions of the unit layer and of its reference, as contracts. -/
namespace Go.Proofs.YthipgidddgdojaaDoor
open Go.RowKit

def strayB (n : Int) : Bool := decide (1114240 ≤ n ∧ n ≤ 1114367)
def charB (n : Int) : Bool := decide (0 ≤ n ∧ n ≤ 1114111 ∧ (n < 55296 ∨ 57343 < n))

theorem ret_bool {a b : Bool} (h : a = b) : Ending.returned (.bool a) = .returned (.bool b) := by rw [h]

theorem char_any (n : Int) (w : World) : Calls Tryd.prog 12 #[.int .i64 n] w fun e w' => e = .returned (.bool (charB n)) ∧ w = w' := by
  by_cases h1 : 0 ≤ n
  · by_cases h2 : n ≤ 1114111
    · by_cases h3 : n < 55296
      · go_enter Tryd.func12, Tryd.ntmps12
        go_wp2
        go_ret
        exact ⟨ret_bool (by simp [charB]; omega), rfl⟩
      · by_cases h4 : 57343 < n
        · go_enter Tryd.func12, Tryd.ntmps12
          go_wp2
          go_ret
          exact ⟨ret_bool (by simp [charB]; omega), rfl⟩
        · go_enter Tryd.func12, Tryd.ntmps12
          go_wp2
          go_ret
          exact ⟨ret_bool (by simp [charB]; omega), rfl⟩
    · go_enter Tryd.func12, Tryd.ntmps12
      go_wp2
      go_ret
      exact ⟨ret_bool (by simp [charB]; omega), rfl⟩
  · go_enter Tryd.func12, Tryd.ntmps12
    go_wp2
    go_ret
    exact ⟨ret_bool (by simp [charB]; omega), rfl⟩

def charR (n : Int) : Int := if 0 ≤ n ∧ n ≤ 1114111 then n else 0
def rightB (n : Int) : Bool := charB n || strayB n

theorem ret_int_bool {k : IntKind} {a b : Int} {c d : Bool} (h : a = b) (h' : c = d) : Ending.returned (.tuple #[.int k a, .bool c]) = .returned (.tuple #[.int k b, .bool d]) := by rw [h, h']

/-- guess: the number that a lead byte begins, and how many bytes follow. -/
def guessN (c : Int) : Int := if c < 128 then c else if 192 ≤ c ∧ c < 224 then c - 192 else if 224 ≤ c ∧ c < 240 then c - 224 else if 240 ≤ c ∧ c < 248 then c - 240 else -1
def guessM (c : Int) : Nat := if c < 128 then 0 else if 192 ≤ c ∧ c < 224 then 1 else if 224 ≤ c ∧ c < 240 then 2 else if 240 ≤ c ∧ c < 248 then 3 else 0
theorem ret_int_int {k l : IntKind} {a b : Int} {c d : Int} (h : a = b) (h' : c = d) : Ending.returned (.tuple #[.int k a, .int l c]) = .returned (.tuple #[.int k b, .int l d]) := by rw [h, h']
end Go.Proofs.YthipgidddgdojaaDoor

/-
  DERIVED: THE SHELF's CONTRACTS AT THIS DUMP, IN PLAIN WORDS (tools/lay-plain.mjs out of 'YthipgidddgdojaaDoorShelf.lean', which tools/lay-shelf.mjs wrote): THE SAME DECLARATIONS UNDER THE SAME NAMES: 'import', 'namespace', 'open', 'def', 'theorem' AND NOTHING ELSE: no command of the shelf's: FOR A HAND-IN. Each laying: the table of numbers ('.._ren') and one theorem, a field a fact of the dump's own or the kernel's comparison; each contract: ONE APPLICATION.
-/
namespace Go.Proofs
open Go.Shelf
def Tryd.lays7s32_ren : Go.Shelf.Ren := ⟨fun | 32 => 63 | 49 => 68 | n => n, fun | 30 => 40 | 21 => 21 | 3 => 3 | 0 => 0 | 5 => 5 | 4 => 4 | 33 => 83 | 66 => 100 | 25 => 87 | 69 => 103 | 68 => 102 | n => n, fun | 2 => 0 | 3 => 1 | n => n⟩
theorem Tryd.lays7s32 : Go.Proofs.Lays7.n32 Tryd.prog Tryd.lays7s32_ren := {
  mixed := by kernel_rfl
  f32 := Tryd.func63.trans (congrArg some (by kernel_rfl))
  f49 := Tryd.func68.trans (congrArg some (by kernel_rfl))
  t0 := Tryd.underlying0
  a0 := Tryd.isAgg0
  z0 := Tryd.sizeOf0
  v0 := Tryd.zeroValue0
  i0 := by kernel_rfl
  t3 := Tryd.underlying3
  a3 := Tryd.isAgg3
  z3 := Tryd.sizeOf3
  v3 := Tryd.zeroValue3
  i3 := by kernel_rfl
  t4 := Tryd.underlying4
  a4 := Tryd.isAgg4
  z4 := Tryd.sizeOf4
  v4 := Tryd.zeroValue4
  i4 := by kernel_rfl
  t5 := Tryd.underlying5
  a5 := Tryd.isAgg5
  z5 := Tryd.sizeOf5
  v5 := Tryd.zeroValue5
  i5 := by kernel_rfl
  t21 := Tryd.underlying21
  a21 := Tryd.isAgg21
  z21 := Tryd.sizeOf21
  v21 := Tryd.zeroValue21
  i21 := by kernel_rfl
  t25 := Tryd.underlying87
  a25 := Tryd.isAgg87
  z25 := Tryd.sizeOf87
  v25 := Tryd.zeroValue87
  i25 := by kernel_rfl
  t30 := Tryd.underlying40
  a30 := Tryd.isAgg40
  z30 := Tryd.sizeOf40
  v30 := Tryd.zeroValue40
  i30 := by kernel_rfl
  t33 := Tryd.underlying83
  a33 := Tryd.isAgg83
  z33 := Tryd.sizeOf83
  v33 := Tryd.zeroValue83
  i33 := by kernel_rfl
  t66 := Tryd.underlying100
  a66 := Tryd.isAgg100
  z66 := Tryd.sizeOf100
  t68 := Tryd.underlying102
  a68 := Tryd.isAgg102
  z68 := Tryd.sizeOf102
  v68 := Tryd.zeroValue102
  i68 := by kernel_rfl
  t69 := Tryd.underlying103
  a69 := Tryd.isAgg103
  z69 := Tryd.sizeOf103
  v69 := Tryd.zeroValue103
  i69 := by kernel_rfl
  g2 := by kernel_rfl
  g3 := by kernel_rfl }
open Go.RowKit in
theorem Tryd.utf8_DecodeRune (s : ByteArray) (b off cap : Nat) (w : World) (hT : Lib.Utf8Tabs 0 1 w) (hp : ∀ j, j < s.size → w.cell? ⟨b, off + j, none⟩ = some (.int .u8 (s.get! j).toNat)) :
    Calls Tryd.prog 63 #[.slice (some ⟨b, off, none⟩) s.size cap] w fun e w' => e = .returned (.tuple #[.int .i32 (Lib.decodeGo s).1, .int .i64 (Lib.decodeGo s).2]) ∧ Below w.heap.size w w' := Any7.utf8_DecodeRune Tryd.lays7s32 s b off cap w hT hp
end Go.Proofs

/- unit.Next, by the library's contract for DecodeRune. -/
namespace Go.Proofs.YthipgidddgdojaaDoor
open Go.RowKit

theorem get_list (l : List UInt8) (j : Nat) : (ByteArray.mk l.toArray).get! j = l.getD j 0 := by
  show l.toArray[j]! = _
  simp [List.getD_eq_getElem?_getD]
  rfl
theorem size_list (l : List UInt8) : (ByteArray.mk l.toArray).size = l.length := by simp [ByteArray.size]
theorem decodeGo_eq (l : List UInt8) (h : l ≠ []) : Lib.decodeGo ⟨l.toArray⟩ = dec l := by
  have hl : l.length ≠ 0 := fun e => h (List.eq_nil_of_length_eq_zero e)
  unfold Lib.decodeGo
  rw [size_list, if_neg hl, Lib.decode_at, size_list]
  simp only [get_list, Nat.sub_zero, Nat.zero_add]
  rfl

/-- The bytes of a text lie in the cells from an address on. -/
def Txt (w : World) (b off : Nat) (s : List UInt8) : Prop := ∀ j, j < s.length → w.cell? ⟨b, off + j, none⟩ = some (.int .u8 ((at_ s j : Nat) : Int))
theorem Txt.drop {w : World} {b off k : Nat} {s : List UInt8} (h : Txt w b off s) : Txt w b (off + k) (s.drop k) := fun j hj => by
  rw [at_drop, Nat.add_assoc]
  exact h _ (by rw [List.length_drop] at hj; omega)

theorem decode_list (l : List UInt8) (hl : l ≠ []) (b off cap n : Nat) (hn : n = l.length) (w : World) (hT : Lib.Utf8Tabs 0 1 w) (hp : Txt w b off l) :
    Calls Tryd.prog 63 #[.slice (some ⟨b, off, none⟩) n cap] w fun e w' => e = .returned (.tuple #[.int .i32 (dec l).1, .int .i64 (dec l).2]) ∧ Below w.heap.size w w' := by
  have h := Tryd.utf8_DecodeRune ⟨l.toArray⟩ b off cap w hT (fun j hj => by
    rw [size_list] at hj
    rw [get_list]
    exact hp j hj)
  rw [size_list, decodeGo_eq l hl] at h
  subst hn
  exact h

theorem next_out (A : Option Addr) (len cap : Nat) (k : Int) (h : k < 0 ∨ (len : Int) ≤ k) (w : World) :
    Calls Tryd.prog 47 #[.slice A len cap, .int .i64 k] w fun e w' => e = .returned (.tuple #[.int .i64 0, .int .i64 0]) ∧ w = w' := by
  by_cases h0 : k < 0
  · go_enter Tryd.func47, Tryd.ntmps47
    go_wp2
    go_ret2
    exact ⟨rfl, rfl⟩
  · have h1 : (len : Int) ≤ k := by omega
    clear h
    go_enter Tryd.func47, Tryd.ntmps47
    go_wp2
    go_ret2
    exact ⟨rfl, rfl⟩

theorem dec_le (s : List UInt8) (h : s ≠ []) : (dec s).1 ≤ 1114111 ∧ 1 ≤ (dec s).2 ∧ (dec s).2 ≤ 4 := by
  have hk := nx_le s h
  by_cases hd : dec s = (65533, 1)
  · rw [hd]; simp
  · rcases nx_cases s h with ⟨h1, _⟩ | ⟨_, _, h3⟩
    · have e : nx s = dec s := by unfold nx; rw [if_neg hd]
      rw [e] at h1 hk
      have := h1.1
      omega
    · exact absurd h3 hd

theorem next_in (s : List UInt8) (b off cap n k : Nat) (hn : n = s.length) (hk : k < n) (hcap : n ≤ cap) (w : World) (hT : Lib.Utf8Tabs 0 1 w) (hp : Txt w b off s) :
    Calls Tryd.prog 47 #[.slice (some ⟨b, off, none⟩) n cap, .int .i64 k] w fun e w' =>
      e = .returned (.tuple #[.int .i64 (nx (s.drop k)).1, .int .i64 (nx (s.drop k)).2]) ∧ Below w.heap.size w w' := by
  have hl : s.drop k ≠ [] := fun e => by have := congrArg List.length e; rw [List.length_drop, List.length_nil] at this; omega
  have hd := decode_list (s.drop k) hl b (off + k) (cap - k) (n - k) (by rw [List.length_drop, hn]) w hT hp.drop
  have hc : w.cell? ⟨b, off + k, none⟩ = some (.int .u8 ((at_ s k : Nat) : Int)) := hp k (by omega)
  have hblt : b < w.heap.size := block_lt_of_cell hc
  have hx := at_lt s k
  have hle := dec_le (s.drop k) hl
  have ea : at_ (s.drop k) 0 = at_ s k := by rw [at_drop]; rfl
  obtain ⟨x, ex⟩ : ∃ x, x = at_ s k := ⟨_, rfl⟩
  rw [← ex] at ea hc hx
  obtain ⟨r, z, hrz⟩ : ∃ r z, dec (s.drop k) = (r, z) := ⟨_, _, rfl⟩
  have hnx : nx (s.drop k) = if dec (s.drop k) = (65533, 1) then (1114112 + at_ (s.drop k) 0, 1) else dec (s.drop k) := rfl
  rw [ea] at hnx
  rw [hrz] at hd hle hnx
  simp only at hd hle
  obtain ⟨hr, hz1, hz4⟩ := hle
  have HN := Lib.hid hn
  have HX := Lib.hid hnx
  clear hn hT hp ex ea hrz hnx hl
  have hlt : (k : Int) < (n : Int) := by omega
  have hge : ¬ ((k : Int) < 0) := by omega
  by_cases h1 : r = 65533
  · subst h1
    by_cases h2 : z = 1
    · subst h2
      have H := Lib.hid hd
      clear hd
      go_enter Tryd.func47, Tryd.ntmps47
      go_wp2_with fail
      refine H.out.mono ?_
      rintro e w1 ⟨rfl, hB⟩
      have hc1 := (hB.cell (p := ⟨b, off + k, none⟩) hblt).trans hc
      go_wp2
      go_ret2
      rw [HX.out]
      exact ⟨ret_int_int (by simp) (by simp), hB⟩
    · have h2' : ¬ ((z : Int) = 1) := by omega
      have hz2 : (2 : Int) ≤ (z : Int) := by omega
      have H := Lib.hid hd
      clear hd
      go_enter Tryd.func47, Tryd.ntmps47
      go_wp2_with fail
      refine H.out.mono ?_
      rintro e w1 ⟨rfl, hB⟩
      go_wp2
      go_ret2
      rw [HX.out, if_neg (by simp; omega)]
      exact ⟨ret_int_int (by simp) (by simp), hB⟩
  · have h1' : ((r : Int) == 65533) = false := by simp; omega
    have H := Lib.hid hd
    clear hd
    go_enter Tryd.func47, Tryd.ntmps47
    go_wp2_with fail
    refine H.out.mono ?_
    rintro e w1 ⟨rfl, hB⟩
    go_wp2
    go_ret2
    rw [HX.out, if_neg (by simp [h1])]
    exact ⟨ret_int_int (by simp) (by simp), hB⟩

end Go.Proofs.YthipgidddgdojaaDoor

/- unit.all and unit.Split: the iterator's contract, and the loop that collects what it yields. -/
namespace Go.Proofs.YthipgidddgdojaaDoor
open Go.RowKit Go.Shelf

attribute [local go_sem] Oper.semAt_some

theorem txt_below {n₀ b off : Nat} {s : List UInt8} {w w' : World} (h : Txt w b off s) (hb : b < n₀) (hB : Below n₀ w w') : Txt w' b off s :=
  fun j hj => (hB.cell (p := ⟨b, off + j, none⟩) hb).trans (h j hj)
theorem grown_of_below {a w : World} (h : Below a.heap.size a w) (row : Option Nat) : a.grownBy w row := ⟨h.os, h.tape, h.output, h.size, fun i hi _ => h.block i hi⟩

/-- The tables lie below a number of blocks. -/
def TabsAt (n₀ : Nat) (w : World) : Prop := 1 < n₀ ∧ Lib.Utf8Tabs 0 1 w
theorem TabsAt.below {n₀ : Nat} {w w' : World} (h : TabsAt n₀ w) (hB : Below n₀ w w') : TabsAt n₀ w' :=
  ⟨h.1, fun c hc => (hB.cell (p := ⟨0, c, none⟩) (show 0 < n₀ by have := h.1; omega)).trans (h.2.1 c hc),
   fun i hi => ⟨(hB.cell (p := ⟨1, 2 * i, none⟩) h.1).trans (h.2.2 i hi).1, (hB.cell (p := ⟨1, 2 * i + 1, none⟩) h.1).trans (h.2.2 i hi).2⟩⟩

/-- What a round of the loop keeps: all below n₀, and the box of the bytes. -/
def Kp (n₀ Bs : Nat) (sv : Value) (W W' : World) : Prop := Below n₀ W W' ∧ (Boxed W Bs 40 sv → Boxed W' Bs 40 sv)
theorem Kp.t {n₀ Bs : Nat} {sv : Value} {A B C : World} (h : Kp n₀ Bs sv A B) (k : Kp n₀ Bs sv B C) : Kp n₀ Bs sv A C := ⟨h.1.trans k.1, fun x => k.2 (h.2 x)⟩
theorem Kp.b {n₀ Bs : Nat} {sv : Value} {w : World} (hn : n₀ ≤ w.heap.size) (W : World) (l : Nat) (o o' : Obj) (hl : w.heap.size ≤ l) (h : W.heap[l]? = some o) (h1 : o.isCells = false) (h2 : o.isWalk = false) : Kp n₀ Bs sv W (W.putObj l o') :=
  ⟨belowK_b hn W l o o' hl h h1 h2, fun hx => hx.kept (grownBy_putObj' W l o') (fun e => by
    cases e
    rw [show W.heap[Bs]? = _ from hx] at h
    cases h
    cases h1)⟩

/-- A slice value that reads as a text; below n₀; a text of no bytes may lie anywhere. -/
def Bytes (n₀ : Nat) (w : World) (v : Value) (s : List UInt8) : Prop :=
  ∃ A cap, v = .slice A s.length cap ∧ s.length ≤ cap ∧ (s ≠ [] → ∃ b off, A = some ⟨b, off, none⟩ ∧ b < n₀ ∧ Txt w b off s)
theorem Bytes.below {n₀ : Nat} {w w' : World} {v : Value} {s : List UInt8} (h : Bytes n₀ w v s) (hB : Below n₀ w w') : Bytes n₀ w' v s := by
  obtain ⟨A, cap, hv, hc, h⟩ := h
  exact ⟨A, cap, hv, hc, fun hs => by
    obtain ⟨b, off, hA, hb, ht⟩ := h hs
    exact ⟨b, off, hA, hb, txt_below ht hb hB⟩⟩
theorem Bytes.more {n₀ n₁ : Nat} {w : World} {v : Value} {s : List UInt8} (h : Bytes n₀ w v s) (hn : n₀ ≤ n₁) : Bytes n₁ w v s := by
  obtain ⟨A, cap, hv, hc, h⟩ := h
  exact ⟨A, cap, hv, hc, fun hs => by
    obtain ⟨b, off, hA, hb, ht⟩ := h hs
    exact ⟨b, off, hA, by omega, ht⟩⟩

theorem info3 : (Tryd.prog.info? 3).map (fun i => (i.zero, i.size, i.bytes)) = some (some (.int .i64 0), 1, 8) := by kernel_rfl

def ints (l : List Nat) : List Value := l.map fun n => Value.int .i64 ((n : Nat) : Int)
theorem ints_snoc (l : List Nat) (n : Nat) : ints (l ++ [n]) = ints l ++ [.int .i64 ((n : Nat) : Int)] := by simp [ints]

end Go.Proofs.YthipgidddgdojaaDoor

/- Slices that read as a list of values; the law's own 'same'; its anchor. -/
namespace Go.Proofs.YthipgidddgdojaaDoor
open Go.RowKit Go.Shelf

/-- A slice value that reads as a list of values of one cell each; below n₀; one of no values may lie anywhere. -/
def Row (n₀ : Nat) (w : World) (v : Value) (xs : List Value) : Prop :=
  ∃ A cap, v = .slice A xs.length cap ∧ xs.length ≤ cap ∧ (xs ≠ [] → ∃ b off, A = some ⟨b, off, none⟩ ∧ b < n₀ ∧ ∀ j u, xs[j]? = some u → w.cell? ⟨b, off + j, none⟩ = some u)
theorem Row.below {n₀ : Nat} {w w' : World} {v : Value} {xs : List Value} (h : Row n₀ w v xs) (hB : Below n₀ w w') : Row n₀ w' v xs := by
  obtain ⟨A, cap, hv, hc, h⟩ := h
  exact ⟨A, cap, hv, hc, fun hs => by
    obtain ⟨b, off, hA, hb, ht⟩ := h hs
    exact ⟨b, off, hA, hb, fun j u hu => (hB.cell (p := ⟨b, off + j, none⟩) hb).trans (ht j u hu)⟩⟩
theorem Row.more {n₀ n₁ : Nat} {w : World} {v : Value} {xs : List Value} (h : Row n₀ w v xs) (hn : n₀ ≤ n₁) : Row n₁ w v xs := by
  obtain ⟨A, cap, hv, hc, h⟩ := h
  exact ⟨A, cap, hv, hc, fun hs => by
    obtain ⟨b, off, hA, hb, ht⟩ := h hs
    exact ⟨b, off, hA, by omega, ht⟩⟩
theorem Row.of_own {w : World} {base : Nat} {e : TypeId} {v : Value} {n : Nat} {xs : List Value} (h : w.ownsRow base e 1 v n xs) : Row w.heap.size w v xs := by
  have hl : xs.length = n := by simpa using h.1
  rcases h.2 with ⟨rfl, hn⟩ | ⟨g, cap, cur, rfl, hb, hg, hnc, _⟩
  · subst hn
    have : xs = [] := List.eq_nil_of_length_eq_zero hl
    subst this
    exact ⟨none, 0, rfl, Nat.le_refl _, fun h => absurd rfl h⟩
  · refine ⟨some ⟨g, 0, none⟩, cap, by rw [hl], by rw [hl]; exact hnc, fun _ => ⟨g, 0, rfl, (Array.getElem?_eq_some_iff.1 hg).1, fun j u hu => ?_⟩⟩
    have := h.cells (g := g) rfl j u hu
    have hadd : (⟨g, 0, none⟩ : Addr).add j = ⟨g, 0 + j, none⟩ := by unfold Addr.add; split <;> simp_all
    rwa [hadd] at this
theorem Row.lit (w : World) (cs : Array Value) (e : TypeId) (fr : Nat × Nat) : Row (w.heap.size + 1) (w.alloc (.cells cs e fr)) (.slice (some ⟨w.heap.size, 0, none⟩) cs.size cs.size) cs.toList :=
  ⟨some ⟨w.heap.size, 0, none⟩, cs.size, by simp, by simp, fun _ => ⟨w.heap.size, 0, rfl, by omega, fun j u hu => by
    simp only [Nat.zero_add]
    rw [cell_of_row _ w.heap.size j cs e fr (heap_alloc_new w _)]
    simpa using hu⟩⟩

theorem byteCells_get {s : List UInt8} {j : Nat} (h : j < s.length) : (Lib.byteCells s)[j]? = some (.int .u8 ((at_ s j : Nat) : Int)) := by
  simp [Lib.byteCells, at_, List.getD_eq_getElem?_getD, h]
theorem Bytes.of_row {n₀ : Nat} {w : World} {v : Value} {s : List UInt8} (h : Row n₀ w v (Lib.byteCells s)) : Bytes n₀ w v s := by
  obtain ⟨A, cap, hv, hc, h⟩ := h
  rw [Lib.byteCells_length] at hv hc
  exact ⟨A, cap, hv, hc, fun hs => by
    obtain ⟨b, off, hA, hb, ht⟩ := h (fun e => hs (by have := congrArg List.length e; rw [Lib.byteCells_length, List.length_nil] at this; exact List.eq_nil_of_length_eq_zero this))
    exact ⟨b, off, hA, hb, fun j hj => ht j _ (byteCells_get hj)⟩⟩
theorem Row.of_bytes {n₀ : Nat} {w : World} {v : Value} {s : List UInt8} (h : Bytes n₀ w v s) : Row n₀ w v (Lib.byteCells s) := by
  obtain ⟨A, cap, hv, hc, h⟩ := h
  rw [← Lib.byteCells_length s] at hv hc
  exact ⟨A, cap, hv, hc, fun hs => by
    obtain ⟨b, off, hA, hb, ht⟩ := h (fun e => hs (by rw [e]; rfl))
    exact ⟨b, off, hA, hb, fun j u hu => by
      have hj : j < s.length := by
        have := (List.getElem?_eq_some_iff.1 hu).1
        rwa [Lib.byteCells_length] at this
      rw [byteCells_get hj] at hu
      cases hu
      exact ht j hj⟩⟩

def zs (l : List Int) : List Value := l.map (Value.int .i64)
theorem zs_get {l : List Int} {j : Nat} (h : j < l.length) : (zs l)[j]? = some (.int .i64 (l[j]?.getD 0)) := by simp [zs, h]
theorem zs_len (l : List Int) : (zs l).length = l.length := by simp [zs]
theorem ints_zs (l : List Nat) : ints l = zs (l.map fun n => ((n : Nat) : Int)) := by simp [ints, zs]

theorem TabsAt.more {n₀ n₁ : Nat} {w : World} (h : TabsAt n₀ w) (hn : n₀ ≤ n₁) : TabsAt n₁ w := ⟨by have := h.1; omega, h.2⟩
theorem un_one : un [97, 195, 169, 255] = [97, 233, 1114367] := by decide
theorem un_two : un [192, 128] = [1114304, 1114240] := by decide

theorem bytes_lit (w : World) (cs : Array Value) (s : List UInt8) (fr : Nat × Nat) (n : Nat) (hn : cs.size = n) (h : cs.toList = Lib.byteCells s) : Bytes (w.heap.size + 1) (w.alloc (.cells cs 5 fr)) (.slice (some ⟨w.heap.size, 0, none⟩) n n) s := by
  have h1 := Row.lit w cs 5 fr
  rw [h, hn] at h1
  exact Bytes.of_row h1
theorem zs_lit (w : World) (cs : Array Value) (l : List Int) (n : Nat) (hn : cs.size = n) (h : cs.toList = zs l) : Row (w.heap.size + 1) (w.alloc (.cells cs 3)) (.slice (some ⟨w.heap.size, 0, none⟩) n n) (zs l) := by
  have h1 := Row.lit w cs 3 (0, 0)
  rw [h, hn] at h1
  exact h1

end Go.Proofs.YthipgidddgdojaaDoor

/- append onto a row of the call's own, of a slice that reads as a list of values, nil or not; unit.Split as a row of the call's own. -/
namespace Go.Proofs.YthipgidddgdojaaDoor
open Go.RowKit Go.Shelf

section
variable {P : Program} (w : World)

theorem run_append_row (base : Nat) (t ty e : TypeId) (i : TypeInfo) (z : Value) (bytes : Nat) (ht : P.underlying t = some (.slice e)) (hi : P.info? e = some i) (hz : i.zero = some z)
    (hsize : i.size = 1) (hby : i.bytes = bytes) (hzs : z.cells.size = 1) (v : Value) (n : Nat) (xs : List Value) (hown : w.ownsRow base e 1 v n xs)
    (n₀ : Nat) (u : Value) (ys : List Value) (hr : Row n₀ w u ys) (h1 : ∀ y ∈ ys, y.oneCell' = true) (h63 : n + ys.length ≤ maxLen) (hbytes : (n + ys.length) * bytes ≤ 140737488355328) (hbase : base ≤ w.heap.size) :
    ∃ v' w', (Builtin.append_ #[t, t] ty #[v, u]).run P w = .ok v' w' ∧ w'.ownsRow base e 1 v' (n + ys.length) (xs ++ ys) ∧ w.grownBy w' v.ownBlock := by
  obtain ⟨A, cap, rfl, _, hA⟩ := hr
  cases A with
  | none =>
    have hy : ys = [] := by
      rcases ys with _ | ⟨y, ys⟩
      · rfl
      · obtain ⟨b, off, h, _⟩ := hA (by simp)
        cases h
    subst hy
    refine ⟨v, w, ?_, by simpa using hown, World.grownBy.refl w _⟩
    rcases hown.2 with ⟨rfl, _⟩ | ⟨g, c, cur, rfl, _, _, hnc, _⟩
    · simp [Builtin.append_, run_underlying ht, sizeOf, typeInfo, hi, Builtin.lenOf, Builtin.firstCells]
    · simp [Builtin.append_, run_underlying ht, sizeOf, typeInfo, hi, Builtin.lenOf, Builtin.firstCells, hnc, storeCells]
  | some a =>
    have hcells : ∀ j y, ys[j]? = some y → w.cell? (a.add j) = some y := by
      intro j y hy
      have hne : ys ≠ [] := by rintro rfl; simp at hy
      obtain ⟨b, off, h, _, hc⟩ := hA hne
      cases h
      have hadd : (⟨b, off, none⟩ : Addr).add j = ⟨b, off + j, none⟩ := by unfold Addr.add; split <;> simp_all
      rw [hadd]
      exact hc j y hy
    obtain ⟨v', w', hrun, h2, h3, _, _⟩ := run_append_own_at (P := P) w base t ty e i z 1 bytes ht hi hz hsize hby hzs (by decide) v n xs hown a ys.length cap ys (by simp) hcells h1 h63 hbytes hbase
    exact ⟨v', w', hrun, h2, h3⟩

theorem wpList_append_row {ops : Array Oper} {rest : List Oper} {o : Oper} {a : Act} {Q : Exit → Act → World → Prop} (hgd : o.guard = none) (s x : Operand) (t : TypeId)
    (ho : o.op = .call { callee := .builtin .append, args := #[s, x], argTypes := #[t, t] })
    (base : Nat) (e : TypeId) (i : TypeInfo) (z : Value) (bytes : Nat) (ht : P.underlying t = some (.slice e)) (hi : P.info? e = some i) (hz : i.zero = some z)
    (hsize : i.size = 1) (hby : i.bytes = bytes) (hzs : z.cells.size = 1) (v : Value) (n : Nat) (xs : List Value) (hs : a.eval s = v) (hown : w.ownsRow base e 1 v n xs)
    (n₀ : Nat) (u : Value) (ys : List Value) (hx : a.eval x = u) (hr : Row n₀ w u ys) (h1 : ∀ y ∈ ys, y.oneCell' = true) (h63 : n + ys.length ≤ maxLen) (hbytes : (n + ys.length) * bytes ≤ 140737488355328) (hbase : base ≤ w.heap.size)
    (h : ∀ v' w', w'.ownsRow base e 1 v' (n + ys.length) (xs ++ ys) → w.grownBy w' v.ownBlock → wpList P ops Q rest (a.put o.dst v') w') : wpList P ops Q (o :: rest) a w := by
  refine wpList_plain hgd fun K hK => ?_
  obtain ⟨v', w', hrun, h2, h3⟩ := run_append_row (P := P) w base t o.type e i z bytes ht hi hz hsize hby hzs v n xs hown n₀ u ys hr h1 h63 hbytes hbase
  unfold Oper.wp execOp
  simp only [ho, resolve, invoke, builtin, Sem.run_bind, Sem.run_pure, Result.andThen_ok, List.map_toArray, List.map_cons, List.map_nil, hs, hx, hrun]
  exact hK _ _ (h v' w' h2 h3)
end

theorem info5 : (Tryd.prog.info? 5).map (fun i => (i.zero, i.size, i.bytes)) = some (some (.int .u8 0), 1, 1) := by kernel_rfl

theorem one_bytes (s : List UInt8) : ∀ y ∈ Lib.byteCells s, y.oneCell' = true := by
  intro y hy
  simp only [Lib.byteCells, List.mem_map] at hy
  obtain ⟨b, _, rfl⟩ := hy
  rfl
theorem one_zs (l : List Int) : ∀ y ∈ zs l, y.oneCell' = true := by
  intro y hy
  simp only [zs, List.mem_map] at hy
  obtain ⟨b, _, rfl⟩ := hy
  rfl
theorem one_ints (l : List Nat) : ∀ y ∈ ints l, y.oneCell' = true := by rw [ints_zs]; exact one_zs _
theorem ints_len (l : List Nat) : (ints l).length = l.length := by simp [ints]
theorem ints_append (a b : List Nat) : ints (a ++ b) = ints a ++ ints b := by simp [ints]

/-- A composite literal without elements: it owns a row of none. -/
theorem own_empty (w : World) (base : Nat) (e : TypeId) (h : base ≤ w.heap.size) : (w.alloc (.cells #[] e)).ownsRow base e 1 (.slice (some ⟨w.heap.size, 0, none⟩) 0 0) 0 [] :=
  World.ownsRow_made w #[] 0 h (by unfold maxLen; omega) (by simp)

/-- What a call leaves of a row of the caller's own. -/
theorem own_below {w w' : World} {base : Nat} {e : TypeId} {v : Value} {n : Nat} {xs : List Value} (h : w.ownsRow base e 1 v n xs) (hB : Below w.heap.size w w') : w'.ownsRow base e 1 v n xs :=
  h.kept (grown_of_below hB none) (by cases hv : v.ownBlock <;> simp)
theorem below_append {B : Nat} {a w w' : World} {base : Nat} {e : TypeId} {v : Value} {n : Nat} {xs : List Value} (hB : Below B a w) (h : w.ownsRow base e 1 v n xs) (hb : B ≤ base) (hg : w.grownBy w' v.ownBlock) (hs : B ≤ w.heap.size) : Below B a w' :=
  hB.grown hg hs (fun k hk => by have := (h.lt k hk).1; omega)

end Go.Proofs.YthipgidddgdojaaDoor

/- The reference's Bytes, as a contract. -/
namespace Go.Proofs.YthipgidddgdojaaDoor
open Go.RowKit Go.Shelf

theorem byteCells_toB (l : List Nat) (h : ∀ x ∈ l, x < 256) : Lib.byteCells (toB l) = l.map fun x => Value.int .u8 ((x : Nat) : Int) := by
  simp only [Lib.byteCells, toB, List.map_map]
  apply List.map_congr_left
  intro x hx
  have := h x hx
  simp
  omega

theorem enc_cells {c : Nat} {l : List Int} {w : World} {n : Nat} (hn : n = l.length) (h : (encN c).map (fun x => ((x : Nat) : Int)) = l) (hb : ∀ x ∈ encN c, x < 256) :
    Bytes (w.alloc (.cells (l.map (Value.int .u8)).toArray 5)).heap.size (w.alloc (.cells (l.map (Value.int .u8)).toArray 5)) (.slice (some ⟨w.heap.size, 0, none⟩) n n) (toB (encN c)) := by
  rw [World.size_alloc]
  refine bytes_lit w _ _ (0, 0) n (by simp [hn]) ?_
  rw [byteCells_toB _ hb, ← h]
  simp

set_option maxHeartbeats 1000000 in
theorem bytes_any (c : Nat) (hc : isCh c) (w : World) :
    Calls Tryd.prog 14 #[.int .i64 (c : Int)] w fun e w' => ∃ v, e = .returned v ∧ Bytes w'.heap.size w' v (toB (encN c)) ∧ Below w.heap.size w w' := by
  have hb := encN_byte c hc.1
  have h0 : (0 : Int) ≤ (c : Int) := by omega
  have h9 : (c : Int) ≤ 1114111 := by have := hc.1; omega
  have HE : Hid (∀ n l, n = l.length → (encN c).map (fun x => ((x : Nat) : Int)) = l → Bytes (w.alloc (.cells (l.map (Value.int .u8)).toArray 5)).heap.size (w.alloc (.cells (l.map (Value.int .u8)).toArray 5)) (.slice (some ⟨w.heap.size, 0, none⟩) n n) (toB (encN c))) :=
    Lib.hid (fun n l hn h => enc_cells hn h hb)
  clear hb hc
  by_cases h1 : (c : Int) < 128
  · go_enter Tryd.func14, Tryd.ntmps14
    go_wp2
    go_ret
    refine ⟨_, rfl, HE.out 1 [(c : Int)] rfl ?_, (Below.refl _ _).alloc (Nat.le_refl _) _⟩
    simp [encN, show c < 128 by omega]
  · by_cases h2 : (c : Int) < 2048
    · go_enter Tryd.func14, Tryd.ntmps14
      go_wp2
      go_ret
      refine ⟨_, rfl, HE.out 2 [192 + (c : Int) / 64, 128 + (c : Int) % 64] rfl ?_, (Below.refl _ _).alloc (Nat.le_refl _) _⟩
      simp [encN, show ¬ c < 128 by omega, show c < 2048 by omega]
    · by_cases h3 : (c : Int) < 65536
      · go_enter Tryd.func14, Tryd.ntmps14
        go_wp2
        go_ret
        refine ⟨_, rfl, HE.out 3 [224 + (c : Int) / 4096, 128 + (c : Int) / 64 % 64, 128 + (c : Int) % 64] rfl ?_, (Below.refl _ _).alloc (Nat.le_refl _) _⟩
        simp [encN, show ¬ c < 128 by omega, show ¬ c < 2048 by omega, show c < 65536 by omega]
      · go_enter Tryd.func14, Tryd.ntmps14
        go_wp2
        go_ret
        refine ⟨_, rfl, HE.out 4 [240 + (c : Int) / 262144, 128 + (c : Int) / 4096 % 64, 128 + (c : Int) / 64 % 64, 128 + (c : Int) % 64] rfl ?_, (Below.refl _ _).alloc (Nat.le_refl _) _⟩
        simp [encN, show ¬ c < 128 by omega, show ¬ c < 2048 by omega, show ¬ c < 65536 by omega]

end Go.Proofs.YthipgidddgdojaaDoor

/- The reference's first unit is the same unit, in plain mathematics. -/
namespace Go.Proofs.YthipgidddgdojaaDoor

/-- The number after so many more bytes. -/
def acc (t : List UInt8) : Nat → Int
  | 0 => guessN (at_ t 0 : Nat)
  | i + 1 => acc t i * 64 + (at_ t (i + 1) : Nat) - 128

theorem guess_range (x : Nat) : -1 ≤ guessN x ∧ guessN x < 128 ∧ guessM x ≤ 3 := by
  unfold guessN guessM
  repeat' split
  all_goals omega
theorem acc_range (t : List UInt8) (i : Nat) (h : i ≤ 3) : -33554432 ≤ acc t i ∧ acc t i ≤ 67108864 := by
  have g := guess_range (at_ t 0)
  have b1 := at_lt t 1
  have b2 := at_lt t 2
  have b3 := at_lt t 3
  match i, h with
  | 0, _ => simp only [acc]; omega
  | 1, _ => simp only [acc, Nat.reduceAdd]; omega
  | 2, _ => simp only [acc, Nat.reduceAdd]; omega
  | 3, _ => simp only [acc, Nat.reduceAdd]; omega

/-- The reference's test. -/
def refOK (t : List UInt8) : Prop :=
  0 ≤ guessN (at_ t 0 : Nat) ∧ guessM (at_ t 0 : Nat) < t.length ∧ charB (acc t (guessM (at_ t 0 : Nat))) = true ∧
    encN (acc t (guessM (at_ t 0 : Nat))).toNat = tk t (guessM (at_ t 0 : Nat) + 1)

theorem tk_len (t : List UInt8) (k : Nat) : (tk t k).length = k := by simp [tk]
theorem isCh_of {n : Int} (h : charB n = true) : isCh n.toNat := by simp [charB] at h; exact ⟨by omega, by omega⟩

theorem nx_of_ref (t : List UInt8) (h : refOK t) : nx t = ((acc t (guessM (at_ t 0 : Nat))).toNat, guessM (at_ t 0 : Nat) + 1) := by
  obtain ⟨_, h2, h3, h4⟩ := h
  have hl : (encN (acc t (guessM (at_ t 0 : Nat))).toNat).length = guessM (at_ t 0 : Nat) + 1 := by rw [h4, tk_len]
  have := nx_of_tk t _ (isCh_of h3) (by rw [hl]; omega) (by rw [hl, h4])
  rw [this, hl]

set_option maxRecDepth 100000 in
set_option maxHeartbeats 2000000 in
theorem guess_of_tk (t : List UInt8) (c : Nat) (hc : isCh c) (h : tk t (encN c).length = encN c) :
    0 ≤ guessN (at_ t 0 : Nat) ∧ guessM (at_ t 0 : Nat) + 1 = (encN c).length ∧ acc t (guessM (at_ t 0 : Nat)) = (c : Int) := by
  obtain ⟨c1, c2⟩ := hc
  unfold encN at h ⊢
  by_cases e1 : c < 128
  · rw [if_pos e1] at h ⊢
    simp [tk, List.range_succ] at h
    have hm : guessM (at_ t 0 : Nat) = 0 := by unfold guessM; rw [if_pos (by omega)]
    have hg : guessN (at_ t 0 : Nat) = c := by unfold guessN; rw [if_pos (by omega), h]
    rw [hm]
    refine ⟨by omega, by simp, ?_⟩
    simp only [acc]
    exact hg
  · rw [if_neg e1] at h ⊢
    by_cases e2 : c < 2048
    · rw [if_pos e2] at h ⊢
      simp [tk, List.range_succ] at h
      obtain ⟨h0, h1⟩ := h
      have hm : guessM (at_ t 0 : Nat) = 1 := by unfold guessM; rw [if_neg (by omega), if_pos (by omega)]
      have hg : guessN (at_ t 0 : Nat) = (at_ t 0 : Int) - 192 := by unfold guessN; rw [if_neg (by omega), if_pos (by omega)]
      rw [hm]
      refine ⟨by omega, by simp, ?_⟩
      simp only [acc, Nat.reduceAdd]
      omega
    · rw [if_neg e2] at h ⊢
      by_cases e3 : c < 65536
      · rw [if_pos e3] at h ⊢
        simp [tk, List.range_succ] at h
        obtain ⟨h0, h1, h2⟩ := h
        have hm : guessM (at_ t 0 : Nat) = 2 := by unfold guessM; rw [if_neg (by omega), if_neg (by omega), if_pos (by omega)]
        have hg : guessN (at_ t 0 : Nat) = (at_ t 0 : Int) - 224 := by unfold guessN; rw [if_neg (by omega), if_neg (by omega), if_pos (by omega)]
        rw [hm]
        refine ⟨by omega, by simp, ?_⟩
        simp only [acc, Nat.reduceAdd]
        omega
      · rw [if_neg e3] at h ⊢
        simp [tk, List.range_succ] at h
        obtain ⟨h0, h1, h2, h3⟩ := h
        have hm : guessM (at_ t 0 : Nat) = 3 := by unfold guessM; rw [if_neg (by omega), if_neg (by omega), if_neg (by omega), if_pos (by omega)]
        have hg : guessN (at_ t 0 : Nat) = (at_ t 0 : Int) - 240 := by unfold guessN; rw [if_neg (by omega), if_neg (by omega), if_neg (by omega), if_pos (by omega)]
        rw [hm]
        refine ⟨by omega, by simp, ?_⟩
        simp only [acc, Nat.reduceAdd]
        omega

theorem nx_not_ref (t : List UInt8) (hne : t ≠ []) (h : ¬ refOK t) : nx t = (1114112 + at_ t 0, 1) := by
  rcases nx_cases t hne with ⟨h1, h2, h3, h4⟩ | ⟨h1, _⟩
  · rw [h2] at h3 h4
    obtain ⟨g1, g2, g3⟩ := guess_of_tk t _ h1 h4
    refine absurd ⟨g1, by omega, ?_, ?_⟩ h
    · rw [g3]
      obtain ⟨q1, q2⟩ := h1
      simp [charB]
      omega
    · rw [g3, Int.toNat_natCast, g2]
      exact h4.symm
  · exact h1

end Go.Proofs.YthipgidddgdojaaDoor

