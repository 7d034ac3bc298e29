/- Joined: Small, Shelf, Next, Split, Same. -/
import Derived.Test.YthfhlkacnpdbiaaDoorChecked
import Derived.WalkKit
import Derived.WalkSpells
import Derived.Outline
import Derived.Shelf.Spec.DecodeRune
import Derived.Test.YthfhlkacnpdbiaaDoorProg
import Derived.Test.YthfhlkacnpdbiaaDoorMMath
import Derived.Lib.Hide
import Derived.Deep.DeepFit
import Derived.RangeFuncBox
import Derived.RangeFuncLeaves
import Derived.Shelf.Abstract
import Derived.OwnWalkIn
import Derived.TacticsInMore
import Derived.LoopNIn
import Derived.LoopIn
import Derived.Maps.AppendAt
import Derived.LoopTactic
import Derived.Lib.SlBytesConst
import Derived.WalkLawsBesides
/- The small functions of the unit layer and of its reference, as contracts. -/
namespace Go.Proofs.YthfhlkacnpdbiaaDoor
open Go.RowKit

def strayB (n : Int) : Bool := decide (1114240 ≤ n ∧ n ≤ 1114367)
def charB (n : Int) : Bool := decide (0 ≤ n ∧ n ≤ 1114111 ∧ (n < 55296 ∨ 57343 < n))

theorem ret_bool {a b : Bool} (h : a = b) : Ending.returned (.bool a) = .returned (.bool b) := by rw [h]

def charR (n : Int) : Int := if 0 ≤ n ∧ n ≤ 1114111 then n else 0
def rightB (n : Int) : Bool := charB n || strayB n

theorem ret_int_bool {k : IntKind} {a b : Int} {c d : Bool} (h : a = b) (h' : c = d) : Ending.returned (.tuple #[.int k a, .bool c]) = .returned (.tuple #[.int k b, .bool d]) := by rw [h, h']

/-- guess: the number that a lead byte begins, and how many bytes follow. -/
def guessN (c : Int) : Int := if c < 128 then c else if 192 ≤ c ∧ c < 224 then c - 192 else if 224 ≤ c ∧ c < 240 then c - 224 else if 240 ≤ c ∧ c < 248 then c - 240 else -1
def guessM (c : Int) : Nat := if c < 128 then 0 else if 192 ≤ c ∧ c < 224 then 1 else if 224 ≤ c ∧ c < 240 then 2 else if 240 ≤ c ∧ c < 248 then 3 else 0
theorem ret_int_int {k l : IntKind} {a b : Int} {c d : Int} (h : a = b) (h' : c = d) : Ending.returned (.tuple #[.int k a, .int l c]) = .returned (.tuple #[.int k b, .int l d]) := by rw [h, h']
end Go.Proofs.YthfhlkacnpdbiaaDoor

/-
  DERIVED: THE SHELF's CONTRACTS AT THIS DUMP, IN PLAIN WORDS (tools/lay-plain.mjs out of 'YthfhlkacnpdbiaaDoorShelf.lean', which tools/lay-shelf.mjs wrote): THE SAME DECLARATIONS UNDER THE SAME NAMES: 'import', 'namespace', 'open', 'def', 'theorem' AND NOTHING ELSE: no command of the shelf's: FOR A HAND-IN. Each laying: the table of numbers ('.._ren') and one theorem, a field a fact of the dump's own or the kernel's comparison; each contract: ONE APPLICATION.
-/
namespace Go.Proofs
open Go.Shelf
def Tryd.lays7s32_ren : Go.Shelf.Ren := ⟨fun | 32 => 70 | 49 => 75 | n => n, fun | 30 => 44 | 21 => 21 | 3 => 3 | 0 => 0 | 5 => 5 | 4 => 4 | 33 => 86 | 66 => 104 | 25 => 90 | 69 => 107 | 68 => 106 | n => n, fun | 2 => 0 | 3 => 1 | n => n⟩
theorem Tryd.lays7s32 : Go.Proofs.Lays7.n32 Tryd.prog Tryd.lays7s32_ren := {
  mixed := by kernel_rfl
  f32 := Tryd.func70.trans (congrArg some (by kernel_rfl))
  f49 := Tryd.func75.trans (congrArg some (by kernel_rfl))
  t0 := Tryd.underlying0
  a0 := Tryd.isAgg0
  z0 := Tryd.sizeOf0
  v0 := Tryd.zeroValue0
  i0 := by kernel_rfl
  t3 := Tryd.underlying3
  a3 := Tryd.isAgg3
  z3 := Tryd.sizeOf3
  v3 := Tryd.zeroValue3
  i3 := by kernel_rfl
  t4 := Tryd.underlying4
  a4 := Tryd.isAgg4
  z4 := Tryd.sizeOf4
  v4 := Tryd.zeroValue4
  i4 := by kernel_rfl
  t5 := Tryd.underlying5
  a5 := Tryd.isAgg5
  z5 := Tryd.sizeOf5
  v5 := Tryd.zeroValue5
  i5 := by kernel_rfl
  t21 := Tryd.underlying21
  a21 := Tryd.isAgg21
  z21 := Tryd.sizeOf21
  v21 := Tryd.zeroValue21
  i21 := by kernel_rfl
  t25 := Tryd.underlying90
  a25 := Tryd.isAgg90
  z25 := Tryd.sizeOf90
  v25 := Tryd.zeroValue90
  i25 := by kernel_rfl
  t30 := Tryd.underlying44
  a30 := Tryd.isAgg44
  z30 := Tryd.sizeOf44
  v30 := Tryd.zeroValue44
  i30 := by kernel_rfl
  t33 := Tryd.underlying86
  a33 := Tryd.isAgg86
  z33 := Tryd.sizeOf86
  v33 := Tryd.zeroValue86
  i33 := by kernel_rfl
  t66 := Tryd.underlying104
  a66 := Tryd.isAgg104
  z66 := Tryd.sizeOf104
  t68 := Tryd.underlying106
  a68 := Tryd.isAgg106
  z68 := Tryd.sizeOf106
  v68 := Tryd.zeroValue106
  i68 := by kernel_rfl
  t69 := Tryd.underlying107
  a69 := Tryd.isAgg107
  z69 := Tryd.sizeOf107
  v69 := Tryd.zeroValue107
  i69 := by kernel_rfl
  g2 := by kernel_rfl
  g3 := by kernel_rfl }
open Go.RowKit in
theorem Tryd.utf8_DecodeRune (s : ByteArray) (b off cap : Nat) (w : World) (hT : Lib.Utf8Tabs 0 1 w) (hp : ∀ j, j < s.size → w.cell? ⟨b, off + j, none⟩ = some (.int .u8 (s.get! j).toNat)) :
    Calls Tryd.prog 70 #[.slice (some ⟨b, off, none⟩) s.size cap] w fun e w' => e = .returned (.tuple #[.int .i32 (Lib.decodeGo s).1, .int .i64 (Lib.decodeGo s).2]) ∧ Below w.heap.size w w' := Any7.utf8_DecodeRune Tryd.lays7s32 s b off cap w hT hp
end Go.Proofs

/- unit.Next, by the library's contract for DecodeRune. -/
namespace Go.Proofs.YthfhlkacnpdbiaaDoor
open Go.RowKit

theorem get_list (l : List UInt8) (j : Nat) : (ByteArray.mk l.toArray).get! j = l.getD j 0 := by
  show l.toArray[j]! = _
  simp [List.getD_eq_getElem?_getD]
  rfl
theorem size_list (l : List UInt8) : (ByteArray.mk l.toArray).size = l.length := by simp [ByteArray.size]
theorem decodeGo_eq (l : List UInt8) (h : l ≠ []) : Lib.decodeGo ⟨l.toArray⟩ = dec l := by
  have hl : l.length ≠ 0 := fun e => h (List.eq_nil_of_length_eq_zero e)
  unfold Lib.decodeGo
  rw [size_list, if_neg hl, Lib.decode_at, size_list]
  simp only [get_list, Nat.sub_zero, Nat.zero_add]
  rfl

/-- The bytes of a text lie in the cells from an address on. -/
def Txt (w : World) (b off : Nat) (s : List UInt8) : Prop := ∀ j, j < s.length → w.cell? ⟨b, off + j, none⟩ = some (.int .u8 ((at_ s j : Nat) : Int))
theorem Txt.drop {w : World} {b off k : Nat} {s : List UInt8} (h : Txt w b off s) : Txt w b (off + k) (s.drop k) := fun j hj => by
  rw [at_drop, Nat.add_assoc]
  exact h _ (by rw [List.length_drop] at hj; omega)

theorem decode_list (l : List UInt8) (hl : l ≠ []) (b off cap n : Nat) (hn : n = l.length) (w : World) (hT : Lib.Utf8Tabs 0 1 w) (hp : Txt w b off l) :
    Calls Tryd.prog 70 #[.slice (some ⟨b, off, none⟩) n cap] w fun e w' => e = .returned (.tuple #[.int .i32 (dec l).1, .int .i64 (dec l).2]) ∧ Below w.heap.size w w' := by
  have h := Tryd.utf8_DecodeRune ⟨l.toArray⟩ b off cap w hT (fun j hj => by
    rw [size_list] at hj
    rw [get_list]
    exact hp j hj)
  rw [size_list, decodeGo_eq l hl] at h
  subst hn
  exact h

theorem next_out (A : Option Addr) (len cap : Nat) (k : Int) (h : k < 0 ∨ (len : Int) ≤ k) (w : World) :
    Calls Tryd.prog 54 #[.slice A len cap, .int .i64 k] w fun e w' => e = .returned (.tuple #[.int .i64 0, .int .i64 0]) ∧ w = w' := by
  by_cases h0 : k < 0
  · go_enter Tryd.func54, Tryd.ntmps54
    go_wp2
    go_ret2
    exact ⟨rfl, rfl⟩
  · have h1 : (len : Int) ≤ k := by omega
    clear h
    go_enter Tryd.func54, Tryd.ntmps54
    go_wp2
    go_ret2
    exact ⟨rfl, rfl⟩

theorem dec_le (s : List UInt8) (h : s ≠ []) : (dec s).1 ≤ 1114111 ∧ 1 ≤ (dec s).2 ∧ (dec s).2 ≤ 4 := by
  have hk := nx_le s h
  by_cases hd : dec s = (65533, 1)
  · rw [hd]; simp
  · rcases nx_cases s h with ⟨h1, _⟩ | ⟨_, _, h3⟩
    · have e : nx s = dec s := by unfold nx; rw [if_neg hd]
      rw [e] at h1 hk
      have := h1.1
      omega
    · exact absurd h3 hd

theorem next_in (s : List UInt8) (b off cap n k : Nat) (hn : n = s.length) (hk : k < n) (hcap : n ≤ cap) (w : World) (hT : Lib.Utf8Tabs 0 1 w) (hp : Txt w b off s) :
    Calls Tryd.prog 54 #[.slice (some ⟨b, off, none⟩) n cap, .int .i64 k] w fun e w' =>
      e = .returned (.tuple #[.int .i64 (nx (s.drop k)).1, .int .i64 (nx (s.drop k)).2]) ∧ Below w.heap.size w w' := by
  have hl : s.drop k ≠ [] := fun e => by have := congrArg List.length e; rw [List.length_drop, List.length_nil] at this; omega
  have hd := decode_list (s.drop k) hl b (off + k) (cap - k) (n - k) (by rw [List.length_drop, hn]) w hT hp.drop
  have hc : w.cell? ⟨b, off + k, none⟩ = some (.int .u8 ((at_ s k : Nat) : Int)) := hp k (by omega)
  have hblt : b < w.heap.size := block_lt_of_cell hc
  have hx := at_lt s k
  have hle := dec_le (s.drop k) hl
  have ea : at_ (s.drop k) 0 = at_ s k := by rw [at_drop]; rfl
  obtain ⟨x, ex⟩ : ∃ x, x = at_ s k := ⟨_, rfl⟩
  rw [← ex] at ea hc hx
  obtain ⟨r, z, hrz⟩ : ∃ r z, dec (s.drop k) = (r, z) := ⟨_, _, rfl⟩
  have hnx : nx (s.drop k) = if dec (s.drop k) = (65533, 1) then (1114112 + at_ (s.drop k) 0, 1) else dec (s.drop k) := rfl
  rw [ea] at hnx
  rw [hrz] at hd hle hnx
  simp only at hd hle
  obtain ⟨hr, hz1, hz4⟩ := hle
  have HN := Lib.hid hn
  have HX := Lib.hid hnx
  clear hn hT hp ex ea hrz hnx hl
  have hlt : (k : Int) < (n : Int) := by omega
  have hge : ¬ ((k : Int) < 0) := by omega
  by_cases h1 : r = 65533
  · subst h1
    by_cases h2 : z = 1
    · subst h2
      have H := Lib.hid hd
      clear hd
      go_enter Tryd.func54, Tryd.ntmps54
      go_wp2_with fail
      refine H.out.mono ?_
      rintro e w1 ⟨rfl, hB⟩
      have hc1 := (hB.cell (p := ⟨b, off + k, none⟩) hblt).trans hc
      go_wp2
      go_ret2
      rw [HX.out]
      exact ⟨ret_int_int (by simp) (by simp), hB⟩
    · have h2' : ¬ ((z : Int) = 1) := by omega
      have hz2 : (2 : Int) ≤ (z : Int) := by omega
      have H := Lib.hid hd
      clear hd
      go_enter Tryd.func54, Tryd.ntmps54
      go_wp2_with fail
      refine H.out.mono ?_
      rintro e w1 ⟨rfl, hB⟩
      go_wp2
      go_ret2
      rw [HX.out, if_neg (by simp; omega)]
      exact ⟨ret_int_int (by simp) (by simp), hB⟩
  · have h1' : ((r : Int) == 65533) = false := by simp; omega
    have H := Lib.hid hd
    clear hd
    go_enter Tryd.func54, Tryd.ntmps54
    go_wp2_with fail
    refine H.out.mono ?_
    rintro e w1 ⟨rfl, hB⟩
    go_wp2
    go_ret2
    rw [HX.out, if_neg (by simp [h1])]
    exact ⟨ret_int_int (by simp) (by simp), hB⟩

end Go.Proofs.YthfhlkacnpdbiaaDoor

/- unit.all and unit.Split: the iterator's contract, and the loop that collects what it yields. -/
namespace Go.Proofs.YthfhlkacnpdbiaaDoor
open Go.RowKit Go.Shelf

attribute [local go_sem] Oper.semAt_some

theorem txt_below {n₀ b off : Nat} {s : List UInt8} {w w' : World} (h : Txt w b off s) (hb : b < n₀) (hB : Below n₀ w w') : Txt w' b off s :=
  fun j hj => (hB.cell (p := ⟨b, off + j, none⟩) hb).trans (h j hj)
theorem grown_of_below {a w : World} (h : Below a.heap.size a w) (row : Option Nat) : a.grownBy w row := ⟨h.os, h.tape, h.output, h.size, fun i hi _ => h.block i hi⟩

/-- The tables lie below a number of blocks. -/
def TabsAt (n₀ : Nat) (w : World) : Prop := 1 < n₀ ∧ Lib.Utf8Tabs 0 1 w
theorem TabsAt.below {n₀ : Nat} {w w' : World} (h : TabsAt n₀ w) (hB : Below n₀ w w') : TabsAt n₀ w' :=
  ⟨h.1, fun c hc => (hB.cell (p := ⟨0, c, none⟩) (show 0 < n₀ by have := h.1; omega)).trans (h.2.1 c hc),
   fun i hi => ⟨(hB.cell (p := ⟨1, 2 * i, none⟩) h.1).trans (h.2.2 i hi).1, (hB.cell (p := ⟨1, 2 * i + 1, none⟩) h.1).trans (h.2.2 i hi).2⟩⟩

/-- What a round of the loop keeps: all below n₀, and the box of the bytes. -/
def Kp (n₀ Bs : Nat) (sv : Value) (W W' : World) : Prop := Below n₀ W W' ∧ (Boxed W Bs 44 sv → Boxed W' Bs 44 sv)
theorem Kp.t {n₀ Bs : Nat} {sv : Value} {A B C : World} (h : Kp n₀ Bs sv A B) (k : Kp n₀ Bs sv B C) : Kp n₀ Bs sv A C := ⟨h.1.trans k.1, fun x => k.2 (h.2 x)⟩
theorem Kp.b {n₀ Bs : Nat} {sv : Value} {w : World} (hn : n₀ ≤ w.heap.size) (W : World) (l : Nat) (o o' : Obj) (hl : w.heap.size ≤ l) (h : W.heap[l]? = some o) (h1 : o.isCells = false) (h2 : o.isWalk = false) : Kp n₀ Bs sv W (W.putObj l o') :=
  ⟨belowK_b hn W l o o' hl h h1 h2, fun hx => hx.kept (grownBy_putObj' W l o') (fun e => by
    cases e
    rw [show W.heap[Bs]? = _ from hx] at h
    cases h
    cases h1)⟩

/-- A slice value that reads as a text; below n₀; a text of no bytes may lie anywhere. -/
def Bytes (n₀ : Nat) (w : World) (v : Value) (s : List UInt8) : Prop :=
  ∃ A cap, v = .slice A s.length cap ∧ s.length ≤ cap ∧ (s ≠ [] → ∃ b off, A = some ⟨b, off, none⟩ ∧ b < n₀ ∧ Txt w b off s)
theorem Bytes.below {n₀ : Nat} {w w' : World} {v : Value} {s : List UInt8} (h : Bytes n₀ w v s) (hB : Below n₀ w w') : Bytes n₀ w' v s := by
  obtain ⟨A, cap, hv, hc, h⟩ := h
  exact ⟨A, cap, hv, hc, fun hs => by
    obtain ⟨b, off, hA, hb, ht⟩ := h hs
    exact ⟨b, off, hA, hb, txt_below ht hb hB⟩⟩
theorem Bytes.more {n₀ n₁ : Nat} {w : World} {v : Value} {s : List UInt8} (h : Bytes n₀ w v s) (hn : n₀ ≤ n₁) : Bytes n₁ w v s := by
  obtain ⟨A, cap, hv, hc, h⟩ := h
  exact ⟨A, cap, hv, hc, fun hs => by
    obtain ⟨b, off, hA, hb, ht⟩ := h hs
    exact ⟨b, off, hA, by omega, ht⟩⟩

theorem info3 : (Tryd.prog.info? 3).map (fun i => (i.zero, i.size, i.bytes)) = some (some (.int .i64 0), 1, 8) := by kernel_rfl

def ints (l : List Nat) : List Value := l.map fun n => Value.int .i64 ((n : Nat) : Int)
theorem ints_snoc (l : List Nat) (n : Nat) : ints (l ++ [n]) = ints l ++ [.int .i64 ((n : Nat) : Int)] := by simp [ints]

end Go.Proofs.YthfhlkacnpdbiaaDoor

/- Slices that read as a list of values; the law's own 'same'; its anchor. -/
namespace Go.Proofs.YthfhlkacnpdbiaaDoor
open Go.RowKit Go.Shelf

/-- A slice value that reads as a list of values of one cell each; below n₀; one of no values may lie anywhere. -/
def Row (n₀ : Nat) (w : World) (v : Value) (xs : List Value) : Prop :=
  ∃ A cap, v = .slice A xs.length cap ∧ xs.length ≤ cap ∧ (xs ≠ [] → ∃ b off, A = some ⟨b, off, none⟩ ∧ b < n₀ ∧ ∀ j u, xs[j]? = some u → w.cell? ⟨b, off + j, none⟩ = some u)
theorem Row.below {n₀ : Nat} {w w' : World} {v : Value} {xs : List Value} (h : Row n₀ w v xs) (hB : Below n₀ w w') : Row n₀ w' v xs := by
  obtain ⟨A, cap, hv, hc, h⟩ := h
  exact ⟨A, cap, hv, hc, fun hs => by
    obtain ⟨b, off, hA, hb, ht⟩ := h hs
    exact ⟨b, off, hA, hb, fun j u hu => (hB.cell (p := ⟨b, off + j, none⟩) hb).trans (ht j u hu)⟩⟩
theorem Row.more {n₀ n₁ : Nat} {w : World} {v : Value} {xs : List Value} (h : Row n₀ w v xs) (hn : n₀ ≤ n₁) : Row n₁ w v xs := by
  obtain ⟨A, cap, hv, hc, h⟩ := h
  exact ⟨A, cap, hv, hc, fun hs => by
    obtain ⟨b, off, hA, hb, ht⟩ := h hs
    exact ⟨b, off, hA, by omega, ht⟩⟩
theorem Row.of_own {w : World} {base : Nat} {e : TypeId} {v : Value} {n : Nat} {xs : List Value} (h : w.ownsRow base e 1 v n xs) : Row w.heap.size w v xs := by
  have hl : xs.length = n := by simpa using h.1
  rcases h.2 with ⟨rfl, hn⟩ | ⟨g, cap, cur, rfl, hb, hg, hnc, _⟩
  · subst hn
    have : xs = [] := List.eq_nil_of_length_eq_zero hl
    subst this
    exact ⟨none, 0, rfl, Nat.le_refl _, fun h => absurd rfl h⟩
  · refine ⟨some ⟨g, 0, none⟩, cap, by rw [hl], by rw [hl]; exact hnc, fun _ => ⟨g, 0, rfl, (Array.getElem?_eq_some_iff.1 hg).1, fun j u hu => ?_⟩⟩
    have := h.cells (g := g) rfl j u hu
    have hadd : (⟨g, 0, none⟩ : Addr).add j = ⟨g, 0 + j, none⟩ := by unfold Addr.add; split <;> simp_all
    rwa [hadd] at this
theorem Row.lit (w : World) (cs : Array Value) (e : TypeId) (fr : Nat × Nat) : Row (w.heap.size + 1) (w.alloc (.cells cs e fr)) (.slice (some ⟨w.heap.size, 0, none⟩) cs.size cs.size) cs.toList :=
  ⟨some ⟨w.heap.size, 0, none⟩, cs.size, by simp, by simp, fun _ => ⟨w.heap.size, 0, rfl, by omega, fun j u hu => by
    simp only [Nat.zero_add]
    rw [cell_of_row _ w.heap.size j cs e fr (heap_alloc_new w _)]
    simpa using hu⟩⟩

theorem byteCells_get {s : List UInt8} {j : Nat} (h : j < s.length) : (Lib.byteCells s)[j]? = some (.int .u8 ((at_ s j : Nat) : Int)) := by
  simp [Lib.byteCells, at_, List.getD_eq_getElem?_getD, h]
theorem Bytes.of_row {n₀ : Nat} {w : World} {v : Value} {s : List UInt8} (h : Row n₀ w v (Lib.byteCells s)) : Bytes n₀ w v s := by
  obtain ⟨A, cap, hv, hc, h⟩ := h
  rw [Lib.byteCells_length] at hv hc
  exact ⟨A, cap, hv, hc, fun hs => by
    obtain ⟨b, off, hA, hb, ht⟩ := h (fun e => hs (by have := congrArg List.length e; rw [Lib.byteCells_length, List.length_nil] at this; exact List.eq_nil_of_length_eq_zero this))
    exact ⟨b, off, hA, hb, fun j hj => ht j _ (byteCells_get hj)⟩⟩
theorem Row.of_bytes {n₀ : Nat} {w : World} {v : Value} {s : List UInt8} (h : Bytes n₀ w v s) : Row n₀ w v (Lib.byteCells s) := by
  obtain ⟨A, cap, hv, hc, h⟩ := h
  rw [← Lib.byteCells_length s] at hv hc
  exact ⟨A, cap, hv, hc, fun hs => by
    obtain ⟨b, off, hA, hb, ht⟩ := h (fun e => hs (by rw [e]; rfl))
    exact ⟨b, off, hA, hb, fun j u hu => by
      have hj : j < s.length := by
        have := (List.getElem?_eq_some_iff.1 hu).1
        rwa [Lib.byteCells_length] at this
      rw [byteCells_get hj] at hu
      cases hu
      exact ht j hj⟩⟩

def zs (l : List Int) : List Value := l.map (Value.int .i64)
theorem zs_get {l : List Int} {j : Nat} (h : j < l.length) : (zs l)[j]? = some (.int .i64 (l[j]?.getD 0)) := by simp [zs, h]
theorem zs_len (l : List Int) : (zs l).length = l.length := by simp [zs]
theorem ints_zs (l : List Nat) : ints l = zs (l.map fun n => ((n : Nat) : Int)) := by simp [ints, zs]

theorem TabsAt.more {n₀ n₁ : Nat} {w : World} (h : TabsAt n₀ w) (hn : n₀ ≤ n₁) : TabsAt n₁ w := ⟨by have := h.1; omega, h.2⟩
theorem un_one : un [97, 195, 169, 255] = [97, 233, 1114367] := by decide
theorem un_two : un [192, 128] = [1114304, 1114240] := by decide

theorem bytes_lit (w : World) (cs : Array Value) (s : List UInt8) (fr : Nat × Nat) (n : Nat) (hn : cs.size = n) (h : cs.toList = Lib.byteCells s) : Bytes (w.heap.size + 1) (w.alloc (.cells cs 5 fr)) (.slice (some ⟨w.heap.size, 0, none⟩) n n) s := by
  have h1 := Row.lit w cs 5 fr
  rw [h, hn] at h1
  exact Bytes.of_row h1
theorem zs_lit (w : World) (cs : Array Value) (l : List Int) (n : Nat) (hn : cs.size = n) (h : cs.toList = zs l) : Row (w.heap.size + 1) (w.alloc (.cells cs 3)) (.slice (some ⟨w.heap.size, 0, none⟩) n n) (zs l) := by
  have h1 := Row.lit w cs 3 (0, 0)
  rw [h, hn] at h1
  exact h1

end Go.Proofs.YthfhlkacnpdbiaaDoor

