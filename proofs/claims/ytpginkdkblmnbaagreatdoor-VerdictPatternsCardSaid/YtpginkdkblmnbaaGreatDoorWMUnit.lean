import Derived.Test.YtpginkdkblmnbaaGreatDoorChecked
import Derived.WalkKit
import Derived.WalkSpells
import Derived.Outline
import Derived.Shelf.Spec.DecodeRune
import Derived.Test.YtpginkdkblmnbaaGreatDoorProg
import Derived.Test.YtpginkdkblmnbaaGreatDoorWMMath
import Derived.Lib.Hide
import Derived.Deep.DeepFit
import Derived.RangeFuncBox
import Derived.RangeFuncLeaves
import Derived.Shelf.Abstract
import Derived.OwnWalkIn
import Derived.TacticsInMore
import Derived.LoopNIn
import Derived.LoopIn
import Derived.Maps.AppendAt
namespace Go.Proofs.YtpginkdkblmnbaaGreatDoor
section
open Go.RowKit
def Ðy (n : Int) : Bool := decide (1114240 ≤ n ∧ n ≤ 1114367)
def ÀR (n : Int) : Bool := decide (0 ≤ n ∧ n ≤ 1114111 ∧ (n < 55296 ∨ 57343 < n))
theorem î {a b : Bool} (h : a = b) : Ending.returned (.bool a) = .returned (.bool b) := by rw [h]
theorem ÍW (n : Int) (w : World) : Calls Tryz.prog 89 #[.int .i64 n] w fun e w' => e = .returned (.bool (ÀR n)) ∧ w = w' := by
 by_cases h1 : 0 ≤ n
 ·by_cases h2 : n ≤ 1114111
  ·by_cases h3 : n < 55296
   ·go_enter Tryz.func89, Tryz.ntmps89
    go_wp2;go_ret
    exact ⟨î (by simp [ÀR]; omega), rfl⟩
   ·by_cases h4 : 57343 < n
    ·go_enter Tryz.func89, Tryz.ntmps89
     go_wp2;go_ret
     exact ⟨î (by simp [ÀR]; omega), rfl⟩
    ·go_enter Tryz.func89, Tryz.ntmps89
     go_wp2;go_ret
     exact ⟨î (by simp [ÀR]; omega), rfl⟩
  ·go_enter Tryz.func89, Tryz.ntmps89
   go_wp2;go_ret
   exact ⟨î (by simp [ÀR]; omega), rfl⟩
 ·go_enter Tryz.func89, Tryz.ntmps89
  go_wp2;go_ret
  exact ⟨î (by simp [ÀR]; omega), rfl⟩
def Àx (n : Int) : Bool := ÀR n || Ðy n
theorem Ī {k : IntKind} {a b : Int} {c d : Bool} (h : a = b) (h' : c = d) : Ending.returned (.tuple #[.int k a, .bool c]) = .returned (.tuple #[.int k b, .bool d]) := by rw [h, h']
def ŭ (c : Int) : Int := if c < 128 then c else if 192 ≤ c ∧ c < 224 then c - 192 else if 224 ≤ c ∧ c < 240 then c - 224 else if 240 ≤ c ∧ c < 248 then c - 240 else -1
def Ĺ (c : Int) : Nat := if c < 128 then 0 else if 192 ≤ c ∧ c < 224 then 1 else if 224 ≤ c ∧ c < 240 then 2 else if 240 ≤ c ∧ c < 248 then 3 else 0
theorem Ň {k l : IntKind} {a b : Int} {c d : Int} (h : a = b) (h' : c = d) : Ending.returned (.tuple #[.int k a, .int l c]) = .returned (.tuple #[.int k b, .int l d]) := by rw [h, h']
end
end Go.Proofs.YtpginkdkblmnbaaGreatDoor
namespace Go.Proofs
open Go.Shelf
def Tryz.lays7s32_ren : Go.Shelf.Ren := ⟨fun | 32 => 193 | 49 => 199 | n => n, fun | 30 => 81 | 21 => 21 | 3 => 3 | 0 => 0 | 5 => 5 | 4 => 4 | 33 => 216 | 66 => 224 | 25 => 180 | 69 => 227 | 68 => 226 | n => n, fun | 2 => 2 | 3 => 3 | n => n⟩
theorem Tryz.lays7s32 : Go.Proofs.Lays7.n32 Tryz.prog Tryz.lays7s32_ren := {
 mixed := by kernel_rfl
 f32 := Tryz.func193.trans (congrArg some (by kernel_rfl))
 f49 := Tryz.func199.trans (congrArg some (by kernel_rfl))
 t0 := Tryz.underlying0
 a0 := Tryz.isAgg0
 z0 := Tryz.sizeOf0
 v0 := Tryz.zeroValue0
 i0 := by kernel_rfl
 t3 := Tryz.underlying3
 a3 := Tryz.isAgg3
 z3 := Tryz.sizeOf3
 v3 := Tryz.zeroValue3
 i3 := by kernel_rfl
 t4 := Tryz.underlying4
 a4 := Tryz.isAgg4
 z4 := Tryz.sizeOf4
 v4 := Tryz.zeroValue4
 i4 := by kernel_rfl
 t5 := Tryz.underlying5
 a5 := Tryz.isAgg5
 z5 := Tryz.sizeOf5
 v5 := Tryz.zeroValue5
 i5 := by kernel_rfl
 t21 := Tryz.underlying21
 a21 := Tryz.isAgg21
 z21 := Tryz.sizeOf21
 v21 := Tryz.zeroValue21
 i21 := by kernel_rfl
 t25 := Tryz.underlying180
 a25 := Tryz.isAgg180
 z25 := Tryz.sizeOf180
 v25 := Tryz.zeroValue180
 i25 := by kernel_rfl
 t30 := Tryz.underlying81
 a30 := Tryz.isAgg81
 z30 := Tryz.sizeOf81
 v30 := Tryz.zeroValue81
 i30 := by kernel_rfl
 t33 := Tryz.underlying216
 a33 := Tryz.isAgg216
 z33 := Tryz.sizeOf216
 v33 := Tryz.zeroValue216
 i33 := by kernel_rfl
 t66 := Tryz.underlying224
 a66 := Tryz.isAgg224
 z66 := Tryz.sizeOf224
 t68 := Tryz.underlying226
 a68 := Tryz.isAgg226
 z68 := Tryz.sizeOf226
 v68 := Tryz.zeroValue226
 i68 := by kernel_rfl
 t69 := Tryz.underlying227
 a69 := Tryz.isAgg227
 z69 := Tryz.sizeOf227
 v69 := Tryz.zeroValue227
 i69 := by kernel_rfl
 g2 := by kernel_rfl
 g3 := by kernel_rfl }
open Go.RowKit in
theorem Tryz.utf8_DecodeRune (s : ByteArray) (b off cap : Nat) (w : World) (hT : Lib.Utf8Tabs 2 3 w) (hp : ∀ j, j < s.size → w.cell? ⟨b, off + j, none⟩ = some (.int .u8 (s.get! j).toNat)) :
 Calls Tryz.prog 193 #[.slice (some ⟨b, off, none⟩) s.size cap] w fun e w' => e = .returned (.tuple #[.int .i32 (Lib.decodeGo s).1, .int .i64 (Lib.decodeGo s).2]) ∧ Below w.heap.size w w' := Any7.utf8_DecodeRune Tryz.lays7s32 s b off cap w hT hp
end Go.Proofs
namespace Go.Proofs.YtpginkdkblmnbaaGreatDoor
section
open Go.RowKit
theorem Éd (l : List UInt8) (j : Nat) : (ByteArray.mk l.toArray).get! j = l.getD j 0 := by
 show l.toArray[j]! = _
 simp [List.getD_eq_getElem?_getD];rfl
theorem ÂR (l : List UInt8) : (ByteArray.mk l.toArray).size = l.length := by simp [ByteArray.size]
theorem Ée (l : List UInt8) (h : l ≠ []) : Lib.decodeGo ⟨l.toArray⟩ = dec l := by
 have hl : l.length ≠ 0 := fun e => h (ď e)
 unfold Lib.decodeGo;rw [ÂR, if_neg hl, Lib.decode_at, ÂR];simp only [Éd, Nat.sub_zero, ĉ];rfl
def Txt (w : World) (b off : Nat) (s : List UInt8) : Prop := ∀ j, j < s.length → w.cell? ⟨b, off + j, none⟩ = some (.int .u8 ((at_ s j : Nat) : Int))
theorem Txt.drop {w : World} {b off k : Nat} {s : List UInt8} (h : Txt w b off s) : Txt w b (off + k) (s.drop k) := fun j hj => by
 rw [Àl, Nat.add_assoc]
 exact h _ (by rw [ċ] at hj; omega)
theorem Éf (l : List UInt8) (hl : l ≠ []) (b off cap n : Nat) (hn : n = l.length) (w : World) (hT : Lib.Utf8Tabs 2 3 w) (hp : Txt w b off l) :
 Calls Tryz.prog 193 #[.slice (some ⟨b, off, none⟩) n cap] w fun e w' => e = .returned (.tuple #[.int .i32 (dec l).1, .int .i64 (dec l).2]) ∧ Below w.heap.size w w' := by
 have h := Tryz.utf8_DecodeRune ⟨l.toArray⟩ b off cap w hT (fun j hj => by
  rw [ÂR] at hj;rw [Éd]
  exact hp j hj)
 rw [ÂR, Ée l hl] at h;subst hn;exact h
theorem Ðz (s : List UInt8) (h : s ≠ []) : (dec s).1 ≤ 1114111 ∧ 1 ≤ (dec s).2 ∧ (dec s).2 ≤ 4 := by
 have hk := ÁJ s h
 by_cases hd : dec s = (65533, 1)
 ·rw [hd]; simp
 ·rcases Âr s h with ⟨h1, _⟩ | ⟨_, _, h3⟩
  ·have e : nx s = dec s := by unfold nx; rw [if_neg hd]
   rw [e] at h1 hk;have := h1.1;omega
  ·exact absurd h3 hd
theorem Ïv (s : List UInt8) (b off cap n k : Nat) (hn : n = s.length) (hk : k < n) (hcap : n ≤ cap) (w : World) (hT : Lib.Utf8Tabs 2 3 w) (hp : Txt w b off s) :
 Calls Tryz.prog 170 #[.slice (some ⟨b, off, none⟩) n cap, .int .i64 k] w fun e w' =>
  e = .returned (.tuple #[.int .i64 (nx (s.drop k)).1, .int .i64 (nx (s.drop k)).2]) ∧ Below w.heap.size w w' := by
 have hl : s.drop k ≠ [] := fun e => by have := congrArg List.length e; rw [ċ, Ď] at this; omega
 have hd := Éf (s.drop k) hl b (off + k) (cap - k) (n - k) (by rw [ċ, hn]) w hT hp.drop
 have hc : w.cell? ⟨b, off + k, none⟩ = some (.int .u8 ((at_ s k : Nat) : Int)) := hp k (by omega)
 have hblt : b < w.heap.size := block_lt_of_cell hc;have hx := ŷ s k;have hle := Ðz (s.drop k) hl
 have ea : at_ (s.drop k) 0 = at_ s k := by rw [Àl]; rfl
 obtain ⟨x, ex⟩ : ∃ x, x = at_ s k := ⟨_, rfl⟩;rw [← ex] at ea hc hx;obtain ⟨r, z, hrz⟩ : ∃ r z, dec (s.drop k) = (r, z) := ⟨_, _, rfl⟩
 have hnx : nx (s.drop k) = if dec (s.drop k) = (65533, 1) then (1114112 + at_ (s.drop k) 0, 1) else dec (s.drop k) := rfl
 rw [ea] at hnx;rw [hrz] at hd hle hnx;simp only at hd hle;obtain ⟨hr, hz1, hz4⟩ := hle;have HN := ħ hn;have HX := ħ hnx;clear hn hT hp ex ea hrz hnx hl
 have hlt : (k : Int) < (n : Int) := by omega
 have hge : ¬ ((k : Int) < 0) := by omega
 by_cases h1 : r = 65533
 ·subst h1
  by_cases h2 : z = 1
  ·subst h2
   have H := ħ hd;clear hd;go_enter Tryz.func170, Tryz.ntmps170
   go_wp2_with fail
   refine H.o.mono ?_;rintro e w1 ⟨rfl, hB⟩;have hc1 := (hB.cell (p := ⟨b, off + k, none⟩) hblt).trans hc;go_wp2;go_ret2;rw [HX.o]
   exact ⟨Ň (by simp) (by simp), hB⟩
  ·have h2' : ¬ ((z : Int) = 1) := by omega
   have hz2 : (2 : Int) ≤ (z : Int) := by omega
   have H := ħ hd;clear hd;go_enter Tryz.func170, Tryz.ntmps170
   go_wp2_with fail
   refine H.o.mono ?_;rintro e w1 ⟨rfl, hB⟩;go_wp2;go_ret2
   rw [HX.o, if_neg (by simp; omega)]
   exact ⟨Ň (by simp) (by simp), hB⟩
 ·have h1' : ((r : Int) == 65533) = false := by simp; omega
  have H := ħ hd;clear hd;go_enter Tryz.func170, Tryz.ntmps170
  go_wp2_with fail
  refine H.o.mono ?_;rintro e w1 ⟨rfl, hB⟩;go_wp2;go_ret2
  rw [HX.o, if_neg (by simp [h1])]
  exact ⟨Ň (by simp) (by simp), hB⟩
end
section
open Go.RowKit Go.Shelf
attribute [local go_sem] Oper.semAt_some
theorem Ìw {n₀ b off : Nat} {s : List UInt8} {w w' : World} (h : Txt w b off s) (hb : b < n₀) (hB : Below n₀ w w') : Txt w' b off s :=
 fun j hj => (hB.cell (p := ⟨b, off + j, none⟩) hb).trans (h j hj)
def ś (n₀ : Nat) (w : World) : Prop := 3 < n₀ ∧ Lib.Utf8Tabs 2 3 w
theorem ś.below {n₀ : Nat} {w w' : World} (h : ś n₀ w) (hB : Below n₀ w w') : ś n₀ w' :=
 ⟨h.1, fun c hc => (hB.cell (p := ⟨2, c, none⟩) (show 2 < n₀ by have := h.1; omega)).trans (h.2.1 c hc),
  fun i hi => ⟨(hB.cell (p := ⟨3, 2 * i, none⟩) h.1).trans (h.2.2 i hi).1, (hB.cell (p := ⟨3, 2 * i + 1, none⟩) h.1).trans (h.2.2 i hi).2⟩⟩
def Kp (n₀ Bs : Nat) (sv : Value) (W W' : World) : Prop := Below n₀ W W' ∧ (Boxed W Bs 81 sv → Boxed W' Bs 81 sv)
theorem Kp.t {n₀ Bs : Nat} {sv : Value} {A B C : World} (h : Kp n₀ Bs sv A B) (k : Kp n₀ Bs sv B C) : Kp n₀ Bs sv A C := ⟨h.1.trans k.1, fun x => k.2 (h.2 x)⟩
theorem Kp.b {n₀ Bs : Nat} {sv : Value} {w : World} (hn : n₀ ≤ w.heap.size) (W : World) (l : Nat) (o o' : Obj) (hl : w.heap.size ≤ l) (h : W.heap[l]? = some o) (h1 : o.isCells = false) (h2 : o.isWalk = false) : Kp n₀ Bs sv W (W.putObj l o') :=
 ⟨belowK_b hn W l o o' hl h h1 h2, fun hx => hx.kept (grownBy_putObj' W l o') (fun e => by
   cases e
   rw [show W.heap[Bs]? = _ from hx] at h
   cases h
   cases h1)⟩
def ķ (n₀ : Nat) (w : World) (v : Value) (s : List UInt8) : Prop :=
 ∃ A cap, v = .slice A s.length cap ∧ s.length ≤ cap ∧ (s ≠ [] → ∃ b off, A = some ⟨b, off, none⟩ ∧ b < n₀ ∧ Txt w b off s)
theorem ķ.below {n₀ : Nat} {w w' : World} {v : Value} {s : List UInt8} (h : ķ n₀ w v s) (hB : Below n₀ w w') : ķ n₀ w' v s := by
 obtain ⟨A, cap, hv, hc, h⟩ := h
 exact ⟨A, cap, hv, hc, fun hs => by
  obtain ⟨b, off, hA, hb, ht⟩ := h hs
  exact ⟨b, off, hA, hb, Ìw ht hb hB⟩⟩
theorem ķ.more {n₀ n₁ : Nat} {w : World} {v : Value} {s : List UInt8} (h : ķ n₀ w v s) (hn : n₀ ≤ n₁) : ķ n₁ w v s := by
 obtain ⟨A, cap, hv, hc, h⟩ := h
 exact ⟨A, cap, hv, hc, fun hs => by
  obtain ⟨b, off, hA, hb, ht⟩ := h hs
  exact ⟨b, off, hA, by omega, ht⟩⟩
theorem Ãf : (Tryz.prog.info? 3).map (fun i => (i.zero, i.size, i.bytes)) = some (some (.int .i64 0), 1, 8) := by kernel_rfl
def Åf (l : List Nat) : List Value := l.map fun n => Value.int .i64 ((n : Nat) : Int)
theorem Çg (l : List Nat) (n : Nat) : Åf (l ++ [n]) = Åf l ++ [.int .i64 ((n : Nat) : Int)] := by simp [Åf]
end
end Go.Proofs.YtpginkdkblmnbaaGreatDoor
