import Derived.Test.YtpginkdkblmnbaaGreatDoorWMUnit
import Derived.RangeFuncBox
import Derived.RangeFuncLeaves
import Derived.Shelf.Abstract
import Derived.WalkKit
import Derived.OwnWalkIn
import Derived.TacticsInMore
import Derived.LoopNIn
import Derived.LoopIn
import Derived.Maps.AppendAt
import Derived.Outline
import Derived.Test.YtpginkdkblmnbaaGreatDoorChecked
import Derived.WalkSpells
import Derived.LoopTactic
import Derived.Lib.SlBytesConst
import Derived.WalkLawsBesides
import Derived.Laws.BytesArg
import Derived.Laws.IdiomStrings
import Derived.Test.YtpginkdkblmnbaaGreatDoorWH1
import Derived.Deep.RegionHeld3
import Derived.Deep.QuietTactic
import Derived.BigQuiet
import Derived.IntWalk
namespace Go.Proofs.YtpginkdkblmnbaaGreatDoor
section
def acc (t : List UInt8) : Nat → Int
 | 0 => ŭ (at_ t 0 : Nat)
 | i + 1 => acc t i * 64 + (at_ t (i + 1) : Nat) - 128
theorem Åb (x : Nat) : -1 ≤ ŭ x ∧ ŭ x < 128 ∧ Ĺ x ≤ 3 := by
 unfold ŭ Ĺ
 repeat' split
 all_goals omega
theorem ÇK (t : List UInt8) (i : Nat) (h : i ≤ 3) : -33554432 ≤ acc t i ∧ acc t i ≤ 67108864 := by
 have g := Åb (at_ t 0);have b1 := ŷ t 1;have b2 := ŷ t 2;have b3 := ŷ t 3
 match i, h with
 | 0, _ => simp only [acc]; omega
 | 1, _ => simp only [acc, Nat.reduceAdd]; omega
 | 2, _ => simp only [acc, Nat.reduceAdd]; omega
 | 3, _ => simp only [acc, Nat.reduceAdd]; omega
def Åc (t : List UInt8) : Prop :=
 0 ≤ ŭ (at_ t 0 : Nat) ∧ Ĺ (at_ t 0 : Nat) < t.length ∧ ÀR (acc t (Ĺ (at_ t 0 : Nat))) = true ∧
  ŀ (acc t (Ĺ (at_ t 0 : Nat))).toNat = tk t (Ĺ (at_ t 0 : Nat) + 1)
theorem ÐY (t : List UInt8) (k : Nat) : (tk t k).length = k := by simp [tk]
theorem ÈE {n : Int} (h : ÀR n = true) : Åe n.toNat := by simp [ÀR] at h; exact ⟨by omega, by omega⟩
theorem Ív (t : List UInt8) (h : Åc t) : nx t = ((acc t (Ĺ (at_ t 0 : Nat))).toNat, Ĺ (at_ t 0 : Nat) + 1) := by
 obtain ⟨_, h2, h3, h4⟩ := h
 have hl : (ŀ (acc t (Ĺ (at_ t 0 : Nat))).toNat).length = Ĺ (at_ t 0 : Nat) + 1 := by rw [h4, ÐY]
 have := ÈH t _ (ÈE h3) (by rw [hl]; omega) (by rw [hl, h4])
 rw [this, hl]
set_option maxRecDepth 100000 in
set_option maxHeartbeats 2000000 in
theorem Êe (t : List UInt8) (c : Nat) (hc : Åe c) (h : tk t (ŀ c).length = ŀ c) :
 0 ≤ ŭ (at_ t 0 : Nat) ∧ Ĺ (at_ t 0 : Nat) + 1 = (ŀ c).length ∧ acc t (Ĺ (at_ t 0 : Nat)) = (c : Int) := by
 obtain ⟨c1, c2⟩ := hc;unfold ŀ at h ⊢
 by_cases e1 : c < 128
 ·rw [if_pos e1] at h ⊢
  simp [tk, List.range_succ] at h
  have hm : Ĺ (at_ t 0 : Nat) = 0 := by unfold Ĺ; rw [if_pos (by omega)]
  have hg : ŭ (at_ t 0 : Nat) = c := by unfold ŭ; rw [if_pos (by omega), h]
  rw [hm]
  refine ⟨by omega, by simp, ?_⟩
  simp only [acc];exact hg
 ·rw [if_neg e1] at h ⊢
  by_cases e2 : c < 2048
  ·rw [if_pos e2] at h ⊢
   simp [tk, List.range_succ] at h;obtain ⟨h0, h1⟩ := h
   have hm : Ĺ (at_ t 0 : Nat) = 1 := by unfold Ĺ; rw [if_neg (by omega), if_pos (by omega)]
   have hg : ŭ (at_ t 0 : Nat) = (at_ t 0 : Int) - 192 := by unfold ŭ; rw [if_neg (by omega), if_pos (by omega)]
   rw [hm]
   refine ⟨by omega, by simp, ?_⟩
   simp only [acc, Nat.reduceAdd];omega
  ·rw [if_neg e2] at h ⊢
   by_cases e3 : c < 65536
   ·rw [if_pos e3] at h ⊢
    simp [tk, List.range_succ] at h;obtain ⟨h0, h1, h2⟩ := h
    have hm : Ĺ (at_ t 0 : Nat) = 2 := by unfold Ĺ; rw [if_neg (by omega), if_neg (by omega), if_pos (by omega)]
    have hg : ŭ (at_ t 0 : Nat) = (at_ t 0 : Int) - 224 := by unfold ŭ; rw [if_neg (by omega), if_neg (by omega), if_pos (by omega)]
    rw [hm]
    refine ⟨by omega, by simp, ?_⟩
    simp only [acc, Nat.reduceAdd];omega
   ·rw [if_neg e3] at h ⊢
    simp [tk, List.range_succ] at h;obtain ⟨h0, h1, h2, h3⟩ := h
    have hm : Ĺ (at_ t 0 : Nat) = 3 := by unfold Ĺ; rw [if_neg (by omega), if_neg (by omega), if_neg (by omega), if_pos (by omega)]
    have hg : ŭ (at_ t 0 : Nat) = (at_ t 0 : Int) - 240 := by unfold ŭ; rw [if_neg (by omega), if_neg (by omega), if_neg (by omega), if_pos (by omega)]
    rw [hm]
    refine ⟨by omega, by simp, ?_⟩
    simp only [acc, Nat.reduceAdd];omega
theorem ËB (t : List UInt8) (hne : t ≠ []) (h : ¬ Åc t) : nx t = (1114112 + at_ t 0, 1) := by
 rcases Âr t hne with ⟨h1, h2, h3, h4⟩ | ⟨h1, _⟩
 ·rw [h2] at h3 h4
  obtain ⟨g1, g2, g3⟩ := Êe t _ h1 h4
  refine absurd ⟨g1, by omega, ?_, ?_⟩ h
  ·rw [g3]
   obtain ⟨q1, q2⟩ := h1;simp [ÀR];omega
  ·rw [g3, Int.toNat_natCast, g2]
   exact h4.symm
 ·exact h1
end
section
open Go.RowKit Go.Shelf
attribute [local go_sem] Oper.semAt_some
end
section
open Go.RowKit
theorem Íw (c : Int) (h0 : 0 ≤ c) (h9 : c < 256) (w : World) : Calls Tryz.prog 88 #[.int .i64 c] w fun e w' => e = .returned (.tuple #[.int .i64 (ŭ c), .int .i64 (Ĺ c)]) ∧ w = w' := by
 have hc : c < 128 ∨ (128 ≤ c ∧ c < 192) ∨ (192 ≤ c ∧ c < 224) ∨ (224 ≤ c ∧ c < 240) ∨ (240 ≤ c ∧ c < 248) ∨ 248 ≤ c := by omega
 rcases hc with h | ⟨h, h'⟩ | ⟨h, h'⟩ | ⟨h, h'⟩ | ⟨h, h'⟩ | h
 all_goals
  go_enter Tryz.func88, Tryz.ntmps88;go_wp2;go_ret2
  exact ⟨Ň (by unfold ŭ; (repeat' split); all_goals omega) (by unfold Ĺ; (repeat' split); all_goals omega), rfl⟩
end
section
open Go.RowKit Go.Shelf
def Row (n₀ : Nat) (w : World) (v : Value) (xs : List Value) : Prop :=
 ∃ A cap, v = .slice A xs.length cap ∧ xs.length ≤ cap ∧ (xs ≠ [] → ∃ b off, A = some ⟨b, off, none⟩ ∧ b < n₀ ∧ ∀ j u, xs[j]? = some u → w.cell? ⟨b, off + j, none⟩ = some u)
theorem Row.below {n₀ : Nat} {w w' : World} {v : Value} {xs : List Value} (h : Row n₀ w v xs) (hB : Below n₀ w w') : Row n₀ w' v xs := by
 obtain ⟨A, cap, hv, hc, h⟩ := h
 exact ⟨A, cap, hv, hc, fun hs => by
  obtain ⟨b, off, hA, hb, ht⟩ := h hs
  exact ⟨b, off, hA, hb, fun j u hu => (hB.cell (p := ⟨b, off + j, none⟩) hb).trans (ht j u hu)⟩⟩
theorem Row.more {n₀ n₁ : Nat} {w : World} {v : Value} {xs : List Value} (h : Row n₀ w v xs) (hn : n₀ ≤ n₁) : Row n₁ w v xs := by
 obtain ⟨A, cap, hv, hc, h⟩ := h
 exact ⟨A, cap, hv, hc, fun hs => by
  obtain ⟨b, off, hA, hb, ht⟩ := h hs
  exact ⟨b, off, hA, by omega, ht⟩⟩
theorem Row.of_own {w : World} {base : Nat} {e : TypeId} {v : Value} {n : Nat} {xs : List Value} (h : w.ownsRow base e 1 v n xs) : Row w.heap.size w v xs := by
 have hl : xs.length = n := by simpa using h.1
 rcases h.2 with ⟨rfl, hn⟩ | ⟨g, cap, cur, rfl, hb, hg, hnc, _⟩
 ·subst hn
  have : xs = [] := ď hl;subst this
  exact ⟨none, 0, rfl, ŋ _, fun h => absurd rfl h⟩
 ·refine ⟨some ⟨g, 0, none⟩, cap, by rw [hl], by rw [hl]; exact hnc, fun _ => ⟨g, 0, rfl, (Array.getElem?_eq_some_iff.1 hg).1, fun j u hu => ?_⟩⟩
  have := h.cells (g := g) rfl j u hu
  have hadd : (⟨g, 0, none⟩ : Addr).add j = ⟨g, 0 + j, none⟩ := by unfold Addr.add; split <;> simp_all
  rwa [hadd] at this
theorem Row.lit (w : World) (cs : Array Value) (e : TypeId) (fr : Nat × Nat) : Row (w.heap.size + 1) (w.alloc (.cells cs e fr)) (.slice (some ⟨w.heap.size, 0, none⟩) cs.size cs.size) cs.toList :=
 ⟨some ⟨w.heap.size, 0, none⟩, cs.size, by simp, by simp, fun _ => ⟨w.heap.size, 0, rfl, by omega, fun j u hu => by
   simp only [ĉ];rw [cell_of_row _ w.heap.size j cs e fr (heap_alloc_new w _)]
   simpa using hu⟩⟩
theorem ÆR {s : List UInt8} {j : Nat} (h : j < s.length) : (Lib.byteCells s)[j]? = some (.int .u8 ((at_ s j : Nat) : Int)) := by
 simp [Lib.byteCells, at_, List.getD_eq_getElem?_getD, h]
theorem ķ.of_row {n₀ : Nat} {w : World} {v : Value} {s : List UInt8} (h : Row n₀ w v (Lib.byteCells s)) : ķ n₀ w v s := by
 obtain ⟨A, cap, hv, hc, h⟩ := h;rw [Lib.byteCells_length] at hv hc
 exact ⟨A, cap, hv, hc, fun hs => by
  obtain ⟨b, off, hA, hb, ht⟩ := h (fun e => hs (by have := congrArg List.length e; rw [Lib.byteCells_length, Ď] at this; exact ď this))
  exact ⟨b, off, hA, hb, fun j hj => ht j _ (ÆR hj)⟩⟩
def zs (l : List Int) : List Value := l.map (Value.int .i64)
theorem ś.more {n₀ n₁ : Nat} {w : World} (h : ś n₀ w) (hn : n₀ ≤ n₁) : ś n₁ w := ⟨by have := h.1; omega, h.2⟩
theorem Íb (w : World) (cs : Array Value) (s : List UInt8) (fr : Nat × Nat) (n : Nat) (hn : cs.size = n) (h : cs.toList = Lib.byteCells s) : ķ (w.heap.size + 1) (w.alloc (.cells cs 5 fr)) (.slice (some ⟨w.heap.size, 0, none⟩) n n) s := by
 have h1 := Row.lit w cs 5 fr;rw [h, hn] at h1;exact ķ.of_row h1
end
section
open Go.RowKit Go.Shelf
section
variable {P : Program} (w : World)
end
theorem Äv (w : World) (base : Nat) (e : TypeId) (h : base ≤ w.heap.size) : (w.alloc (.cells #[] e)).ownsRow base e 1 (.slice (some ⟨w.heap.size, 0, none⟩) 0 0) 0 [] :=
 World.ownsRow_made w #[] 0 h (by unfold maxLen; omega) (by simp)
theorem ö {B : Nat} {a w w' : World} {base : Nat} {e : TypeId} {v : Value} {n : Nat} {xs : List Value} (hB : Below B a w) (h : w.ownsRow base e 1 v n xs) (hb : B ≤ base) (hg : w.grownBy w' v.ownBlock) (hs : B ≤ w.heap.size) : Below B a w' :=
 hB.grown hg hs (fun k hk => by have := (h.lt k hk).1; omega)
end
section
open Go.RowKit Go.Shelf
theorem ÆT (l : List Nat) (h : ∀ x ∈ l, x < 256) : Lib.byteCells (toB l) = l.map fun x => Value.int .u8 ((x : Nat) : Int) := by
 simp only [Lib.byteCells, toB, List.map_map];apply List.map_congr_left;intro x hx;have := h x hx;simp;omega
theorem Íx {c : Nat} {l : List Int} {w : World} {n : Nat} (hn : n = l.length) (h : (ŀ c).map (fun x => ((x : Nat) : Int)) = l) (hb : ∀ x ∈ ŀ c, x < 256) :
 ķ (w.alloc (.cells (l.map (Value.int .u8)).toArray 5)).heap.size (w.alloc (.cells (l.map (Value.int .u8)).toArray 5)) (.slice (some ⟨w.heap.size, 0, none⟩) n n) (toB (ŀ c)) := by
 rw [World.size_alloc]
 refine Íb w _ _ (0, 0) n (by simp [hn]) ?_
 rw [ÆT _ hb, ← h];simp
set_option maxHeartbeats 1000000 in
theorem Íy (c : Nat) (hc : Åe c) (w : World) :
 Calls Tryz.prog 90 #[.int .i64 (c : Int)] w fun e w' => ∃ v, e = .returned v ∧ ķ w'.heap.size w' v (toB (ŀ c)) ∧ Below w.heap.size w w' := by
 have hb := ÆU c hc.1
 have h0 : (0 : Int) ≤ (c : Int) := by omega
 have h9 : (c : Int) ≤ 1114111 := by have := hc.1; omega
 have HE : Hid (∀ n l, n = l.length → (ŀ c).map (fun x => ((x : Nat) : Int)) = l → ķ (w.alloc (.cells (l.map (Value.int .u8)).toArray 5)).heap.size (w.alloc (.cells (l.map (Value.int .u8)).toArray 5)) (.slice (some ⟨w.heap.size, 0, none⟩) n n) (toB (ŀ c))) :=
  ħ (fun n l hn h => Íx hn h hb)
 clear hb hc
 by_cases h1 : (c : Int) < 128
 ·go_enter Tryz.func90, Tryz.ntmps90
  go_wp2;go_ret;refine ⟨_, rfl, HE.o 1 [(c : Int)] rfl ?_, (ā _ _).alloc (ŋ _) _⟩
  simp [ŀ, show c < 128 by omega]
 ·by_cases h2 : (c : Int) < 2048
  ·go_enter Tryz.func90, Tryz.ntmps90
   go_wp2;go_ret;refine ⟨_, rfl, HE.o 2 [192 + (c : Int) / 64, 128 + (c : Int) % 64] rfl ?_, (ā _ _).alloc (ŋ _) _⟩
   simp [ŀ, show ¬ c < 128 by omega, show c < 2048 by omega]
  ·by_cases h3 : (c : Int) < 65536
   ·go_enter Tryz.func90, Tryz.ntmps90
    go_wp2;go_ret;refine ⟨_, rfl, HE.o 3 [224 + (c : Int) / 4096, 128 + (c : Int) / 64 % 64, 128 + (c : Int) % 64] rfl ?_, (ā _ _).alloc (ŋ _) _⟩
    simp [ŀ, show ¬ c < 128 by omega, show ¬ c < 2048 by omega, show c < 65536 by omega]
   ·go_enter Tryz.func90, Tryz.ntmps90
    go_wp2;go_ret;refine ⟨_, rfl, HE.o 4 [240 + (c : Int) / 262144, 128 + (c : Int) / 4096 % 64, 128 + (c : Int) / 64 % 64, 128 + (c : Int) % 64] rfl ?_, (ā _ _).alloc (ŋ _) _⟩
    simp [ŀ, show ¬ c < 128 by omega, show ¬ c < 2048 by omega, show ¬ c < 65536 by omega]
end
section
open Go.RowKit Go.Shelf
theorem Ŏ {n₀ : Nat} {w : World} {v : Value} {s : List UInt8} (h : ķ n₀ w v s) : (convert 81 9 v).run Tryz.prog w = .ok (.string ⟨s.toArray⟩) w := by
 obtain ⟨A, cap, rfl, _, h⟩ := h
 by_cases hs : s = []
 ·subst hs
  cases A with
  | none => exact run_convert_bytes_nil w 81 5 Tryz.underlying81 Tryz.underlying5 _ _ 9 Tryz.underlying9
  | some a => exact run_convert_bytes_back (P := Tryz.prog) w 81 9 5 a cap [] Tryz.underlying81 Tryz.underlying5 Tryz.underlying9 (fun j hj => by simp at hj)
 ·obtain ⟨b, off, rfl, _, ht⟩ := h hs
  have e := run_convert_bytes_arg (P := Tryz.prog) w 81 5 Tryz.underlying81 Tryz.underlying5 b off s.length cap (s.map fun b => (b.toNat : Int)) (by simp) (fun i hi => by
   rw [ht i hi]
   simp [at_, List.getD_eq_getElem?_getD, hi]) 9 Tryz.underlying9
  rw [e];simp [strOfNums, Function.comp_def]
end
section
open Go.RowKit Go.Shelf
theorem ÈF (n : Int) (b : Bool) (h : ÀR n = b) (w : World) : Calls Tryz.prog 89 #[.int .i64 n] w fun e w' => e = .returned (.bool b) ∧ w' = w :=
 (ÍW n w).mono fun _ _ ⟨h1, h2⟩ => ⟨by rw [h1, h], h2.symm⟩
theorem Íz (n : Int) (h : ÀR n = true) (w : World) : Calls Tryz.prog 90 #[.int .i64 n] w fun e w' => ∃ v, e = .returned v ∧ ķ w'.heap.size w' v (toB (ŀ n.toNat)) ∧ Below w.heap.size w w' := by
 have hn : ((n.toNat : Nat) : Int) = n := by simp [ÀR] at h; omega
 have := Íy n.toNat (ÈE h) w
 rwa [hn] at this
theorem Ðh (t : List UInt8) {j n : Nat} (h : j < n) : at_ (t.take n) j = at_ t j := by
 simp [at_, List.getD_eq_getElem?_getD, h]
theorem Ði {a b : List Nat} (ha : ∀ x ∈ a, x < 256) (hb : ∀ x ∈ b, x < 256) (h : toB a = toB b) : a = b := by
 have h2 := congrArg (List.map UInt8.toNat) h;simp only [toB, List.map_map] at h2
 have e : ∀ l : List Nat, (∀ x ∈ l, x < 256) → l.map (UInt8.toNat ∘ Nat.toUInt8) = l := by
  intro l hl
  conv => rhs; rw [← List.map_id l]
  apply List.map_congr_left;intro x hx;have := hl x hx;simp;omega
 rw [e a ha, e b hb] at h2;exact h2
theorem Ðj (t : List UInt8) (k : Nat) : ∀ x ∈ tk t k, x < 256 := by
 intro x hx;obtain ⟨i, _, rfl⟩ := List.mem_map.1 hx;exact ŷ t i
theorem Ðk (c : Nat) (t : List UInt8) (k : Nat) (hc : Åe c) : k ≤ t.length → (toB (ŀ c) = t.take k ↔ ŀ c = tk t k) := fun hk => by
 rw [Êi hk rfl]
 exact ⟨fun h => Ði (ÆU c hc.1) (Ðj t k) h, fun h => by rw [h]⟩
theorem ÀZ (w : World) (n : Nat) : Below w.heap.size w (w.drewN n) := ⟨rfl, rfl, rfl, ŋ _, fun _ _ => rfl⟩
set_option maxHeartbeats 2000000 in
set_option maxRecDepth 100000 in
theorem ËC (s : List UInt8) (b off cap len k : Nat) (hl : len = s.length) (hk : k < len) (hcap : len ≤ cap) (hmax : len ≤ 1000000) (w : World) (hp : Txt w b off s) :
 Calls Tryz.prog 60 #[.slice (some ⟨b, off, none⟩) len cap, .int .i64 k] w fun e w' =>
  e = .returned (.tuple #[.int .i64 (nx (s.drop k)).1, .int .i64 (nx (s.drop k)).2]) ∧ Below w.heap.size w w' := by
 have hne : s.drop k ≠ [] := fun e => by have := congrArg List.length e; rw [ċ, Ď] at this; omega
 obtain ⟨t, ht⟩ : ∃ t, t = s.drop k := ⟨_, rfl⟩
 have htl : t.length = len - k := by rw [ht, ċ, hl]
 have hcell : ∀ j, j < len - k → w.cell? ⟨b, off + (k + j), none⟩ = some (.int .u8 ((at_ t j : Nat) : Int)) := by
  intro j hj;rw [ht, Àl]
  exact hp (k + j) (by omega)
 have c0 := hcell 0 (by omega)
 rw [Nat.add_zero] at c0;have hblt : b < w.heap.size := block_lt_of_cell c0;rw [← ht] at hne ⊢;have b0 := ŷ t 0;obtain ⟨x0, hx0⟩ : ∃ x0, x0 = at_ t 0 := ⟨_, rfl⟩;obtain ⟨g, hg⟩ : ∃ g, g = ŭ (x0 : Nat) := ⟨_, rfl⟩;obtain ⟨m, hm⟩ : ∃ m, m = Ĺ (x0 : Nat) := ⟨_, rfl⟩;have hgr := Åb x0;rw [← hg, ← hm] at hgr;obtain ⟨hg0, hg1, hm3⟩ := hgr;rw [← hx0] at c0 b0
 have hstray : ¬ Åc t → nx t = (1114112 + x0, 1) := by rw [hx0]; exact ËB t hne
 have hgu := Íw (x0 : Int) (by omega) (by omega)
 rw [← hg, ← hm] at hgu;have HG := ħ hgu;have HX := ħ hx0;have HGN := ħ hg;have HM := ħ hm;have HC := ħ hcell;have HS := ħ hstray;have HT := ħ ht;have HTL := ħ htl;have HL := ħ hl;clear hgu hx0 hg hm hcell hstray ht htl hl hp
 by_cases h1 : 0 ≤ g
 ·by_cases h2 : k + m < len
  ·go_enter Tryz.func60, Tryz.ntmps60
   go_wp2_with fail
   refine (HG.o _).mono ?_;rintro e wx ⟨rfl, rfl⟩
   go_wp2_with fail
   go_loop [6, 8] (fun n i => ∃ j : Nat, 1 ≤ j ∧ j ≤ m + 1 ∧ i = .int .i64 j ∧ n = .int .i64 (acc t (j - 1))) (fun _ i => m + 1 - (intOf i).toNat)
   case atStart => exact ⟨1, ŋ _, by omega, rfl, by rw [HGN.o, HX.o]; rfl⟩
   case round =>
    obtain ⟨j, hj1, hjm, rfl, rfl⟩ := hrel
    by_cases hlt : j ≤ m
    ·have hcj := HC.o j (by omega)
     have hbj := ŷ t j
     have hacc := ÇK t (j - 1) (by omega)
     obtain ⟨ha0, ha1⟩ := hacc
     have hnext : acc t (j + 1 - 1) = acc t (j - 1) * 64 + (at_ t j : Nat) - 128 := by
      obtain ⟨i, rfl⟩ : ∃ i, j = i + 1 := ⟨j - 1, by omega⟩
      rfl
     have HNX := ħ hnext;obtain ⟨a, ha⟩ : ∃ a, a = acc t (j - 1) := ⟨_, rfl⟩;obtain ⟨x, hx⟩ : ∃ x, x = at_ t j := ⟨_, rfl⟩;rw [← ha] at ha0 ha1 HNX ⊢;rw [← hx] at hcj hbj HNX;clear ha hx hnext
     have hki : (k : Int) + (j : Int) < (len : Int) := by omega
     go_wp2;go_round
     case rel => exact ⟨j + 1, by omega, by omega, by go_num, by rw [HNX.o]⟩
     case measure => simp [intOf]; omega
    ·obtain rfl : j = m + 1 := by omega
     have hacc := ÇK t m (by omega)
     obtain ⟨ha0, ha1⟩ := hacc;rw [Nat.add_sub_cancel];obtain ⟨A, hA⟩ : ∃ A, A = acc t m := ⟨_, rfl⟩;rw [← hA] at ha0 ha1 ⊢;have HA := ħ hA;clear hA
     cases hch : ÀR A with
     | false =>
      have hnr : ¬ Åc t := by
       rintro ⟨_, _, q, _⟩;rw [← HX.o, ← HM.o, ← HA.o, hch] at q;cases q
      have HN := ħ (HS.o hnr);clear hnr
      go_wp2_with fail
      go_quiet ((go_at_call 89; exact Calls.quiet_of_same (ÈF A false hch _)));go_wp2;go_ret2;rw [HN.o]
      exact ⟨Ň (by simp) (by simp), ÀZ _ _⟩
     | true =>
      have hsl : ķ w.heap.size w (.slice (some ⟨b, off + k, none⟩) (m + 1) (cap - k)) (t.take (m + 1)) := by
       have e : (t.take (m + 1)).length = m + 1 := by rw [List.length_take, HTL.o]; omega
       refine ⟨some ⟨b, off + k, none⟩, cap - k, by rw [e], by rw [e]; omega, fun _ => ⟨b, off + k, rfl, hblt, fun j hj => ?_⟩⟩
       rw [e] at hj;rw [Ðh t hj, Nat.add_assoc]
       exact HC.o j (by omega)
      have hiff := Ðk A.toNat t (m + 1) (ÈE hch);obtain ⟨Y, hY⟩ : ∃ Y, Y = t.take (m + 1) := ⟨_, rfl⟩;obtain ⟨X, hX⟩ : ∃ X, X = toB (ŀ A.toNat) := ⟨_, rfl⟩
      have hby : ∀ W, Calls Tryz.prog 90 #[.int .i64 A] W fun e w' => ∃ v, e = .returned v ∧ ķ w'.heap.size w' v X ∧ Below W.heap.size W w' := by
       intro W; rw [hX]; exact Íz A hch W
      rw [← hY] at hsl hiff;rw [← hX] at hiff;have HBY := ħ hby;have HSL := ħ hsl;have HIF := ħ hiff;clear hby hsl hiff hY hX
      have hkm : (k : Int) + (m : Int) + 1 ≤ (len : Int) := by omega
      have k1 : (convert 81 9 (.slice (some ⟨b, off + k, none⟩) (m + 1) (cap - k))).run Tryz.prog w.drew = .ok (.string ⟨Y.toArray⟩) w.drew := Ŏ (HSL.o.below (ÀZ w 1))
      by_cases hXY : X = Y
      ·have hbb : (X == Y) = true := by simp [hXY]
       have hro : Åc t := ⟨by rw [← HX.o, ← HGN.o]; exact h1, by rw [← HX.o, ← HM.o, HTL.o]; omega, by rw [← HX.o, ← HM.o, ← HA.o]; exact hch, by
        rw [← HX.o, ← HM.o, ← HA.o]; exact (HIF.o (by rw [HTL.o]; omega)).1 hXY⟩
       have hnr := Ív t hro;rw [← HX.o, ← HM.o, ← HA.o] at hnr
       have hAn : ((A.toNat : Nat) : Int) = A := by simp [ÀR] at hch; omega
       have HAN := ħ hAn;have HNR := ħ hnr;clear hXY hro hAn hnr
       go_wp2_with fail
       refine wp_region_held_drew (S := fun w' => (convert 81 9 (.slice (some ⟨b, off + k, none⟩) (m + 1) (cap - k))).run Tryz.prog w' = .ok (.string ⟨Y.toArray⟩) w') (by kernel_rfl) k1 (fun hHeld => ?_)
       refine ŧ 0 44 (.int .i64 A) _ rfl rfl hHeld (fun w' hSw => ?_) ?_
       ·go_simp
       simp only [ł, ø, đ]
       refine ŝ 1 (fun K hK => ?_)
       go_simp;refine (ÈF A true hch _).mono ?_;rintro e w' ⟨rfl, rfl⟩
       refine hK.o _ _ k1 (fun hHeld => ?_)
       clear hK K
       refine ŧ 2 46 (.bool true) _ rfl rfl hHeld (fun w' hSw => ?_) ?_
       ·go_simp
       simp only [ł, ø, đ]
       refine ŧ 3 47 (.int .i64 A) _ rfl rfl hHeld (fun w' hSw => ?_) ?_
       ·go_simp
       simp only [ł, ø, đ]
       refine ŧ 6 50 (.slice (some ⟨b, off, none⟩) len cap) _ rfl rfl hHeld (fun w' hSw => ?_) ?_
       ·go_simp
       simp only [ł, ø, đ]
       refine ŧ 7 51 (.int .i64 k) _ rfl rfl hHeld (fun w' hSw => ?_) ?_
       ·go_simp
       simp only [ł, ø, đ]
       refine ŧ 8 52 (.int .i64 k) _ rfl rfl hHeld (fun w' hSw => ?_) ?_
       ·go_simp
       simp only [ł, ø, đ]
       refine ŧ 9 53 (.int .i64 m) _ rfl rfl hHeld (fun w' hSw => ?_) ?_
       ·go_simp
       simp only [ł, ø, đ]
       have q0 : (0 : Int) ≤ (k : Int) + (m : Int) + 1 := by omega
       have q1 : ((k : Int) + (m : Int) + 1).toNat = k + m + 1 := by omega
       have q2 : k + m + 1 - k = m + 1 := by omega
       have q3 : (k : Int) + (m : Int) + 1 ≤ (cap : Int) := by omega
       have q4 : k ≤ k + m + 1 := by omega
       have q5 : ¬ cap = k := by omega
       have hw1 : IntKind.i64.wrap ((k : Int) + (m : Int)) = (k : Int) + (m : Int) := IntWalk.i64_in _ (by omega)
       have hw2 : IntKind.i64.wrap ((k : Int) + (m : Int) + 1) = (k : Int) + (m : Int) + 1 := IntWalk.i64_in _ (by omega)
       clear hlt hj1 hjm hk hcap hmax hkm h1 h2 hg0 hg1 ha0 ha1 hne
       refine ŧ 10 54 (.int .i64 ((k : Int) + (m : Int))) _ rfl rfl hHeld (fun w' hSw => ?_) ?_
       ·go_simp
       simp only [ł, ø, đ]
       refine ŧ 11 55 (.int .i64 ((k : Int) + (m : Int) + 1)) _ rfl rfl hHeld (fun w' hSw => ?_) ?_
       ·go_simp
       simp only [ł, ø, đ]
       refine ŧ 12 56 (.slice (some ⟨b, off + k, none⟩) (m + 1) (cap - k)) _ rfl rfl hHeld (fun w' hSw => ?_) ?_
       ·go_simp
       simp only [ł, ø, đ]
       refine ŧ 13 57 (.string ⟨Y.toArray⟩) _ rfl rfl hHeld (fun w' hSw => ?_) ?_
       ·go_simp
       simp only [ł, ø, đ]
       refine ŝ 4 (fun K hK => ?_)
       go_simp;refine (HBY.o _).mono ?_;rintro e w2 ⟨v2, rfl, m2, hB2⟩;have hB := (ÀZ w 1).trans hB2;have k2 := Ŏ m2;have k3 := Ŏ (HSL.o.below hB)
       refine hK.o _ _ k3 (fun hHeld => ?_)
       clear hK K
       refine ŝ 5 (fun K hK => ?_)
       go_simp
       refine hK.o _ _ k3 (fun hHeld => ?_)
       clear hK K
       refine ŧ 14 58 (.bool true) _ rfl rfl hHeld (fun w' hSw => ?_) ?_
       ·go_simp
       simp only [ł, ø, đ]
       refine ŧ 15 59 (.bool true) _ rfl rfl hHeld (fun w' hSw => ?_) ?_
       ·go_simp
       simp only [ł, ø, đ]
       refine wpAnyH_done (by kernel_rfl) ?_ _
       clear hw1 hw2 q0 q1 q2 q3 q4 q5 k1 k2 k3 hHeld hbb;go_wp2;go_ret2;rw [HNR.o]
       exact ⟨Ň HAN.o.symm (by simp), hB⟩
      ·have hbb : (X == Y) = false := by simp [hXY]
       have hro : ¬ Åc t := by
        rintro ⟨_, _, _, q⟩;rw [← HX.o, ← HM.o, ← HA.o] at q
        exact hXY ((HIF.o (by rw [HTL.o]; omega)).2 q)
       have HNR := ħ (HS.o hro);clear hXY hro
       go_wp2_with fail
       refine wp_region_held_drew (S := fun w' => (convert 81 9 (.slice (some ⟨b, off + k, none⟩) (m + 1) (cap - k))).run Tryz.prog w' = .ok (.string ⟨Y.toArray⟩) w') (by kernel_rfl) k1 (fun hHeld => ?_)
       refine ŧ 0 44 (.int .i64 A) _ rfl rfl hHeld (fun w' hSw => ?_) ?_
       ·go_simp
       simp only [ł, ø, đ]
       refine ŝ 1 (fun K hK => ?_)
       go_simp;refine (ÈF A true hch _).mono ?_;rintro e w' ⟨rfl, rfl⟩
       refine hK.o _ _ k1 (fun hHeld => ?_)
       clear hK K
       refine ŧ 2 46 (.bool true) _ rfl rfl hHeld (fun w' hSw => ?_) ?_
       ·go_simp
       simp only [ł, ø, đ]
       refine ŧ 3 47 (.int .i64 A) _ rfl rfl hHeld (fun w' hSw => ?_) ?_
       ·go_simp
       simp only [ł, ø, đ]
       refine ŧ 6 50 (.slice (some ⟨b, off, none⟩) len cap) _ rfl rfl hHeld (fun w' hSw => ?_) ?_
       ·go_simp
       simp only [ł, ø, đ]
       refine ŧ 7 51 (.int .i64 k) _ rfl rfl hHeld (fun w' hSw => ?_) ?_
       ·go_simp
       simp only [ł, ø, đ]
       refine ŧ 8 52 (.int .i64 k) _ rfl rfl hHeld (fun w' hSw => ?_) ?_
       ·go_simp
       simp only [ł, ø, đ]
       refine ŧ 9 53 (.int .i64 m) _ rfl rfl hHeld (fun w' hSw => ?_) ?_
       ·go_simp
       simp only [ł, ø, đ]
       have q0 : (0 : Int) ≤ (k : Int) + (m : Int) + 1 := by omega
       have q1 : ((k : Int) + (m : Int) + 1).toNat = k + m + 1 := by omega
       have q2 : k + m + 1 - k = m + 1 := by omega
       have q3 : (k : Int) + (m : Int) + 1 ≤ (cap : Int) := by omega
       have q4 : k ≤ k + m + 1 := by omega
       have q5 : ¬ cap = k := by omega
       have hw1 : IntKind.i64.wrap ((k : Int) + (m : Int)) = (k : Int) + (m : Int) := IntWalk.i64_in _ (by omega)
       have hw2 : IntKind.i64.wrap ((k : Int) + (m : Int) + 1) = (k : Int) + (m : Int) + 1 := IntWalk.i64_in _ (by omega)
       clear hlt hj1 hjm hk hcap hmax hkm h1 h2 hg0 hg1 ha0 ha1 hne
       refine ŧ 10 54 (.int .i64 ((k : Int) + (m : Int))) _ rfl rfl hHeld (fun w' hSw => ?_) ?_
       ·go_simp
       simp only [ł, ø, đ]
       refine ŧ 11 55 (.int .i64 ((k : Int) + (m : Int) + 1)) _ rfl rfl hHeld (fun w' hSw => ?_) ?_
       ·go_simp
       simp only [ł, ø, đ]
       refine ŧ 12 56 (.slice (some ⟨b, off + k, none⟩) (m + 1) (cap - k)) _ rfl rfl hHeld (fun w' hSw => ?_) ?_
       ·go_simp
       simp only [ł, ø, đ]
       refine ŧ 13 57 (.string ⟨Y.toArray⟩) _ rfl rfl hHeld (fun w' hSw => ?_) ?_
       ·go_simp
       simp only [ł, ø, đ]
       refine ŝ 4 (fun K hK => ?_)
       go_simp;refine (HBY.o _).mono ?_;rintro e w2 ⟨v2, rfl, m2, hB2⟩;have hB := (ÀZ w 1).trans hB2;have k2 := Ŏ m2;have k3 := Ŏ (HSL.o.below hB)
       refine hK.o _ _ k3 (fun hHeld => ?_)
       clear hK K
       refine ŝ 5 (fun K hK => ?_)
       go_simp
       refine hK.o _ _ k3 (fun hHeld => ?_)
       clear hK K
       refine ŧ 14 58 (.bool false) _ rfl rfl hHeld (fun w' hSw => ?_) ?_
       ·go_simp
       simp only [ł, ø, đ]
       refine ŧ 15 59 (.bool false) _ rfl rfl hHeld (fun w' hSw => ?_) ?_
       ·go_simp
       simp only [ł, ø, đ]
       refine wpAnyH_done (by kernel_rfl) ?_ _
       clear hw1 hw2 q0 q1 q2 q3 q4 q5 k1 k2 k3 hHeld hbb;have c2 := (hB.cell (p := ⟨b, off + k, none⟩) hblt).trans c0;go_wp2;go_ret2;rw [HNR.o]
       exact ⟨Ň (by simp) (by simp), hB⟩
  ·have h2' : ¬ (k : Int) + (m : Int) < (len : Int) := by omega
   have hnr : ¬ Åc t := by
    rintro ⟨_, q, _⟩;rw [← HX.o, ← HM.o, HTL.o] at q;omega
   have HN := ħ (HS.o hnr);go_enter Tryz.func60, Tryz.ntmps60
   go_wp2_with fail
   refine (HG.o _).mono ?_;rintro e wx ⟨rfl, rfl⟩;go_wp2;go_ret2;rw [HN.o]
   exact ⟨Ň (by simp) (by simp), ā _ _⟩
 ·have hnr : ¬ Åc t := by
   rintro ⟨q, _⟩;rw [← HX.o, ← HGN.o] at q;exact h1 q
  have HN := ħ (HS.o hnr);go_enter Tryz.func60, Tryz.ntmps60
  go_wp2_with fail
  refine (HG.o _).mono ?_;rintro e wx ⟨rfl, rfl⟩;go_wp2;go_ret2;rw [HN.o]
  exact ⟨Ň (by simp) (by simp), ā _ _⟩
end
end Go.Proofs.YtpginkdkblmnbaaGreatDoor
