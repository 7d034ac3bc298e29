import Derived.Test.YtpginkdkblmnbaaGreatDoorWClCloneS
import Derived.Test.YtpginkdkblmnbaaGreatDoorWClTwin
import Derived.Deep.DeepCutAuto
import Derived.Deep.RegionWith
import Derived.Deep.RegionHeld3
import Derived.Deep.RegionLaw
import Derived.Deep.LoopGhost
import Derived.BigQuiet
import Derived.Deep.QuietTactic
namespace Go.Proofs.YtpginkdkblmnbaaGreatDoor
namespace Cl
open Go.RowKit
theorem ÊK (l : List Rg) (k : Nat) (r : Rg) (h : l[k]? = some r) : Àn (l.take (k + 1)) = Àn (l.take k) ++ ÃF r := by
 obtain ⟨hk, rfl⟩ := List.getElem?_eq_some_iff.1 h;rw [ĕ hk, Êk]
theorem Ñf {W w1 : World} (hb : Below W.heap.size W w1) : (∀ b o, b < W.heap.size → w1.cell? ⟨b, o, none⟩ = W.cell? ⟨b, o, none⟩) ∧ (∀ b o, b < W.heap.size → w1.frozen? ⟨b, o, none⟩ = W.frozen? ⟨b, o, none⟩) :=
 ⟨fun b o h => hb.cell (p := ⟨b, o, none⟩) h, fun b o h => hb.frozen (p := ⟨b, o, none⟩) h⟩
theorem Év (u : Int) (W : World) (n : Nat) (hL : LU n W) (hn : n ≤ W.heap.size) : Calls Tryz.prog 113 #[.int .i64 u] W fun e w' => e = .returned (.int .i64 (tw u)) ∧ Below W.heap.size W w' := Îa u W (hL.more hn)
theorem Èk {W w' : World} (h : Below W.drew.heap.size W.drew w') : Below W.heap.size W w' := ⟨h.os, h.tape, h.output, h.size, h.block⟩
theorem Åh {P : Program} (w : World) {ops : Array Oper} {o : Oper} {a : Act} {K : Act → World → Prop} {Q : Exit → Act → World → Prop} {E : Prop} (hgd : o.guard = none) (s x : Operand) (t : TypeId)
 (ho : o.op = .call { callee := .builtin .append, args := #[s, x], argTypes := #[t, t] })
 (base : Nat) (e : TypeId) (i : TypeInfo) (z : Value) (ht : P.underlying t = some (.slice e)) (hi : P.info? e = some i) (hz : i.zero = some z)
 (hsize : i.size = 2) (hby : i.bytes = 16) (hzs : z.cells.size = 2) (v : Value) (xs : List Rg) (hs : a.eval s = v) (hown : Own w base e v xs)
 (b c : Nat) (r : Rg) (hx : a.eval x = .slice (some ⟨b, 0, none⟩) 1 c) (hr : ∀ j u, [Value.int .i64 r.1, .int .i64 r.2][j]? = some u → w.cell? ((⟨b, 0, none⟩ : Addr).add j) = some u) (h63 : xs.length + 1 ≤ 8796093022208) (hbase : base ≤ w.heap.size)
 (h : ∀ v' w', Own w' base e v' (xs ++ [r]) → w.grownBy w' v.ownBlock → (v'.ownBlock = v.ownBlock ∨ v'.ownBlock = some w.heap.size) → K (a.put o.dst v') w') :
 if Region.wanted o (yielded ops a.tmps) = true then Oper.wp P o a w K Q else E := by
 have hw : Region.wanted o (yielded ops a.tmps) = true := by simp [Region.wanted, hgd]
 rw [if_pos hw]
 obtain ⟨v', w', hrun, h2, h3, _, h5⟩ := run_append_own_at (P := P) w base t o.type e i z 2 16 ht hi hz hsize hby hzs (by decide) v xs.length (Ä xs) hown ⟨b, 0, none⟩ 1 c [.int .i64 r.1, .int .i64 r.2] rfl hr (by intro u hu; simp at hu; rcases hu with rfl | rfl <;> rfl) (by unfold maxLen; omega) (by omega) hbase
 unfold Oper.wp execOp;simp only [ho, resolve, invoke, builtin, Sem.run_bind, Sem.run_pure, Result.andThen_ok, List.map_toArray, List.map_cons, List.map_nil, hs, hx, hrun];refine h v' w' ?_ h3 h5;unfold Own;rw [ă, Án];exact h2
def ÂU (m : Nat) : Rg := if m = 0 then Êj else ÍI
def Åi (r : Rg) (m : Nat) : List Rg := if m = 0 then [] else if m = 1 then Ãd r Êj else ÃF r
theorem Çs (r : Rg) (m : Nat) (hm : m < 2) : Åi r (m + 1) = Åi r m ++ Ãd r (ÂU m) := by
 have h : m = 0 ∨ m = 1 := by omega
 rcases h with rfl | rfl <;> simp [Åi, ÂU, ÃF]
theorem Îl (r : Rg) (m : Nat) : (Åi r m).length ≤ 2 := by
 have h1 := Äk r Êj;have h2 := ÆV r;unfold Åi;split
 ·simp
 ·split <;> omega
theorem ÆM (m : Nat) (hm : m < 2) (w : World) : (Instr.index 165 (.agg #[.int .i64 97, .int .i64 122, .int .i64 65, .int .i64 90]) (.int .i64 (m : Nat))).run Tryz.prog w = .ok (.agg #[.int .i64 (ÂU m).1, .int .i64 (ÂU m).2]) w := by
 have h : m = 0 ∨ m = 1 := by omega
 rcases h with rfl | rfl
 ·show (Instr.index 165 (.agg #[.int .i64 97, .int .i64 122, .int .i64 65, .int .i64 90]) (.int .i64 0)).run Tryz.prog w = .ok (.agg #[.int .i64 97, .int .i64 122]) w
  kernel_rfl
 ·show (Instr.index 165 (.agg #[.int .i64 97, .int .i64 122, .int .i64 65, .int .i64 90]) (.int .i64 1)).run Tryz.prog w = .ok (.agg #[.int .i64 65, .int .i64 90]) w
  kernel_rfl
set_option maxRecDepth 100000 in
set_option maxHeartbeats 2000000 in
theorem Æc (v : Value) (l : List Rg) (w : World) (hmax : l.length ≤ 100000) (hL : LU w.heap.size w) (hS : à w.heap.size w v l) (hN : Ĩ l) :
 Calls Tryz.prog 93 #[v] w (ÂC (ť (l ++ Àn l)) w) := by
 have HS := ħ hS;obtain ⟨A, cap, rfl, _, _⟩ := id hS;have b1 := Ãn hN;have HN := ħ hN;have HL := ħ hL;clear hN hS hL;obtain ⟨i0, hi, hz0, hz1, hz2⟩ := Á info46;go_enter Tryz.func93, Tryz.ntmps93
 go_wp2_with fail
 refine (Æb _ l _ (by omega) HS.o).mono ?_
 rintro e w1 ⟨rfl, hb1⟩;have HS1 := ħ (HS.o.on hb1)
 go_wp2_with fail
 refine (Èj _ l _ (by omega) HS1.o).mono ?_
 rintro e w2 ⟨v2, rfl, hown2, hb2⟩;have hbw := hb1.trans (hb2.mono hb1.size);have hown := World.ownsRow.mono hown2 hb1.size;clear hb1 hb2 HS1 hown2 b1;go_wp2
 go_loopg [4, 18] l.length (fun g s i wr => ∃ k : Nat, l.length ≤ k + g ∧ k ≤ l.length ∧ i = .int .i64 k ∧ Own wr w.heap.size 164 s (l ++ Àn (l.take k)) ∧ Below w.heap.size w wr)
 case atStart => exact ⟨0, by omega, Ą _, rfl, by rw [List.take_zero, show Àn [] = [] from rfl, List.append_nil]; exact hown, hbw⟩
 case round =>
  clear hbw hown;obtain ⟨k, hg, hk, rfl, hown, hbel⟩ := hrel;have hsz := hbel.size
  by_cases hlt : k < l.length
  ·obtain ⟨b, off, lo, hi', rfl, hb, hget, c0, c1⟩ := HS.o.at_ hlt
   replace c0 := (hbel.cell (p := ⟨b, off + k * 2, none⟩) hb).trans c0
   replace c1 := (hbel.cell (p := ⟨b, off + k * 2 + 1, none⟩) hb).trans c1
   have HT := ħ (ÊK l k _ hget)
   have hfl : (Àn (l.take k)).length ≤ 200000 := by have := Äl (l.take k); have := List.length_take_le k l; omega
   have hr := HN.o.1 _ (Č hget);clear hget;have hbx := hbel.alloc hsz (.cells #[.int .i64 lo, .int .i64 hi'] 164);have hownx := hown.alloc (.cells #[.int .i64 lo, .int .i64 hi'] 164);have hx := ŵ.new wr lo hi'
   have hszx : wr.heap.size < (wr.alloc (.cells #[.int .i64 lo, .int .i64 hi'] 164)).heap.size := by simp
   obtain ⟨_, l0, l1, p0, p1⟩ := HL.o.below hbx
   go_upto_region 7 with (fail)
   generalize wr.alloc (Obj.cells #[Value.int IntKind.i64 lo, Value.int IntKind.i64 hi'] 164) = W6 at hbx hownx hx hszx l0 l1 p0 p1 ⊢;clear c0 c1 hbel;have hownW0 := hown;clear hown
   have hneq : u4.ownBlock ≠ some wr.heap.size := fun e => by have := (World.ownsRow.lt hownW0 _ e).2; omega
   have HNE := ħ hneq;clear hneq hownW0;go_wp2
   go_loopg [4, 25] 2 (fun g2 s t W => ∃ m : Nat, m ≤ 2 ∧ 2 ≤ m + g2 ∧ t = .int .i64 m ∧ Own W w.heap.size 164 s (l ++ Àn (l.take k) ++ Åi (lo, hi') m) ∧ Hid (s.ownBlock ≠ some wr.heap.size) ∧ ŵ W wr.heap.size lo hi' ∧ wr.heap.size < W.heap.size ∧ Below w.heap.size w W)
   case atStart => exact ⟨0, by omega, by omega, rfl, by rw [show Åi (lo, hi') 0 = [] from rfl, List.append_nil]; exact hownx, HNE, hx, hszx, hbx⟩
   case round =>
    clear hbx hownx hx hszx l0 l1 p0 p1 HNE;obtain ⟨m, hm2, hmg, rfl, hown, HNE, hx, hszx, hbel⟩ := hrel;have hszw : w.heap.size ≤ wr.heap.size := hbel.size
    by_cases hm : m < 2
    ·have hmc : (m : Int) < 2 := by omega
     have hix := ÆM m hm;obtain ⟨a, ha⟩ : ∃ a, a = (ÂU m).1 := ⟨_, rfl⟩;obtain ⟨c, hc⟩ : ∃ c, c = (ÂU m).2 := ⟨_, rfl⟩;rw [← ha, ← hc] at hix;obtain ⟨x, hxe⟩ : ∃ x, x = max lo a := ⟨_, rfl⟩;obtain ⟨y, hye⟩ : ∃ y, y = min hi' c := ⟨_, rfl⟩;have hsh := ÊJ lo hi' a c;rw [← hxe, ← hye] at hsh;have HX := ħ (And.intro ha (And.intro hc (And.intro hxe hye)));clear ha hc hxe hye;have x0 := hx.cell0;have x1 := hx.cell1
     go_upto_region 11 with (first | (go_at_call 112; refine (hsh _).mono ?_; rintro e w1 ⟨rfl, hb1⟩))
     have hx1 := (hx.alloc (.cells #[.int .i64 a, .int .i64 c] 164)).below hb1 (hx.alloc _).lt;have hown1 := (hown.alloc (.cells #[.int .i64 a, .int .i64 c] 164)).below hb1;have hbel1 := ū hbel hszw hb1
     have hs1 : wr.heap.size < w1.heap.size := by
      have := hb1.size;simp at this;omega
     have hlu := LU.below HL.o hbel1
     replace hx := hx1.alloc (.cells #[.int .i64 x, .int .i64 y] 164)
     replace hown := hown1.alloc (.cells #[.int .i64 x, .int .i64 y] 164)
     replace hbel := hbel1.alloc (by omega) (.cells #[.int .i64 x, .int .i64 y] 164)
     have hy := ŵ.new w1 x y;have hlu9 := LU.below HL.o hbel
     have hs9 : w1.heap.size < (w1.alloc (.cells #[.int .i64 x, .int .i64 y] 164)).heap.size := by simp
     clear hb1 hx1 hown1 hbel1 hlu x0 x1;generalize w1.alloc (Obj.cells #[Value.int IntKind.i64 x, Value.int IntKind.i64 y] 164) = W9 at hx hown hbel hy hlu9 hs9 ⊢;have hsz9 : w.heap.size ≤ W9.heap.size := hbel.size;have y0 := hy.cell0;have y1 := hy.cell1
     have hall : (l ++ Àn (l.take k) ++ Åi (lo, hi') m).length ≤ 1000000 := by
      have := Îl (lo, hi') m;simp only [ă];omega
     by_cases hxy : x ≤ y
     ·have hpt : Hid (Åi (lo, hi') (m + 1) = Åi (lo, hi') m ++ [(tw x, tw y)]) := ħ (by
       obtain ⟨e1, e2, e3, e4⟩ := HX.o;rw [Çs _ _ hm];unfold Ãd shr;simp only
       rw [← e1, ← e2, ← e3, ← e4, if_pos hxy])
      go_wp2_with fail
      go_region_law (first
       | (refine Åh _ rfl (.tmp 35) (.tmp 43) 24 rfl w.heap.size 164 i0 (.agg #[.int .i64 0, .int .i64 0]) Tryz.underlying24 hi hz0 hz1 hz2 rfl _ _ (by simp [Act.eval]) (hown4.alloc _) w4.heap.size 1 (tw x, tw y) (by simp [Act.eval]) (Ŭ _ _ _ _ _ rfl) (by omega) (by simp; omega) ?_; intro v5 w5 hown5 hg5 ha5)
       | (go_simp; go_at_call_of 113 (Value.int .i64 x); refine (Év x _ w.heap.size ?_ ?_).mono ?_; exact hlu9; exact hsz9; rintro e w3 ⟨rfl, hb3'⟩; have hb3 := Èk hb3'; obtain ⟨hcc, hff⟩ := Ñf hb3; have hown3 := hown.below hb3; have hbel3 := hbel.trans (hb3.mono hsz9); have hlu3 := LU.below HL.o hbel3; have hsz3 := hbel3.size; clear hb3')
       | (go_simp; go_at_call_of 113 (Value.int .i64 y); refine (Év y _ w.heap.size ?_ ?_).mono ?_; exact hlu3; exact hsz3; rintro e w4 ⟨rfl, hb4⟩; have hown4 := hown3.below hb4; have hbel4 := hbel3.trans (hb4.mono hsz3); have hsz4 := hbel4.size))
      all_goals
       go_wp2;have hz3 := hb3.size;have hz4 := hb4.size
       have hz5 : w4.heap.size + 1 ≤ w5.heap.size := by
        have := hg5.size;simpa using this
       have hxx := ((hx.below hb3 hx.lt).below hb4 (hx.below hb3 hx.lt).lt).alloc (.cells #[.int .i64 (tw x), .int .i64 (tw y)] 164)
       go_roundg (2 - (m + 1))
       case measure => omega
       case rel =>
        refine ⟨m + 1, by omega, by omega, by go_num, by rw [hpt.o, ← List.append_assoc]; exact hown5, ħ ?_, hxx.kept hg5 (fun e => HNE.o e.symm), by omega, ö (hbel4.alloc hsz4 _) (hown4.alloc _) (ŋ _) hg5 (by simp; omega)⟩
        rcases ha5 with h | h
        ·rw [h]
         exact HNE.o
        ·rw [h]
         intro e;have := Option.some.inj e;simp at this;omega
     ·have hpt : Hid (Åi (lo, hi') (m + 1) = Åi (lo, hi') m) := ħ (by
       obtain ⟨e1, e2, e3, e4⟩ := HX.o;rw [Çs _ _ hm];unfold Ãd shr;simp only
       rw [← e1, ← e2, ← e3, ← e4, if_neg hxy, List.append_nil])
      go_wp2
      go_roundg (2 - (m + 1))
      case measure => omega
      case rel => exact ⟨m + 1, by omega, by omega, by go_num, by rw [hpt.o]; exact hown, HNE, hx, by omega, hbel⟩
    ·have hm' : m = 2 := by omega
     have HM := ħ hm';clear hm'
     have hmc : ¬ (m : Int) < 2 := by omega
     go_wp2
     go_roundg (l.length - (k + 1))
     case measure => omega
     case rel => exact ⟨k + 1, by omega, by omega, by go_num, by rw [HT.o]; have h := hown; rw [HM.o] at h; rw [← List.append_assoc]; exact h, hbel⟩
  ·have hk' : k = l.length := by omega
   have HK := ħ hk';clear hk'
   have hfo : Hid (∀ r ∈ l ++ Àn l, Rt r) := ħ (fun r hr => (List.mem_append.1 hr).elim (HN.o.1 r) (ÈO l r))
   have hfl := Äl l
   have hS2 : Hid (à wr.heap.size wr u4 (l ++ Àn l)) := ħ (by have h := hown; rw [HK.o, Ă] at h; exact h.set)
   go_wp2_with fail
   refine (ÁT _ (l ++ Àn l) _ (by simp; omega) hfo.o hS2.o).mono ?_
   rintro e w4 ⟨v4, rfl, hown4, hb4⟩;go_wp2;go_ret2;exact ⟨_, rfl, World.ownsRow.mono hown4 hsz, hbel.trans (hb4.mono hsz)⟩
end Cl
end Go.Proofs.YtpginkdkblmnbaaGreatDoor
