import Derived.Test.YtpginkdkblmnbaaGreatDoorWMPg
import Derived.Test.YtpginkdkblmnbaaGreatDoorWMPa
import Derived.Laws.OwnMore
import Derived.WalkSmall
import Derived.BigQuiet
import Derived.Deep.QuietTactic
import Derived.Deep.RegionWith
import Derived.Deep.Cut
import Derived.IntWalk
import Derived.Maps.AppendAt
import Derived.Deep.RegionLaw
namespace Go.Proofs.YtpginkdkblmnbaaGreatDoor
section
open Go.RowKit
open Go.Proofs.YtpginkdkblmnbaaGreatDoor.Cl (Rg à Ý Ä)
variable {w w' w'' : World}
def ğ (x : In) (v : Value) : List Value := [.int .i64 x.op, .int .i64 x.a, .int .i64 x.b, .int .i64 x.c, .int .i64 x.d, v]
def ģ (L : List (In × Value)) : List Value := L.flatMap fun x => ğ x.1 x.2
theorem ÅL (a b : List (In × Value)) : ģ (a ++ b) = ģ a ++ ģ b := by simp [ģ]
theorem Ég (x : In) (v : Value) : ģ [(x, v)] = ğ x v := by simp [ģ]
theorem Ây : ∀ (L : List (In × Value)) (i j : Nat) (x : In × Value) (u : Value), L[i]? = some x → (ğ x.1 x.2)[j]? = some u → (ģ L)[i * 6 + j]? = some u
 | [], _, _, _, _, h, _ => by simp at h
 | y :: L, 0, j, x, u, h, hu => by
  simp at h;subst h;rw [ģ, List.flatMap_cons, Nat.zero_mul, ĉ];rw [List.getElem?_append_left (List.getElem?_eq_some_iff.1 hu).1];exact hu
 | y :: L, i + 1, j, x, u, h, hu => by
  have := Ây L i j x u (by simpa using h) hu
  rw [ģ, List.flatMap_cons, List.getElem?_append_right (by simp [ğ]; omega)]
  rw [show (i + 1) * 6 + j - (ğ y.1 y.2).length = i * 6 + j by simp [ğ]; omega]
  exact this
theorem ÄN : ∀ (L : List (In × Value)) (i j : Nat) (x : In × Value) (y : In) (u : Value), L[i]? = some x → j < 6 → (ğ x.1 x.2).set j u = ğ y x.2 → (ģ L).set (i * 6 + j) u = ģ (L.set i (y, x.2))
 | [], _, _, _, _, _, h, _, _ => by simp at h
 | z :: L, 0, j, x, y, u, h, hj, hu => by
  simp at h;subst h
  rw [ģ, List.flatMap_cons, Nat.zero_mul, ĉ, List.set_append_left _ _ (by simp [ğ]; omega), hu]
  rfl
 | z :: L, i + 1, j, x, y, u, h, hj, hu => by
  have := ÄN L i j x y u (by simpa using h) hj hu
  rw [ģ, List.flatMap_cons, List.set_append_right _ _ (by simp [ğ]; omega)]
  rw [show (i + 1) * 6 + j - (ğ z.1 z.2).length = i * 6 + j by simp [ğ]; omega]
  have e : (z :: L).set (i + 1) (y, x.2) = z :: L.set i (y, x.2) := rfl;rw [e, ģ, List.flatMap_cons];exact congrArg _ this
abbrev Är (w : World) (n₀ : Nat) (v : Value) (l : List Rg) : Prop := w.ownsRow n₀ 164 2 v l.length (Ä l)
def ÑB (w : World) (i : Nat) : Prop := ∃ cs z, w.heap[i]? = some (.cells cs 106 z)
structure FrW (n₀ wb : Nat) (w w' : World) : Prop where
 os : w'.os = w.os
 tape : w'.tape = w.tape
 output : w'.output = w.output
 size : w.heap.size ≤ w'.heap.size
 block : ∀ i, i < w.heap.size → (i < n₀ ∨ (i ≠ wb ∧ ¬ ÑB w i)) → w'.heap[i]? = w.heap[i]?
section
variable {n₀ wb : Nat}
theorem FrW.refl (w : World) : FrW n₀ wb w w := ⟨rfl, rfl, rfl, ŋ _, fun _ _ _ => rfl⟩
theorem FrW.trans (h : FrW n₀ wb w w') (k : FrW n₀ wb w' w'') : FrW n₀ wb w w'' :=
 ⟨k.os.trans h.os, k.tape.trans h.tape, k.output.trans h.output, ē h.size k.size, fun i hi hc => by
   have e := h.block i hi hc;refine (k.block i (Ć hi h.size) ?_).trans e
   rcases hc with hc | ⟨h1, h2⟩
   ·exact .inl hc
   ·refine .inr ⟨h1, fun ⟨cs, z, hb⟩ => h2 ⟨cs, z, ?_⟩⟩
    rw [← e]
    exact hb⟩
theorem FrW.of_below (h : Below w.heap.size w w') : FrW n₀ wb w w' := ⟨h.os, h.tape, h.output, h.size, fun i hi _ => h.block i hi⟩
theorem FrW.alloc (h : FrW n₀ wb w w') (o : Obj) : FrW n₀ wb w (w'.alloc o) := h.trans (FrW.of_below ((ā _ _).alloc (ŋ _) o))
theorem FrW.drewN (h : FrW n₀ wb w w') (n : Nat) : FrW n₀ wb w (w'.drewN n) := ⟨h.os, h.tape, h.output, h.size, h.block⟩
theorem FrW.drew (h : FrW n₀ wb w w') : FrW n₀ wb w w'.drew := ⟨h.os, h.tape, h.output, h.size, h.block⟩
theorem FrW.old (h : FrW n₀ wb w w') (hn : n₀ ≤ w.heap.size) : Below n₀ w w' := ⟨h.os, h.tape, h.output, h.size, fun i hi => h.block i (by omega) (.inl hi)⟩
theorem FrW.set_ (h : FrW n₀ wb w w') (hn : n₀ ≤ wb) {q : Addr} (hq : q.block = wb ∨ w.heap.size ≤ q.block) (u : Value) : FrW n₀ wb w (w'.setCell q u) :=
 ⟨h.os, h.tape, h.output, by simpa [World.setCell] using h.size, fun i hi hc => by
   refine (Below.heap_setCell _ _ _ _ ?_).trans (h.block i hi hc)
   rcases hq with hq | hq <;> rcases hc with hc | hc <;> omega⟩
theorem FrW.blk (h : FrW n₀ wb w w') {g : Nat} {t : TypeId} {cs : Array Value} (hg : Blk w g t cs) (ht : t ≠ 106) (hw : g ≠ wb) : Blk w' g t cs :=
 (h.block g hg.lt (.inr ⟨hw, fun ⟨_, _, hh⟩ => Â hg hh ht rfl⟩)).trans hg
end
structure Wc (n₀ wb : Nat) (fo : Bool) (w : World) (cv : Value) (L : List (In × Value)) (lp : Nat) : Prop where
 blk : Blk w wb 103 #[cv, .int .i64 (lp : Nat), .bool fo]
 own : w.ownsRow n₀ 106 6 cv L.length (ģ L)
 sets : ∀ x ∈ L, Är w n₀ x.2 x.1.set
 low : n₀ ≤ wb
 bnd : L.length ≤ 100000 ∧ lp ≤ 100000
def Wr (n₀ wb : Nat) (fo : Bool) (w : World) (M : List In) (lp : Nat) : Prop := ∃ cv L, Wc n₀ wb fo w cv L lp ∧ L.map (·.1) = M
section
variable {n₀ wb lp : Nat} {fo : Bool} {cv : Value} {L : List (In × Value)} {M : List In}
theorem ÀGg {base n : Nat} {e : TypeId} {size : Nat} {v : Value} {xs : List Value} (h : w.ownsRow base e size v n xs) (hk : ∀ i, i < w.heap.size → base ≤ i → (∃ cs z, w.heap[i]? = some (.cells cs e z)) → w'.heap[i]? = w.heap[i]?) : w'.ownsRow base e size v n xs :=
 Þ h fun i hi => by
  rcases h.2 with ⟨rfl, _⟩ | ⟨g, cap, cur, rfl, hb, hh, _⟩
  ·simp [Value.ownBlock] at hi
  ·obtain rfl : i = g := by simpa [Value.ownBlock] using hi
   exact hk i (ä hh) hb ⟨cur, _, hh⟩
theorem Wc.keep (h : Wc n₀ wb fo w cv L lp) (hk : ∀ i, i < w.heap.size → (∃ cs t z, w.heap[i]? = some (.cells cs t z) ∧ ((t = 103 ∧ i = wb) ∨ (t = 106 ∧ cv.ownBlock = some i) ∨ t = 164)) → w'.heap[i]? = w.heap[i]?) : Wc n₀ wb fo w' cv L lp := by
 refine ⟨(hk wb h.blk.lt ⟨_, _, _, h.blk, .inl ⟨rfl, rfl⟩⟩).trans h.blk, Þ h.own fun i hi => ?_, fun x hx => ÀGg (h.sets x hx) fun i hi _ ⟨cs, z, hh⟩ => hk i hi ⟨cs, _, z, hh, .inr (.inr rfl)⟩, h.low, h.bnd⟩
 rcases h.own.2 with ⟨rfl, _⟩ | ⟨g, cap, cur, rfl, hb, hh, _⟩
 ·simp [Value.ownBlock] at hi
 ·obtain rfl : i = g := by simpa [Value.ownBlock] using hi
  exact hk i (ä hh) ⟨cur, _, _, hh, .inr (.inl ⟨rfl, rfl⟩)⟩
theorem Wc.on (h : Wc n₀ wb fo w cv L lp) (hb : Below w.heap.size w w') : Wc n₀ wb fo w' cv L lp := h.keep fun i hi _ => hb.block i hi
theorem Wc.alloc (h : Wc n₀ wb fo w cv L lp) (o : Obj) : Wc n₀ wb fo (w.alloc o) cv L lp := h.keep fun i hi _ => Below.heap_alloc w o i hi
theorem Wc.drewN (h : Wc n₀ wb fo w cv L lp) (n : Nat) : Wc n₀ wb fo (w.drewN n) cv L lp := h.keep fun _ _ _ => rfl
theorem Wc.drew (h : Wc n₀ wb fo w cv L lp) : Wc n₀ wb fo w.drew cv L lp := h.keep fun _ _ _ => rfl
theorem Wc.far (h : Wc n₀ wb fo w cv L lp) {b o : Nat} {t : TypeId} {cs : Array Value} {z : Nat × Nat} (hg : w.heap[b]? = some (.cells cs t z)) (h1 : t ≠ 103) (h2 : t ≠ 106) (h3 : t ≠ 164) (u : Value) : Wc n₀ wb fo (w.setCell ⟨b, o, none⟩ u) cv L lp :=
 h.keep fun i _ ⟨cs', t', z', hh, hc⟩ => Below.heap_setCell _ _ _ _ (by
  rintro rfl
  rcases hc with ⟨rfl, _⟩ | ⟨rfl, _⟩ | rfl
  ·exact Â hg hh h1 rfl
  ·exact Â hg hh h2 rfl
  ·exact Â hg hh h3 rfl)
theorem Wc.c3 (h : Wc n₀ wb fo w cv L lp) : w.cell? ⟨wb, 0, none⟩ = some cv ∧ w.cell? ⟨wb, 1, none⟩ = some (.int .i64 (lp : Nat)) ∧ w.cell? ⟨wb, 2, none⟩ = some (.bool fo) := ⟨h.blk.cell 0, h.blk.cell 1, h.blk.cell 2⟩
theorem Wc.fz (h : Wc n₀ wb fo w cv L lp) (j : Nat) : w.frozen? ⟨wb, j, none⟩ = false := h.blk.frozen j
theorem Wc.form (h : Wc n₀ wb fo w cv L lp) : ∃ A c, cv = .slice A L.length c ∧ L.length ≤ c := by
 rcases h.own.2 with ⟨hv, hn⟩ | ⟨g, c, cur, hv, _, _, hc, _⟩
 ·exact ⟨none, 0, by rw [hv, hn], by omega⟩
 ·exact ⟨_, c, hv, hc⟩
theorem Wc.size (h : Wc n₀ wb fo w cv L lp) : n₀ ≤ w.heap.size := ē h.low (Nat.le_of_lt h.blk.lt)
theorem Wr.on (h : Wr n₀ wb fo w M lp) (hb : Below w.heap.size w w') : Wr n₀ wb fo w' M lp := by
 obtain ⟨cv, L, h, hM⟩ := h;exact ⟨cv, L, h.on hb, hM⟩
theorem Wr.alloc (h : Wr n₀ wb fo w M lp) (o : Obj) : Wr n₀ wb fo (w.alloc o) M lp := by
 obtain ⟨cv, L, h, hM⟩ := h;exact ⟨cv, L, h.alloc o, hM⟩
theorem Wr.drew (h : Wr n₀ wb fo w M lp) : Wr n₀ wb fo w.drew M lp := by
 obtain ⟨cv, L, h, hM⟩ := h;exact ⟨cv, L, h.drew, hM⟩
theorem Wr.far (h : Wr n₀ wb fo w M lp) {b o : Nat} {t : TypeId} {cs : Array Value} {z : Nat × Nat} (hg : w.heap[b]? = some (.cells cs t z)) (h1 : t ≠ 103) (h2 : t ≠ 106) (h3 : t ≠ 164) (u : Value) : Wr n₀ wb fo (w.setCell ⟨b, o, none⟩ u) M lp := by
 obtain ⟨cv, L, h, hM⟩ := h;exact ⟨cv, L, h.far hg h1 h2 h3 u, hM⟩
theorem Wr.blk (h : Wr n₀ wb fo w M lp) : ∃ cv, Blk w wb 103 #[cv, .int .i64 (lp : Nat), .bool fo] := by
 obtain ⟨cv, L, h, _⟩ := h;exact ⟨cv, h.blk⟩
theorem Wr.low (h : Wr n₀ wb fo w M lp) : n₀ ≤ wb ∧ wb < w.heap.size := by
 obtain ⟨cv, L, h, _⟩ := h;exact ⟨h.low, h.blk.lt⟩
theorem Wr.bnd (h : Wr n₀ wb fo w M lp) : M.length ≤ 100000 ∧ lp ≤ 100000 := by
 obtain ⟨cv, L, h, rfl⟩ := h;rw [List.length_map];exact h.bnd
theorem Wc.push {v' v : Value} {x : In} (h : Wc n₀ wb fo w cv L lp) (hl : L.length + 1 ≤ 100000) (hv : Är w n₀ v x.set) (hO : w'.ownsRow n₀ 106 6 v' (L.length + 1) (ģ L ++ ğ x v)) (hg : w.grownBy w' cv.ownBlock) : Wc n₀ wb fo (w'.setCell ⟨wb, 0, none⟩ v') v' (L ++ [(x, v)]) lp := by
 have hB : Blk w' wb 103 #[cv, .int .i64 (lp : Nat), .bool fo] := h.blk.grown hg (fun e => Ń h.own h.blk (by decide) e.symm)
 have hr : ∀ (y : Value) (l : List Rg), Är w n₀ y l → Är (w'.setCell ⟨wb, 0, none⟩ v') n₀ y l := fun y l hy => by
  refine ÀGg hy fun i hi _ ⟨cs, z, hh⟩ => ?_
  have hne : i ≠ wb := Â hh h.blk (by decide)
  refine (Below.heap_setCell _ _ _ _ hne).trans (hg.block i hi ?_);intro e
  exact Ń h.own hh (by decide) e.symm
 refine ⟨?_, ?_, fun y hy => ?_, h.low, by simpa using hl, h.bnd.2⟩
 ·have := hB.set_ 0 v'
  simpa using this
 ·have e : ģ (L ++ [(x, v)]) = ģ L ++ ğ x v := by rw [ÅL, Ég]
  rw [e, ă]
  refine Þ hO fun i hi => Below.heap_setCell _ _ _ _ (by
   rintro rfl
   exact Ń hO hB (by decide) hi.symm)
 ·rcases List.mem_append.1 hy with hy | hy
  ·exact hr _ _ (h.sets y hy)
  ·obtain rfl := List.mem_singleton.1 hy
   exact hr _ _ hv
theorem FrW.push {v' : Value} (h : Wc n₀ wb fo w cv L lp) (hg : w.grownBy w' cv.ownBlock) : FrW n₀ wb w (w'.setCell ⟨wb, 0, none⟩ v') := by
 refine ⟨hg.os, hg.tape, hg.output, by simpa [World.setCell] using hg.size, fun i hi hc => ?_⟩
 have hlo := h.low
 refine (Below.heap_setCell _ _ _ _ (by simp only; omega)).trans (hg.block i hi ?_)
 intro e
 rcases h.own.2 with ⟨hv, _⟩ | ⟨g, cap, cur, hv, hb, hh, _⟩
 ·rw [hv] at e; simp [Value.ownBlock] at e
 ·rw [hv] at e
  obtain rfl : i = g := by simpa [Value.ownBlock] using e
  rcases hc with hc | ⟨_, hc⟩
  ·omega
  ·exact hc ⟨cur, _, hh⟩
theorem Wc.turn {g c i j : Nat} {x : In × Value} {y : In} {u : Value} (h : Wc n₀ wb fo w (.slice (some ⟨g, 0, none⟩) L.length c) L lp) (hi : L[i]? = some x) (hj : j < 6) (hu : (ğ x.1 x.2).set j u = ğ y x.2) (hs : y.set = x.1.set) :
 Wc n₀ wb fo (w.setCell ⟨g, i * 6 + j, none⟩ u) (.slice (some ⟨g, 0, none⟩) L.length c) (L.set i (y, x.2)) lp ∧ FrW n₀ wb w (w.setCell ⟨g, i * 6 + j, none⟩ u) := by
 obtain ⟨hO, hg⟩ := h.own.stored (i * 6 + j) u
 obtain ⟨cur, hgb, hlow⟩ : ∃ cur, w.heap[g]? = some (.cells cur 106 (0, 0)) ∧ n₀ ≤ g := by
  rcases h.own.2 with ⟨hv, _⟩ | ⟨g', cap, cur, hv, hb, hh, _⟩
  ·simp at hv
  ·simp only [Value.slice.injEq, Option.some.injEq, Addr.mk.injEq, and_true, true_and] at hv
   obtain ⟨rfl, rfl⟩ := hv;exact ⟨cur, hh, hb⟩
 have hw : wb ≠ g := Â h.blk hgb (by decide)
 refine ⟨⟨h.blk.far hw u, ?_, fun z hz => ?_, h.low, by simpa using h.bnd.1, h.bnd.2⟩, ⟨hg.os, hg.tape, hg.output, hg.size, fun k hk hc => hg.block k hk ?_⟩⟩
 ·rw [List.length_set, ← ÄN L i j x y u hi hj hu]
  exact hO
 ·have key : Är w n₀ z.2 z.1.set := by
   rcases List.mem_or_eq_of_mem_set hz with hz | rfl
   ·exact h.sets z hz
   ·simp only [hs]
    exact h.sets x (Č hi)
  exact ÀGg key fun k hk _ ⟨cs, z', hh⟩ => Below.heap_setCell _ _ _ _ (Â hh hgb (by decide))
 ·intro e
  have e := Option.some.inj e
  rcases hc with hc | ⟨_, hc⟩
  ·omega
  ·exact hc ⟨cur, _, by rw [e]; exact hgb⟩
end
end
section
open Go.RowKit
open Go.Proofs.YtpginkdkblmnbaaGreatDoor.Cl (Rg à Ý Ä Á)
variable {w w' : World} {n₀ wb lp : Nat} {fo : Bool} {cv : Value} {L : List (In × Value)} {M : List In}
theorem ÐA : (Tryz.prog.info? 106).map (fun i => (i.zero, i.size, i.bytes)) = some (some (.agg #[.int .i64 0, .int .i64 0, .int .i64 0, .int .i64 0, .int .i64 0, .slice none 0 0]), 6, 64) := by kernel_rfl
theorem ÀH (h : Wr n₀ wb fo w M lp) : Calls Tryz.prog 67 #[.pointer (some ⟨wb, 0, none⟩)] w fun e w' => e = .returned (.int .i64 (M.length : Nat)) ∧ w = w' := by
 obtain ⟨cv, L, h, rfl⟩ := h;obtain ⟨A, c, rfl, _⟩ := h.form;obtain ⟨c0, _, _⟩ := h.c3;rw [List.length_map];clear h;go_enter Tryz.func67, Tryz.ntmps67;go_wp2;go_ret;exact ⟨rfl, rfl⟩
theorem ÐB {x : In} {A : Option Addr} {n c : Nat} : ∀ u ∈ ğ x (.slice A n c), u.oneCell' = true := by
 intro u hu;simp [ğ] at hu
 rcases hu with rfl | rfl | rfl | rfl | rfl | rfl <;> rfl
theorem Blk.in_cells {b : Nat} {x : In} {v : Value} (h : Blk w b 106 #[.int .i64 x.op, .int .i64 x.a, .int .i64 x.b, .int .i64 x.c, .int .i64 x.d, v]) : ∀ j u, (ğ x v)[j]? = some u → w.cell? ((⟨b, 0, none⟩ : Addr).add j) = some u := by
 intro j u hu;have hl : j < 6 := (List.getElem?_eq_some_iff.1 hu).1
 have e : (⟨b, 0, none⟩ : Addr).add j = ⟨b, j, none⟩ := by unfold Addr.add; split <;> simp_all
 rw [e, h.cell j];rw [← hu]
 match j, hl with
 | 0, _ => rfl
 | 1, _ => rfl
 | 2, _ => rfl
 | 3, _ => rfl
 | 4, _ => rfl
 | 5, _ => rfl
theorem ÅM (w : World) {ops : Array Oper} {o : Oper} {a : Act} {K : Act → World → Prop} {Q : Exit → Act → World → Prop} {E : Prop} (hgd : o.guard = none) (x y : Operand)
 (ho : o.op = .call { callee := .builtin .append, args := #[x, y], argTypes := #[54, 54] }) (base : Nat) (i : TypeInfo) (hi : Tryz.prog.info? 106 = some i) (hz : i.zero = some (.agg #[.int .i64 0, .int .i64 0, .int .i64 0, .int .i64 0, .int .i64 0, .slice none 0 0])) (hsize : i.size = 6) (hby : i.bytes = 64)
 (v : Value) (L : List (In × Value)) (hs : a.eval x = v) (hown : w.ownsRow base 106 6 v L.length (ģ L)) (b : Nat) (nd : In) (A : Option Addr) (n c : Nat) (hy : a.eval y = .slice (some ⟨b, 0, none⟩) 1 1)
 (hb : Blk w b 106 #[.int .i64 nd.op, .int .i64 nd.a, .int .i64 nd.b, .int .i64 nd.c, .int .i64 nd.d, .slice A n c]) (hL : L.length ≤ 100000) (hbase : base ≤ w.heap.size)
 (h : ∀ v' w', w'.ownsRow base 106 6 v' (L.length + 1) (ģ L ++ ğ nd (.slice A n c)) → w.grownBy w' v.ownBlock → K (a.put o.dst v') w') :
 if Region.wanted o (yielded ops a.tmps) = true then Oper.wp Tryz.prog o a w K Q else E := by
 have hw : Region.wanted o (yielded ops a.tmps) = true := by simp [Region.wanted, hgd]
 rw [if_pos hw]
 obtain ⟨v', w', hrun, h2, h3, _, h5⟩ := run_append_own_at (P := Tryz.prog) w base 54 o.type 106 i _ 6 64 Tryz.underlying54 hi hz hsize hby rfl (by decide) v L.length (ģ L) hown ⟨b, 0, none⟩ 1 1 (ğ nd (.slice A n c)) rfl
  hb.in_cells ÐB (by unfold maxLen; omega) (by omega) hbase
 unfold Oper.wp execOp;simp only [ho, resolve, invoke, builtin, Sem.run_bind, Sem.run_pure, Result.andThen_ok, List.map_toArray, List.map_cons, List.map_nil, hs, hy, hrun];exact h v' w' h2 h3
theorem Blk.c6_ {g : Nat} {t : TypeId} {x0 x1 x2 x3 x4 x5 : Value} (h : Blk w g t #[x0, x1, x2, x3, x4, x5]) : w.cell? ⟨g, 0, none⟩ = some x0 ∧ w.cell? ⟨g, 1, none⟩ = some x1 ∧ w.cell? ⟨g, 2, none⟩ = some x2 ∧ w.cell? ⟨g, 3, none⟩ = some x3 ∧ w.cell? ⟨g, 4, none⟩ = some x4 ∧ w.cell? ⟨g, 5, none⟩ = some x5 :=
 ⟨h.cell 0, h.cell 1, h.cell 2, h.cell 3, h.cell 4, h.cell 5⟩
def Ñd (n₀ wb : Nat) (fo : Bool) (w : World) (M : List In) (lp : Nat) (x : In) (e : Ending) (w' : World) : Prop :=
 e = .returned (.int .i64 (M.length : Nat)) ∧ Wr n₀ wb fo w' (M ++ [x]) lp ∧ FrW n₀ wb w w'
set_option maxRecDepth 100000 in
set_option maxHeartbeats 2000000 in
theorem ËU (x : In) {A : Option Addr} {n c : Nat} (hv : Är w n₀ (.slice A n c) x.set) (h : Wr n₀ wb fo w M lp) (hl : M.length + 1 ≤ 100000) :
 Calls Tryz.prog 46 #[.pointer (some ⟨wb, 0, none⟩), .agg #[.int .i64 x.op, .int .i64 x.a, .int .i64 x.b, .int .i64 x.c, .int .i64 x.d, .slice A n c]] w (Ñd n₀ wb fo w M lp x) := by
 obtain ⟨cv, L, h, rfl⟩ := h;rw [List.length_map] at hl
 have HH := ħ (fun W (k : Wr n₀ wb fo W (L.map (·.1)) lp) => ÀH k)
 obtain ⟨arr, harr⟩ : ∃ arr : Array Value, arr = #[.int .i64 x.op, .int .i64 x.a, .int .i64 x.b, .int .i64 x.c, .int .i64 x.d, .slice A n c] := ⟨_, rfl⟩;have HW0 := ħ (h.alloc (.cells arr 106));have HB0 := ħ (Blk.new w 106 arr);have HV0 := ħ (World.ownsRow.alloc hv (.cells arr 106));have HF0 := ħ ((FrW.refl (n₀ := n₀) (wb := wb) w).alloc (.cells arr 106));have hs0 := h.size;obtain ⟨i0, hi, hz0, hz1, hz2⟩ := Á ÐA;subst harr;clear h hv;go_enter Tryz.func46, Tryz.ntmps46
 go_upto_region 1 with (fail)
 have hsz : w.heap.size < (w.alloc (.cells #[.int .i64 x.op, .int .i64 x.a, .int .i64 x.b, .int .i64 x.c, .int .i64 x.d, .slice A n c] 106)).heap.size := by simp
 generalize w.alloc _ = w1 at *
 go_wp2_with fail
 refine (HH.o _ ⟨cv, L, HW0.o, rfl⟩).mono ?_;rintro e w2 ⟨rfl, rfl⟩;obtain ⟨c0, _, _⟩ := HW0.o.c3;have f0 := HW0.o.fz 0;have b6 := HB0.o.c6_;obtain ⟨Ac, cc, rfl, hcc⟩ := HW0.o.form;have HWa := ħ (HW0.o.alloc (.cells #[.int .i64 x.op, .int .i64 x.a, .int .i64 x.b, .int .i64 x.c, .int .i64 x.d, .slice A n c] 106)).drew;have HBa : Hid (Blk (w1.alloc (.cells #[.int .i64 x.op, .int .i64 x.a, .int .i64 x.b, .int .i64 x.c, .int .i64 x.d, .slice A n c] 106)).drew w1.heap.size 106 #[.int .i64 x.op, .int .i64 x.a, .int .i64 x.b, .int .i64 x.c, .int .i64 x.d, .slice A n c]) := ħ (Blk.new w1 106 #[.int .i64 x.op, .int .i64 x.a, .int .i64 x.b, .int .i64 x.c, .int .i64 x.d, .slice A n c]);have HVa : Hid (Är (w1.alloc (.cells #[.int .i64 x.op, .int .i64 x.a, .int .i64 x.b, .int .i64 x.c, .int .i64 x.d, .slice A n c] 106)).drew n₀ (.slice A n c) x.set) := ħ (World.ownsRow.alloc HV0.o (.cells #[.int .i64 x.op, .int .i64 x.a, .int .i64 x.b, .int .i64 x.c, .int .i64 x.d, .slice A n c] 106));have HFa : Hid (FrW n₀ wb w (w1.alloc (.cells #[.int .i64 x.op, .int .i64 x.a, .int .i64 x.b, .int .i64 x.c, .int .i64 x.d, .slice A n c] 106)).drew) := ħ (HF0.o.alloc (.cells #[.int .i64 x.op, .int .i64 x.a, .int .i64 x.b, .int .i64 x.c, .int .i64 x.d, .slice A n c] 106)).drew;have hwb := HW0.o.blk.lt
 go_wp2_with fail
 go_region_law (refine ÅM _ rfl (.tmp 12) (.tmp 14) rfl n₀ i0 hi hz0 hz1 hz2 _ L (by simp [Act.eval]) HWa.o.own w1.heap.size x A n c (by simp [Act.eval]) HBa.o (by omega) (by simp; omega) ?_; intro v' w4 hown' hgrow; obtain ⟨g9, c9, rfl, _, _⟩ := hown'.form (by omega); have hB4 := HWa.o.blk.grown hgrow (fun e => Ń HWa.o.own HWa.o.blk (by decide) e.symm); have c4 := hB4.cell 0; have f4 := hB4.frozen 0)
 all_goals
  have HW9 := ħ (HWa.o.push hl HVa.o hown' hgrow);have HF9 := ħ (HFa.o.trans (FrW.push (v' := .slice (some ⟨g9, 0, none⟩) (L.length + 1) c9) HWa.o hgrow));clear hown' hgrow hB4 c4 f4;go_wp2;go_ret
  exact ⟨by rw [List.length_map]; rfl, ⟨_, _, HW9.o, by simp⟩, HF9.o⟩
end
section
open Go.RowKit
open Go.Proofs.YtpginkdkblmnbaaGreatDoor.Cl (Rg à Ý Ä Á)
variable {w w' : World} {n₀ wb lp : Nat} {fo : Bool} {cv : Value} {L : List (In × Value)} {M : List In}
def WrP (n₀ wb : Nat) (fo : Bool) (w : World) (M : List In) (lp : Nat) (e : Ending) (w' : World) : Prop :=
 e = .returned (.tuple #[]) ∧ Wr n₀ wb fo w' M lp ∧ FrW n₀ wb w w'
theorem Wc.at_ {i : Nat} {x : In × Value} (h : Wc n₀ wb fo w cv L lp) (hi : L[i]? = some x) : ∃ g c, cv = .slice (some ⟨g, 0, none⟩) L.length c ∧ L.length ≤ c ∧ g < w.heap.size ∧ (∀ j u, (ğ x.1 x.2)[j]? = some u → w.cell? ⟨g, i * 6 + j, none⟩ = some u) ∧ (∀ j, w.frozen? ⟨g, j, none⟩ = false) := by
 have hl : 0 < L.length := by have := (List.getElem?_eq_some_iff.1 hi).1; omega
 obtain ⟨g, c, hv, _, hg⟩ := h.own.form hl
 have hc : L.length ≤ c := by
  obtain ⟨A, c', hv', hc'⟩ := h.form;rw [hv] at hv'
  injection hv' with _ _ e
  omega
 subst hv
 refine ⟨g, c, rfl, hc, hg, fun j u hu => ?_, fun j => World.ownsRow.frozenAt h.own j⟩
 have := h.own.cells (g := g) rfl _ _ (Ây L i j x u hi hu);rw [← this];unfold Addr.add
 split <;> simp_all
def ÃM (lz : Bool) (s n : Nat) (x : In) : In := { x with a := if lz then (n : Nat) else ((s : Nat) : Int) + 1, b := if lz then ((s : Nat) : Int) + 1 else (n : Nat) }
theorem Âz (L : List (In × Value)) (i : Nat) (y : In) (v : Value) : (L.set i (y, v)).map (·.1) = (L.map (·.1)).set i y := by rw [List.map_set]
theorem Wc.turn2 {g c s : Nat} {y : In} {v : Value} (h : Wc n₀ wb fo w (.slice (some ⟨g, 0, none⟩) L.length c) L lp) (hx : L[s]? = some (y, v)) (p q : Int) :
 Wr n₀ wb fo ((w.setCell ⟨g, s * 6 + 1, none⟩ (.int .i64 p)).setCell ⟨g, s * 6 + 2, none⟩ (.int .i64 q)) ((L.map (·.1)).set s { y with a := p, b := q }) lp ∧ FrW n₀ wb w ((w.setCell ⟨g, s * 6 + 1, none⟩ (.int .i64 p)).setCell ⟨g, s * 6 + 2, none⟩ (.int .i64 q)) := by
 obtain ⟨h1, f1⟩ := h.turn (y := { y with a := p }) hx (j := 1) (u := .int .i64 p) (by omega) rfl rfl
 have hs : s < L.length := (List.getElem?_eq_some_iff.1 hx).1
 have hx1 : (L.set s ({ y with a := p }, v))[s]? = some ({ y with a := p }, v) := by rw [List.getElem?_set_self hs]
 have e : L.length = (L.set s ({ y with a := p }, v)).length := by simp
 rw [e] at h1
 obtain ⟨h2, f2⟩ := h1.turn (y := { y with a := p, b := q }) hx1 (j := 2) (u := .int .i64 q) (by omega) rfl rfl
 refine ⟨⟨_, _, h2, ?_⟩, f1.trans f2⟩;rw [List.set_set, Âz]
set_option maxRecDepth 100000 in
set_option maxHeartbeats 2000000 in
theorem ÅN {s : Nat} {lz : Bool} {x : In} (h : Wr n₀ wb fo w M lp) (hx : M[s]? = some x) :
 Calls Tryz.prog 94 #[.pointer (some ⟨wb, 0, none⟩), .int .i64 (s : Nat), .bool lz] w (WrP n₀ wb fo w (M.set s (ÃM lz s M.length x)) lp) := by
 have HH := ħ (ÀH h);have hb := h.bnd.1;have hsl : s < M.length := (List.getElem?_eq_some_iff.1 hx).1;obtain ⟨cv, L, h, rfl⟩ := h;rw [List.getElem?_map] at hx;obtain ⟨⟨y, v⟩, hx', rfl⟩ := Option.map_eq_some_iff.1 hx;clear hx;obtain ⟨g, c, rfl, hc, hgs, hcell, hfz⟩ := h.at_ hx';have k1 := hcell 1 _ rfl;have k2 := hcell 2 _ rfl;have f1 := hfz (s * 6 + 1);have f2 := hfz (s * 6 + 2);obtain ⟨c0, _, _⟩ := h.c3;have HW := ħ h;have HX := ħ hx';rw [List.length_map] at HH hb hsl ⊢
 have hsi : (s : Int) < (L.length : Int) := by omega
 clear h hx' hcell hfz
 cases lz with
 | true =>
  go_enter Tryz.func94, Tryz.ntmps94
  go_wp2_with fail
  refine HH.o.mono ?_;rintro e w1 ⟨rfl, rfl⟩
  go_wp2_with fail
  have H2 := ħ (HW.o.turn2 HX.o (L.length : Nat) (((s : Nat) : Int) + 1))
  go_region
  generalize ((w.setCell _ _).setCell _ _) = w9 at H2 ⊢;go_wp2
  exact ⟨rfl, .tuple #[], by simp [results, Tryz.results94, go_sem], rfl, H2.o.1.drew, H2.o.2.drew⟩
 | false =>
  go_enter Tryz.func94, Tryz.ntmps94
  go_wp2_with fail
  refine HH.o.mono ?_;rintro e w1 ⟨rfl, rfl⟩
  go_wp2_with fail
  have H2 := ħ (HW.o.turn2 HX.o (((s : Nat) : Int) + 1) (L.length : Nat))
  go_region
  generalize ((w.setCell _ _).setCell _ _) = w9 at H2 ⊢;go_wp2
  exact ⟨rfl, .tuple #[], by simp [results, Tryz.results94, go_sem], rfl, H2.o.1.drew, H2.o.2.drew⟩
end
section
open Go.RowKit
open Go.Proofs.YtpginkdkblmnbaaGreatDoor.Cl (Rg à Ý Ä Á)
variable {w w' a0 : World} {n₀ wb lp : Nat} {fo : Bool} {M : List In}
theorem ÀI (op a b c d : Int) (h : Wr n₀ wb fo w M lp) (hl : M.length + 1 ≤ 100000) :
 Calls Tryz.prog 46 #[.pointer (some ⟨wb, 0, none⟩), .agg #[.int .i64 op, .int .i64 a, .int .i64 b, .int .i64 c, .int .i64 d, .slice none 0 0]] w (Ñd n₀ wb fo w M lp (.i op a b c d)) :=
 ËU (.i op a b c d) (World.ownsRow_nil _ _ _ _) h hl
set_option maxRecDepth 100000 in
set_option maxHeartbeats 2000000 in
theorem ÍY (r : Int) (h : Wr n₀ wb fo w M lp) (hl : M.length + 1 ≤ 100000) :
 Calls Tryz.prog 72 #[.pointer (some ⟨wb, 0, none⟩), .int .i64 r] w (WrP n₀ wb fo w (M ++ [Çd fo r]) lp) := by
 have HB0 := ħ (Blk.new w 106 #[.int .i64 5, .int .i64 r, .int .i64 0, .int .i64 0, .int .i64 0, .slice none 0 0]);have HL0 := ħ ((ā w.heap.size w).alloc (ŋ _) (.cells #[.int .i64 5, .int .i64 r, .int .i64 0, .int .i64 0, .int .i64 0, .slice none 0 0] 106));have HW := ħ h;clear h;go_enter Tryz.func72, Tryz.ntmps72
 go_upto_region 1 with (fail)
 generalize w.alloc _ = W at HB0 HL0 ⊢;have HW0 := ħ (HW.o.on HL0.o);have HF0 := ħ (FrW.of_below (n₀ := n₀) (wb := wb) HL0.o);obtain ⟨cv, hblk⟩ := HW0.o.blk;have c2 := hblk.cell 2;simp at c2;have b6 := HB0.o.c6_;have f2 := HB0.o.frozen 2
 cases fo with
 | true =>
  have HB1 := ħ (HB0.o.set_ 2 (.int .i64 1))
  have HL1 := ħ (HL0.o.setCell (show w.heap.size ≤ (⟨w.heap.size, 2, none⟩ : Addr).block from ŋ _) (.int .i64 1))
  go_upto_region 3 with (fail)
  generalize W.setCell _ _ = W1 at HB1 HL1 ⊢;have HW1 := ħ (HW.o.on HL1.o);have HF1 := ħ (FrW.of_below (n₀ := n₀) (wb := wb) HL1.o);have HP := ħ (ÀI 5 r 1 0 0 HW1.o hl)
  have b61 := (show Blk W1 w.heap.size 106 #[.int .i64 5, .int .i64 r, .int .i64 1, .int .i64 0, .int .i64 0, .slice none 0 0] from HB1.o).c6_
  clear b6 f2 c2 hblk
  go_wp2_with fail
  refine HP.o.mono ?_;rintro e w2 ⟨rfl, hW2, hF2⟩;have HW2 := ħ hW2;have HF2 := ħ (HF1.o.trans hF2);clear hW2 hF2;go_wp2
  exact ⟨rfl, .tuple #[], by simp [results, Tryz.results72, go_sem], rfl, HW2.o, HF2.o⟩
 | false =>
  have HP := ħ (ÀI 5 r 0 0 0 HW0.o hl)
  go_wp2_with fail
  refine HP.o.mono ?_;rintro e w2 ⟨rfl, hW2, hF2⟩;have HW2 := ħ hW2;have HF2 := ħ (HF0.o.trans hF2);clear hW2 hF2;go_wp2
  exact ⟨rfl, .tuple #[], by simp [results, Tryz.results72, go_sem], rfl, HW2.o, HF2.o⟩
end
section
open Go.RowKit
open Go.Proofs.YtpginkdkblmnbaaGreatDoor.Cl (Rg à Ý Ä Á)
variable {w w' a0 : World} {n₀ wb lp lp' : Nat} {fo : Bool} {M : List In}
theorem Ïx (M Y : List In) (x y d : In) : (M ++ [x] ++ Y ++ [d]).set M.length y = M ++ [y] ++ Y ++ [d] := by
 rw [List.append_assoc, List.append_assoc, List.set_append_right _ _ (ŋ _), Nat.sub_self];simp
set_option maxRecDepth 100000 in
set_option maxHeartbeats 2000000 in
theorem Őg {f : Nat} (hf : f = 75 ∨ f = 95 ∨ f = 97) {p1 p2 : Value} (op a b c d : Int) (Y : List In) (h : Wr n₀ wb fo w M lp) (hl : M.length + Y.length + 2 ≤ 100000)
 (hc : ∀ W, Wr n₀ wb fo W (M ++ [.i op a b c d]) lp → FrW n₀ wb w W → Calls Tryz.prog f #[p1, p2] W (WrP n₀ wb fo W (M ++ [.i op a b c d] ++ Y) lp')) :
 Calls Tryz.prog 74 #[.pointer (some ⟨wb, 0, none⟩), .agg #[.int .i64 op, .int .i64 a, .int .i64 b, .int .i64 c, .int .i64 d, .slice none 0 0], .func (.func f) #[] #[p1, p2]] w
  (WrP n₀ wb fo w (M ++ [.i op a ((M.length : Nat) + (Y.length : Nat) + 2) c d] ++ Y ++ [ÁM]) lp') := by
 have HC := ħ hc;have HB0 := ħ (Blk.new w 106 #[.int .i64 op, .int .i64 a, .int .i64 b, .int .i64 c, .int .i64 d, .slice none 0 0]);have HL0 := ħ ((ā w.heap.size w).alloc (ŋ _) (.cells #[.int .i64 op, .int .i64 a, .int .i64 b, .int .i64 c, .int .i64 d, .slice none 0 0] 106));have HW := ħ h;clear h hc;obtain ⟨Z, hZ⟩ : ∃ Z, Z = M ++ [.i op a ((M.length : Nat) + (Y.length : Nat) + 2) c d] ++ Y ++ [ÁM] := ⟨_, rfl⟩;rw [← hZ];have HZ := ħ hZ;clear hZ
 rcases hf with rfl | rfl | rfl
 all_goals
  go_enter Tryz.func74, Tryz.ntmps74
  go_upto_region 1 with (fail)
  generalize w.alloc _ = W at HB0 HL0 ⊢;have HW0 := ħ (HW.o.on HL0.o);have HF0 := ħ (FrW.of_below (n₀ := n₀) (wb := wb) HL0.o);have b6 := HB0.o.c6_
  have HP := ħ (ÀI op a b c d HW0.o (by omega))
  go_wp2_with fail
  refine HP.o.mono ?_;rintro e w2 ⟨rfl, hW2, hF2⟩;have HW2 := ħ hW2;have HF2 := ħ (HF0.o.trans hF2);clear hW2 hF2 b6
  go_wp2_with fail
  refine (HC.o _ HW2.o HF2.o).mono ?_;rintro e w3 ⟨rfl, hW3, hF3⟩;have HW3 := ħ hW3;have HF3 := ħ (HF2.o.trans hF3);clear hW3 hF3
  have HP9 := ħ (ÀI 9 0 0 0 0 HW3.o (by simp; omega))
  go_wp2_with fail
  refine HP9.o.mono ?_;rintro e w4 ⟨rfl, hW4, hF4⟩
  have HH : Hid (Calls Tryz.prog 67 #[.pointer (some ⟨wb, 0, none⟩)] w4.drew fun e w' => e = .returned (.int .i64 ((M.length : Nat) + (Y.length : Nat) + 2)) ∧ w4.drew = w') := ħ (by
   have := ÀH hW4.drew
   have e : (((M ++ [.i op a b c d] ++ Y ++ [.i 9 0 0 0 0] : List In).length : Nat) : Int) = (M.length : Nat) + (Y.length : Nat) + 2 := by simp; omega
   rw [e] at this
   exact this)
  obtain ⟨cv, L, hWc, hL⟩ := hW4;have HF4 := ħ (HF3.o.trans hF4);clear hF4
  have hx : (L.map (·.1))[M.length]? = some (.i op a b c d) := by rw [hL]; simp
  rw [List.getElem?_map] at hx;obtain ⟨⟨y, v⟩, hx', hy⟩ := Option.map_eq_some_iff.1 hx;clear hx;simp only at hy;subst hy;obtain ⟨g, cp, rfl, hcp, hgs, hcell, hfz⟩ := hWc.at_ hx';have k2 := hcell 2 _ rfl;have f2 := hfz (M.length * 6 + 2);obtain ⟨c0, _, _⟩ := hWc.c3
  have hLl : L.length = M.length + Y.length + 2 := by
   have := congrArg List.length hL;simp at this;omega
  have hsi : (M.length : Int) < (L.length : Int) := by omega
  have HT := ħ (hWc.turn (y := .i op a ((M.length : Nat) + (Y.length : Nat) + 2) c d) hx' (j := 2) (u := .int .i64 ((M.length : Nat) + (Y.length : Nat) + 2)) (by omega) rfl rfl)
  have HL := ħ hL;clear hWc hx' hcell hfz hL
  go_wp2_with fail
  go_region_with (go_at_call 67; refine HH.o.mono ?_; rintro e w1 ⟨rfl, rfl⟩)
  all_goals
   generalize w4.setCell _ _ = w9 at HT ⊢
   exact ⟨rfl, .tuple #[], by simp [results, Tryz.results74, go_sem], rfl, ⟨_, _, HT.o.1.drew, by rw [Âz, HL.o, HZ.o]; exact Ïx _ _ _ _ _⟩, (HF4.o.trans HT.o.2).drew⟩
end
end Go.Proofs.YtpginkdkblmnbaaGreatDoor
