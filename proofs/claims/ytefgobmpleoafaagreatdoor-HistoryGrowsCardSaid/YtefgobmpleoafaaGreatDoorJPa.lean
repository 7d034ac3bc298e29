/- Joined: PWords, PNv, PA, PB, PC, PD. -/
import Derived.Test.YtefgobmpleoafaaGreatDoorJClass
import Derived.Test.YtefgobmpleoafaaGreatDoorJUnit
import Derived.Test.YtefgobmpleoafaaGreatDoorJModel
import Derived.Laws.Rows
import Derived.Deep.Draws
import Derived.BigQuiet
import Derived.Deep.QuietTactic
import Derived.Deep.RegionHeld3
import Derived.Deep.RegionWith
import Derived.IntWalk
import Derived.Laws.BytesArg
import Derived.Laws.IdiomStrings
import Derived.Lib.SlBytesConst
import Derived.Lib.ConvBytes
/- The reader in memory: its block, the text, the references; what a call of the reader keeps; nodes in memory. -/
namespace Go.Proofs.YtefgobmpleoafaaGreatDoor
open Go.RowKit
open Go.Proofs.YtefgobmpleoafaaGreatDoor.Cl (Rg SetV SetAt rgCells)

/-! ### A block that is known whole -/
def Blk (w : World) (g : Nat) (t : TypeId) (cs : Array Value) : Prop := w.heap[g]? = some (.cells cs t (0, 0))
section
variable {w w' : World} {g : Nat} {t : TypeId} {cs : Array Value}
theorem lt_of_some {o : Obj} (h : w.heap[g]? = some o) : g < w.heap.size := by
  rcases Nat.lt_or_ge g w.heap.size with hlt | hge
  · exact hlt
  · rw [Array.getElem?_eq_none hge] at h; cases h
theorem Blk.lt (h : Blk w g t cs) : g < w.heap.size := lt_of_some h
theorem Blk.cell (h : Blk w g t cs) (i : Nat) : w.cell? ⟨g, i, none⟩ = cs[i]? := cell_of_row w g i cs t (0, 0) h
theorem Blk.frozen (h : Blk w g t cs) (i : Nat) : w.frozen? ⟨g, i, none⟩ = false := by
  unfold Blk at h
  simp [World.frozen?, h]
theorem Blk.new (w : World) (t : TypeId) (cs : Array Value) : Blk (w.alloc (.cells cs t)) w.heap.size t cs := heap_alloc_new w _
theorem Blk.alloc (h : Blk w g t cs) (o : Obj) : Blk (w.alloc o) g t cs := (Below.heap_alloc w o g h.lt).trans h
theorem Blk.set_ (h : Blk w g t cs) (i : Nat) (u : Value) : Blk (w.setCell ⟨g, i, none⟩ u) g t (cs.setIfInBounds i u) := by
  unfold Blk at h ⊢
  simp [World.setCell, Array.getElem?_modify, h]
theorem Blk.far (h : Blk w g t cs) {p : Addr} (hp : g ≠ p.block) (u : Value) : Blk (w.setCell p u) g t cs := (Below.heap_setCell w p u g hp).trans h
theorem Blk.below {B : Nat} (h : Blk w g t cs) (hb : Below B w w') (hg : g < B) : Blk w' g t cs := (hb.block g hg).trans h
theorem Blk.on (h : Blk w g t cs) (hb : Below w.heap.size w w') : Blk w' g t cs := (hb.block g h.lt).trans h
theorem Blk.grown {row : Option Nat} (h : Blk w g t cs) (hb : w.grownBy w' row) (hg : some g ≠ row) : Blk w' g t cs := (hb.block g h.lt hg).trans h
theorem ne_of_types {a b : Array Value} {y z : Nat × Nat} {g' : Nat} {t' : TypeId} (h : w.heap[g]? = some (.cells a t y)) (h' : w.heap[g']? = some (.cells b t' z)) (hne : t ≠ t') : g ≠ g' := by
  rintro rfl
  rw [h] at h'
  injection h' with h'
  injection h' with _ ht
  exact hne ht
theorem Blk.ne_ {g' : Nat} {t' : TypeId} {cs' : Array Value} (h : Blk w g t cs) (h' : Blk w g' t' cs') (hne : t ≠ t') : g ≠ g' := ne_of_types h h' hne
theorem own_ne {base : Nat} {e : TypeId} {size n : Nat} {v : Value} {xs : List Value} {cs : Array Value} {z : Nat × Nat} (h : w.ownsRow base e size v n xs) (hg : w.heap[g]? = some (.cells cs t z)) (hne : e ≠ t) : v.ownBlock ≠ some g := by
  rcases h.2 with ⟨rfl, _⟩ | ⟨g', cap, cur, rfl, _, hh, _⟩
  · simp [Value.ownBlock]
  · intro he
    have : g' = g := by simpa [Value.ownBlock] using he
    subst this
    exact ne_of_types hh hg hne rfl
theorem own_keep {base : Nat} {e : TypeId} {size n : Nat} {v : Value} {xs : List Value} (h : w.ownsRow base e size v n xs) (hk : ∀ i, some i = v.ownBlock → w'.heap[i]? = w.heap[i]?) : w'.ownsRow base e size v n xs := by
  refine ⟨h.1, ?_⟩
  rcases h.2 with h0 | ⟨g, cap, cur, rfl, hb, hh, hr⟩
  · exact .inl h0
  · exact .inr ⟨g, cap, cur, rfl, hb, (hk g rfl).trans hh, hr⟩
end

/-! ### What a call of the reader keeps -/
def isBk (w : World) (i : Nat) : Prop := ∃ cs z, w.heap[i]? = some (.cells cs 176 z)
structure Fr (n₀ rb : Nat) (w w' : World) : Prop where
  os : w'.os = w.os
  tape : w'.tape = w.tape
  output : w'.output = w.output
  size : w.heap.size ≤ w'.heap.size
  block : ∀ i, i < w.heap.size → (i < n₀ ∨ (i ≠ rb ∧ ¬ isBk w i)) → w'.heap[i]? = w.heap[i]?
section
variable {n₀ rb : Nat} {w w' w'' : World}
theorem Fr.refl (w : World) : Fr n₀ rb w w := ⟨rfl, rfl, rfl, Nat.le_refl _, fun _ _ _ => rfl⟩
theorem Fr.trans (h : Fr n₀ rb w w') (k : Fr n₀ rb w' w'') : Fr n₀ rb w w'' :=
  ⟨k.os.trans h.os, k.tape.trans h.tape, k.output.trans h.output, Nat.le_trans h.size k.size, fun i hi hc => by
    have e := h.block i hi hc
    refine (k.block i (Nat.lt_of_lt_of_le hi h.size) ?_).trans e
    rcases hc with hc | ⟨h1, h2⟩
    · exact .inl hc
    · refine .inr ⟨h1, fun ⟨cs, z, hb⟩ => h2 ⟨cs, z, ?_⟩⟩
      rw [← e]
      exact hb⟩
theorem Fr.of_below (h : Below w.heap.size w w') : Fr n₀ rb w w' := ⟨h.os, h.tape, h.output, h.size, fun i hi _ => h.block i hi⟩
theorem Fr.alloc (h : Fr n₀ rb w w') (o : Obj) : Fr n₀ rb w (w'.alloc o) := h.trans (Fr.of_below ((Below.refl _ _).alloc (Nat.le_refl _) o))
theorem Fr.drewN (h : Fr n₀ rb w w') (n : Nat) : Fr n₀ rb w (w'.drewN n) := ⟨h.os, h.tape, h.output, h.size, h.block⟩
/-- A store into a block of the call's own, or into the reader's. -/
theorem Fr.set_ (h : Fr n₀ rb w w') {p : Addr} (hn : n₀ ≤ rb) (hp : w.heap.size ≤ p.block ∨ p.block = rb) (u : Value) : Fr n₀ rb w (w'.setCell p u) :=
  ⟨h.os, h.tape, h.output, by simpa [World.setCell] using h.size, fun i hi hc => by
    refine (Below.heap_setCell _ _ _ _ ?_).trans (h.block i hi hc)
    rcases hp with hp | hp <;> rcases hc with hc | hc <;> omega⟩
theorem Fr.grown (h : Fr n₀ rb w w') {row : Option Nat} (hg : w'.grownBy w'' row) (hr : ∀ k, row = some k → w.heap.size ≤ k) : Fr n₀ rb w w'' :=
  ⟨hg.os.trans h.os, hg.tape.trans h.tape, hg.output.trans h.output, Nat.le_trans h.size hg.size, fun i hi hc =>
    (hg.block i (Nat.lt_of_lt_of_le hi h.size) (fun e => by have := hr i e.symm; omega)).trans (h.block i hi hc)⟩
theorem Fr.old (h : Fr n₀ rb w w') (hn : n₀ ≤ w.heap.size) : Below n₀ w w' := ⟨h.os, h.tape, h.output, h.size, fun i hi => h.block i (by omega) (.inl hi)⟩

/-- A block that no call of the reader writes. -/
def okB (n₀ rb : Nat) (w : World) (b : Nat) : Prop := b < w.heap.size ∧ (b < n₀ ∨ (b ≠ rb ∧ ¬ isBk w b))
theorem Fr.same (h : Fr n₀ rb w w') {b : Nat} (hb : okB n₀ rb w b) : w'.heap[b]? = w.heap[b]? := h.block b hb.1 hb.2
theorem Fr.ok (h : Fr n₀ rb w w') {b : Nat} (hb : okB n₀ rb w b) : okB n₀ rb w' b := by
  refine ⟨Nat.lt_of_lt_of_le hb.1 h.size, ?_⟩
  rcases hb.2 with hc | ⟨h1, h2⟩
  · exact .inl hc
  · refine .inr ⟨h1, fun ⟨cs, z, hh⟩ => h2 ⟨cs, z, ?_⟩⟩
    rw [← h.same hb]
    exact hh
theorem okB.of_type {b : Nat} {t : TypeId} {cs : Array Value} {z : Nat × Nat} (h : w.heap[b]? = some (.cells cs t z)) (ht : t ≠ 176) (hb : b ≠ rb) : okB n₀ rb w b :=
  ⟨lt_of_some h, .inr ⟨hb, fun ⟨_, _, hh⟩ => ne_of_types h hh ht rfl⟩⟩
end

/-! ### Sets and nodes in memory -/
def SetK (K : Nat → Prop) (w : World) (v : Value) (l : List Rg) : Prop :=
  ∃ A cap, v = .slice A l.length cap ∧ l.length ≤ cap ∧ (l ≠ [] → ∃ b off, A = some ⟨b, off, none⟩ ∧ K b ∧ SetAt w b off l)
theorem SetK.nil (K : Nat → Prop) (w : World) : SetK K w (.slice none 0 0) [] := ⟨none, 0, rfl, Nat.le_refl _, fun h => absurd rfl h⟩
theorem cell_same {w w' : World} {b : Nat} (h : w'.heap[b]? = w.heap[b]?) (o : Nat) : w'.cell? ⟨b, o, none⟩ = w.cell? ⟨b, o, none⟩ := World.cell?_of_block (w := w) h
theorem SetK.keep {K K' : Nat → Prop} {w w' : World} {v : Value} {l : List Rg} (h : SetK K w v l) (hk : ∀ b, K b → K' b ∧ w'.heap[b]? = w.heap[b]?) : SetK K' w' v l := by
  obtain ⟨A, cap, hv, hc, h⟩ := h
  refine ⟨A, cap, hv, hc, fun hl => ?_⟩
  obtain ⟨b, off, hA, hb, ht⟩ := h hl
  obtain ⟨k1, k2⟩ := hk b hb
  exact ⟨b, off, hA, k1, fun i r hr => ⟨(cell_same k2 _).trans (ht i r hr).1, (cell_same k2 _).trans (ht i r hr).2⟩⟩
theorem SetK.of_setV {n : Nat} {w : World} {v : Value} {l : List Rg} (h : SetV n w v l) : SetK (· < n) w v l := h
theorem SetK.to_setV {n : Nat} {w : World} {v : Value} {l : List Rg} (h : SetK (· < n) w v l) : SetV n w v l := h
theorem SetK.some_len {K : Nat → Prop} {w : World} {A : Option Addr} {n cap : Nat} {l : List Rg} (h : SetK K w (.slice A n cap) l) : n = l.length := by
  obtain ⟨_, _, hv, _⟩ := h
  injection hv

def Nd.lo : Nd → Int | .mk _ x _ _ _ _ _ => x
def Nd.hi : Nd → Int | .mk _ _ x _ _ _ _ => x
def Nd.mode : Nd → Int | .mk _ _ _ x _ _ _ => x
def Nd.ref : Nd → Int | .mk _ _ _ _ x _ _ => x
def Nd.set : Nd → List Rg | .mk _ _ _ _ _ x _ => x
def Nd.kids : Nd → List Nd | .mk _ _ _ _ _ _ x => x
/-- The cells of a node whose set and kids lie behind these values. -/
def ndCells (nd : Nd) (sv kv : Value) : List Value := [.int .i64 nd.kind, .int .i64 nd.lo, .int .i64 nd.hi, .int .i64 nd.mode, .int .i64 nd.ref, sv, kv]
def NCells (w : World) (b off : Nat) (nd : Nd) (sv kv : Value) : Prop := ∀ j u, (ndCells nd sv kv)[j]? = some u → w.cell? ⟨b, off + j, none⟩ = some u
inductive NodeV (K : Nat → Prop) (w : World) : Nd → Value → Value → Prop
  | mk {k lo hi m r : Int} {set : List Rg} {kids : List Nd} {sv : Value} {A : Option Addr} {cap b off : Nat} (F G : Nat → Value)
      (hs : SetK K w sv set) (hl : kids.length ≤ cap) (hm : kids.length ≤ 1000000 ∧ set.length ≤ 1000000) (hA : kids ≠ [] → A = some ⟨b, off, none⟩ ∧ K b)
      (hk : ∀ (i : Nat) (nd : Nd), kids[i]? = some nd → NodeV K w nd (F i) (G i))
      (hc : ∀ (i : Nat) (nd : Nd), kids[i]? = some nd → NCells w b (off + i * 7) nd (F i) (G i)) : NodeV K w (.mk k lo hi m r set kids) sv (.slice A kids.length cap)
theorem NodeV.keep {K K' : Nat → Prop} {w w' : World} (hk : ∀ b, K b → K' b ∧ w'.heap[b]? = w.heap[b]?) {nd : Nd} {sv kv : Value} (h : NodeV K w nd sv kv) : NodeV K' w' nd sv kv := by
  induction h with
  | mk F G hs hl hm hA _ hc ih =>
    refine NodeV.mk F G (hs.keep hk) hl hm (fun hn => ⟨(hA hn).1, (hk _ (hA hn).2).1⟩) ih (fun i nd hi j u hu => ?_)
    refine (cell_same (hk _ (hA ?_).2).2 _).trans (hc i nd hi j u hu)
    rintro rfl
    simp at hi
theorem NodeV.leaf {K : Nat → Prop} {w : World} {k lo hi m r : Int} {l : List Rg} {sv : Value} (h : SetK K w sv l) (hl : l.length ≤ 1000000) : NodeV K w (.mk k lo hi m r l []) sv (.slice none 0 0) :=
  NodeV.mk (b := 0) (off := 0) (fun _ => .slice none 0 0) (fun _ => .slice none 0 0) h (Nat.le_refl _) ⟨by simp, hl⟩ (fun e => absurd rfl e) (fun _ _ e => by simp at e) (fun _ _ e => by simp at e)
theorem NodeV.one {K : Nat → Prop} {w : World} {k lo hi m r : Int} {l : List Rg} {sv : Value} {nd : Nd} {s0 k0 : Value} {b off cap : Nat} (h : SetK K w sv l) (hl : l.length ≤ 1000000) (hc : 1 ≤ cap) (hb : K b) (hn : NodeV K w nd s0 k0) (hx : NCells w b off nd s0 k0) :
    NodeV K w (.mk k lo hi m r l [nd]) sv (.slice (some ⟨b, off, none⟩) 1 cap) :=
  NodeV.mk (b := b) (off := off) (fun _ => s0) (fun _ => k0) h hc ⟨by simp, hl⟩ (fun _ => ⟨rfl, hb⟩)
    (fun i x e => by
      obtain ⟨hi, rfl⟩ := List.getElem?_eq_some_iff.1 e
      match i, hi with
      | 0, _ => exact hn)
    (fun i x e => by
      obtain ⟨hi, rfl⟩ := List.getElem?_eq_some_iff.1 e
      match i, hi with
      | 0, _ => simpa using hx)
/-- The set's length and the kids' are those in the values. -/
theorem NodeV.lens {K : Nat → Prop} {w : World} {nd : Nd} {sv kv : Value} (h : NodeV K w nd sv kv) : ∃ A B c e, sv = .slice A nd.set.length c ∧ kv = .slice B nd.kids.length e := by
  cases h with
  | mk F G hs _ _ _ _ _ =>
    obtain ⟨A, c, rfl, _⟩ := hs
    exact ⟨A, _, c, _, rfl, rfl⟩

/-! ### Rows of nodes of the call's own -/
def rowCells (L : List (Nd × Value × Value)) : List Value := L.flatMap fun x => ndCells x.1 x.2.1 x.2.2
theorem rowCells_append (a b : List (Nd × Value × Value)) : rowCells (a ++ b) = rowCells a ++ rowCells b := by simp [rowCells]
theorem rowCells_one (nd : Nd) (sv kv : Value) : rowCells [(nd, sv, kv)] = ndCells nd sv kv := by simp [rowCells]
theorem rowCells_len : ∀ (L : List (Nd × Value × Value)), (rowCells L).length = L.length * 7
  | [] => rfl
  | x :: L => by
    have := rowCells_len L
    simp only [rowCells, List.flatMap_cons, List.length_append] at this ⊢
    rw [this]
    simp [ndCells]
    omega
theorem rowCells_get : ∀ (L : List (Nd × Value × Value)) (i j : Nat) (x : Nd × Value × Value) (u : Value), L[i]? = some x → (ndCells x.1 x.2.1 x.2.2)[j]? = some u → (rowCells L)[i * 7 + j]? = some u
  | [], _, _, _, _, h, _ => by simp at h
  | y :: L, 0, j, x, u, h, hu => by
    simp at h
    subst h
    rw [rowCells, List.flatMap_cons, Nat.zero_mul, Nat.zero_add]
    rw [List.getElem?_append_left (List.getElem?_eq_some_iff.1 hu).1]
    exact hu
  | y :: L, i + 1, j, x, u, h, hu => by
    have := rowCells_get L i j x u (by simpa using h) hu
    rw [rowCells, List.flatMap_cons, List.getElem?_append_right (by simp [ndCells]; omega)]
    rw [show (i + 1) * 7 + j - (ndCells y.1 y.2.1 y.2.2).length = i * 7 + j by simp [ndCells]; omega]
    exact this
/-- A row of nodes: its cells are the call's own; each reads as its node. -/
structure RowN (K : Nat → Prop) (w : World) (base : Nat) (v : Value) (L : List (Nd × Value × Value)) : Prop where
  own : w.ownsRow base 117 7 v L.length (rowCells L)
  nodes : ∀ x ∈ L, NodeV K w x.1 x.2.1 x.2.2
theorem RowN.nil (K : Nat → Prop) (w : World) (base : Nat) : RowN K w base (.slice none 0 0) [] := ⟨World.ownsRow_nil _ _ _ _, by simp⟩
/-- .. as the kids of a node. -/
theorem RowN.node {K : Nat → Prop} {w : World} {base : Nat} {v : Value} {L : List (Nd × Value × Value)} (h : RowN K w base v L) (hK : ∀ g, v.ownBlock = some g → K g) (k lo hi m r : Int) (hne : L ≠ []) (hm : L.length ≤ 1000000) :
    NodeV K w (.mk k lo hi m r [] (L.map (·.1))) (.slice none 0 0) v := by
  obtain ⟨hown, hnd⟩ := h
  have hL : 0 < L.length := by cases L <;> simp_all
  obtain ⟨g, cap, hv, _, _⟩ := hown.form hL
  have hcap : L.length ≤ cap := by
    rcases hown.2 with ⟨hv', hn⟩ | ⟨g', cap', cur, hv', _, _, hnc, _⟩
    · omega
    · rw [hv] at hv'
      injection hv' with _ _ hc
      omega
  have hv0 := hv
  subst hv
  have hadd : ∀ j, (⟨g, 0, none⟩ : Addr).add j = ⟨g, 0 + j, none⟩ := fun j => by unfold Addr.add; split <;> simp_all
  have hlen : (L.map (·.1)).length = L.length := by simp
  have key : ∀ (i : Nat) (nd : Nd), (L.map (·.1))[i]? = some nd → ∃ x, L[i]? = some x ∧ x.1 = nd := by
    intro i nd hi
    rw [List.getElem?_map] at hi
    obtain ⟨x, hx, he⟩ := Option.map_eq_some_iff.1 hi
    exact ⟨x, hx, he⟩
  have e := NodeV.mk (K := K) (w := w) (k := k) (lo := lo) (hi := hi) (m := m) (r := r) (set := []) (kids := L.map (·.1)) (sv := .slice none 0 0) (A := some ⟨g, 0, none⟩) (cap := cap) (b := g) (off := 0)
    (fun i => (L[i]?.map (·.2.1)).getD (.slice none 0 0)) (fun i => (L[i]?.map (·.2.2)).getD (.slice none 0 0)) (SetK.nil _ _) (by rw [hlen]; exact hcap) ⟨by rw [hlen]; exact hm, by simp⟩ (fun _ => ⟨rfl, hK g rfl⟩)
    (fun i nd hi => by
      obtain ⟨x, hx, rfl⟩ := key i nd hi
      simp only [hx, Option.map_some, Option.getD_some]
      exact hnd x (List.mem_of_getElem? hx))
    (fun i nd hi j u hu => by
      obtain ⟨x, hx, rfl⟩ := key i nd hi
      simp only [hx, Option.map_some, Option.getD_some] at hu
      have hc := hown.cells (g := g) rfl _ _ (rowCells_get L i j x u hx hu)
      rw [hadd] at hc
      rw [← hc]
      congr 2
      omega)
  rw [hlen] at e
  exact e

/-! ### The reader -/
def bkCells (l : List (Nat × Nat)) : List Value := l.flatMap fun x => [.int .i64 (x.1 : Nat), .int .i64 (x.2 : Nat)]
def isText (w : World) (b : Nat) : Prop := ∃ cs z, w.heap[b]? = some (.cells cs 5 z)
structure Rd (n₀ rb tb cap : Nat) (s : List UInt8) (w : World) (σ : St) (d : Nat) (fc fa : Int) (bv : Value) : Prop where
  blk : Blk w rb 140 #[.slice (some ⟨tb, 0, none⟩) s.length cap, .int .i64 (σ.pos : Nat), .int .i64 (d : Nat), .int .i64 (σ.g : Nat), bv, .int .i64 fc, .int .i64 fa]
  txt : Txt w tb 0 s
  tok : isText w tb
  len : s.length ≤ cap ∧ s.length ≤ 256
  own : w.ownsRow n₀ 176 2 bv σ.bk.length (bkCells σ.bk)
  pos : σ.pos ≤ s.length
  suf : σ.t = s.drop σ.pos
  bnd : d ≤ 32 ∧ σ.g ≤ 9 ∧ σ.bk.length ≤ σ.pos
  low : n₀ ≤ rb
  tabs : TabsAt n₀ w
section
variable {n₀ rb tb cap d : Nat} {s : List UInt8} {w w' : World} {σ : St} {fc fa : Int} {bv : Value}
theorem Rd.size (h : Rd n₀ rb tb cap s w σ d fc fa bv) : n₀ ≤ w.heap.size := Nat.le_trans h.low (Nat.le_of_lt h.blk.lt)
theorem Rd.keep (h : Rd n₀ rb tb cap s w σ d fc fa bv) (hk : ∀ i, i < w.heap.size → (i = rb ∨ isText w i ∨ isBk w i ∨ i < n₀) → w'.heap[i]? = w.heap[i]?) : Rd n₀ rb tb cap s w' σ d fc fa bv := by
  obtain ⟨ct, zt, ht⟩ := h.tok
  refine ⟨(hk rb h.blk.lt (.inl rfl)).trans h.blk, fun j hj => ?_, ⟨ct, zt, (hk tb (lt_of_some ht) (.inr (.inl h.tok))).trans ht⟩, h.len, ?_, h.pos, h.suf, h.bnd, h.low, ?_⟩
  · exact (cell_same (hk tb (lt_of_some ht) (.inr (.inl h.tok))) _).trans (h.txt j hj)
  · refine own_keep h.own fun i hi => ?_
    rcases h.own.2 with ⟨rfl, _⟩ | ⟨g, cap, cur, rfl, _, hh, _⟩
    · simp [Value.ownBlock] at hi
    · obtain rfl : i = g := by simpa [Value.ownBlock] using hi
      exact hk i (lt_of_some hh) (.inr (.inr (.inl ⟨cur, _, hh⟩)))
  · have hs := h.size
    have h1 := h.tabs.1
    exact ⟨h1, fun c hc => (cell_same (hk 0 (by omega) (.inr (.inr (.inr (by omega))))) c).trans (h.tabs.2.1 c hc),
      fun i hi => ⟨(cell_same (hk 1 (by omega) (.inr (.inr (.inr h1)))) _).trans (h.tabs.2.2 i hi).1, (cell_same (hk 1 (by omega) (.inr (.inr (.inr h1)))) _).trans (h.tabs.2.2 i hi).2⟩⟩
theorem Rd.on (h : Rd n₀ rb tb cap s w σ d fc fa bv) (hb : Below w.heap.size w w') : Rd n₀ rb tb cap s w' σ d fc fa bv := h.keep fun i hi _ => hb.block i hi
theorem Rd.alloc (h : Rd n₀ rb tb cap s w σ d fc fa bv) (o : Obj) : Rd n₀ rb tb cap s (w.alloc o) σ d fc fa bv := h.keep fun i hi _ => Below.heap_alloc w o i hi
theorem Rd.drewN (h : Rd n₀ rb tb cap s w σ d fc fa bv) (n : Nat) : Rd n₀ rb tb cap s (w.drewN n) σ d fc fa bv := h.keep fun _ _ _ => rfl
theorem Rd.away (h : Rd n₀ rb tb cap s w σ d fc fa bv) {g : Nat} {t : TypeId} {cs : Array Value} {z : Nat × Nat} (hg : w.heap[g]? = some (.cells cs t z)) (h1 : t ≠ 140) (h2 : t ≠ 176) (h3 : t ≠ 5) (h4 : n₀ ≤ g) :
    ∀ i, (i = rb ∨ isText w i ∨ isBk w i ∨ i < n₀) → i ≠ g := by
  rintro i (rfl | ⟨c, y, hh⟩ | ⟨c, y, hh⟩ | hi)
  · exact fun e => ne_of_types hg h.blk h1 e.symm
  · exact fun e => ne_of_types hg hh h3 e.symm
  · exact fun e => ne_of_types hg hh h2 e.symm
  · omega
/-- A store into a block of another kind. -/
theorem Rd.far (h : Rd n₀ rb tb cap s w σ d fc fa bv) {g o : Nat} {t : TypeId} {cs : Array Value} {z : Nat × Nat} (hg : w.heap[g]? = some (.cells cs t z)) (h1 : t ≠ 140) (h2 : t ≠ 176) (h3 : t ≠ 5) (h4 : n₀ ≤ g) (u : Value) :
    Rd n₀ rb tb cap s (w.setCell ⟨g, o, none⟩ u) σ d fc fa bv := h.keep fun i _ hc => Below.heap_setCell _ _ _ _ (h.away hg h1 h2 h3 h4 i hc)
theorem Rd.grown (h : Rd n₀ rb tb cap s w σ d fc fa bv) {base : Nat} {e : TypeId} {size n : Nat} {v : Value} {xs : List Value} (ho : w.ownsRow base e size v n xs) (h1 : e ≠ 140) (h2 : e ≠ 176) (h3 : e ≠ 5) (h4 : n₀ ≤ base) (hg : w.grownBy w' v.ownBlock) :
    Rd n₀ rb tb cap s w' σ d fc fa bv := h.keep fun i hi hc => hg.block i hi (by
      rcases ho.2 with ⟨rfl, _⟩ | ⟨g, cap, cur, rfl, hb, hh, _⟩
      · simp [Value.ownBlock]
      · intro e
        have : i = g := by simpa [Value.ownBlock] using e
        exact h.away hh h1 h2 h3 (by omega) i hc this)
theorem Fr.blk (hF : Fr n₀ rb w w') (h : Rd n₀ rb tb cap s w σ d fc fa bv) {g : Nat} {t : TypeId} {cs : Array Value} (hg : Blk w g t cs) (h1 : t ≠ 140) (h2 : t ≠ 176) : Blk w' g t cs :=
  (hF.same (okB.of_type hg h2 (ne_of_types hg h.blk h1))).trans hg
theorem Rd.c0 (h : Rd n₀ rb tb cap s w σ d fc fa bv) : w.cell? ⟨rb, 0, none⟩ = some (.slice (some ⟨tb, 0, none⟩) s.length cap) := h.blk.cell 0
theorem Rd.c1 (h : Rd n₀ rb tb cap s w σ d fc fa bv) : w.cell? ⟨rb, 1, none⟩ = some (.int .i64 (σ.pos : Nat)) := h.blk.cell 1
theorem Rd.c2 (h : Rd n₀ rb tb cap s w σ d fc fa bv) : w.cell? ⟨rb, 2, none⟩ = some (.int .i64 (d : Nat)) := h.blk.cell 2
theorem Rd.c3 (h : Rd n₀ rb tb cap s w σ d fc fa bv) : w.cell? ⟨rb, 3, none⟩ = some (.int .i64 (σ.g : Nat)) := h.blk.cell 3
theorem Rd.c4 (h : Rd n₀ rb tb cap s w σ d fc fa bv) : w.cell? ⟨rb, 4, none⟩ = some bv := h.blk.cell 4
theorem Rd.c5 (h : Rd n₀ rb tb cap s w σ d fc fa bv) : w.cell? ⟨rb, 5, none⟩ = some (.int .i64 fc) := h.blk.cell 5
theorem Rd.c6 (h : Rd n₀ rb tb cap s w σ d fc fa bv) : w.cell? ⟨rb, 6, none⟩ = some (.int .i64 fa) := h.blk.cell 6
theorem Rd.fz (h : Rd n₀ rb tb cap s w σ d fc fa bv) (j : Nat) : w.frozen? ⟨rb, j, none⟩ = false := h.blk.frozen j
/-- A step in the text. -/
theorem Rd.step (h : Rd n₀ rb tb cap s w σ d fc fa bv) {n : Nat} (hn : n ≤ σ.t.length) : Rd n₀ rb tb cap s (w.setCell ⟨rb, 1, none⟩ (.int .i64 ((σ.pos + n : Nat) : Int))) (σ.adv n) d fc fa bv := by
  have hb := (h.blk.set_ 1 (.int .i64 ((σ.pos + n : Nat) : Int)))
  have hlen : σ.pos + n ≤ s.length := by
    have := h.pos
    rw [h.suf, List.length_drop] at hn
    omega
  have hk : ∀ i, i ≠ rb → (w.setCell ⟨rb, 1, none⟩ (.int .i64 ((σ.pos + n : Nat) : Int))).heap[i]? = w.heap[i]? := fun i hi => Below.heap_setCell _ _ _ _ hi
  obtain ⟨ct, zt, ht⟩ := h.tok
  have htr : tb ≠ rb := fun e => ne_of_types ht h.blk (by decide) e
  refine ⟨by simpa [St.adv] using hb, fun j hj => (cell_same (hk tb htr) _).trans (h.txt j hj), ⟨ct, zt, (hk tb htr).trans ht⟩, h.len, ?_, hlen, ?_, ⟨h.bnd.1, h.bnd.2.1, ?_⟩, h.low, ?_⟩
  · exact own_keep h.own fun i hi => hk i (fun e => own_ne h.own h.blk (by decide) (by rw [← hi, e]))
  · simp only [St.adv]
    rw [h.suf, List.drop_drop]
  · have := h.bnd.2.2
    simp only [St.adv]
    omega
  · have hr := h.low
    have h1 := h.tabs.1
    exact ⟨h1, fun c hc => (cell_same (hk 0 (by omega)) c).trans (h.tabs.2.1 c hc), fun i hi => ⟨(cell_same (hk 1 (by omega)) _).trans (h.tabs.2.2 i hi).1, (cell_same (hk 1 (by omega)) _).trans (h.tabs.2.2 i hi).2⟩⟩
theorem Rd.tl (h : Rd n₀ rb tb cap s w σ d fc fa bv) : σ.t.length = s.length - σ.pos := by rw [h.suf, List.length_drop]
theorem Rd.at_ (h : Rd n₀ rb tb cap s w σ d fc fa bv) {j : Nat} (hj : j < σ.t.length) : w.cell? ⟨tb, 0 + (σ.pos + j), none⟩ = some (.int .u8 ((at_ σ.t j : Nat) : Int)) := by
  have hl := h.tl
  rw [h.suf, at_drop]
  exact h.txt _ (by omega)
end

end Go.Proofs.YtefgobmpleoafaaGreatDoor

/- Nodes in memory: a node's parts. -/
namespace Go.Proofs.YtefgobmpleoafaaGreatDoor
open Go.RowKit
open Go.Proofs.YtefgobmpleoafaaGreatDoor.Cl (Rg SetV SetAt rgCells)
variable {w w' : World}

theorem NodeV.parts {K : Nat → Prop} {nd : Nd} {sv kv : Value} (h : NodeV K w nd sv kv) : ∃ A cap b off, kv = .slice A nd.kids.length cap ∧ nd.kids.length ≤ cap ∧ nd.kids.length ≤ 1000000 ∧ nd.set.length ≤ 1000000 ∧ SetK K w sv nd.set ∧
    ∀ i x, nd.kids[i]? = some x → A = some ⟨b, off, none⟩ ∧ K b ∧ ∃ A1 A2 p1 p2, NodeV K w x (.slice A1 x.set.length p1) (.slice A2 x.kids.length p2) ∧ NCells w b (off + i * 7) x (.slice A1 x.set.length p1) (.slice A2 x.kids.length p2) := by
  cases h with
  | @mk _ _ _ _ _ set kids _ A cap b off F G hs hl hm hA hk hc =>
    refine ⟨A, cap, b, off, rfl, hl, hm.1, hm.2, hs, fun i x hx => ?_⟩
    have hne : kids ≠ [] := by rintro rfl; simp [Nd.kids] at hx
    obtain ⟨A1, A2, p1, p2, e1, e2⟩ := (hk i x hx).lens
    refine ⟨(hA hne).1, (hA hne).2, A1, A2, p1, p2, ?_, ?_⟩
    · have := hk i x hx
      rwa [e1, e2] at this
    · have := hc i x hx
      rwa [e1, e2] at this
theorem NCells.seven_ {b o : Nat} {x : Nd} {sv kv : Value} (h : NCells w b o x sv kv) : w.cell? ⟨b, o, none⟩ = some (.int .i64 x.kind) ∧ w.cell? ⟨b, o + 1, none⟩ = some (.int .i64 x.lo) ∧ w.cell? ⟨b, o + 2, none⟩ = some (.int .i64 x.hi) ∧ w.cell? ⟨b, o + 3, none⟩ = some (.int .i64 x.mode) ∧
    w.cell? ⟨b, o + 4, none⟩ = some (.int .i64 x.ref) ∧ w.cell? ⟨b, o + 5, none⟩ = some sv ∧ w.cell? ⟨b, o + 6, none⟩ = some kv :=
  ⟨h 0 _ rfl, h 1 _ rfl, h 2 _ rfl, h 3 _ rfl, h 4 _ rfl, h 5 _ rfl, h 6 _ rfl⟩
theorem NCells.on {b o : Nat} {x : Nd} {sv kv : Value} (h : NCells w b o x sv kv) (hk : w'.heap[b]? = w.heap[b]?) : NCells w' b o x sv kv := fun j u hu => (cell_same hk _).trans (h j u hu)
theorem nd_size {nd x : Nd} {i : Nat} (h : nd.kids[i]? = some x) : SizeOf.sizeOf x < SizeOf.sizeOf nd := by
  cases nd with
  | mk a b c d e f g =>
    have := List.sizeOf_lt_of_mem (List.mem_of_getElem? h)
    simp only [Nd.kids] at this
    simp only [Nd.mk.sizeOf_spec]
    omega

end Go.Proofs.YtefgobmpleoafaaGreatDoor

/- The reader's smallest steps, as contracts. -/
namespace Go.Proofs.YtefgobmpleoafaaGreatDoor
open Go.RowKit
variable {n₀ rb tb cap d : Nat} {s : List UInt8} {w w' : World} {σ : St} {fc fa : Int} {bv : Value}

theorem refuse_any (c p : Int) (hR : Rd n₀ rb tb cap s w σ d fc fa bv) :
    Calls Tryz.prog 78 #[.pointer (some ⟨rb, 0, none⟩), .int .i64 c, .int .i64 p] w fun e w' => e = .returned (.bool false) ∧ w' = (w.setCell ⟨rb, 5, none⟩ (.int .i64 c)).setCell ⟨rb, 6, none⟩ (.int .i64 p) := by
  have c0 := hR.c0
  have c5 := hR.c5
  have c6 := hR.c6
  have f0 := hR.fz 0
  have f5 := hR.fz 5
  have f6 := hR.fz 6
  have HR := Lib.hid hR
  clear hR
  go_enter Tryz.func78, Tryz.ntmps78
  go_wp2
  go_ret
  exact ⟨rfl, rfl⟩

/-- string(b) of a slice value that reads as a text. -/
theorem run_string_bytes {n₀ : Nat} {w : World} {v : Value} {s : List UInt8} (h : Bytes n₀ w v s) : (convert 137 9 v).run Tryz.prog w = .ok (.string ⟨s.toArray⟩) w := by
  obtain ⟨A, cap, rfl, _, h⟩ := h
  by_cases hs : s = []
  · subst hs
    cases A with
    | none => exact run_convert_bytes_nil w 137 5 Tryz.underlying137 Tryz.underlying5 _ _ 9 Tryz.underlying9
    | some a => exact run_convert_bytes_back (P := Tryz.prog) w 137 9 5 a cap [] Tryz.underlying137 Tryz.underlying5 Tryz.underlying9 (fun j hj => by simp at hj)
  · obtain ⟨b, off, rfl, _, ht⟩ := h hs
    have e := run_convert_bytes_arg (P := Tryz.prog) w 137 5 Tryz.underlying137 Tryz.underlying5 b off s.length cap (s.map fun b => (b.toNat : Int)) (by simp) (fun i hi => by
      rw [ht i hi]
      simp [at_, List.getD_eq_getElem?_getD, hi]) 9 Tryz.underlying9
    rw [e]
    simp [strOfNums, Function.comp_def]

theorem equal_any (v1 v2 : Value) (a b : List UInt8) (n : Nat) (W : World) (h1 : Bytes n W v1 a) (h2 : Bytes n W v2 b) :
    Calls Tryz.prog 128 #[v1, v2] W fun e w' => e = .returned (.bool (a == b)) ∧ W = w' := by
  have k1 := run_string_bytes h1
  have k2 := run_string_bytes h2
  clear h1 h2
  by_cases hab : a = b
  · subst hab
    go_enter Tryz.func128, Tryz.ntmps128
    go_wp2
    go_ret
    exact ⟨by simp, rfl⟩
  · have hne : (a == b) = false := by simpa using hab
    have HN := Lib.hid hne
    clear hne
    go_enter Tryz.func128, Tryz.ntmps128
    go_wp2
    go_ret
    exact ⟨by rw [HN.out]; rfl, rfl⟩

theorem bytes_take {n : Nat} {W : World} {A : Option Addr} {len cap k : Nat} {t : List UInt8} (h : Bytes n W (.slice A len cap) t) (hk : k ≤ t.length) : Bytes n W (.slice A k cap) (t.take k) := by
  obtain ⟨A', cap', hv, hc, hx⟩ := h
  injection hv with e1 e2 e3
  subst e1 e3
  have hl : (t.take k).length = k := by rw [List.length_take]; omega
  refine ⟨A, cap, by rw [hl], by omega, fun hne => ?_⟩
  have hk0 : 0 < k := by rcases Nat.eq_zero_or_pos k with h0 | h0; (· subst h0; simp at hne); exact h0
  obtain ⟨b, off, hA, hb, ht⟩ := hx (by rintro rfl; simp at hk; omega)
  refine ⟨b, off, hA, hb, fun j hj => ?_⟩
  rw [hl] at hj
  rw [ht j (by omega)]
  simp [at_, List.getD_eq_getElem?_getD, hj]
theorem pre_take {p t : List UInt8} : pre p t = (t.take p.length == p) := by
  unfold pre
  rw [Bool.eq_iff_iff, List.isPrefixOf_iff_prefix, beq_iff_eq, List.prefix_iff_eq_take]
  exact ⟨fun e => e.symm, fun e => e.symm⟩
theorem pre_long {p t : List UInt8} (h : t.length < p.length) : pre p t = false := by
  cases e : pre p t
  · rfl
  · have := pre_len e
    omega
theorem bytes_len {n : Nat} {W : World} {v : Value} {t : List UInt8} (h : Bytes n W v t) : ∃ A cap, v = .slice A t.length cap ∧ t.length ≤ cap := by
  obtain ⟨A, cap, hv, hc, _⟩ := h
  exact ⟨A, cap, hv, hc⟩

theorem hasPrefix_any (v1 v2 : Value) (t p : List UInt8) (n : Nat) (W : World) (h1 : Bytes n W v1 t) (h2 : Bytes n W v2 p) :
    Calls Tryz.prog 113 #[v1, v2] W fun e w' => e = .returned (.bool (pre p t)) ∧ W = w' := by
  obtain ⟨A1, cap1, rfl, hc1⟩ := bytes_len h1
  obtain ⟨A2, cap2, rfl, hc2⟩ := bytes_len h2
  by_cases hl : p.length ≤ t.length
  · have he := equal_any _ _ _ _ n W (bytes_take h1 hl) h2
    rw [← pre_take] at he
    have HE := Lib.hid he
    clear he h1 h2
    go_enter Tryz.func113, Tryz.ntmps113
    go_wp2_with fail
    refine HE.out.mono ?_
    rintro e w' ⟨rfl, rfl⟩
    go_wp2
    go_ret
    exact ⟨rfl, rfl⟩
  · have hf := Lib.hid (pre_long (p := p) (t := t) (by omega))
    have hl' : t.length < p.length := by omega
    clear h1 h2
    go_enter Tryz.func113, Tryz.ntmps113
    go_wp2
    go_ret
    exact ⟨by rw [hf.out]; rfl, rfl⟩

theorem conv_run (W : World) (x : ByteArray) : (convert 9 137 (.string x)).run Tryz.prog W = .ok (.slice (some ⟨W.heap.size, 0, none⟩) x.size (grownCap W x.size 0 5)) (Lib.bytesWorld W 5 x) :=
  Lib.run_convert_string_bytes W 9 137 5 x Tryz.underlying9 Tryz.underlying137 Tryz.underlying5
theorem conv_cell (W : World) (x : ByteArray) (b o : Nat) (h : b < W.heap.size) : (Lib.bytesWorld W 5 x).cell? ⟨b, o, none⟩ = W.cell? ⟨b, o, none⟩ := cell_same (Lib.bytesWorld_at_old W 5 x b h) o
theorem conv_below (W : World) (x : ByteArray) : Below W.heap.size W (Lib.bytesWorld W 5 x) :=
  ⟨by unfold Lib.bytesWorld; rfl, by unfold Lib.bytesWorld; rfl, by unfold Lib.bytesWorld; rfl, by rw [Lib.bytesWorld_size]; omega, fun k hk => Lib.bytesWorld_at_old W 5 x k hk⟩
theorem grownCap_ge (W : World) (n : Nat) : n ≤ grownCap W n 0 5 := Go.grownCap_ge W n 0 5
theorem conv_bytes (W : World) (l : List UInt8) : Bytes (W.heap.size + 1) (Lib.bytesWorld W 5 ⟨l.toArray⟩) (.slice (some ⟨W.heap.size, 0, none⟩) l.length (grownCap W l.length 0 5)) l :=
  ⟨_, _, rfl, grownCap_ge _ _, fun _ => ⟨_, 0, rfl, by omega, fun j hj => by
    have := Lib.bytesWorld_cell W 5 ⟨l.toArray⟩ j (by simpa [ByteArray.size] using hj)
    rw [Nat.zero_add, this]
    simp [at_, List.getD_eq_getElem?_getD]⟩⟩

set_option maxRecDepth 100000 in
set_option maxHeartbeats 1000000 in
theorem sees_any (ws : List UInt8) (hR : Rd n₀ rb tb cap s w σ d fc fa bv) :
    Calls Tryz.prog 92 #[.pointer (some ⟨rb, 0, none⟩), .string ⟨ws.toArray⟩] w fun e w' => e = .returned (.bool (pre ws σ.t)) ∧ Below w.heap.size w w' := by
  have c0 := hR.c0
  have c1 := hR.c1
  have hpos := hR.pos
  have hl := hR.len
  have hlt := hR.blk.lt
  obtain ⟨o, hif, ho⟩ : ∃ o, (if cap = σ.pos then some (⟨tb, 0, none⟩ : Addr) else some ⟨tb, σ.pos, none⟩) = some ⟨tb, o, none⟩ ∧ (cap = σ.pos ∨ o = σ.pos) := by
    by_cases h : cap = σ.pos
    · exact ⟨0, by rw [if_pos h], .inl h⟩
    · exact ⟨σ.pos, by rw [if_neg h], .inr rfl⟩
  have hb1 : Bytes w.heap.size w (.slice (some ⟨tb, o, none⟩) (s.length - σ.pos) (cap - σ.pos)) σ.t := by
    have ht := hR.tl
    refine ⟨_, _, by rw [ht], by omega, fun hn => ⟨tb, o, rfl, ?_, fun j hj => ?_⟩⟩
    · obtain ⟨_, _, h⟩ := hR.tok
      exact lt_of_some h
    · have := hR.at_ hj
      have h1 := len_ne hn
      obtain rfl : o = σ.pos := by omega
      rwa [Nat.zero_add] at this
  have hb2 := conv_bytes w.drew ws
  obtain ⟨x, hx⟩ : ∃ x : ByteArray, x = ⟨ws.toArray⟩ := ⟨_, rfl⟩
  have hxs : ws.length = x.size := by rw [hx]; rfl
  have hbb : Below w.heap.size w (Lib.bytesWorld w.drew 5 x) := (⟨rfl, rfl, rfl, Nat.le_refl _, fun _ _ => rfl⟩ : Below w.heap.size w w.drew).trans (conv_below w.drew x)
  rw [← hx] at hb2 ⊢
  rw [hxs] at hb2
  have hp := Lib.hid (hasPrefix_any _ _ _ _ _ _ ((hb1.below hbb).more (Nat.le_succ _)) hb2)
  have HB := Lib.hid hbb
  clear hx hR hb1 hb2 hbb hxs ho
  have kc := conv_run
  have kcell : ∀ o, (Lib.bytesWorld w.drew 5 x).cell? ⟨rb, o, none⟩ = w.cell? ⟨rb, o, none⟩ := fun o => conv_cell w.drew x rb o hlt
  have h0 : (0 : Int) ≤ (σ.pos : Int) := by omega
  have h1 : (σ.pos : Int) ≤ (s.length : Int) := by omega
  have h2 : (s.length : Int) ≤ (cap : Int) := by omega
  go_enter Tryz.func92, Tryz.ntmps92
  go_wp2_with fail
  go_region_with (go_at_call 113; refine hp.out.mono ?_; rintro e w' ⟨rfl, rfl⟩)
  all_goals
    go_wp2
    go_ret
    exact ⟨rfl, HB.out⟩

end Go.Proofs.YtefgobmpleoafaaGreatDoor

/- The reader's small steps, as contracts: take, ended, plain, sign; digits and signs. -/
namespace Go.Proofs.YtefgobmpleoafaaGreatDoor
open Go.RowKit
variable {n₀ rb tb cap d : Nat} {s : List UInt8} {w w' : World} {σ : St} {fc fa : Int} {bv : Value}

theorem Rd.step' (h : Rd n₀ rb tb cap s w σ d fc fa bv) {n : Nat} (hn : n ≤ σ.t.length) : Rd n₀ rb tb cap s (w.setCell ⟨rb, 1, none⟩ (.int .i64 ((σ.pos : Int) + (n : Int)))) (σ.adv n) d fc fa bv := by
  have := h.step hn
  rwa [Int.natCast_add] at this
theorem Rd.below_set (hR : Rd n₀ rb tb cap s w σ d fc fa bv) {a : World} (h : Fr n₀ rb a w) (j : Nat) (u : Value) : Fr n₀ rb a (w.setCell ⟨rb, j, none⟩ u) := h.set_ hR.low (.inr rfl) u

theorem bdrew (w : World) (n : Nat) : Below w.heap.size w (w.drewN n) := ⟨rfl, rfl, rfl, Nat.le_refl _, fun _ _ => rfl⟩
theorem Rd.drew (hR : Rd n₀ rb tb cap s w σ d fc fa bv) : Rd n₀ rb tb cap s w.drew σ d fc fa bv := hR.drewN 1

theorem take_no (ws : List UInt8) (h : pre ws σ.t = false) (hR : Rd n₀ rb tb cap s w σ d fc fa bv) :
    Calls Tryz.prog 75 #[.pointer (some ⟨rb, 0, none⟩), .string ⟨ws.toArray⟩] w fun e w' => e = .returned (.bool false) ∧ Below w.heap.size w w' := by
  have hs := sees_any ws hR
  rw [h] at hs
  have H := Lib.hid hs
  clear hs hR h
  go_enter Tryz.func75, Tryz.ntmps75
  go_wp2_with fail
  refine H.out.mono ?_
  rintro e w1 ⟨rfl, hb⟩
  go_wp2
  go_ret
  exact ⟨rfl, hb⟩
theorem take_yes (ws : List UInt8) (h : pre ws σ.t = true) (hR : Rd n₀ rb tb cap s w σ d fc fa bv) :
    Calls Tryz.prog 75 #[.pointer (some ⟨rb, 0, none⟩), .string ⟨ws.toArray⟩] w fun e w' => e = .returned (.bool true) ∧ Rd n₀ rb tb cap s w' (σ.adv ws.length) d fc fa bv ∧ Fr n₀ rb w w' := by
  have hs := sees_any ws hR
  rw [h] at hs
  have H := Lib.hid hs
  have hl := pre_len h
  have hp := hR.pos
  have ht := hR.tl
  have hm := hR.len.2
  have HR := Lib.hid hR
  have hz : (ByteArray.mk ws.toArray).size = ws.length := rfl
  clear hs hR h
  go_enter Tryz.func75, Tryz.ntmps75
  go_wp2_with fail
  refine H.out.mono ?_
  rintro e w1 ⟨rfl, hb⟩
  have hR1 := HR.out.on hb
  have c1 := hR1.c1
  have f1 := hR1.fz 1
  have HR1 := Lib.hid hR1
  clear hR1
  go_wp2
  go_ret
  exact ⟨rfl, HR1.out.step' hl, HR1.out.below_set (Fr.of_below hb) _ _⟩

theorem ended_any (hR : Rd n₀ rb tb cap s w σ d fc fa bv) :
    Calls Tryz.prog 77 #[.pointer (some ⟨rb, 0, none⟩)] w fun e w' => e = .returned (.bool σ.t.isEmpty) ∧ Below w.heap.size w w' := by
  have c0 := hR.c0
  have c1 := hR.c1
  have hp := hR.pos
  have ht := hR.tl
  clear hR
  by_cases h : σ.pos < s.length
  · have he : σ.t.isEmpty = false := by cases e : σ.t <;> simp_all <;> omega
    have HE := Lib.hid he
    have h' : ¬ s.length ≤ σ.pos := by omega
    clear he
    go_enter Tryz.func77, Tryz.ntmps77
    go_wp2
    go_quiet (fail)
    go_wp2
    go_ret
    exact ⟨by rw [HE.out]; rfl, bdrew _ _⟩
  · have he : σ.t.isEmpty = true := by cases e : σ.t <;> simp_all <;> omega
    have HE := Lib.hid he
    have h' : s.length ≤ σ.pos := by omega
    clear he
    go_enter Tryz.func77, Tryz.ntmps77
    go_wp2
    go_quiet (fail)
    go_wp2
    go_ret
    exact ⟨by rw [HE.out]; rfl, bdrew _ _⟩

theorem plain_any (hn : σ.t ≠ []) (hR : Rd n₀ rb tb cap s w σ d fc fa bv) :
    Calls Tryz.prog 145 #[.pointer (some ⟨rb, 0, none⟩)] w fun e w' => e = .returned (.int .i64 ((nx σ.t).1 : Nat)) ∧ Rd n₀ rb tb cap s w' (σ.adv (nx σ.t).2) d fc fa bv ∧ Fr n₀ rb w w' := by
  have c0 := hR.c0
  have c1 := hR.c1
  have hlt := hR.blk.lt
  have hp := hR.pos
  have ht := hR.tl
  have hm := hR.len
  have hne := len_ne hn
  have hle := nx_le σ.t hn
  have hnx := next_in s tb 0 cap s.length σ.pos rfl (by omega) hm.1 w.drew hR.tabs.2 hR.txt
  rw [← hR.suf] at hnx
  obtain ⟨u, hu⟩ : ∃ u, u = (nx σ.t).1 := ⟨_, rfl⟩
  obtain ⟨z, hz⟩ : ∃ z, z = (nx σ.t).2 := ⟨_, rfl⟩
  rw [← hu, ← hz] at hnx
  rw [← hu]
  rw [← hz] at hle ⊢
  have HN := Lib.hid hnx
  have HR := Lib.hid hR
  clear hnx hR hu hz hn hne
  go_enter Tryz.func145, Tryz.ntmps145
  go_wp2
  go_region_held3 (fun w' => w'.cell? ⟨rb, 0, none⟩ = some (.slice (some ⟨tb, 0, none⟩) s.length cap) ∧ w'.cell? ⟨rb, 1, none⟩ = some (.int .i64 (σ.pos : Nat))) (go_keep)
    (first | (go_at_call 161; refine HN.out.mono ?_; rintro e w1 ⟨rfl, hb⟩; have hR1 := HR.out.drew.on hb; have c0' := hR1.c0; have c1' := hR1.c1; have f1' := hR1.fz 1))
  have HR1 := Lib.hid hR1
  clear hR1
  go_wp2
  go_ret
  exact ⟨rfl, HR1.out.step' (by omega), HR1.out.below_set ((Fr.refl w).drewN 1 |>.trans (Fr.of_below hb)) _ _⟩

end Go.Proofs.YtefgobmpleoafaaGreatDoor

/- Digits and signs, as contracts; the sign behind a backslash. -/
namespace Go.Proofs.YtefgobmpleoafaaGreatDoor
open Go.RowKit
variable {n₀ rb tb cap d : Nat} {s : List UInt8} {w w' : World} {σ : St} {fc fa : Int} {bv : Value}

theorem isDigit_any (c : Nat) (W : World) : Calls Tryz.prog 176 #[.int .u8 (c : Nat)] W fun e w' => e = .returned (.bool (dig c)) ∧ W = w' := by
  by_cases h1 : 48 ≤ c
  · by_cases h2 : c ≤ 57
    · have h1' : (48 : Int) ≤ (c : Int) := by omega
      have h2' : (c : Int) ≤ 57 := by omega
      go_enter Tryz.func176, Tryz.ntmps176
      go_wp2
      go_ret
      exact ⟨ret_bool (by simp [dig]; omega), rfl⟩
    · have h1' : (48 : Int) ≤ (c : Int) := by omega
      have h2' : ¬ (c : Int) ≤ 57 := by omega
      go_enter Tryz.func176, Tryz.ntmps176
      go_wp2
      go_ret
      exact ⟨ret_bool (by simp [dig]; omega), rfl⟩
  · have h1' : ¬ (48 : Int) ≤ (c : Int) := by omega
    go_enter Tryz.func176, Tryz.ntmps176
    go_wp2
    go_ret
    exact ⟨ret_bool (by simp [dig]; omega), rfl⟩
theorem dig_range (c : Nat) (h : dig c = true) : 48 ≤ c ∧ c ≤ 57 := (dig_iff c).1 h

theorem isMark_any (c : Nat) (W : World) : Calls Tryz.prog 179 #[.int .u8 (c : Nat)] W fun e w' => e = .returned (.bool (isMark c)) ∧ W = w' := by
  have hc : (0 ≤ c ∧ c ≤ 32) ∨ (33 ≤ c ∧ c ≤ 47) ∨ (48 ≤ c ∧ c ≤ 57) ∨ (58 ≤ c ∧ c ≤ 64) ∨ (65 ≤ c ∧ c ≤ 90) ∨ (91 ≤ c ∧ c ≤ 96) ∨ (97 ≤ c ∧ c ≤ 122) ∨ (123 ≤ c ∧ c ≤ 126) ∨ 127 ≤ c := by omega
  rcases hc with ⟨h, h0⟩ | ⟨h, h0⟩ | ⟨h, h0⟩ | ⟨h, h0⟩ | ⟨h, h0⟩ | ⟨h, h0⟩ | ⟨h, h0⟩ | ⟨h, h0⟩ | h
  · have hd : dig c = false := by simp [dig]; omega
    have hm : isMark c = false := by simp [isMark]; omega
    have e0 : decide ((65 : Int) ≤ (c : Int)) = false := by simp; omega
    have e1 : decide ((c : Int) ≤ 90) = true := by simp; omega
    have e2 : decide ((97 : Int) ≤ (c : Int)) = false := by simp; omega
    have e3 : decide ((c : Int) ≤ 122) = true := by simp; omega
    have e4 : decide ((33 : Int) ≤ (c : Int)) = false := by simp; omega
    have e5 : decide ((c : Int) ≤ 126) = true := by simp; omega
    have hdc := isDigit_any c
    rw [hd] at hdc
    have HM := Lib.hid hm
    clear hd hm
    go_enter Tryz.func179, Tryz.ntmps179
    go_wp2_with (go_at_call 176; refine (hdc _).mono ?_; rintro e w' ⟨rfl, rfl⟩)
    go_ret
    exact ⟨by rw [HM.out]; rfl, rfl⟩
  · have hd : dig c = false := by simp [dig]; omega
    have hm : isMark c = true := by simp [isMark]; omega
    have e0 : decide ((65 : Int) ≤ (c : Int)) = false := by simp; omega
    have e1 : decide ((c : Int) ≤ 90) = true := by simp; omega
    have e2 : decide ((97 : Int) ≤ (c : Int)) = false := by simp; omega
    have e3 : decide ((c : Int) ≤ 122) = true := by simp; omega
    have e4 : decide ((33 : Int) ≤ (c : Int)) = true := by simp; omega
    have e5 : decide ((c : Int) ≤ 126) = true := by simp; omega
    have hdc := isDigit_any c
    rw [hd] at hdc
    have HM := Lib.hid hm
    clear hd hm
    go_enter Tryz.func179, Tryz.ntmps179
    go_wp2_with (go_at_call 176; refine (hdc _).mono ?_; rintro e w' ⟨rfl, rfl⟩)
    go_ret
    exact ⟨by rw [HM.out]; rfl, rfl⟩
  · have hd : dig c = true := by simp [dig]; omega
    have hm : isMark c = false := by simp [isMark]; omega
    have e0 : decide ((65 : Int) ≤ (c : Int)) = false := by simp; omega
    have e1 : decide ((c : Int) ≤ 90) = true := by simp; omega
    have e2 : decide ((97 : Int) ≤ (c : Int)) = false := by simp; omega
    have e3 : decide ((c : Int) ≤ 122) = true := by simp; omega
    have e4 : decide ((33 : Int) ≤ (c : Int)) = true := by simp; omega
    have e5 : decide ((c : Int) ≤ 126) = true := by simp; omega
    have hdc := isDigit_any c
    rw [hd] at hdc
    have HM := Lib.hid hm
    clear hd hm
    go_enter Tryz.func179, Tryz.ntmps179
    go_wp2_with (go_at_call 176; refine (hdc _).mono ?_; rintro e w' ⟨rfl, rfl⟩)
    go_ret
    exact ⟨by rw [HM.out]; rfl, rfl⟩
  · have hd : dig c = false := by simp [dig]; omega
    have hm : isMark c = true := by simp [isMark]; omega
    have e0 : decide ((65 : Int) ≤ (c : Int)) = false := by simp; omega
    have e1 : decide ((c : Int) ≤ 90) = true := by simp; omega
    have e2 : decide ((97 : Int) ≤ (c : Int)) = false := by simp; omega
    have e3 : decide ((c : Int) ≤ 122) = true := by simp; omega
    have e4 : decide ((33 : Int) ≤ (c : Int)) = true := by simp; omega
    have e5 : decide ((c : Int) ≤ 126) = true := by simp; omega
    have hdc := isDigit_any c
    rw [hd] at hdc
    have HM := Lib.hid hm
    clear hd hm
    go_enter Tryz.func179, Tryz.ntmps179
    go_wp2_with (go_at_call 176; refine (hdc _).mono ?_; rintro e w' ⟨rfl, rfl⟩)
    go_ret
    exact ⟨by rw [HM.out]; rfl, rfl⟩
  · have hd : dig c = false := by simp [dig]; omega
    have hm : isMark c = false := by simp [isMark]; omega
    have e0 : decide ((65 : Int) ≤ (c : Int)) = true := by simp; omega
    have e1 : decide ((c : Int) ≤ 90) = true := by simp; omega
    have e2 : decide ((97 : Int) ≤ (c : Int)) = false := by simp; omega
    have e3 : decide ((c : Int) ≤ 122) = true := by simp; omega
    have e4 : decide ((33 : Int) ≤ (c : Int)) = true := by simp; omega
    have e5 : decide ((c : Int) ≤ 126) = true := by simp; omega
    have hdc := isDigit_any c
    rw [hd] at hdc
    have HM := Lib.hid hm
    clear hd hm
    go_enter Tryz.func179, Tryz.ntmps179
    go_wp2_with (go_at_call 176; refine (hdc _).mono ?_; rintro e w' ⟨rfl, rfl⟩)
    go_ret
    exact ⟨by rw [HM.out]; rfl, rfl⟩
  · have hd : dig c = false := by simp [dig]; omega
    have hm : isMark c = true := by simp [isMark]; omega
    have e0 : decide ((65 : Int) ≤ (c : Int)) = true := by simp; omega
    have e1 : decide ((c : Int) ≤ 90) = false := by simp; omega
    have e2 : decide ((97 : Int) ≤ (c : Int)) = false := by simp; omega
    have e3 : decide ((c : Int) ≤ 122) = true := by simp; omega
    have e4 : decide ((33 : Int) ≤ (c : Int)) = true := by simp; omega
    have e5 : decide ((c : Int) ≤ 126) = true := by simp; omega
    have hdc := isDigit_any c
    rw [hd] at hdc
    have HM := Lib.hid hm
    clear hd hm
    go_enter Tryz.func179, Tryz.ntmps179
    go_wp2_with (go_at_call 176; refine (hdc _).mono ?_; rintro e w' ⟨rfl, rfl⟩)
    go_ret
    exact ⟨by rw [HM.out]; rfl, rfl⟩
  · have hd : dig c = false := by simp [dig]; omega
    have hm : isMark c = false := by simp [isMark]; omega
    have e0 : decide ((65 : Int) ≤ (c : Int)) = true := by simp; omega
    have e1 : decide ((c : Int) ≤ 90) = false := by simp; omega
    have e2 : decide ((97 : Int) ≤ (c : Int)) = true := by simp; omega
    have e3 : decide ((c : Int) ≤ 122) = true := by simp; omega
    have e4 : decide ((33 : Int) ≤ (c : Int)) = true := by simp; omega
    have e5 : decide ((c : Int) ≤ 126) = true := by simp; omega
    have hdc := isDigit_any c
    rw [hd] at hdc
    have HM := Lib.hid hm
    clear hd hm
    go_enter Tryz.func179, Tryz.ntmps179
    go_wp2_with (go_at_call 176; refine (hdc _).mono ?_; rintro e w' ⟨rfl, rfl⟩)
    go_ret
    exact ⟨by rw [HM.out]; rfl, rfl⟩
  · have hd : dig c = false := by simp [dig]; omega
    have hm : isMark c = true := by simp [isMark]; omega
    have e0 : decide ((65 : Int) ≤ (c : Int)) = true := by simp; omega
    have e1 : decide ((c : Int) ≤ 90) = false := by simp; omega
    have e2 : decide ((97 : Int) ≤ (c : Int)) = true := by simp; omega
    have e3 : decide ((c : Int) ≤ 122) = false := by simp; omega
    have e4 : decide ((33 : Int) ≤ (c : Int)) = true := by simp; omega
    have e5 : decide ((c : Int) ≤ 126) = true := by simp; omega
    have hdc := isDigit_any c
    rw [hd] at hdc
    have HM := Lib.hid hm
    clear hd hm
    go_enter Tryz.func179, Tryz.ntmps179
    go_wp2_with (go_at_call 176; refine (hdc _).mono ?_; rintro e w' ⟨rfl, rfl⟩)
    go_ret
    exact ⟨by rw [HM.out]; rfl, rfl⟩
  · have hd : dig c = false := by simp [dig]; omega
    have hm : isMark c = false := by simp [isMark]; omega
    have e0 : decide ((65 : Int) ≤ (c : Int)) = true := by simp; omega
    have e1 : decide ((c : Int) ≤ 90) = false := by simp; omega
    have e2 : decide ((97 : Int) ≤ (c : Int)) = true := by simp; omega
    have e3 : decide ((c : Int) ≤ 122) = false := by simp; omega
    have e4 : decide ((33 : Int) ≤ (c : Int)) = true := by simp; omega
    have e5 : decide ((c : Int) ≤ 126) = false := by simp; omega
    have hdc := isDigit_any c
    rw [hd] at hdc
    have HM := Lib.hid hm
    clear hd hm
    go_enter Tryz.func179, Tryz.ntmps179
    go_wp2_with (go_at_call 176; refine (hdc _).mono ?_; rintro e w' ⟨rfl, rfl⟩)
    go_ret
    exact ⟨by rw [HM.out]; rfl, rfl⟩

theorem hex_yes (c : Nat) (W : World) (h9 : c < 256) (hx : isHex c = true) : Calls Tryz.prog 183 #[.int .u8 (c : Nat)] W fun e w' => e = .returned (.tuple #[.int .i64 (hexV c : Nat), .bool true]) ∧ W = w' := by
  have hc : (48 ≤ c ∧ c ≤ 57) ∨ (97 ≤ c ∧ c ≤ 102) := by simp [isHex] at hx; omega
  clear hx
  rcases hc with ⟨h, h0⟩ | ⟨h, h0⟩
  · have hd : dig c = true := by simp [dig]; omega
    have e0 : decide ((97 : Int) ≤ (c : Int)) = false := by simp; omega
    have e1 : decide ((c : Int) ≤ 102) = true := by simp; omega
    have hv : ((hexV c : Nat) : Int) = (c : Int) - 48 := by unfold hexV; split <;> omega
    have hdc := isDigit_any c
    rw [hd] at hdc
    clear hd
    have HV := Lib.hid hv
    clear hv
    go_enter Tryz.func183, Tryz.ntmps183
    go_wp2_with (go_at_call 176; refine (hdc _).mono ?_; rintro e w' ⟨rfl, rfl⟩)
    go_ret2
    exact ⟨by rw [HV.out]; rfl, rfl⟩
  · have hd : dig c = false := by simp [dig]; omega
    have e0 : decide ((97 : Int) ≤ (c : Int)) = true := by simp; omega
    have e1 : decide ((c : Int) ≤ 102) = true := by simp; omega
    have hv : ((hexV c : Nat) : Int) = (c : Int) - 97 + 10 := by unfold hexV; split <;> omega
    have hdc := isDigit_any c
    rw [hd] at hdc
    clear hd
    have HV := Lib.hid hv
    clear hv
    go_enter Tryz.func183, Tryz.ntmps183
    go_wp2_with (go_at_call 176; refine (hdc _).mono ?_; rintro e w' ⟨rfl, rfl⟩)
    go_ret2
    exact ⟨by rw [HV.out]; rfl, rfl⟩

theorem hex_no (c : Nat) (W : World) (h9 : c < 256) (hx : isHex c = false) : Calls Tryz.prog 183 #[.int .u8 (c : Nat)] W fun e w' => e = .returned (.tuple #[.int .i64 0, .bool false]) ∧ W = w' := by
  have hc : (0 ≤ c ∧ c ≤ 47) ∨ (58 ≤ c ∧ c ≤ 96) ∨ 103 ≤ c := by simp [isHex] at hx; omega
  clear hx
  rcases hc with ⟨h, h0⟩ | ⟨h, h0⟩ | h
  · have hd : dig c = false := by simp [dig]; omega
    have e0 : decide ((97 : Int) ≤ (c : Int)) = false := by simp; omega
    have e1 : decide ((c : Int) ≤ 102) = true := by simp; omega
    have hdc := isDigit_any c
    rw [hd] at hdc
    clear hd
    go_enter Tryz.func183, Tryz.ntmps183
    go_wp2_with (go_at_call 176; refine (hdc _).mono ?_; rintro e w' ⟨rfl, rfl⟩)
    go_ret2
    exact ⟨rfl, rfl⟩
  · have hd : dig c = false := by simp [dig]; omega
    have e0 : decide ((97 : Int) ≤ (c : Int)) = false := by simp; omega
    have e1 : decide ((c : Int) ≤ 102) = true := by simp; omega
    have hdc := isDigit_any c
    rw [hd] at hdc
    clear hd
    go_enter Tryz.func183, Tryz.ntmps183
    go_wp2_with (go_at_call 176; refine (hdc _).mono ?_; rintro e w' ⟨rfl, rfl⟩)
    go_ret2
    exact ⟨rfl, rfl⟩
  · have hd : dig c = false := by simp [dig]; omega
    have e0 : decide ((97 : Int) ≤ (c : Int)) = true := by simp; omega
    have e1 : decide ((c : Int) ≤ 102) = false := by simp; omega
    have hdc := isDigit_any c
    rw [hd] at hdc
    clear hd
    go_enter Tryz.func183, Tryz.ntmps183
    go_wp2_with (go_at_call 176; refine (hdc _).mono ?_; rintro e w' ⟨rfl, rfl⟩)
    go_ret2
    exact ⟨rfl, rfl⟩

/-- An operation of a region that draws its order, taken first: its slot is named. -/
theorem take_d {P : Program} {md : Region.Mode} {ops : Array Oper} {Q : Exit → Act → World → Prop} {S : World → Prop} {fuel : Nat} {listed : Array Bool} {a : Act} {w : World} (i d : Nat) (v : Value) (oi : Oper) (hi : ops[i]? = some oi) (hd : oi.dst = some d)
    (hs : Region.noSelect ops = true) (hf : Region.free md ops listed i = true) (hr : (Region.ready md ops listed).contains i = true)
    (hQ : ∀ c a w, Q (.panic c) (a.put oi.dst v) w → Q (.panic c) a w) (hy : YieldsIf P ops S oi v a) (hS : S w)
    (h : wpAnyH P md ops Q S fuel (listed.setIfInBounds i true) { tmps := a.tmps.setIfInBounds d v, defers := a.defers } w) : wpAnyH P md ops Q S (fuel + 1) listed a w :=
  wpAnyH_take hi hs hf hr hQ hy hS (by rw [hd]; exact h)

theorem pre_one (c : UInt8) (t : List UInt8) (hc : c ≠ 0) : pre [c] t = decide (at_ t 0 = c.toNat) := by
  cases t with
  | nil =>
    have : ¬ (0 : Nat) = c.toNat := fun e => hc (by apply UInt8.toNat_inj.1; simpa using e.symm)
    simp [pre, at_nil, this]
  | cons a t =>
    rw [at_cons]
    simp only [pre, List.isPrefixOf, Bool.and_true]
    rw [Bool.eq_iff_iff, beq_iff_eq, decide_eq_true_eq]
    exact ⟨fun e => by rw [e], fun e => (UInt8.toNat_inj.1 e).symm⟩
theorem at_len {t : List UInt8} {j : Nat} (h : at_ t j ≠ 0) : j < t.length := by
  rcases Nat.lt_or_ge j t.length with hl | hl
  · exact hl
  · exact absurd (at_out hl) h

set_option maxRecDepth 100000 in
set_option maxHeartbeats 1000000 in
theorem sign_any (hR : Rd n₀ rb tb cap s w σ d fc fa bv) :
    Calls Tryz.prog 175 #[.pointer (some ⟨rb, 0, none⟩)] w fun e w' => e = .returned (.int .u8 (sign σ.t : Nat)) ∧ Below w.heap.size w w' := by
  have hs := fun W (h : Rd n₀ rb tb cap s W σ d fc fa bv) => sees_any [92] h
  have hp := hR.pos
  have ht := hR.tl
  have hl := hR.len
  by_cases h : at_ σ.t 0 = 92
  · have hpre : pre [92] σ.t = true := by rw [pre_one 92 _ (by decide)]; simpa using h
    rw [hpre] at hs
    have hlen := at_len (t := σ.t) (j := 0) (by omega)
    by_cases h2 : σ.pos + 1 < s.length
    · have HS := Lib.hid hs
      have HR := Lib.hid hR
      have hx := at_lt σ.t 1
      have c0 := hR.c0
      have c1 := hR.c1
      have hge : ¬ (s.length : Int) ≤ (σ.pos : Int) + 1 := by omega
      have hlt : (σ.pos : Int) + 1 < (s.length : Int) := by omega
      have hw1 : IntKind.i64.wrap ((σ.pos : Int) + 1) = (σ.pos : Int) + 1 := IntWalk.i64_in _ (by omega)
      have hc1 : ∀ W, Rd n₀ rb tb cap s W σ d fc fa bv → W.cell? ⟨tb, σ.pos + 1, none⟩ = some (.int .u8 ((at_ σ.t 1 : Nat) : Int)) := fun W hW => by
        have := hW.at_ (j := 1) (by omega)
        rwa [Nat.zero_add] at this
      have HC := Lib.hid hc1
      have hsg : sign σ.t = at_ σ.t 1 := by unfold sign; rw [if_pos h]
      rw [hsg]
      clear hs hR hc1 h hpre hsg
      go_enter Tryz.func175, Tryz.ntmps175
      go_wp2
      go_region_held3 (fun w' => w'.cell? ⟨rb, 0, none⟩ = some (.slice (some ⟨tb, 0, none⟩) s.length cap) ∧ w'.cell? ⟨rb, 1, none⟩ = some (.int .i64 (σ.pos : Nat))) (go_keep)
        (first | (go_at_call 92; refine (HS.out _ HR.out.drew).mono ?_; rintro e w1 ⟨rfl, hb⟩; have hR1 := HR.out.drew.on hb; have c0' := hR1.c0; have c1' := hR1.c1))
      have cc := HC.out _ hR1
      have hbl := (bdrew w 1).trans (hb : Below w.heap.size w.drew w1)
      clear hR1 hb
      go_wp2
      go_quiet (fail)
      go_wp2
      go_ret
      exact ⟨rfl, hbl.trans (Below.mono (bdrew _ _) hbl.size)⟩
    · have HS := Lib.hid hs
      have HR := Lib.hid hR
      have c0 := hR.c0
      have c1 := hR.c1
      have hge : (s.length : Int) ≤ (σ.pos : Int) + 1 := by omega
      have hw1 : IntKind.i64.wrap ((σ.pos : Int) + 1) = (σ.pos : Int) + 1 := IntWalk.i64_in _ (by omega)
      have hsg : sign σ.t = 0 := by unfold sign; rw [if_pos h]; exact at_out (by omega)
      rw [hsg]
      clear hs hR h hpre hsg
      go_enter Tryz.func175, Tryz.ntmps175
      go_wp2
      go_region_held3 (fun w' => w'.cell? ⟨rb, 0, none⟩ = some (.slice (some ⟨tb, 0, none⟩) s.length cap) ∧ w'.cell? ⟨rb, 1, none⟩ = some (.int .i64 (σ.pos : Nat))) (go_keep)
        (first | (go_at_call 92; refine (HS.out _ HR.out.drew).mono ?_; rintro e w1 ⟨rfl, hb⟩; have hR1 := HR.out.drew.on hb; have c0' := hR1.c0; have c1' := hR1.c1))
      have hbl := (bdrew w 1).trans (hb : Below w.heap.size w.drew w1)
      clear hR1 hb
      go_wp2
      go_ret
      exact ⟨rfl, hbl⟩
  · have hpre : pre [92] σ.t = false := by rw [pre_one 92 _ (by decide)]; simpa using h
    rw [hpre] at hs
    have HS := Lib.hid hs
    have HR := Lib.hid hR
    have c0 := hR.c0
    have c1 := hR.c1
    have hsg : sign σ.t = 0 := sign_else h
    rw [hsg]
    clear hs hR h hpre hsg
    go_enter Tryz.func175, Tryz.ntmps175
    go_wp2
    refine wp_region_held_drew (S := fun _ => True) (by kernel_rfl) trivial (fun hHeld => ?_)
    refine take_d 0 3 (.pointer (some ⟨rb, 0, none⟩)) _ rfl rfl (by kernel_rfl) (by kernel_rfl) (by kernel_rfl) (fun _ _ _ h => h) (Or.inl ⟨by rfl, fun w' hSw => ?_⟩) hHeld ?_
    · go_simp
    simp only [List.setIfInBounds_toArray, List.set_cons_zero, List.set_cons_succ]
    refine wpAnyH_ready (rs := [1]) (by kernel_rfl) (by simp) ?_
    refine AllReadyH.cons rfl (fun K hK => ?_) AllReadyH.nil
    go_simp
    refine (HS.out _ HR.out.drew).mono ?_
    rintro e w1 ⟨rfl, hb⟩
    refine hK.out _ _ trivial (fun hHeld => ?_)
    clear hK K
    refine take_d 2 5 (.bool true) _ rfl rfl (by kernel_rfl) (by kernel_rfl) (by kernel_rfl) (fun _ _ _ h => h) (Or.inl ⟨by rfl, fun w' hSw => ?_⟩) hHeld ?_
    · go_simp
    simp only [List.setIfInBounds_toArray, List.set_cons_zero, List.set_cons_succ]
    refine take_d 3 6 (.bool true) _ rfl rfl (by kernel_rfl) (by kernel_rfl) (by kernel_rfl) (fun _ _ _ h => h) (Or.inl ⟨by rfl, fun w' hSw => ?_⟩) hHeld ?_
    · go_simp
    simp only [List.setIfInBounds_toArray, List.set_cons_zero, List.set_cons_succ]
    refine take_d 4 7 undef _ rfl rfl (by kernel_rfl) (by kernel_rfl) (by kernel_rfl) (fun _ _ _ h => h) (Or.inr ⟨by rfl, rfl⟩) hHeld ?_
    simp only [List.setIfInBounds_toArray, List.set_cons_zero, List.set_cons_succ]
    refine take_d 5 8 undef _ rfl rfl (by kernel_rfl) (by kernel_rfl) (by kernel_rfl) (fun _ _ _ h => h) (Or.inr ⟨by rfl, rfl⟩) hHeld ?_
    simp only [List.setIfInBounds_toArray, List.set_cons_zero, List.set_cons_succ]
    refine take_d 6 9 undef _ rfl rfl (by kernel_rfl) (by kernel_rfl) (by kernel_rfl) (fun _ _ _ h => h) (Or.inr ⟨by rfl, rfl⟩) hHeld ?_
    simp only [List.setIfInBounds_toArray, List.set_cons_zero, List.set_cons_succ]
    refine take_d 7 10 undef _ rfl rfl (by kernel_rfl) (by kernel_rfl) (by kernel_rfl) (fun _ _ _ h => h) (Or.inr ⟨by rfl, rfl⟩) hHeld ?_
    simp only [List.setIfInBounds_toArray, List.set_cons_zero, List.set_cons_succ]
    refine take_d 8 11 undef _ rfl rfl (by kernel_rfl) (by kernel_rfl) (by kernel_rfl) (fun _ _ _ h => h) (Or.inr ⟨by rfl, rfl⟩) hHeld ?_
    simp only [List.setIfInBounds_toArray, List.set_cons_zero, List.set_cons_succ]
    refine take_d 9 12 undef _ rfl rfl (by kernel_rfl) (by kernel_rfl) (by kernel_rfl) (fun _ _ _ h => h) (Or.inr ⟨by rfl, rfl⟩) hHeld ?_
    simp only [List.setIfInBounds_toArray, List.set_cons_zero, List.set_cons_succ]
    refine take_d 10 13 undef _ rfl rfl (by kernel_rfl) (by kernel_rfl) (by kernel_rfl) (fun _ _ _ h => h) (Or.inr ⟨by rfl, rfl⟩) hHeld ?_
    simp only [List.setIfInBounds_toArray, List.set_cons_zero, List.set_cons_succ]
    refine take_d 11 14 undef _ rfl rfl (by kernel_rfl) (by kernel_rfl) (by kernel_rfl) (fun _ _ _ h => h) (Or.inr ⟨by rfl, rfl⟩) hHeld ?_
    simp only [List.setIfInBounds_toArray, List.set_cons_zero, List.set_cons_succ]
    refine take_d 12 15 undef _ rfl rfl (by kernel_rfl) (by kernel_rfl) (by kernel_rfl) (fun _ _ _ h => h) (Or.inr ⟨by rfl, rfl⟩) hHeld ?_
    simp only [List.setIfInBounds_toArray, List.set_cons_zero, List.set_cons_succ]
    refine take_d 13 16 undef _ rfl rfl (by kernel_rfl) (by kernel_rfl) (by kernel_rfl) (fun _ _ _ h => h) (Or.inr ⟨by rfl, rfl⟩) hHeld ?_
    simp only [List.setIfInBounds_toArray, List.set_cons_zero, List.set_cons_succ]
    refine take_d 14 17 undef _ rfl rfl (by kernel_rfl) (by kernel_rfl) (by kernel_rfl) (fun _ _ _ h => h) (Or.inr ⟨by rfl, rfl⟩) hHeld ?_
    simp only [List.setIfInBounds_toArray, List.set_cons_zero, List.set_cons_succ]
    refine take_d 15 18 (.bool true) _ rfl rfl (by kernel_rfl) (by kernel_rfl) (by kernel_rfl) (fun _ _ _ h => h) (Or.inl ⟨by rfl, fun w' hSw => ?_⟩) hHeld ?_
    · go_simp
    simp only [List.setIfInBounds_toArray, List.set_cons_zero, List.set_cons_succ]
    refine wpAnyH_done (by kernel_rfl) ?_ _
    have hbl := (bdrew w 1).trans (hb : Below w.heap.size w.drew w1)
    clear hb
    go_wp2
    go_ret
    exact ⟨rfl, hbl⟩

end Go.Proofs.YtefgobmpleoafaaGreatDoor

/- An escape that stands for one unit, as a contract. -/
namespace Go.Proofs.YtefgobmpleoafaaGreatDoor
open Go.RowKit
variable {n₀ rb tb cap d : Nat} {s : List UInt8} {w w' : World} {σ σ1 : St} {fc fa : Int} {bv : Value}

/-- The reader has told a fault. -/
def Bad (w : World) (rb : Nat) (f : Flt) : Prop := w.cell? ⟨rb, 5, none⟩ = some (.int .i64 (f.1 : Nat)) ∧ w.cell? ⟨rb, 6, none⟩ = some (.int .i64 (f.2 : Nat))
theorem Bad.keep {rb : Nat} {f : Flt} (h : Bad w rb f) (hk : w'.heap[rb]? = w.heap[rb]?) : Bad w' rb f := ⟨(cell_same hk _).trans h.1, (cell_same hk _).trans h.2⟩
theorem Bad.alloc {rb : Nat} {f : Flt} (h : Bad w rb f) (o : Obj) : Bad (w.alloc o) rb f := h.keep (Below.heap_alloc w o rb (block_lt_of_cell h.1))
theorem Bad.far {rb : Nat} {f : Flt} (h : Bad w rb f) {p : Addr} (hp : rb ≠ p.block) (u : Value) : Bad (w.setCell p u) rb f := h.keep (Below.heap_setCell w p u rb hp)

theorem refuse_bad (c p : Nat) (hR : Rd n₀ rb tb cap s w σ d fc fa bv) :
    Calls Tryz.prog 78 #[.pointer (some ⟨rb, 0, none⟩), .int .i64 (c : Nat), .int .i64 (p : Nat)] w fun e w' => e = .returned (.bool false) ∧ Bad w' rb (c, p) ∧ Fr n₀ rb w w' :=
  (refuse_any (c : Nat) (p : Nat) hR).mono fun e w' ⟨he, hw⟩ => by
    subst hw
    have b1 := (hR.blk.set_ 5 (.int .i64 (c : Nat))).set_ 6 (.int .i64 (p : Nat))
    refine ⟨he, ⟨?_, ?_⟩, ((Fr.refl w).set_ hR.low (.inr rfl) _).set_ hR.low (.inr rfl) _⟩
    · have := b1.cell 5
      simpa using this
    · have := b1.cell 6
      simpa using this
theorem hexq_yes (c : Nat) (W : World) (h9 : c < 256) (hx : isHex c = true) : Calls Tryz.prog 183 #[.int .u8 (c : Nat)] W fun e w' => e = .returned (.tuple #[.int .i64 (hexV c : Nat), .bool true]) ∧ w' = W :=
  (hex_yes c W h9 hx).mono fun _ _ ⟨a, b⟩ => ⟨a, b.symm⟩
theorem hexq_no (c : Nat) (W : World) (h9 : c < 256) (hx : isHex c = false) : Calls Tryz.prog 183 #[.int .u8 (c : Nat)] W fun e w' => e = .returned (.tuple #[.int .i64 0, .bool false]) ∧ w' = W :=
  (hex_no c W h9 hx).mono fun _ _ ⟨a, b⟩ => ⟨a, b.symm⟩
theorem hexV_le {c : Nat} (h : isHex c = true) : hexV c ≤ 15 := by
  simp [isHex] at h
  unfold hexV
  split <;> omega

/-- A call that leaves the world, in a quiet region behind another one. -/
theorem quiet2 {f : FuncId} {args : Array Value} {a n : Nat} {v : Value} (c : Calls Tryz.prog f args (w.drewN (a + n)) fun e w' => e = .returned v ∧ w' = w.drewN (a + n)) :
    Calls Tryz.prog f args (w.drewN (a + n)) fun e w' => e = .returned v ∧ ∃ m, w' = w.drewN (a + m) := c.mono fun _ _ ⟨he, hw⟩ => ⟨he, n, hw⟩

set_option maxRecDepth 100000 in
set_option maxHeartbeats 1000000 in
theorem hexUnit_short (h : σ.t.length < 4) (hR : Rd n₀ rb tb cap s w σ d fc fa bv) :
    Calls Tryz.prog 178 #[.pointer (some ⟨rb, 0, none⟩)] w fun e w' => e = .returned (.tuple #[.int .i64 0, .bool false]) ∧ Bad w' rb (21, σ.pos) ∧ Fr n₀ rb w w' := by
  have c0 := hR.c0
  have c1 := hR.c1
  have hp := hR.pos
  have ht := hR.tl
  have hl := hR.len
  have HR := Lib.hid hR
  have hw1 : IntKind.i64.wrap ((s.length : Int) - (σ.pos : Int)) = (s.length : Int) - (σ.pos : Int) := IntWalk.i64_in _ (by omega)
  have hlt : (s.length : Int) - (σ.pos : Int) < 4 := by omega
  clear hR
  go_enter Tryz.func178, Tryz.ntmps178
  go_wp2
  go_quiet (fail)
  go_wp2_with fail
  refine (refuse_bad 21 σ.pos (HR.out.drewN _)).mono ?_
  rintro e w1 ⟨rfl, hB, hF⟩
  go_wp2
  go_ret2
  exact ⟨rfl, hB, ((Fr.refl w).drewN _).trans hF⟩

set_option maxRecDepth 100000 in
set_option maxHeartbeats 1000000 in
theorem hexUnit_long (h : 4 ≤ σ.t.length) (b2 b3 : Bool) (e2 : isHex (at_ σ.t 2) = b2) (e3 : isHex (at_ σ.t 3) = b3) (hR : Rd n₀ rb tb cap s w σ d fc fa bv) :
    Calls Tryz.prog 178 #[.pointer (some ⟨rb, 0, none⟩)] w fun e w' =>
      (b2 = true ∧ b3 = true ∧ e = .returned (.tuple #[.int .i64 (16 * hexV (at_ σ.t 2) + hexV (at_ σ.t 3) : Nat), .bool true]) ∧ Rd n₀ rb tb cap s w' (σ.adv 4) d fc fa bv ∧ Fr n₀ rb w w') ∨
      ((b2 && b3) = false ∧ e = .returned (.tuple #[.int .i64 0, .bool false]) ∧ Bad w' rb (21, σ.pos) ∧ Fr n₀ rb w w') := by
  have c0 := hR.c0
  have c1 := hR.c1
  have c1f := hR.fz 1
  have d2 := hR.at_ (j := 2) (by omega)
  have d3 := hR.at_ (j := 3) (by omega)
  rw [Nat.zero_add] at d2 d3
  have hp := hR.pos
  have ht := hR.tl
  have hl := hR.len
  have HR := Lib.hid hR
  have hw1 : IntKind.i64.wrap ((s.length : Int) - (σ.pos : Int)) = (s.length : Int) - (σ.pos : Int) := IntWalk.i64_in _ (by omega)
  have hw2 : IntKind.i64.wrap ((σ.pos : Int) + 2) = (σ.pos : Int) + 2 := IntWalk.i64_in _ (by omega)
  have hw3 : IntKind.i64.wrap ((σ.pos : Int) + 3) = (σ.pos : Int) + 3 := IntWalk.i64_in _ (by omega)
  have q2 : ((σ.pos : Int) + 2).toNat = σ.pos + 2 := by omega
  have q3 : ((σ.pos : Int) + 3).toNat = σ.pos + 3 := by omega
  have q4 : (0 : Int) ≤ (σ.pos : Int) + 2 := by omega
  have q5 : (0 : Int) ≤ (σ.pos : Int) + 3 := by omega
  have hlt : ¬ (s.length : Int) - (σ.pos : Int) < 4 := by omega
  have hl2 : (σ.pos : Int) + 2 < (s.length : Int) := by omega
  have hl3 : (σ.pos : Int) + 3 < (s.length : Int) := by omega
  have x2 := at_lt σ.t 2
  have x3 := at_lt σ.t 3
  obtain ⟨a, ha⟩ : ∃ a, a = at_ σ.t 2 := ⟨_, rfl⟩
  obtain ⟨b, hb⟩ : ∃ b, b = at_ σ.t 3 := ⟨_, rfl⟩
  rw [← ha] at d2 e2 x2 ⊢
  rw [← hb] at d3 e3 x3 ⊢
  clear hR ha hb
  cases b2
  · have k2 := fun W => hexq_no a W x2 e2
    cases b3
    · have k3 := fun W => hexq_no b W x3 e3
      clear e2 e3
      go_enter Tryz.func178, Tryz.ntmps178
      go_wp2
      go_quiet (fail)
      go_wp2
      go_quiet ((go_at_call 183; exact quiet2 (k2 _)))
      go_wp2
      go_quiet ((go_at_call 183; exact quiet2 (k3 _)))
      go_wp2_with fail
      refine (refuse_bad 21 σ.pos (HR.out.drewN _)).mono ?_
      rintro e w1 ⟨rfl, hB, hF⟩
      go_wp2
      go_ret2
      exact .inr ⟨rfl, rfl, hB, ((Fr.refl w).drewN _).trans hF⟩
    · have k3 := fun W => hexq_yes b W x3 e3
      clear e2 e3
      go_enter Tryz.func178, Tryz.ntmps178
      go_wp2
      go_quiet (fail)
      go_wp2
      go_quiet ((go_at_call 183; exact quiet2 (k2 _)))
      go_wp2
      go_quiet ((go_at_call 183; exact quiet2 (k3 _)))
      go_wp2_with fail
      refine (refuse_bad 21 σ.pos (HR.out.drewN _)).mono ?_
      rintro e w1 ⟨rfl, hB, hF⟩
      go_wp2
      go_ret2
      exact .inr ⟨rfl, rfl, hB, ((Fr.refl w).drewN _).trans hF⟩
  · have k2 := fun W => hexq_yes a W x2 e2
    have y2 := hexV_le e2
    cases b3
    · have k3 := fun W => hexq_no b W x3 e3
      clear e2 e3
      go_enter Tryz.func178, Tryz.ntmps178
      go_wp2
      go_quiet (fail)
      go_wp2
      go_quiet ((go_at_call 183; exact quiet2 (k2 _)))
      go_wp2
      go_quiet ((go_at_call 183; exact quiet2 (k3 _)))
      go_wp2_with fail
      refine (refuse_bad 21 σ.pos (HR.out.drewN _)).mono ?_
      rintro e w1 ⟨rfl, hB, hF⟩
      go_wp2
      go_ret2
      exact .inr ⟨rfl, rfl, hB, ((Fr.refl w).drewN _).trans hF⟩
    · have k3 := fun W => hexq_yes b W x3 e3
      have y3 := hexV_le e3
      clear e2 e3
      obtain ⟨x, hx⟩ : ∃ x, x = hexV a := ⟨_, rfl⟩
      obtain ⟨y, hy⟩ : ∃ y, y = hexV b := ⟨_, rfl⟩
      simp only [← hx] at k2 y2 ⊢
      simp only [← hy] at k3 y3 ⊢
      clear hx hy
      go_enter Tryz.func178, Tryz.ntmps178
      go_wp2
      go_quiet (fail)
      go_wp2
      go_quiet ((go_at_call 183; exact quiet2 (k2 _)))
      go_wp2
      go_quiet ((go_at_call 183; exact quiet2 (k3 _)))
      go_wp2
      go_ret2
      exact .inl ⟨trivial, trivial, ret_int_bool (by omega) rfl, (HR.out.drewN _).step' (n := 4) (by omega), (HR.out.drewN _).below_set ((Fr.refl w).drewN _) _ _⟩

end Go.Proofs.YtefgobmpleoafaaGreatDoor

