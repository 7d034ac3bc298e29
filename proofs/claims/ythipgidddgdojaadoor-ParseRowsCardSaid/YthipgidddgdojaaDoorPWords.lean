/- The reader in memory: its block, the text, the references; what a call of the reader keeps; nodes in memory. -/
import Derived.Test.YthipgidddgdojaaDoorClWords
import Derived.Test.YthipgidddgdojaaDoorSplit
import Derived.Test.YthipgidddgdojaaDoorPmSim
import Derived.Laws.Rows
import Derived.Deep.Draws
namespace Go.Proofs.YthipgidddgdojaaDoor
open Go.RowKit
open Go.Proofs.YthipgidddgdojaaDoor.Cl (Rg SetV SetAt rgCells)

/-! ### A block that is known whole -/
def Blk (w : World) (g : Nat) (t : TypeId) (cs : Array Value) : Prop := w.heap[g]? = some (.cells cs t (0, 0))
section
variable {w w' : World} {g : Nat} {t : TypeId} {cs : Array Value}
theorem lt_of_some {o : Obj} (h : w.heap[g]? = some o) : g < w.heap.size := by
  rcases Nat.lt_or_ge g w.heap.size with hlt | hge
  · exact hlt
  · rw [Array.getElem?_eq_none hge] at h; cases h
theorem Blk.lt (h : Blk w g t cs) : g < w.heap.size := lt_of_some h
theorem Blk.cell (h : Blk w g t cs) (i : Nat) : w.cell? ⟨g, i, none⟩ = cs[i]? := cell_of_row w g i cs t (0, 0) h
theorem Blk.frozen (h : Blk w g t cs) (i : Nat) : w.frozen? ⟨g, i, none⟩ = false := by
  unfold Blk at h
  simp [World.frozen?, h]
theorem Blk.new (w : World) (t : TypeId) (cs : Array Value) : Blk (w.alloc (.cells cs t)) w.heap.size t cs := heap_alloc_new w _
theorem Blk.alloc (h : Blk w g t cs) (o : Obj) : Blk (w.alloc o) g t cs := (Below.heap_alloc w o g h.lt).trans h
theorem Blk.set_ (h : Blk w g t cs) (i : Nat) (u : Value) : Blk (w.setCell ⟨g, i, none⟩ u) g t (cs.setIfInBounds i u) := by
  unfold Blk at h ⊢
  simp [World.setCell, Array.getElem?_modify, h]
theorem Blk.far (h : Blk w g t cs) {p : Addr} (hp : g ≠ p.block) (u : Value) : Blk (w.setCell p u) g t cs := (Below.heap_setCell w p u g hp).trans h
theorem Blk.below {B : Nat} (h : Blk w g t cs) (hb : Below B w w') (hg : g < B) : Blk w' g t cs := (hb.block g hg).trans h
theorem Blk.on (h : Blk w g t cs) (hb : Below w.heap.size w w') : Blk w' g t cs := (hb.block g h.lt).trans h
theorem Blk.grown {row : Option Nat} (h : Blk w g t cs) (hb : w.grownBy w' row) (hg : some g ≠ row) : Blk w' g t cs := (hb.block g h.lt hg).trans h
theorem ne_of_types {a b : Array Value} {y z : Nat × Nat} {g' : Nat} {t' : TypeId} (h : w.heap[g]? = some (.cells a t y)) (h' : w.heap[g']? = some (.cells b t' z)) (hne : t ≠ t') : g ≠ g' := by
  rintro rfl
  rw [h] at h'
  injection h' with h'
  injection h' with _ ht
  exact hne ht
theorem Blk.ne_ {g' : Nat} {t' : TypeId} {cs' : Array Value} (h : Blk w g t cs) (h' : Blk w g' t' cs') (hne : t ≠ t') : g ≠ g' := ne_of_types h h' hne
theorem own_ne {base : Nat} {e : TypeId} {size n : Nat} {v : Value} {xs : List Value} {cs : Array Value} {z : Nat × Nat} (h : w.ownsRow base e size v n xs) (hg : w.heap[g]? = some (.cells cs t z)) (hne : e ≠ t) : v.ownBlock ≠ some g := by
  rcases h.2 with ⟨rfl, _⟩ | ⟨g', cap, cur, rfl, _, hh, _⟩
  · simp [Value.ownBlock]
  · intro he
    have : g' = g := by simpa [Value.ownBlock] using he
    subst this
    exact ne_of_types hh hg hne rfl
theorem own_keep {base : Nat} {e : TypeId} {size n : Nat} {v : Value} {xs : List Value} (h : w.ownsRow base e size v n xs) (hk : ∀ i, some i = v.ownBlock → w'.heap[i]? = w.heap[i]?) : w'.ownsRow base e size v n xs := by
  refine ⟨h.1, ?_⟩
  rcases h.2 with h0 | ⟨g, cap, cur, rfl, hb, hh, hr⟩
  · exact .inl h0
  · exact .inr ⟨g, cap, cur, rfl, hb, (hk g rfl).trans hh, hr⟩
end

/-! ### What a call of the reader keeps -/
def isBk (w : World) (i : Nat) : Prop := ∃ cs z, w.heap[i]? = some (.cells cs 59 z)
structure Fr (n₀ rb : Nat) (w w' : World) : Prop where
  os : w'.os = w.os
  tape : w'.tape = w.tape
  output : w'.output = w.output
  size : w.heap.size ≤ w'.heap.size
  block : ∀ i, i < w.heap.size → (i < n₀ ∨ (i ≠ rb ∧ ¬ isBk w i)) → w'.heap[i]? = w.heap[i]?
section
variable {n₀ rb : Nat} {w w' w'' : World}
theorem Fr.refl (w : World) : Fr n₀ rb w w := ⟨rfl, rfl, rfl, Nat.le_refl _, fun _ _ _ => rfl⟩
theorem Fr.trans (h : Fr n₀ rb w w') (k : Fr n₀ rb w' w'') : Fr n₀ rb w w'' :=
  ⟨k.os.trans h.os, k.tape.trans h.tape, k.output.trans h.output, Nat.le_trans h.size k.size, fun i hi hc => by
    have e := h.block i hi hc
    refine (k.block i (Nat.lt_of_lt_of_le hi h.size) ?_).trans e
    rcases hc with hc | ⟨h1, h2⟩
    · exact .inl hc
    · refine .inr ⟨h1, fun ⟨cs, z, hb⟩ => h2 ⟨cs, z, ?_⟩⟩
      rw [← e]
      exact hb⟩
theorem Fr.of_below (h : Below w.heap.size w w') : Fr n₀ rb w w' := ⟨h.os, h.tape, h.output, h.size, fun i hi _ => h.block i hi⟩
theorem Fr.alloc (h : Fr n₀ rb w w') (o : Obj) : Fr n₀ rb w (w'.alloc o) := h.trans (Fr.of_below ((Below.refl _ _).alloc (Nat.le_refl _) o))
theorem Fr.drewN (h : Fr n₀ rb w w') (n : Nat) : Fr n₀ rb w (w'.drewN n) := ⟨h.os, h.tape, h.output, h.size, h.block⟩
/-- A store into a block of the call's own, or into the reader's. -/
theorem Fr.set_ (h : Fr n₀ rb w w') {p : Addr} (hn : n₀ ≤ rb) (hp : w.heap.size ≤ p.block ∨ p.block = rb) (u : Value) : Fr n₀ rb w (w'.setCell p u) :=
  ⟨h.os, h.tape, h.output, by simpa [World.setCell] using h.size, fun i hi hc => by
    refine (Below.heap_setCell _ _ _ _ ?_).trans (h.block i hi hc)
    rcases hp with hp | hp <;> rcases hc with hc | hc <;> omega⟩
theorem Fr.grown (h : Fr n₀ rb w w') {row : Option Nat} (hg : w'.grownBy w'' row) (hr : ∀ k, row = some k → w.heap.size ≤ k) : Fr n₀ rb w w'' :=
  ⟨hg.os.trans h.os, hg.tape.trans h.tape, hg.output.trans h.output, Nat.le_trans h.size hg.size, fun i hi hc =>
    (hg.block i (Nat.lt_of_lt_of_le hi h.size) (fun e => by have := hr i e.symm; omega)).trans (h.block i hi hc)⟩
theorem Fr.old (h : Fr n₀ rb w w') (hn : n₀ ≤ w.heap.size) : Below n₀ w w' := ⟨h.os, h.tape, h.output, h.size, fun i hi => h.block i (by omega) (.inl hi)⟩

/-- A block that no call of the reader writes. -/
def okB (n₀ rb : Nat) (w : World) (b : Nat) : Prop := b < w.heap.size ∧ (b < n₀ ∨ (b ≠ rb ∧ ¬ isBk w b))
theorem Fr.same (h : Fr n₀ rb w w') {b : Nat} (hb : okB n₀ rb w b) : w'.heap[b]? = w.heap[b]? := h.block b hb.1 hb.2
theorem Fr.ok (h : Fr n₀ rb w w') {b : Nat} (hb : okB n₀ rb w b) : okB n₀ rb w' b := by
  refine ⟨Nat.lt_of_lt_of_le hb.1 h.size, ?_⟩
  rcases hb.2 with hc | ⟨h1, h2⟩
  · exact .inl hc
  · refine .inr ⟨h1, fun ⟨cs, z, hh⟩ => h2 ⟨cs, z, ?_⟩⟩
    rw [← h.same hb]
    exact hh
theorem okB.of_type {b : Nat} {t : TypeId} {cs : Array Value} {z : Nat × Nat} (h : w.heap[b]? = some (.cells cs t z)) (ht : t ≠ 59) (hb : b ≠ rb) : okB n₀ rb w b :=
  ⟨lt_of_some h, .inr ⟨hb, fun ⟨_, _, hh⟩ => ne_of_types h hh ht rfl⟩⟩
end

/-! ### Sets and nodes in memory -/
def SetK (K : Nat → Prop) (w : World) (v : Value) (l : List Rg) : Prop :=
  ∃ A cap, v = .slice A l.length cap ∧ l.length ≤ cap ∧ (l ≠ [] → ∃ b off, A = some ⟨b, off, none⟩ ∧ K b ∧ SetAt w b off l)
theorem SetK.nil (K : Nat → Prop) (w : World) : SetK K w (.slice none 0 0) [] := ⟨none, 0, rfl, Nat.le_refl _, fun h => absurd rfl h⟩
theorem cell_same {w w' : World} {b : Nat} (h : w'.heap[b]? = w.heap[b]?) (o : Nat) : w'.cell? ⟨b, o, none⟩ = w.cell? ⟨b, o, none⟩ := World.cell?_of_block (w := w) h
theorem SetK.keep {K K' : Nat → Prop} {w w' : World} {v : Value} {l : List Rg} (h : SetK K w v l) (hk : ∀ b, K b → K' b ∧ w'.heap[b]? = w.heap[b]?) : SetK K' w' v l := by
  obtain ⟨A, cap, hv, hc, h⟩ := h
  refine ⟨A, cap, hv, hc, fun hl => ?_⟩
  obtain ⟨b, off, hA, hb, ht⟩ := h hl
  obtain ⟨k1, k2⟩ := hk b hb
  exact ⟨b, off, hA, k1, fun i r hr => ⟨(cell_same k2 _).trans (ht i r hr).1, (cell_same k2 _).trans (ht i r hr).2⟩⟩
theorem SetK.of_setV {n : Nat} {w : World} {v : Value} {l : List Rg} (h : SetV n w v l) : SetK (· < n) w v l := h
theorem SetK.to_setV {n : Nat} {w : World} {v : Value} {l : List Rg} (h : SetK (· < n) w v l) : SetV n w v l := h
theorem SetK.some_len {K : Nat → Prop} {w : World} {A : Option Addr} {n cap : Nat} {l : List Rg} (h : SetK K w (.slice A n cap) l) : n = l.length := by
  obtain ⟨_, _, hv, _⟩ := h
  injection hv

def Nd.lo : Nd → Int | .mk _ x _ _ _ _ _ => x
def Nd.hi : Nd → Int | .mk _ _ x _ _ _ _ => x
def Nd.mode : Nd → Int | .mk _ _ _ x _ _ _ => x
def Nd.ref : Nd → Int | .mk _ _ _ _ x _ _ => x
def Nd.set : Nd → List Rg | .mk _ _ _ _ _ x _ => x
def Nd.kids : Nd → List Nd | .mk _ _ _ _ _ _ x => x
/-- The cells of a node whose set and kids lie behind these values. -/
def ndCells (nd : Nd) (sv kv : Value) : List Value := [.int .i64 nd.kind, .int .i64 nd.lo, .int .i64 nd.hi, .int .i64 nd.mode, .int .i64 nd.ref, sv, kv]
def NCells (w : World) (b off : Nat) (nd : Nd) (sv kv : Value) : Prop := ∀ j u, (ndCells nd sv kv)[j]? = some u → w.cell? ⟨b, off + j, none⟩ = some u
inductive NodeV (K : Nat → Prop) (w : World) : Nd → Value → Value → Prop
  | mk {k lo hi m r : Int} {set : List Rg} {kids : List Nd} {sv : Value} {A : Option Addr} {cap b off : Nat} (F G : Nat → Value)
      (hs : SetK K w sv set) (hl : kids.length ≤ cap) (hm : kids.length ≤ 1000000 ∧ set.length ≤ 1000000) (hA : kids ≠ [] → A = some ⟨b, off, none⟩ ∧ K b)
      (hk : ∀ (i : Nat) (nd : Nd), kids[i]? = some nd → NodeV K w nd (F i) (G i))
      (hc : ∀ (i : Nat) (nd : Nd), kids[i]? = some nd → NCells w b (off + i * 7) nd (F i) (G i)) : NodeV K w (.mk k lo hi m r set kids) sv (.slice A kids.length cap)
theorem NodeV.keep {K K' : Nat → Prop} {w w' : World} (hk : ∀ b, K b → K' b ∧ w'.heap[b]? = w.heap[b]?) {nd : Nd} {sv kv : Value} (h : NodeV K w nd sv kv) : NodeV K' w' nd sv kv := by
  induction h with
  | mk F G hs hl hm hA _ hc ih =>
    refine NodeV.mk F G (hs.keep hk) hl hm (fun hn => ⟨(hA hn).1, (hk _ (hA hn).2).1⟩) ih (fun i nd hi j u hu => ?_)
    refine (cell_same (hk _ (hA ?_).2).2 _).trans (hc i nd hi j u hu)
    rintro rfl
    simp at hi
theorem NodeV.leaf {K : Nat → Prop} {w : World} {k lo hi m r : Int} {l : List Rg} {sv : Value} (h : SetK K w sv l) (hl : l.length ≤ 1000000) : NodeV K w (.mk k lo hi m r l []) sv (.slice none 0 0) :=
  NodeV.mk (b := 0) (off := 0) (fun _ => .slice none 0 0) (fun _ => .slice none 0 0) h (Nat.le_refl _) ⟨by simp, hl⟩ (fun e => absurd rfl e) (fun _ _ e => by simp at e) (fun _ _ e => by simp at e)
theorem NodeV.one {K : Nat → Prop} {w : World} {k lo hi m r : Int} {l : List Rg} {sv : Value} {nd : Nd} {s0 k0 : Value} {b off cap : Nat} (h : SetK K w sv l) (hl : l.length ≤ 1000000) (hc : 1 ≤ cap) (hb : K b) (hn : NodeV K w nd s0 k0) (hx : NCells w b off nd s0 k0) :
    NodeV K w (.mk k lo hi m r l [nd]) sv (.slice (some ⟨b, off, none⟩) 1 cap) :=
  NodeV.mk (b := b) (off := off) (fun _ => s0) (fun _ => k0) h hc ⟨by simp, hl⟩ (fun _ => ⟨rfl, hb⟩)
    (fun i x e => by
      obtain ⟨hi, rfl⟩ := List.getElem?_eq_some_iff.1 e
      match i, hi with
      | 0, _ => exact hn)
    (fun i x e => by
      obtain ⟨hi, rfl⟩ := List.getElem?_eq_some_iff.1 e
      match i, hi with
      | 0, _ => simpa using hx)
/-- The set's length and the kids' are those in the values. -/
theorem NodeV.lens {K : Nat → Prop} {w : World} {nd : Nd} {sv kv : Value} (h : NodeV K w nd sv kv) : ∃ A B c e, sv = .slice A nd.set.length c ∧ kv = .slice B nd.kids.length e := by
  cases h with
  | mk F G hs _ _ _ _ _ =>
    obtain ⟨A, c, rfl, _⟩ := hs
    exact ⟨A, _, c, _, rfl, rfl⟩

/-! ### Rows of nodes of the call's own -/
def rowCells (L : List (Nd × Value × Value)) : List Value := L.flatMap fun x => ndCells x.1 x.2.1 x.2.2
theorem rowCells_append (a b : List (Nd × Value × Value)) : rowCells (a ++ b) = rowCells a ++ rowCells b := by simp [rowCells]
theorem rowCells_one (nd : Nd) (sv kv : Value) : rowCells [(nd, sv, kv)] = ndCells nd sv kv := by simp [rowCells]
theorem rowCells_len : ∀ (L : List (Nd × Value × Value)), (rowCells L).length = L.length * 7
  | [] => rfl
  | x :: L => by
    have := rowCells_len L
    simp only [rowCells, List.flatMap_cons, List.length_append] at this ⊢
    rw [this]
    simp [ndCells]
    omega
theorem rowCells_get : ∀ (L : List (Nd × Value × Value)) (i j : Nat) (x : Nd × Value × Value) (u : Value), L[i]? = some x → (ndCells x.1 x.2.1 x.2.2)[j]? = some u → (rowCells L)[i * 7 + j]? = some u
  | [], _, _, _, _, h, _ => by simp at h
  | y :: L, 0, j, x, u, h, hu => by
    simp at h
    subst h
    rw [rowCells, List.flatMap_cons, Nat.zero_mul, Nat.zero_add]
    rw [List.getElem?_append_left (List.getElem?_eq_some_iff.1 hu).1]
    exact hu
  | y :: L, i + 1, j, x, u, h, hu => by
    have := rowCells_get L i j x u (by simpa using h) hu
    rw [rowCells, List.flatMap_cons, List.getElem?_append_right (by simp [ndCells]; omega)]
    rw [show (i + 1) * 7 + j - (ndCells y.1 y.2.1 y.2.2).length = i * 7 + j by simp [ndCells]; omega]
    exact this
/-- A row of nodes: its cells are the call's own; each reads as its node. -/
structure RowN (K : Nat → Prop) (w : World) (base : Nat) (v : Value) (L : List (Nd × Value × Value)) : Prop where
  own : w.ownsRow base 27 7 v L.length (rowCells L)
  nodes : ∀ x ∈ L, NodeV K w x.1 x.2.1 x.2.2
theorem RowN.nil (K : Nat → Prop) (w : World) (base : Nat) : RowN K w base (.slice none 0 0) [] := ⟨World.ownsRow_nil _ _ _ _, by simp⟩
/-- .. as the kids of a node. -/
theorem RowN.node {K : Nat → Prop} {w : World} {base : Nat} {v : Value} {L : List (Nd × Value × Value)} (h : RowN K w base v L) (hK : ∀ g, v.ownBlock = some g → K g) (k lo hi m r : Int) (hne : L ≠ []) (hm : L.length ≤ 1000000) :
    NodeV K w (.mk k lo hi m r [] (L.map (·.1))) (.slice none 0 0) v := by
  obtain ⟨hown, hnd⟩ := h
  have hL : 0 < L.length := by cases L <;> simp_all
  obtain ⟨g, cap, hv, _, _⟩ := hown.form hL
  have hcap : L.length ≤ cap := by
    rcases hown.2 with ⟨hv', hn⟩ | ⟨g', cap', cur, hv', _, _, hnc, _⟩
    · omega
    · rw [hv] at hv'
      injection hv' with _ _ hc
      omega
  have hv0 := hv
  subst hv
  have hadd : ∀ j, (⟨g, 0, none⟩ : Addr).add j = ⟨g, 0 + j, none⟩ := fun j => by unfold Addr.add; split <;> simp_all
  have hlen : (L.map (·.1)).length = L.length := by simp
  have key : ∀ (i : Nat) (nd : Nd), (L.map (·.1))[i]? = some nd → ∃ x, L[i]? = some x ∧ x.1 = nd := by
    intro i nd hi
    rw [List.getElem?_map] at hi
    obtain ⟨x, hx, he⟩ := Option.map_eq_some_iff.1 hi
    exact ⟨x, hx, he⟩
  have e := NodeV.mk (K := K) (w := w) (k := k) (lo := lo) (hi := hi) (m := m) (r := r) (set := []) (kids := L.map (·.1)) (sv := .slice none 0 0) (A := some ⟨g, 0, none⟩) (cap := cap) (b := g) (off := 0)
    (fun i => (L[i]?.map (·.2.1)).getD (.slice none 0 0)) (fun i => (L[i]?.map (·.2.2)).getD (.slice none 0 0)) (SetK.nil _ _) (by rw [hlen]; exact hcap) ⟨by rw [hlen]; exact hm, by simp⟩ (fun _ => ⟨rfl, hK g rfl⟩)
    (fun i nd hi => by
      obtain ⟨x, hx, rfl⟩ := key i nd hi
      simp only [hx, Option.map_some, Option.getD_some]
      exact hnd x (List.mem_of_getElem? hx))
    (fun i nd hi j u hu => by
      obtain ⟨x, hx, rfl⟩ := key i nd hi
      simp only [hx, Option.map_some, Option.getD_some] at hu
      have hc := hown.cells (g := g) rfl _ _ (rowCells_get L i j x u hx hu)
      rw [hadd] at hc
      rw [← hc]
      congr 2
      omega)
  rw [hlen] at e
  exact e

/-! ### The reader -/
def bkCells (l : List (Nat × Nat)) : List Value := l.flatMap fun x => [.int .i64 (x.1 : Nat), .int .i64 (x.2 : Nat)]
def isText (w : World) (b : Nat) : Prop := ∃ cs z, w.heap[b]? = some (.cells cs 5 z)
structure Rd (n₀ rb tb cap : Nat) (s : List UInt8) (w : World) (σ : St) (d : Nat) (fc fa : Int) (bv : Value) : Prop where
  blk : Blk w rb 51 #[.slice (some ⟨tb, 0, none⟩) s.length cap, .int .i64 (σ.pos : Nat), .int .i64 (d : Nat), .int .i64 (σ.g : Nat), bv, .int .i64 fc, .int .i64 fa]
  txt : Txt w tb 0 s
  tok : isText w tb
  len : s.length ≤ cap ∧ s.length ≤ 256
  own : w.ownsRow n₀ 59 2 bv σ.bk.length (bkCells σ.bk)
  pos : σ.pos ≤ s.length
  suf : σ.t = s.drop σ.pos
  bnd : d ≤ 32 ∧ σ.g ≤ 9 ∧ σ.bk.length ≤ σ.pos
  low : n₀ ≤ rb
  tabs : TabsAt n₀ w
section
variable {n₀ rb tb cap d : Nat} {s : List UInt8} {w w' : World} {σ : St} {fc fa : Int} {bv : Value}
theorem Rd.size (h : Rd n₀ rb tb cap s w σ d fc fa bv) : n₀ ≤ w.heap.size := Nat.le_trans h.low (Nat.le_of_lt h.blk.lt)
theorem Rd.keep (h : Rd n₀ rb tb cap s w σ d fc fa bv) (hk : ∀ i, i < w.heap.size → (i = rb ∨ isText w i ∨ isBk w i ∨ i < n₀) → w'.heap[i]? = w.heap[i]?) : Rd n₀ rb tb cap s w' σ d fc fa bv := by
  obtain ⟨ct, zt, ht⟩ := h.tok
  refine ⟨(hk rb h.blk.lt (.inl rfl)).trans h.blk, fun j hj => ?_, ⟨ct, zt, (hk tb (lt_of_some ht) (.inr (.inl h.tok))).trans ht⟩, h.len, ?_, h.pos, h.suf, h.bnd, h.low, ?_⟩
  · exact (cell_same (hk tb (lt_of_some ht) (.inr (.inl h.tok))) _).trans (h.txt j hj)
  · refine own_keep h.own fun i hi => ?_
    rcases h.own.2 with ⟨rfl, _⟩ | ⟨g, cap, cur, rfl, _, hh, _⟩
    · simp [Value.ownBlock] at hi
    · obtain rfl : i = g := by simpa [Value.ownBlock] using hi
      exact hk i (lt_of_some hh) (.inr (.inr (.inl ⟨cur, _, hh⟩)))
  · have hs := h.size
    have h1 := h.tabs.1
    exact ⟨h1, fun c hc => (cell_same (hk 0 (by omega) (.inr (.inr (.inr (by omega))))) c).trans (h.tabs.2.1 c hc),
      fun i hi => ⟨(cell_same (hk 1 (by omega) (.inr (.inr (.inr h1)))) _).trans (h.tabs.2.2 i hi).1, (cell_same (hk 1 (by omega) (.inr (.inr (.inr h1)))) _).trans (h.tabs.2.2 i hi).2⟩⟩
theorem Rd.on (h : Rd n₀ rb tb cap s w σ d fc fa bv) (hb : Below w.heap.size w w') : Rd n₀ rb tb cap s w' σ d fc fa bv := h.keep fun i hi _ => hb.block i hi
theorem Rd.alloc (h : Rd n₀ rb tb cap s w σ d fc fa bv) (o : Obj) : Rd n₀ rb tb cap s (w.alloc o) σ d fc fa bv := h.keep fun i hi _ => Below.heap_alloc w o i hi
theorem Rd.drewN (h : Rd n₀ rb tb cap s w σ d fc fa bv) (n : Nat) : Rd n₀ rb tb cap s (w.drewN n) σ d fc fa bv := h.keep fun _ _ _ => rfl
theorem Rd.away (h : Rd n₀ rb tb cap s w σ d fc fa bv) {g : Nat} {t : TypeId} {cs : Array Value} {z : Nat × Nat} (hg : w.heap[g]? = some (.cells cs t z)) (h1 : t ≠ 51) (h2 : t ≠ 59) (h3 : t ≠ 5) (h4 : n₀ ≤ g) :
    ∀ i, (i = rb ∨ isText w i ∨ isBk w i ∨ i < n₀) → i ≠ g := by
  rintro i (rfl | ⟨c, y, hh⟩ | ⟨c, y, hh⟩ | hi)
  · exact fun e => ne_of_types hg h.blk h1 e.symm
  · exact fun e => ne_of_types hg hh h3 e.symm
  · exact fun e => ne_of_types hg hh h2 e.symm
  · omega
/-- A store into a block of another kind. -/
theorem Rd.far (h : Rd n₀ rb tb cap s w σ d fc fa bv) {g o : Nat} {t : TypeId} {cs : Array Value} {z : Nat × Nat} (hg : w.heap[g]? = some (.cells cs t z)) (h1 : t ≠ 51) (h2 : t ≠ 59) (h3 : t ≠ 5) (h4 : n₀ ≤ g) (u : Value) :
    Rd n₀ rb tb cap s (w.setCell ⟨g, o, none⟩ u) σ d fc fa bv := h.keep fun i _ hc => Below.heap_setCell _ _ _ _ (h.away hg h1 h2 h3 h4 i hc)
theorem Rd.grown (h : Rd n₀ rb tb cap s w σ d fc fa bv) {base : Nat} {e : TypeId} {size n : Nat} {v : Value} {xs : List Value} (ho : w.ownsRow base e size v n xs) (h1 : e ≠ 51) (h2 : e ≠ 59) (h3 : e ≠ 5) (h4 : n₀ ≤ base) (hg : w.grownBy w' v.ownBlock) :
    Rd n₀ rb tb cap s w' σ d fc fa bv := h.keep fun i hi hc => hg.block i hi (by
      rcases ho.2 with ⟨rfl, _⟩ | ⟨g, cap, cur, rfl, hb, hh, _⟩
      · simp [Value.ownBlock]
      · intro e
        have : i = g := by simpa [Value.ownBlock] using e
        exact h.away hh h1 h2 h3 (by omega) i hc this)
theorem Fr.blk (hF : Fr n₀ rb w w') (h : Rd n₀ rb tb cap s w σ d fc fa bv) {g : Nat} {t : TypeId} {cs : Array Value} (hg : Blk w g t cs) (h1 : t ≠ 51) (h2 : t ≠ 59) : Blk w' g t cs :=
  (hF.same (okB.of_type hg h2 (ne_of_types hg h.blk h1))).trans hg
theorem Rd.c0 (h : Rd n₀ rb tb cap s w σ d fc fa bv) : w.cell? ⟨rb, 0, none⟩ = some (.slice (some ⟨tb, 0, none⟩) s.length cap) := h.blk.cell 0
theorem Rd.c1 (h : Rd n₀ rb tb cap s w σ d fc fa bv) : w.cell? ⟨rb, 1, none⟩ = some (.int .i64 (σ.pos : Nat)) := h.blk.cell 1
theorem Rd.c2 (h : Rd n₀ rb tb cap s w σ d fc fa bv) : w.cell? ⟨rb, 2, none⟩ = some (.int .i64 (d : Nat)) := h.blk.cell 2
theorem Rd.c3 (h : Rd n₀ rb tb cap s w σ d fc fa bv) : w.cell? ⟨rb, 3, none⟩ = some (.int .i64 (σ.g : Nat)) := h.blk.cell 3
theorem Rd.c4 (h : Rd n₀ rb tb cap s w σ d fc fa bv) : w.cell? ⟨rb, 4, none⟩ = some bv := h.blk.cell 4
theorem Rd.c5 (h : Rd n₀ rb tb cap s w σ d fc fa bv) : w.cell? ⟨rb, 5, none⟩ = some (.int .i64 fc) := h.blk.cell 5
theorem Rd.c6 (h : Rd n₀ rb tb cap s w σ d fc fa bv) : w.cell? ⟨rb, 6, none⟩ = some (.int .i64 fa) := h.blk.cell 6
theorem Rd.fz (h : Rd n₀ rb tb cap s w σ d fc fa bv) (j : Nat) : w.frozen? ⟨rb, j, none⟩ = false := h.blk.frozen j
/-- A step in the text. -/
theorem Rd.step (h : Rd n₀ rb tb cap s w σ d fc fa bv) {n : Nat} (hn : n ≤ σ.t.length) : Rd n₀ rb tb cap s (w.setCell ⟨rb, 1, none⟩ (.int .i64 ((σ.pos + n : Nat) : Int))) (σ.adv n) d fc fa bv := by
  have hb := (h.blk.set_ 1 (.int .i64 ((σ.pos + n : Nat) : Int)))
  have hlen : σ.pos + n ≤ s.length := by
    have := h.pos
    rw [h.suf, List.length_drop] at hn
    omega
  have hk : ∀ i, i ≠ rb → (w.setCell ⟨rb, 1, none⟩ (.int .i64 ((σ.pos + n : Nat) : Int))).heap[i]? = w.heap[i]? := fun i hi => Below.heap_setCell _ _ _ _ hi
  obtain ⟨ct, zt, ht⟩ := h.tok
  have htr : tb ≠ rb := fun e => ne_of_types ht h.blk (by decide) e
  refine ⟨by simpa [St.adv] using hb, fun j hj => (cell_same (hk tb htr) _).trans (h.txt j hj), ⟨ct, zt, (hk tb htr).trans ht⟩, h.len, ?_, hlen, ?_, ⟨h.bnd.1, h.bnd.2.1, ?_⟩, h.low, ?_⟩
  · exact own_keep h.own fun i hi => hk i (fun e => own_ne h.own h.blk (by decide) (by rw [← hi, e]))
  · simp only [St.adv]
    rw [h.suf, List.drop_drop]
  · have := h.bnd.2.2
    simp only [St.adv]
    omega
  · have hr := h.low
    have h1 := h.tabs.1
    exact ⟨h1, fun c hc => (cell_same (hk 0 (by omega)) c).trans (h.tabs.2.1 c hc), fun i hi => ⟨(cell_same (hk 1 (by omega)) _).trans (h.tabs.2.2 i hi).1, (cell_same (hk 1 (by omega)) _).trans (h.tabs.2.2 i hi).2⟩⟩
theorem Rd.tl (h : Rd n₀ rb tb cap s w σ d fc fa bv) : σ.t.length = s.length - σ.pos := by rw [h.suf, List.length_drop]
theorem Rd.at_ (h : Rd n₀ rb tb cap s w σ d fc fa bv) {j : Nat} (hj : j < σ.t.length) : w.cell? ⟨tb, 0 + (σ.pos + j), none⟩ = some (.int .u8 ((at_ σ.t j : Nat) : Int)) := by
  have hl := h.tl
  rw [h.suf, at_drop]
  exact h.txt _ (by omega)
end

end Go.Proofs.YthipgidddgdojaaDoor
