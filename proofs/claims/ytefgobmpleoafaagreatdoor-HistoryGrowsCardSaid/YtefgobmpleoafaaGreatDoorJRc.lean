/- Joined: RuQ, RuS, RuL, RuM2, RuN, RuX. -/
import Derived.Test.YtefgobmpleoafaaGreatDoorJRa
import Derived.Test.YtefgobmpleoafaaGreatDoorJRb
import Derived.BigQuiet
import Derived.Deep.QuietTactic
import Derived.Laws.StructEq
/- Of layer 7, without a program: what comes of deltas. -/
namespace Go.Proofs.YtefgobmpleoafaaGreatDoor

theorem mem_puts : ∀ {p l : List Ru} {x : Ru}, (p.map Ru.id).Nodup → (x ∈ puts l p ↔ x ∈ p ∨ (x ∈ l ∧ x.id ∉ p.map Ru.id))
  | [], l, x, _ => by simp [puts]
  | r :: p, l, x, h => by
    obtain ⟨h1, h2⟩ := List.nodup_cons.1 h
    show x ∈ puts (ins r l) p ↔ _
    rw [mem_puts h2, mem_ins]
    simp only [List.mem_cons, List.map_cons, not_or]
    constructor
    · rintro (h | ⟨rfl | ⟨h3, h4⟩, h5⟩)
      · exact .inl (.inr h)
      · exact .inl (.inl rfl)
      · exact .inr ⟨h3, h4, h5⟩
    · rintro ((rfl | h) | ⟨h3, h4, h5⟩)
      · exact .inr ⟨.inl rfl, h1⟩
      · exact .inl h
      · exact .inr ⟨.inr ⟨h3, h4⟩, h5⟩
theorem mem_drops {l : List Ru} {ids : List Int} {x : Ru} : x ∈ drops l ids ↔ x ∈ l ∧ x.id ∉ ids := by simp [drops]
theorem mem_gone {l : List Ru} {i : Int} {x : Ru} : x ∈ gone i l ↔ x ∈ l ∧ x.id ≠ i := by simp [gone]
theorem gone_len {i : Int} : ∀ {l : List Ru}, Rise l → (gone i l).length + (if i ∈ l.map Ru.id then 1 else 0) = l.length
  | [], _ => rfl
  | x :: l, h => by
    obtain ⟨a1, a2⟩ := List.pairwise_cons.1 h
    have ih := gone_len (i := i) a2
    by_cases e : x.id = i
    · have hn : i ∉ l.map Ru.id := fun hm => by
        obtain ⟨y, hy, e'⟩ := List.mem_map.1 hm
        have := a1 y hy
        omega
      rw [if_neg hn] at ih
      have g : gone i (x :: l) = gone i l := by simp [gone, e]
      rw [g, if_pos (by simp [e])]
      simp only [List.length_cons]
      omega
    · have g : gone i (x :: l) = x :: gone i l := by simp [gone, e]
      rw [g]
      have : (i ∈ (x :: l).map Ru.id) ↔ i ∈ l.map Ru.id := by
        simp only [List.map_cons, List.mem_cons]
        constructor
        · rintro (h | h)
          · exact absurd h.symm e
          · exact h
        · exact .inr
      simp only [this, List.length_cons]
      omega
theorem gone_split {r : Ru} (l : List Ru) : (l.filter fun x => decide (x.id < r.id)).length + (l.filter fun x => decide (r.id < x.id)).length = (gone r.id l).length := by
  induction l with
  | nil => rfl
  | cons x l ih =>
    unfold gone at ih ⊢
    rcases Int.lt_trichotomy x.id r.id with h | h | h
    · have h1 : ¬ r.id < x.id := by omega
      have h2 : x.id ≠ r.id := by omega
      simp [h, h1, h2] at ih ⊢
      omega
    · have h1 : ¬ r.id < x.id := by omega
      have h2 : ¬ x.id < r.id := by omega
      simp [h] at ih ⊢
      omega
    · have h1 : ¬ x.id < r.id := by omega
      have h2 : x.id ≠ r.id := by omega
      simp [h, h1, h2] at ih ⊢
      omega
theorem ins_length {r : Ru} {l : List Ru} (h : Rise l) : (ins r l).length + (if r.id ∈ l.map Ru.id then 1 else 0) = l.length + 1 := by
  have h1 := gone_split (r := r) l
  have h2 := gone_len (i := r.id) h
  unfold ins
  rw [List.length_append, List.length_cons]
  omega
theorem orK_neg (n : Int) : orK (-1) n = n := by simp [orK]
theorem rise_nodup {l : List Ru} (h : Rise l) : (l.map Ru.id).Nodup := List.pairwise_map.2 (h.imp fun h => by omega)
theorem look_mem {l : List Ru} (h : Rise l) {x : Ru} (hx : x ∈ l) : look l x.id = x := by
  unfold look
  cases hf : l.find? fun y => decide (y.id = x.id) with
  | none => have := List.find?_eq_none.1 hf x hx; simp at this
  | some y =>
    have h1 := List.mem_of_find?_eq_some hf
    have h2 : y.id = x.id := by simpa using List.find?_some hf
    exact rise_inj h h1 hx h2

/-- when a change is taken -/
structure Taken (s : RS) (d : Dl) : Prop where
  ok : s.Ok
  num : (nums s d).num = true
  put : ∀ r ∈ d.put, r.ok = true
  once : d.ids.Nodup
  drop : ∀ i ∈ d.drop, i ∈ s.rs.map Ru.id
  few : (after s d).length ≤ 16
theorem taken_eq {s : RS} {d : Dl} (h : Taken s d) : applyM s d = ({ nums s d with rs := after s d }, 0) := by
  obtain ⟨h1, h2, h3, h4, h5, h6⟩ := h
  unfold applyM
  rw [if_neg (by simpa using h1), if_neg (by
    rintro (h | ⟨r, hr, h⟩)
    · rw [h2] at h; cases h
    · rw [h3 r hr] at h; cases h), if_neg (by simpa using h4), if_neg (fun ⟨i, a, b⟩ => b (h5 i a)), if_neg (by omega)]
theorem taken_iff {s : RS} {d : Dl} : (applyM s d).2 = 0 ↔ Taken s d := by
  constructor
  · intro h
    unfold applyM at h
    by_cases h1 : s.Ok
    · rw [if_neg (by simpa using h1)] at h
      by_cases h2 : (nums s d).num = false ∨ ∃ r ∈ d.put, r.ok = false
      · rw [if_pos h2] at h; exact absurd h (by decide)
      · rw [if_neg h2] at h
        by_cases h3 : d.ids.Nodup
        · rw [if_neg (by simpa using h3)] at h
          by_cases h4 : ∃ i ∈ d.drop, i ∉ s.rs.map Ru.id
          · rw [if_pos h4] at h; exact absurd h (by decide)
          · rw [if_neg h4] at h
            by_cases h5 : 16 < (after s d).length
            · rw [if_pos h5] at h; exact absurd h (by decide)
            · refine ⟨h1, ?_, fun r hr => ?_, h3, fun i hi => ?_, by omega⟩
              · cases hn : (nums s d).num with
                | true => rfl
                | false => exact absurd (.inl hn) h2
              · cases hn : r.ok with
                | true => rfl
                | false => exact absurd (.inr ⟨r, hr, hn⟩) h2
              · exact Classical.byContradiction fun hn => h4 ⟨i, hi, hn⟩
        · rw [if_pos (by simpa using h3)] at h; exact absurd h (by decide)
    · rw [if_pos h1] at h; exact absurd h (by decide)
  · intro h
    rw [taken_eq h]
theorem after_rise {s : RS} {d : Dl} (h : s.Ok) : Rise (after s d) := (h.2.2.2.drops _).puts _
theorem Taken.put_nodup {s : RS} {d : Dl} (h : Taken s d) : (d.put.map Ru.id).Nodup := (List.nodup_append.1 h.once).1
theorem mem_after {s : RS} {d : Dl} (h : Taken s d) {x : Ru} : x ∈ after s d ↔ x ∈ d.put ∨ (x ∈ s.rs ∧ x.id ∉ d.drop ∧ x.id ∉ d.put.map Ru.id) := by
  unfold after
  rw [mem_puts h.put_nodup, mem_drops, and_assoc]
/-- what comes of a change is right -/
theorem Taken.right {s : RS} {d : Dl} (h : Taken s d) : RS.Ok { nums s d with rs := after s d } := by
  refine ⟨h.num, h.few, fun r hr => ?_, after_rise h.ok⟩
  rcases (mem_after h).1 hr with h' | ⟨h', _⟩
  · exact h.put r h'
  · exact h.ok.2.2.1 r h'

/-! ### RuleKeeps -/
def dNone : Dl := ⟨-1, -1, -1, -1, [], []⟩
theorem num_none {s : RS} {p : List Ru} {q : List Int} : nums s ⟨-1, -1, -1, -1, p, q⟩ = { s with rs := [] } := by simp [nums, orK]
theorem keeps_none {s : RS} (h : s.Ok) : applyM s ⟨-1, -1, -1, -1, [], []⟩ = (s, 0) := by
  have e : after s ⟨-1, -1, -1, -1, [], []⟩ = s.rs := by simp [after, drops, puts]
  rw [taken_eq ⟨h, by rw [num_none]; exact h.1, by simp, by simp [Dl.ids], by simp, by rw [e]; exact h.2.1⟩, num_none, e]
theorem keeps_put {s : RS} (h : s.Ok) : applyM s ⟨-1, -1, -1, -1, s.rs, []⟩ = (s, 0) := by
  have e : after s ⟨-1, -1, -1, -1, s.rs, []⟩ = s.rs := by
    refine rise_ext (after_rise h) h.2.2.2 fun x => ?_
    unfold after
    rw [mem_puts (rise_nodup h.2.2.2)]
    constructor
    · rintro (h | ⟨h1, _⟩)
      · exact h
      · exact (mem_drops.1 h1).1
    · exact .inl
  rw [taken_eq ⟨h, by rw [num_none]; exact h.1, h.2.2.1, by simpa [Dl.ids] using rise_nodup h.2.2.2, by simp, by rw [e]; exact h.2.1⟩, num_none, e]

end Go.Proofs.YtefgobmpleoafaaGreatDoor

/- Of layer 7, without a program: a rule that is put and dropped behind it. -/
namespace Go.Proofs.YtefgobmpleoafaaGreatDoor

theorem drop1_ok {s : RS} {x : Ru} (h : s.Ok) (hx : x.ok = true) (hf : (ins x s.rs).length ≤ 16) : applyM s ⟨-1, -1, -1, -1, [x], []⟩ = ({ s with rs := ins x s.rs }, 0) := by
  have e : after s ⟨-1, -1, -1, -1, [x], []⟩ = ins x s.rs := by simp [after, drops_nil, puts]
  rw [taken_eq ⟨h, by rw [num_none]; exact h.1, by simpa using hx, by simp [Dl.ids], by simp, by rw [e]; exact hf⟩, num_none, e]
theorem drop1_right {s : RS} {x : Ru} (h : s.Ok) (hx : x.ok = true) (hf : (ins x s.rs).length ≤ 16) : RS.Ok { s with rs := ins x s.rs } := by
  refine ⟨h.1, hf, fun r hr => ?_, Rise.ins h.2.2.2⟩
  rcases mem_ins.1 hr with rfl | ⟨h', _⟩
  · exact hx
  · exact h.2.2.1 r h'
theorem drop1_full {s : RS} {x : Ru} (h : s.Ok) (hx : x.ok = true) (hf : ¬ (ins x s.rs).length ≤ 16) : applyM s ⟨-1, -1, -1, -1, [x], []⟩ = (.zero, 33) ∧ x.id ∉ s.rs.map Ru.id ∧ s.rs.length = 16 := by
  have e : after s ⟨-1, -1, -1, -1, [x], []⟩ = ins x s.rs := by simp [after, drops_nil, puts]
  have hl := ins_length (r := x) h.2.2.2
  have h16 := h.2.1
  have hn : x.id ∉ s.rs.map Ru.id := fun hm => by
    rw [if_pos hm] at hl
    omega
  rw [if_neg hn] at hl
  refine ⟨?_, hn, by omega⟩
  unfold applyM
  rw [if_neg (by simpa using h), if_neg (by
    rintro (h' | ⟨r, hr, h'⟩)
    · rw [num_none] at h'; exact absurd (h.1.symm.trans h') (by decide)
    · simp only [List.mem_singleton] at hr
      subst hr
      rw [hx] at h'; cases h'), if_neg (by simp [Dl.ids]), if_neg (by simp), if_pos (by rw [e]; omega)]
theorem drops_one (l : List Ru) (i : Int) : drops l [i] = gone i l := by
  unfold drops gone
  apply List.filter_congr
  intro x _
  simp
theorem drop2_ok {s : RS} {i : Int} (h : s.Ok) (hi : i ∈ s.rs.map Ru.id) : applyM s ⟨-1, -1, -1, -1, [], [i]⟩ = ({ s with rs := gone i s.rs }, 0) := by
  have e : after s ⟨-1, -1, -1, -1, [], [i]⟩ = gone i s.rs := by simp [after, drops_one, puts]
  rw [taken_eq ⟨h, by rw [num_none]; exact h.1, by simp, by simp [Dl.ids], by simpa using hi, by rw [e]; exact Nat.le_trans (List.length_filter_le _ _) h.2.1⟩, num_none, e]
theorem drop2_right {s : RS} {i : Int} (h : s.Ok) : RS.Ok { s with rs := gone i s.rs } :=
  ⟨h.1, Nat.le_trans (List.length_filter_le _ _) h.2.1, fun r hr => h.2.2.1 r (mem_gone.1 hr).1, h.2.2.2.filter _⟩
theorem drop2_none {s : RS} {i : Int} (h : s.Ok) (hi : i ∉ s.rs.map Ru.id) : applyM s ⟨-1, -1, -1, -1, [], [i]⟩ = (.zero, 32) := by
  unfold applyM
  rw [if_neg (by simpa using h), if_neg (by
    rintro (h' | ⟨r, hr, h'⟩)
    · rw [num_none] at h'; exact absurd (h.1.symm.trans h') (by decide)
    · simp at hr), if_neg (by simp [Dl.ids]), if_pos ⟨i, by simp, hi⟩]
theorem gone_ins {x : Ru} {l : List Ru} (h : Rise l) : gone x.id (ins x l) = gone x.id l := by
  refine rise_ext (h.ins.filter _) (h.filter _) fun y => ?_
  rw [mem_gone, mem_gone, mem_ins]
  constructor
  · rintro ⟨rfl | ⟨h1, _⟩, h2⟩
    · exact absurd rfl h2
    · exact ⟨h1, h2⟩
  · rintro ⟨h1, h2⟩
    exact ⟨.inr ⟨h1, h2⟩, h2⟩
theorem gone_not (i : Int) (l : List Ru) : i ∉ (gone i l).map Ru.id := fun h => by
  obtain ⟨y, hy, e⟩ := List.mem_map.1 h
  exact (mem_gone.1 hy).2 e

end Go.Proofs.YtefgobmpleoafaaGreatDoor

/- Layer 7's laws: the anchor; Set.Rule. -/
namespace Go.Proofs.YtefgobmpleoafaaGreatDoor
open Go.RowKit Go.Maps
variable {w w' : World}

def r3 : Ru := ⟨3, 0, 0, 1, ⟨#[97]⟩⟩
def d7 : Dl := ⟨-1, 7, -1, -1, [r3], []⟩
theorem apply7 : applyM RS.first d7 = (⟨0, 7, 10000, 500, [r3]⟩, 0) := by
  have e : after RS.first d7 = [r3] := by simp [after, d7, RS.first, drops, puts, ins]
  have h1 : RS.first.Ok := by refine ⟨by decide, by decide, by simp [RS.first], by simp [RS.first]⟩
  have h2 : ¬ ((nums RS.first d7).num = false ∨ ∃ r ∈ d7.put, r.ok = false) := by
    rintro (h | ⟨r, hr, h⟩)
    · exact absurd h (by decide)
    · simp only [d7, List.mem_singleton] at hr
      subst hr
      exact absurd h (by decide)
  rw [applyM_ok h1 h2 (by simp [Dl.ids, d7]) (by simp [d7]) (by rw [e]; decide), e]
  rfl
theorem one_rule (w : World) (r : Ru) : RulesV (w.alloc (.cells #[.int .i64 r.id, .int .i64 r.pr, .int .i64 r.ac, .int .i64 r.sc, .string r.pat] 72)).heap.size (w.alloc (.cells #[.int .i64 r.id, .int .i64 r.pr, .int .i64 r.ac, .int .i64 r.sc, .string r.pat] 72)) (.slice (some ⟨w.heap.size, 0, none⟩) 1 1) [r] := by
  refine ⟨_, 1, rfl, Nat.le_refl _, fun _ => ⟨w.heap.size, 0, rfl, by simp, fun i x hx => ?_⟩⟩
  have h := Blk.new w 72 #[.int .i64 r.id, .int .i64 r.pr, .int .i64 r.ac, .int .i64 r.sc, .string r.pat]
  match i, hx with
  | 0, hx =>
    simp at hx
    subst hx
    exact h.c5
  | i + 1, hx => simp at hx
theorem row_nil (n : Nat) (w : World) : Row n w (.slice none 0 0) (zI []) := ⟨none, 0, rfl, Nat.le_refl _, fun h => absurd rfl h⟩

end Go.Proofs.YtefgobmpleoafaaGreatDoor

/- colandermade.Set. -/
namespace Go.Proofs.YtefgobmpleoafaaGreatDoor
open Go.RowKit Go.Maps
variable {w w' : World}

theorem infoX : (Tryz.prog.info? 96).map (fun i => (i.zero, i.size, i.bytes)) = some (some (.agg #[.int .i64 0, .int .i64 0, .int .i64 0, .int .i64 0, .string ⟨#[]⟩]), 5, 48) := by kernel_rfl
theorem OwnU.farset {base : Nat} {e : TypeId} {V : Value} {l : List Ru} (h : OwnU w base e V l) {a : Addr} (ha : V.ownBlock ≠ some a.block) (u : Value) : OwnU (w.setCell a u) base e V l := ownsRow_setCell_other h ha u
theorem OwnU.form {base : Nat} {e : TypeId} {V : Value} {l : List Ru} (h : OwnU w base e V l) : ∃ A c, V = .slice A l.length c := by
  obtain ⟨A, c, hv, _⟩ := h.set
  exact ⟨A, c, hv⟩

set_option maxRecDepth 100000 in
set_option maxHeartbeats 4000000 in
theorem madeSet_any (s : RS) (v : Value) (w : World) (hmax : s.rs.length ≤ 1000) (hS : RulesV w.heap.size w v s.rs) :
    Calls Tryz.prog 22 #[.agg #[.int .i64 s.de, .int .i64 s.cl, .int .i64 s.fu, .int .i64 s.st, v]] w
      fun e w' => ∃ V, e = .returned (.agg #[.int .i64 s.de, .int .i64 s.cl, .int .i64 s.fu, .int .i64 s.st, V]) ∧ OwnU w' w.heap.size 96 V s.rs ∧ Below w.heap.size w w' := by
  obtain ⟨A, cap, rfl⟩ := hS.form
  obtain ⟨i0, hi, hz0, hz1, hz2⟩ := info_three infoX
  have HS := Lib.hid hS
  clear hS
  go_enter Tryz.func22, Tryz.ntmps22
  go_wp2_with fail
  go_upto_region 3 with (fail)
  have hb0 : Below w.heap.size w (((w.alloc (.cells #[.int .i64 s.de, .int .i64 s.cl, .int .i64 s.fu, .int .i64 s.st, .slice A s.rs.length cap] 54)).alloc (.cells #[.int .i64 0, .int .i64 0, .int .i64 0, .int .i64 0, .slice none 0 0] 60)).alloc (.cells #[.int .i64 s.de, .int .i64 s.cl, .int .i64 s.fu, .int .i64 s.st, .slice none 0 0] 60)) := (((Below.refl _ _).alloc (Nat.le_refl _) _).alloc (by simp) _).alloc (by simp; omega) _
  have hz : Blk (((w.alloc (.cells #[.int .i64 s.de, .int .i64 s.cl, .int .i64 s.fu, .int .i64 s.st, .slice A s.rs.length cap] 54)).alloc (.cells #[.int .i64 0, .int .i64 0, .int .i64 0, .int .i64 0, .slice none 0 0] 60)).alloc (.cells #[.int .i64 s.de, .int .i64 s.cl, .int .i64 s.fu, .int .i64 s.st, .slice none 0 0] 60)) (w.heap.size + 1) 60 #[.int .i64 0, .int .i64 0, .int .i64 0, .int .i64 0, .slice none 0 0] := (Blk.at_new _ _ (by simp) _ _).alloc _
  have hx : Blk (((w.alloc (.cells #[.int .i64 s.de, .int .i64 s.cl, .int .i64 s.fu, .int .i64 s.st, .slice A s.rs.length cap] 54)).alloc (.cells #[.int .i64 0, .int .i64 0, .int .i64 0, .int .i64 0, .slice none 0 0] 60)).alloc (.cells #[.int .i64 s.de, .int .i64 s.cl, .int .i64 s.fu, .int .i64 s.st, .slice none 0 0] 60)) (w.heap.size + 2) 60 #[.int .i64 s.de, .int .i64 s.cl, .int .i64 s.fu, .int .i64 s.st, .slice none 0 0] := Blk.at_new _ _ (by simp) _ _
  generalize ((w.alloc (.cells #[.int .i64 s.de, .int .i64 s.cl, .int .i64 s.fu, .int .i64 s.st, .slice A s.rs.length cap] 54)).alloc (.cells #[.int .i64 0, .int .i64 0, .int .i64 0, .int .i64 0, .slice none 0 0] 60)).alloc (.cells #[.int .i64 s.de, .int .i64 s.cl, .int .i64 s.fu, .int .i64 s.st, .slice none 0 0] 60) = w0 at *
  have HB0 := Lib.hid hb0
  have HZ0 := Lib.hid hz
  have HX0 := Lib.hid hx
  clear hb0 hz hx
  go_loopw [18] (fun i wr => ∃ (k : Nat) (V : Value), k ≤ s.rs.length ∧ i = .int .i64 k ∧ Hid (Blk wr (w.heap.size + 2) 60 #[.int .i64 s.de, .int .i64 s.cl, .int .i64 s.fu, .int .i64 s.st, V]) ∧ Hid (Blk wr (w.heap.size + 1) 60 #[.int .i64 0, .int .i64 0, .int .i64 0, .int .i64 0, .slice none 0 0]) ∧ Hid (OwnU wr w.heap.size 96 V (s.rs.take k)) ∧ Hid (Below w.heap.size w wr)) (fun i _ => s.rs.length - (intOf i).toNat)
  case atStart => exact ⟨0, _, Nat.zero_le _, rfl, HX0, HZ0, Lib.hid (OwnU.nil _ _ _), HB0⟩
  case round =>
    obtain ⟨k, V, hk, rfl, HX, HZ, HO, HB⟩ := hrel
    by_cases hlt : k < s.rs.length
    · obtain ⟨b, off, rfl, hb, c0, c1, c2, c3, c4⟩ := (HS.out.below HB.out).at_ hlt
      have HG := Lib.hid (List.getElem?_eq_getElem hlt)
      generalize s.rs[k] = r at HG c0 c1 c2 c3 c4
      have HLt := Lib.hid hlt
      have HLen : Hid ((s.rs.take k ++ [r]).length = k + 1) := Lib.hid (by simp; omega)
      have d4 := HX.out.cell 4
      have hlx := HX.out.lt
      have hne := own_ne HO.out HX.out (by decide)
      have HNe := Lib.hid hne
      clear hne hlt
      go_wp2_with (first
        | (at_builtin
           refine wpList_append_rule _ rfl (.tmp 23) (.tmp 25) 58 rfl w.heap.size 96 i0 (.agg #[.int .i64 0, .int .i64 0, .int .i64 0, .int .i64 0, .string ⟨#[]⟩]) 48 Tryz.underlying58 hi hz0 hz1 hz2 rfl V (s.rs.take k) rfl ((HO.out.alloc _).alloc _) _ 1 r rfl (Blk.at_new _ _ (by simp) _ _) (by simp; omega) (by decide) (by have := HB.out.size; simp; omega) ?_
           intro V' w1 hown' hgrow'
           obtain ⟨VA, VC, hV⟩ := hown'.form
           rw [HLen.out] at hV
           subst hV
           have hX1 := ((HX.out.alloc (.cells #[.int .i64 r.id, .int .i64 r.pr, .int .i64 r.ac, .int .i64 r.sc, .string r.pat] 72)).alloc (.cells #[.int .i64 r.id, .int .i64 r.pr, .int .i64 r.ac, .int .i64 r.sc, .string r.pat] 96)).grown hgrow' (fun e => HNe.out e.symm)
           have g4 := hX1.frozen 4
           have e4 := hX1.cell 4
           have hl1 := hX1.lt)
        | go_in)
      have hne1 := own_ne hown' hX1 (by decide)
      have hX2 : Blk (w1.setCell ⟨w.heap.size + 2, 4, none⟩ (.slice VA (k + 1) VC)) (w.heap.size + 2) 60 #[.int .i64 s.de, .int .i64 s.cl, .int .i64 s.fu, .int .i64 s.st, .slice VA (k + 1) VC] := hX1.set_ 4 _
      have hO2 : OwnU (w1.setCell ⟨w.heap.size + 2, 4, none⟩ (.slice VA (k + 1) VC)) w.heap.size 96 (.slice VA (k + 1) VC) (s.rs.take (k + 1)) := by
        rw [ru_take HG.out]
        exact hown'.farset hne1 _
      have hB1 : Below w.heap.size w w1 := ((HB.out.alloc HB.out.size _).alloc (by have := HB.out.size; simp; omega) _).grown hgrow' (by have := HB.out.size; simp; omega) (fun j hj => (World.ownsRow.lt HO.out j hj).1)
      have hZ1 : Blk w1 (w.heap.size + 1) 60 #[.int .i64 0, .int .i64 0, .int .i64 0, .int .i64 0, .slice none 0 0] := ((HZ.out.alloc _).alloc _).grown hgrow' (fun e => by
        have := own_ne HO.out HZ.out (by decide)
        exact this e.symm)
      have HX2 := Lib.hid hX2
      have HO2 := Lib.hid hO2
      have HB2 := Lib.hid (hB1.setCell (p := ⟨w.heap.size + 2, 4, none⟩) (show w.heap.size ≤ w.heap.size + 2 by omega) (.slice VA (k + 1) VC))
      have HZ2 := Lib.hid (hZ1.far (p := ⟨w.heap.size + 2, 4, none⟩) (show w.heap.size + 1 ≠ w.heap.size + 2 by omega) (.slice VA (k + 1) VC))
      clear hne1 hX2 hO2 hB1 hZ1 hX1 hown' hgrow' g4 e4
      go_roundw
      case rel => exact ⟨k + 1, _, HLt.out, by go_num, HX2, HZ2, HO2, HB2⟩
      case measure => have := HLt.out; simp [intOf]; omega
    · obtain rfl : k = s.rs.length := by omega
      have hO := HO.out
      rw [List.take_length] at hO
      obtain ⟨VA, VC, rfl⟩ := hO.form
      obtain ⟨z0, z1, z2, z3, z4⟩ := HZ.out.c5
      obtain ⟨f0, f1, f2, f3, f4⟩ := HZ.out.f5
      obtain ⟨x0, x1, x2, x3, x4⟩ := HX.out.c5
      have hlr := HZ.out.lt
      have hlx := HX.out.lt
      have HOf := Lib.hid hO
      have hne := own_ne hO HZ.out (by decide)
      have HNe := Lib.hid hne
      clear hO hne
      go_wp2
      refine bodyPost_ret (v := .agg #[.int .i64 s.de, .int .i64 s.cl, .int .i64 s.fu, .int .i64 s.st, .slice VA s.rs.length VC]) (by simp [results, Tryz.results22, go_sem, *]) rfl ⟨_, rfl, ?_, ?_⟩
      · exact ((((HOf.out.farset HNe.out _).farset HNe.out _).farset HNe.out _).farset HNe.out _).farset HNe.out _
      · refine Below.setCell ?_ (show w.heap.size ≤ w.heap.size + 1 by omega) _
        refine Below.setCell ?_ (show w.heap.size ≤ w.heap.size + 1 by omega) _
        refine Below.setCell ?_ (show w.heap.size ≤ w.heap.size + 1 by omega) _
        refine Below.setCell ?_ (show w.heap.size ≤ w.heap.size + 1 by omega) _
        refine Below.setCell ?_ (show w.heap.size ≤ w.heap.size + 1 by omega) _
        exact HB.out

end Go.Proofs.YtefgobmpleoafaaGreatDoor

/- The document's Same, of any two sets; equality of rules. -/
namespace Go.Proofs.YtefgobmpleoafaaGreatDoor
open Go.RowKit Go.Maps
variable {w w' : World}

def ruEq (a b : Ru) : Bool := a.id == b.id && a.pr == b.pr && a.ac == b.ac && a.sc == b.sc && a.pat.toList == b.pat.toList
theorem ruEq_iff (a b : Ru) : ruEq a b = true ↔ a = b := by
  obtain ⟨a1, a2, a3, a4, a5⟩ := a
  obtain ⟨b1, b2, b3, b4, b5⟩ := b
  simp only [ruEq, Bool.and_eq_true, beq_iff_eq, Ru.mk.injEq, and_assoc]
  constructor
  · rintro ⟨h1, h2, h3, h4, h5⟩
    refine ⟨h1, h2, h3, h4, ?_⟩
    rw [ByteArray.toList_eq, ByteArray.toList_eq] at h5
    obtain ⟨⟨x⟩⟩ := a5
    obtain ⟨⟨y⟩⟩ := b5
    simp at h5
    rw [h5]
  · rintro ⟨h1, h2, h3, h4, rfl⟩
    exact ⟨h1, h2, h3, h4, rfl⟩
theorem ruEq_refl (a : Ru) : ruEq a a = true := (ruEq_iff a a).2 rfl
theorem run_neq_ru (a b : Ru) (w : World) : (binOp .neq 72 (.agg #[.int .i64 a.id, .int .i64 a.pr, .int .i64 a.ac, .int .i64 a.sc, .string a.pat]) (.agg #[.int .i64 b.id, .int .i64 b.pr, .int .i64 b.ac, .int .i64 b.sc, .string b.pat])).run Tryz.prog w = .ok (.bool (!ruEq a b)) w := by
  have u3 := Tryz.underlying3
  have a3 := Tryz.isAgg3
  have z3 := Tryz.sizeOf3
  have u9 := Tryz.underlying9
  have a9 := Tryz.isAgg9
  have z9 := Tryz.sizeOf9
  have hS : Tryz.prog.underlying 72 = some (.struct (Tryz.prog.fieldsOf 72)) := by kernel_rfl
  have hp : Tryz.prog.stoodInHeld 72 = false := by kernel_rfl
  rw [run_neq_struct, show (10000 : Nat) = 9999 + 1 from rfl, run_equalIn_agg w 9999 72 _ _ hS hp]
  simp only [Program.fieldsOf, Tryz.underlying72]
  go_simp
  by_cases h1 : a.id = b.id <;> by_cases h2 : a.pr = b.pr <;> by_cases h3 : a.ac = b.ac <;> by_cases h4 : a.sc = b.sc <;> by_cases h5 : a.pat.toList = b.pat.toList <;> simp [ruEq, h1, h2, h3, h4, h5]
theorem run_eql_ru (a b : Ru) (w : World) : (binOp .eql 72 (.agg #[.int .i64 a.id, .int .i64 a.pr, .int .i64 a.ac, .int .i64 a.sc, .string a.pat]) (.agg #[.int .i64 b.id, .int .i64 b.pr, .int .i64 b.ac, .int .i64 b.sc, .string b.pat])).run Tryz.prog w = .ok (.bool (ruEq a b)) w := by
  have u3 := Tryz.underlying3
  have a3 := Tryz.isAgg3
  have z3 := Tryz.sizeOf3
  have u9 := Tryz.underlying9
  have a9 := Tryz.isAgg9
  have z9 := Tryz.sizeOf9
  have hS : Tryz.prog.underlying 72 = some (.struct (Tryz.prog.fieldsOf 72)) := by kernel_rfl
  have hp : Tryz.prog.stoodInHeld 72 = false := by kernel_rfl
  rw [run_eql_struct, show (10000 : Nat) = 9999 + 1 from rfl, run_equalIn_agg w 9999 72 _ _ hS hp]
  simp only [Program.fieldsOf, Tryz.underlying72]
  go_simp
  by_cases h1 : a.id = b.id <;> by_cases h2 : a.pr = b.pr <;> by_cases h3 : a.ac = b.ac <;> by_cases h4 : a.sc = b.sc <;> by_cases h5 : a.pat.toList = b.pat.toList <;> simp [ruEq, h1, h2, h3, h4, h5]
theorem run_neq_xr (a b : Ru) (w : World) : (binOp .neq 96 (.agg #[.int .i64 a.id, .int .i64 a.pr, .int .i64 a.ac, .int .i64 a.sc, .string a.pat]) (.agg #[.int .i64 b.id, .int .i64 b.pr, .int .i64 b.ac, .int .i64 b.sc, .string b.pat])).run Tryz.prog w = .ok (.bool (!ruEq a b)) w := by
  have u3 := Tryz.underlying3
  have a3 := Tryz.isAgg3
  have z3 := Tryz.sizeOf3
  have u9 := Tryz.underlying9
  have a9 := Tryz.isAgg9
  have z9 := Tryz.sizeOf9
  have hS : Tryz.prog.underlying 96 = some (.struct (Tryz.prog.fieldsOf 96)) := by kernel_rfl
  have hp : Tryz.prog.stoodInHeld 96 = false := by kernel_rfl
  rw [run_neq_struct, show (10000 : Nat) = 9999 + 1 from rfl, run_equalIn_agg w 9999 96 _ _ hS hp]
  simp only [Program.fieldsOf, Tryz.underlying96]
  go_simp
  by_cases h1 : a.id = b.id <;> by_cases h2 : a.pr = b.pr <;> by_cases h3 : a.ac = b.ac <;> by_cases h4 : a.sc = b.sc <;> by_cases h5 : a.pat.toList = b.pat.toList <;> simp [ruEq, h1, h2, h3, h4, h5]
theorem run_eql_xr (a b : Ru) (w : World) : (binOp .eql 96 (.agg #[.int .i64 a.id, .int .i64 a.pr, .int .i64 a.ac, .int .i64 a.sc, .string a.pat]) (.agg #[.int .i64 b.id, .int .i64 b.pr, .int .i64 b.ac, .int .i64 b.sc, .string b.pat])).run Tryz.prog w = .ok (.bool (ruEq a b)) w := by
  have u3 := Tryz.underlying3
  have a3 := Tryz.isAgg3
  have z3 := Tryz.sizeOf3
  have u9 := Tryz.underlying9
  have a9 := Tryz.isAgg9
  have z9 := Tryz.sizeOf9
  have hS : Tryz.prog.underlying 96 = some (.struct (Tryz.prog.fieldsOf 96)) := by kernel_rfl
  have hp : Tryz.prog.stoodInHeld 96 = false := by kernel_rfl
  rw [run_eql_struct, show (10000 : Nat) = 9999 + 1 from rfl, run_equalIn_agg w 9999 96 _ _ hS hp]
  simp only [Program.fieldsOf, Tryz.underlying96]
  go_simp
  by_cases h1 : a.id = b.id <;> by_cases h2 : a.pr = b.pr <;> by_cases h3 : a.ac = b.ac <;> by_cases h4 : a.sc = b.sc <;> by_cases h5 : a.pat.toList = b.pat.toList <;> simp [ruEq, h1, h2, h3, h4, h5]

set_option maxRecDepth 100000 in
set_option maxHeartbeats 8000000 in
theorem same_any (a b : RS) (va vb : Value) (w : World) (hma : a.rs.length ≤ 1000000) (hmb : b.rs.length ≤ 1000000) (hS : RulesV w.heap.size w va a.rs) (hO : RulesV w.heap.size w vb b.rs) :
    Calls Tryz.prog 21 #[.agg #[.int .i64 a.de, .int .i64 a.cl, .int .i64 a.fu, .int .i64 a.st, va], .agg #[.int .i64 b.de, .int .i64 b.cl, .int .i64 b.fu, .int .i64 b.st, vb]] w
      fun e w' => ∃ c, e = .returned (.bool c) ∧ (c = true ↔ a = b) ∧ Below w.heap.size w w' := by
  obtain ⟨A, cap, rfl⟩ := hS.form
  obtain ⟨B, cap', rfl⟩ := hO.form
  have hb0 : Below w.heap.size w ((w.alloc (.cells #[.int .i64 a.de, .int .i64 a.cl, .int .i64 a.fu, .int .i64 a.st, .slice A a.rs.length cap] 60)).alloc (.cells #[.int .i64 b.de, .int .i64 b.cl, .int .i64 b.fu, .int .i64 b.st, .slice B b.rs.length cap'] 60)) := ((Below.refl _ _).alloc (Nat.le_refl _) _).alloc (by simp) _
  have HB0 := Lib.hid hb0
  clear hb0
  by_cases h0 : a.de = b.de
  · have p0 : (a.de != b.de) = false := by simp [h0]
    have H0 := Lib.hid h0
    clear h0
    by_cases h1 : a.cl = b.cl
    · have p1 : (a.cl != b.cl) = false := by simp [h1]
      have H1 := Lib.hid h1
      clear h1
      by_cases h2 : a.fu = b.fu
      · have p2 : (a.fu != b.fu) = false := by simp [h2]
        have H2 := Lib.hid h2
        clear h2
        by_cases h3 : a.st = b.st
        · have p3 : (a.st != b.st) = false := by simp [h3]
          have H3 := Lib.hid h3
          clear h3
          by_cases hl : a.rs.length = b.rs.length
          · have pl : ((a.rs.length : Int) != (b.rs.length : Int)) = false := by simp [hl]
            have HL := Lib.hid hl
            clear hl
            go_enter Tryz.func21, Tryz.ntmps21
            go_wp2
            generalize hw0 : (w.alloc (.cells #[.int .i64 a.de, .int .i64 a.cl, .int .i64 a.fu, .int .i64 a.st, .slice A a.rs.length cap] 60)).alloc (.cells #[.int .i64 b.de, .int .i64 b.cl, .int .i64 b.fu, .int .i64 b.st, .slice B b.rs.length cap'] 60) = w0
            have hb0 : Below w.heap.size w w0 := by rw [← hw0]; exact HB0.out
            have hx : Blk w0 w.heap.size 60 #[.int .i64 a.de, .int .i64 a.cl, .int .i64 a.fu, .int .i64 a.st, .slice A a.rs.length cap] := by rw [← hw0]; exact (Blk.new _ _ _).alloc _
            have hy : Blk w0 (w.heap.size + 1) 60 #[.int .i64 b.de, .int .i64 b.cl, .int .i64 b.fu, .int .i64 b.st, .slice B b.rs.length cap'] := by rw [← hw0]; exact Blk.at_new _ _ (by simp) _ _
            have HSA := Lib.hid (hS.on hb0)
            have HSB := Lib.hid (hO.on hb0)
            have HX := Lib.hid hx
            have HY := Lib.hid hy
            have HBw := Lib.hid hb0
            clear hw0 hb0 hx hy HB0 hS hO
            go_loopw [5] (fun i wr => ∃ k : Nat, k ≤ a.rs.length ∧ i = .int .i64 k ∧ Hid (a.rs.take k = b.rs.take k) ∧ Below w0.heap.size w0 wr) (fun i _ => a.rs.length - (intOf i).toNat)
            case atStart => exact ⟨0, Nat.zero_le _, rfl, Lib.hid rfl, Below.refl _ _⟩
            case round =>
              obtain ⟨k, hk, rfl, HH, hbel⟩ := hrel
              have hsz := hbel.size
              have x4 := (HX.out.on hbel).cell 4
              have y4 := (HY.out.on hbel).cell 4
              by_cases hlt : k < a.rs.length
              · have hlt' : k < b.rs.length := by have := HL.out; omega
                have hlti : (k : Int) < (b.rs.length : Int) := by omega
                have hltj : (k : Int) < (a.rs.length : Int) := by omega
                obtain ⟨b1, off, hA1, hb, c0, c1, c2, c3, c4⟩ := (HSA.out.below hbel).at_ hlt
                obtain ⟨b2, off', hA2, hb', d0, d1, d2, d3, d4⟩ := (HSB.out.below hbel).at_ hlt'
                subst hA1 hA2
                have HG := Lib.hid (List.getElem?_eq_getElem hlt)
                have HG' := Lib.hid (List.getElem?_eq_getElem hlt')
                generalize a.rs[k] = r at HG c0 c1 c2 c3 c4
                generalize b.rs[k] = r' at HG' d0 d1 d2 d3 d4
                have HLt := Lib.hid hlt
                clear hlt hlt'
                have hneq := run_neq_xr r r'
                cases hin : ruEq r r'
                · have HI := Lib.hid hin
                  rw [hin] at hneq
                  go_wp2
                  go_quiet (fail)
                  go_wp2
                  go_ret
                  refine ⟨false, rfl, ?_, HBw.out.trans ((hbel.mono HBw.out.size).trans ?_)⟩
                  · constructor
                    · intro h; cases h
                    · intro h
                      subst h
                      rw [HG.out] at HG'
                      have := Option.some.inj HG'.out
                      subst this
                      rw [ruEq_refl] at HI
                      cases HI.out
                  · exact Below.drewN' (Below.refl _ _) _
                · have HI := Lib.hid ((ruEq_iff r r').1 hin)
                  rw [hin] at hneq
                  go_wp2
                  go_quiet (fail)
                  go_wp2
                  go_roundw
                  case rel => exact ⟨k + 1, HLt.out, by go_num, Lib.hid (by rw [ru_take HG.out, ru_take HG'.out, HH.out, HI.out]), Below.drewN' hbel _⟩
                  case measure => have := HLt.out; simp [intOf]; omega
              · obtain rfl : k = a.rs.length := by omega
                have HE : Hid (a = b) := Lib.hid (by
                  have h := HH.out
                  rw [List.take_length, HL.out, List.take_length] at h
                  cases a; cases b
                  simp only at h H0 H1 H2 H3
                  rw [h, H0.out, H1.out, H2.out, H3.out])
                go_wp2
                go_ret
                exact ⟨true, rfl, by simp [HE.out], HBw.out.trans (hbel.mono HBw.out.size)⟩
          · have pl : ((a.rs.length : Int) != (b.rs.length : Int)) = true := by simp; omega
            have HH := Lib.hid hl
            clear hl
            go_enter Tryz.func21, Tryz.ntmps21
            go_wp2
            go_ret
            exact ⟨false, rfl, by constructor; (intro h; cases h); (intro h; exact absurd (congrArg (fun s => s.rs.length) h) HH.out), HB0.out⟩
        · have p3 : (a.st != b.st) = true := by simp [h3]
          have HH := Lib.hid h3
          clear h3
          go_enter Tryz.func21, Tryz.ntmps21
          go_wp2
          go_ret
          exact ⟨false, rfl, by constructor; (intro h; cases h); (intro h; exact absurd (congrArg RS.st h) HH.out), HB0.out⟩
      · have p2 : (a.fu != b.fu) = true := by simp [h2]
        have HH := Lib.hid h2
        clear h2
        go_enter Tryz.func21, Tryz.ntmps21
        go_wp2
        go_ret
        exact ⟨false, rfl, by constructor; (intro h; cases h); (intro h; exact absurd (congrArg RS.fu h) HH.out), HB0.out⟩
    · have p1 : (a.cl != b.cl) = true := by simp [h1]
      have HH := Lib.hid h1
      clear h1
      go_enter Tryz.func21, Tryz.ntmps21
      go_wp2
      go_ret
      exact ⟨false, rfl, by constructor; (intro h; cases h); (intro h; exact absurd (congrArg RS.cl h) HH.out), HB0.out⟩
  · have p0 : (a.de != b.de) = true := by simp [h0]
    have HH := Lib.hid h0
    clear h0
    go_enter Tryz.func21, Tryz.ntmps21
    go_wp2
    go_ret
    exact ⟨false, rfl, by constructor; (intro h; cases h); (intro h; exact absurd (congrArg RS.de h) HH.out), HB0.out⟩

end Go.Proofs.YtefgobmpleoafaaGreatDoor

/- The append of a list of rules onto a row of the call's own; a store into such a row. -/
namespace Go.Proofs.YtefgobmpleoafaaGreatDoor
open Go.RowKit Go.Maps
variable {w w' : World}

section
variable {P : Program} (w : World)
theorem run_append_rules5 (base : Nat) (t ty e : TypeId) (i : TypeInfo) (z : Value) (bytes : Nat) (ht : P.underlying t = some (.slice e)) (hi : P.info? e = some i) (hz : i.zero = some z)
    (hsize : i.size = 5) (hby : i.bytes = bytes) (hzs : z.cells.size = 5) (v : Value) (xs : List Ru) (hown : OwnU w base e v xs)
    (n₀ : Nat) (u : Value) (ys : List Ru) (hr : RulesV n₀ w u ys) (h63 : xs.length + ys.length ≤ 1000000) (hbytes : bytes ≤ 100) (hbase : base ≤ w.heap.size) :
    ∃ v' w', (Builtin.append_ #[t, t] ty #[v, u]).run P w = .ok v' w' ∧ OwnU w' base e v' (xs ++ ys) ∧ w.grownBy w' v.ownBlock ∧ (v'.ownBlock = v.ownBlock ∨ v'.ownBlock = some w.heap.size) := by
  have hm : (xs.length + ys.length) * bytes ≤ 1000000 * 100 := Nat.mul_le_mul h63 hbytes
  obtain ⟨A, cap, rfl, _, hA⟩ := hr
  cases A with
  | none =>
    have hy : ys = [] := by
      rcases ys with _ | ⟨y, ys⟩
      · rfl
      · obtain ⟨b, off, h, _⟩ := hA (by simp)
        cases h
    subst hy
    refine ⟨v, w, ?_, by simpa using hown, World.grownBy.refl w _, .inl rfl⟩
    rcases hown.2 with ⟨rfl, _⟩ | ⟨g, c, cur, rfl, _, _, hnc, _⟩
    · simp [Builtin.append_, run_underlying ht, sizeOf, typeInfo, hi, Builtin.lenOf, Builtin.firstCells]
    · simp [Builtin.append_, run_underlying ht, sizeOf, typeInfo, hi, Builtin.lenOf, Builtin.firstCells, hnc, storeCells]
  | some a =>
    have hcells : ∀ j y, (ruCells ys)[j]? = some y → w.cell? (a.add j) = some y := by
      intro j y hy
      obtain ⟨r, hr1, hr2⟩ := ruCells_inv ys j y hy
      have hne : ys ≠ [] := by rintro rfl; simp at hr1
      obtain ⟨b, off, h, _, hc⟩ := hA hne
      cases h
      have hadd : (⟨b, off, none⟩ : Addr).add j = ⟨b, off + j, none⟩ := by unfold Addr.add; split <;> simp_all
      rw [hadd, show off + j = (off + j / 5 * 5) + j % 5 by omega]
      exact RuAt.get (hc _ _ hr1) _ _ hr2
    obtain ⟨v', w', hrun, h2, h3, _, h5⟩ := run_append_own_at (P := P) w base t ty e i z 5 bytes ht hi hz hsize hby hzs (by decide) v xs.length (ruCells xs) hown a ys.length cap (ruCells ys) (ruCells_len ys) hcells (ruCells_one ys) (by unfold maxLen; omega) (by omega) hbase
    refine ⟨v', w', hrun, ?_, h3, h5⟩
    unfold OwnU
    rw [List.length_append, ruCells_append]
    exact h2

theorem run_append_rules (base : Nat) (t ty e : TypeId) (i : TypeInfo) (z : Value) (bytes : Nat) (ht : P.underlying t = some (.slice e)) (hi : P.info? e = some i) (hz : i.zero = some z)
    (hsize : i.size = 5) (hby : i.bytes = bytes) (hzs : z.cells.size = 5) (v : Value) (xs : List Ru) (hown : OwnU w base e v xs)
    (n₀ : Nat) (u : Value) (ys : List Ru) (hr : RulesV n₀ w u ys) (h63 : xs.length + ys.length ≤ 1000000) (hbytes : bytes ≤ 100) (hbase : base ≤ w.heap.size) :
    ∃ v' w', (Builtin.append_ #[t, t] ty #[v, u]).run P w = .ok v' w' ∧ OwnU w' base e v' (xs ++ ys) ∧ w.grownBy w' v.ownBlock := by
  obtain ⟨v', w', h1, h2, h3, _⟩ := run_append_rules5 (P := P) w base t ty e i z bytes ht hi hz hsize hby hzs v xs hown n₀ u ys hr h63 hbytes hbase
  exact ⟨v', w', h1, h2, h3⟩

theorem wpList_append_rules {ops : Array Oper} {rest : List Oper} {o : Oper} {a : Act} {Q : Exit → Act → World → Prop} (hgd : o.guard = none) (s x : Operand) (t : TypeId)
    (ho : o.op = .call { callee := .builtin .append, args := #[s, x], argTypes := #[t, t] })
    (base : Nat) (e : TypeId) (i : TypeInfo) (z : Value) (bytes : Nat) (ht : P.underlying t = some (.slice e)) (hi : P.info? e = some i) (hz : i.zero = some z)
    (hsize : i.size = 5) (hby : i.bytes = bytes) (hzs : z.cells.size = 5) (v : Value) (xs : List Ru) (hs : a.eval s = v) (hown : OwnU w base e v xs)
    (n₀ : Nat) (u : Value) (ys : List Ru) (hx : a.eval x = u) (hr : RulesV n₀ w u ys) (h63 : xs.length + ys.length ≤ 1000000) (hbytes : bytes ≤ 100) (hbase : base ≤ w.heap.size)
    (h : ∀ v' w', OwnU w' base e v' (xs ++ ys) → w.grownBy w' v.ownBlock → wpList P ops Q rest (a.put o.dst v') w') : wpList P ops Q (o :: rest) a w := by
  refine wpList_plain hgd fun K hK => ?_
  obtain ⟨v', w', hrun, h2, h3⟩ := run_append_rules (P := P) w base t o.type e i z bytes ht hi hz hsize hby hzs v xs hown n₀ u ys hr h63 hbytes hbase
  unfold Oper.wp execOp
  simp only [ho, resolve, invoke, builtin, Sem.run_bind, Sem.run_pure, Result.andThen_ok, List.map_toArray, List.map_cons, List.map_nil, hs, hx, hrun]
  exact hK _ _ (h v' w' h2 h3)
end
/-- a composite literal without elements -/
theorem ownU_empty (w : World) (base : Nat) (e : TypeId) (h : base ≤ w.heap.size) : OwnU (w.alloc (.cells #[] e)) base e (.slice (some ⟨w.heap.size, 0, none⟩) 0 0) [] :=
  World.ownsRow_made w #[] 0 h (by unfold maxLen; omega) (by simp)
/-- what lies in a row of the call's own, when it isn't empty -/
theorem OwnU.held {base : Nat} {e : TypeId} {A : Option Addr} {n c : Nat} {l : List Ru} (h : OwnU w base e (.slice A n c) l) (hn : 0 < l.length) : ∃ g cs, A = some ⟨g, 0, none⟩ ∧ base ≤ g ∧ Blk w g e cs ∧ l.length * 5 ≤ cs.size := by
  rcases h.2 with ⟨_, h0⟩ | ⟨g, cap, cur, hv, hb, hg, hc, _, hs, _⟩
  · omega
  · injection hv with h1 h2 h3
    refine ⟨g, cur, h1, hb, hg, ?_⟩
    rw [hs]
    exact Nat.mul_le_mul_right 5 hc
theorem Far.of_own {base : Nat} {e : TypeId} {v : Value} {l : List Ru} (h : OwnU w base e v l) : Far base v := fun k hk => (h.lt k hk).1

end Go.Proofs.YtefgobmpleoafaaGreatDoor

