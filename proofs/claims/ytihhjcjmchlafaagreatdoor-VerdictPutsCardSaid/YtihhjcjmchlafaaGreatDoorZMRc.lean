/- Joined: RuQ, RuS, RuL. -/
import Derived.Test.YtihhjcjmchlafaaGreatDoorZMRa
import Derived.Test.YtihhjcjmchlafaaGreatDoorZMRb
/- Of layer 7, without a program: what comes of deltas. -/
namespace Go.Proofs.YtihhjcjmchlafaaGreatDoor

theorem mem_puts : ∀ {p l : List Ru} {x : Ru}, (p.map Ru.id).Nodup → (x ∈ puts l p ↔ x ∈ p ∨ (x ∈ l ∧ x.id ∉ p.map Ru.id))
  | [], l, x, _ => by simp [puts]
  | r :: p, l, x, h => by
    obtain ⟨h1, h2⟩ := List.nodup_cons.1 h
    show x ∈ puts (ins r l) p ↔ _
    rw [mem_puts h2, mem_ins]
    simp only [List.mem_cons, List.map_cons, not_or]
    constructor
    · rintro (h | ⟨rfl | ⟨h3, h4⟩, h5⟩)
      · exact .inl (.inr h)
      · exact .inl (.inl rfl)
      · exact .inr ⟨h3, h4, h5⟩
    · rintro ((rfl | h) | ⟨h3, h4, h5⟩)
      · exact .inr ⟨.inl rfl, h1⟩
      · exact .inl h
      · exact .inr ⟨.inr ⟨h3, h4⟩, h5⟩
theorem mem_drops {l : List Ru} {ids : List Int} {x : Ru} : x ∈ drops l ids ↔ x ∈ l ∧ x.id ∉ ids := by simp [drops]
theorem mem_gone {l : List Ru} {i : Int} {x : Ru} : x ∈ gone i l ↔ x ∈ l ∧ x.id ≠ i := by simp [gone]
theorem gone_len {i : Int} : ∀ {l : List Ru}, Rise l → (gone i l).length + (if i ∈ l.map Ru.id then 1 else 0) = l.length
  | [], _ => rfl
  | x :: l, h => by
    obtain ⟨a1, a2⟩ := List.pairwise_cons.1 h
    have ih := gone_len (i := i) a2
    by_cases e : x.id = i
    · have hn : i ∉ l.map Ru.id := fun hm => by
        obtain ⟨y, hy, e'⟩ := List.mem_map.1 hm
        have := a1 y hy
        omega
      rw [if_neg hn] at ih
      have g : gone i (x :: l) = gone i l := by simp [gone, e]
      rw [g, if_pos (by simp [e])]
      simp only [List.length_cons]
      omega
    · have g : gone i (x :: l) = x :: gone i l := by simp [gone, e]
      rw [g]
      have : (i ∈ (x :: l).map Ru.id) ↔ i ∈ l.map Ru.id := by
        simp only [List.map_cons, List.mem_cons]
        constructor
        · rintro (h | h)
          · exact absurd h.symm e
          · exact h
        · exact .inr
      simp only [this, List.length_cons]
      omega
theorem gone_split {r : Ru} (l : List Ru) : (l.filter fun x => decide (x.id < r.id)).length + (l.filter fun x => decide (r.id < x.id)).length = (gone r.id l).length := by
  induction l with
  | nil => rfl
  | cons x l ih =>
    unfold gone at ih ⊢
    rcases Int.lt_trichotomy x.id r.id with h | h | h
    · have h1 : ¬ r.id < x.id := by omega
      have h2 : x.id ≠ r.id := by omega
      simp [h, h1, h2] at ih ⊢
      omega
    · have h1 : ¬ r.id < x.id := by omega
      have h2 : ¬ x.id < r.id := by omega
      simp [h] at ih ⊢
      omega
    · have h1 : ¬ x.id < r.id := by omega
      have h2 : x.id ≠ r.id := by omega
      simp [h, h1, h2] at ih ⊢
      omega
theorem ins_length {r : Ru} {l : List Ru} (h : Rise l) : (ins r l).length + (if r.id ∈ l.map Ru.id then 1 else 0) = l.length + 1 := by
  have h1 := gone_split (r := r) l
  have h2 := gone_len (i := r.id) h
  unfold ins
  rw [List.length_append, List.length_cons]
  omega
theorem orK_neg (n : Int) : orK (-1) n = n := by simp [orK]
theorem rise_nodup {l : List Ru} (h : Rise l) : (l.map Ru.id).Nodup := List.pairwise_map.2 (h.imp fun h => by omega)
theorem look_mem {l : List Ru} (h : Rise l) {x : Ru} (hx : x ∈ l) : look l x.id = x := by
  unfold look
  cases hf : l.find? fun y => decide (y.id = x.id) with
  | none => have := List.find?_eq_none.1 hf x hx; simp at this
  | some y =>
    have h1 := List.mem_of_find?_eq_some hf
    have h2 : y.id = x.id := by simpa using List.find?_some hf
    exact rise_inj h h1 hx h2

/-- when a change is taken -/
structure Taken (s : RS) (d : Dl) : Prop where
  ok : s.Ok
  num : (nums s d).num = true
  put : ∀ r ∈ d.put, r.ok = true
  once : d.ids.Nodup
  drop : ∀ i ∈ d.drop, i ∈ s.rs.map Ru.id
  few : (after s d).length ≤ 16
theorem taken_eq {s : RS} {d : Dl} (h : Taken s d) : applyM s d = ({ nums s d with rs := after s d }, 0) := by
  obtain ⟨h1, h2, h3, h4, h5, h6⟩ := h
  unfold applyM
  rw [if_neg (by simpa using h1), if_neg (by
    rintro (h | ⟨r, hr, h⟩)
    · rw [h2] at h; cases h
    · rw [h3 r hr] at h; cases h), if_neg (by simpa using h4), if_neg (fun ⟨i, a, b⟩ => b (h5 i a)), if_neg (by omega)]
theorem taken_iff {s : RS} {d : Dl} : (applyM s d).2 = 0 ↔ Taken s d := by
  constructor
  · intro h
    unfold applyM at h
    by_cases h1 : s.Ok
    · rw [if_neg (by simpa using h1)] at h
      by_cases h2 : (nums s d).num = false ∨ ∃ r ∈ d.put, r.ok = false
      · rw [if_pos h2] at h; exact absurd h (by decide)
      · rw [if_neg h2] at h
        by_cases h3 : d.ids.Nodup
        · rw [if_neg (by simpa using h3)] at h
          by_cases h4 : ∃ i ∈ d.drop, i ∉ s.rs.map Ru.id
          · rw [if_pos h4] at h; exact absurd h (by decide)
          · rw [if_neg h4] at h
            by_cases h5 : 16 < (after s d).length
            · rw [if_pos h5] at h; exact absurd h (by decide)
            · refine ⟨h1, ?_, fun r hr => ?_, h3, fun i hi => ?_, by omega⟩
              · cases hn : (nums s d).num with
                | true => rfl
                | false => exact absurd (.inl hn) h2
              · cases hn : r.ok with
                | true => rfl
                | false => exact absurd (.inr ⟨r, hr, hn⟩) h2
              · exact Classical.byContradiction fun hn => h4 ⟨i, hi, hn⟩
        · rw [if_pos (by simpa using h3)] at h; exact absurd h (by decide)
    · rw [if_pos h1] at h; exact absurd h (by decide)
  · intro h
    rw [taken_eq h]
theorem after_rise {s : RS} {d : Dl} (h : s.Ok) : Rise (after s d) := (h.2.2.2.drops _).puts _
theorem Taken.put_nodup {s : RS} {d : Dl} (h : Taken s d) : (d.put.map Ru.id).Nodup := (List.nodup_append.1 h.once).1
theorem mem_after {s : RS} {d : Dl} (h : Taken s d) {x : Ru} : x ∈ after s d ↔ x ∈ d.put ∨ (x ∈ s.rs ∧ x.id ∉ d.drop ∧ x.id ∉ d.put.map Ru.id) := by
  unfold after
  rw [mem_puts h.put_nodup, mem_drops, and_assoc]
/-- what comes of a change is right -/
theorem Taken.right {s : RS} {d : Dl} (h : Taken s d) : RS.Ok { nums s d with rs := after s d } := by
  refine ⟨h.num, h.few, fun r hr => ?_, after_rise h.ok⟩
  rcases (mem_after h).1 hr with h' | ⟨h', _⟩
  · exact h.put r h'
  · exact h.ok.2.2.1 r h'

/-! ### RuleKeeps -/
def dNone : Dl := ⟨-1, -1, -1, -1, [], []⟩
theorem num_none {s : RS} {p : List Ru} {q : List Int} : nums s ⟨-1, -1, -1, -1, p, q⟩ = { s with rs := [] } := by simp [nums, orK]
theorem keeps_none {s : RS} (h : s.Ok) : applyM s ⟨-1, -1, -1, -1, [], []⟩ = (s, 0) := by
  have e : after s ⟨-1, -1, -1, -1, [], []⟩ = s.rs := by simp [after, drops, puts]
  rw [taken_eq ⟨h, by rw [num_none]; exact h.1, by simp, by simp [Dl.ids], by simp, by rw [e]; exact h.2.1⟩, num_none, e]
theorem keeps_put {s : RS} (h : s.Ok) : applyM s ⟨-1, -1, -1, -1, s.rs, []⟩ = (s, 0) := by
  have e : after s ⟨-1, -1, -1, -1, s.rs, []⟩ = s.rs := by
    refine rise_ext (after_rise h) h.2.2.2 fun x => ?_
    unfold after
    rw [mem_puts (rise_nodup h.2.2.2)]
    constructor
    · rintro (h | ⟨h1, _⟩)
      · exact h
      · exact (mem_drops.1 h1).1
    · exact .inl
  rw [taken_eq ⟨h, by rw [num_none]; exact h.1, h.2.2.1, by simpa [Dl.ids] using rise_nodup h.2.2.2, by simp, by rw [e]; exact h.2.1⟩, num_none, e]

end Go.Proofs.YtihhjcjmchlafaaGreatDoor

/- Of layer 7, without a program: a rule that is put and dropped behind it. -/
namespace Go.Proofs.YtihhjcjmchlafaaGreatDoor

theorem drop1_ok {s : RS} {x : Ru} (h : s.Ok) (hx : x.ok = true) (hf : (ins x s.rs).length ≤ 16) : applyM s ⟨-1, -1, -1, -1, [x], []⟩ = ({ s with rs := ins x s.rs }, 0) := by
  have e : after s ⟨-1, -1, -1, -1, [x], []⟩ = ins x s.rs := by simp [after, drops_nil, puts]
  rw [taken_eq ⟨h, by rw [num_none]; exact h.1, by simpa using hx, by simp [Dl.ids], by simp, by rw [e]; exact hf⟩, num_none, e]
theorem drop1_right {s : RS} {x : Ru} (h : s.Ok) (hx : x.ok = true) (hf : (ins x s.rs).length ≤ 16) : RS.Ok { s with rs := ins x s.rs } := by
  refine ⟨h.1, hf, fun r hr => ?_, Rise.ins h.2.2.2⟩
  rcases mem_ins.1 hr with rfl | ⟨h', _⟩
  · exact hx
  · exact h.2.2.1 r h'
theorem drop1_full {s : RS} {x : Ru} (h : s.Ok) (hx : x.ok = true) (hf : ¬ (ins x s.rs).length ≤ 16) : applyM s ⟨-1, -1, -1, -1, [x], []⟩ = (.zero, 33) ∧ x.id ∉ s.rs.map Ru.id ∧ s.rs.length = 16 := by
  have e : after s ⟨-1, -1, -1, -1, [x], []⟩ = ins x s.rs := by simp [after, drops_nil, puts]
  have hl := ins_length (r := x) h.2.2.2
  have h16 := h.2.1
  have hn : x.id ∉ s.rs.map Ru.id := fun hm => by
    rw [if_pos hm] at hl
    omega
  rw [if_neg hn] at hl
  refine ⟨?_, hn, by omega⟩
  unfold applyM
  rw [if_neg (by simpa using h), if_neg (by
    rintro (h' | ⟨r, hr, h'⟩)
    · rw [num_none] at h'; exact absurd (h.1.symm.trans h') (by decide)
    · simp only [List.mem_singleton] at hr
      subst hr
      rw [hx] at h'; cases h'), if_neg (by simp [Dl.ids]), if_neg (by simp), if_pos (by rw [e]; omega)]
theorem drops_one (l : List Ru) (i : Int) : drops l [i] = gone i l := by
  unfold drops gone
  apply List.filter_congr
  intro x _
  simp
theorem drop2_ok {s : RS} {i : Int} (h : s.Ok) (hi : i ∈ s.rs.map Ru.id) : applyM s ⟨-1, -1, -1, -1, [], [i]⟩ = ({ s with rs := gone i s.rs }, 0) := by
  have e : after s ⟨-1, -1, -1, -1, [], [i]⟩ = gone i s.rs := by simp [after, drops_one, puts]
  rw [taken_eq ⟨h, by rw [num_none]; exact h.1, by simp, by simp [Dl.ids], by simpa using hi, by rw [e]; exact Nat.le_trans (List.length_filter_le _ _) h.2.1⟩, num_none, e]
theorem drop2_right {s : RS} {i : Int} (h : s.Ok) : RS.Ok { s with rs := gone i s.rs } :=
  ⟨h.1, Nat.le_trans (List.length_filter_le _ _) h.2.1, fun r hr => h.2.2.1 r (mem_gone.1 hr).1, h.2.2.2.filter _⟩
theorem drop2_none {s : RS} {i : Int} (h : s.Ok) (hi : i ∉ s.rs.map Ru.id) : applyM s ⟨-1, -1, -1, -1, [], [i]⟩ = (.zero, 32) := by
  unfold applyM
  rw [if_neg (by simpa using h), if_neg (by
    rintro (h' | ⟨r, hr, h'⟩)
    · rw [num_none] at h'; exact absurd (h.1.symm.trans h') (by decide)
    · simp at hr), if_neg (by simp [Dl.ids]), if_pos ⟨i, by simp, hi⟩]
theorem gone_ins {x : Ru} {l : List Ru} (h : Rise l) : gone x.id (ins x l) = gone x.id l := by
  refine rise_ext (h.ins.filter _) (h.filter _) fun y => ?_
  rw [mem_gone, mem_gone, mem_ins]
  constructor
  · rintro ⟨rfl | ⟨h1, _⟩, h2⟩
    · exact absurd rfl h2
    · exact ⟨h1, h2⟩
  · rintro ⟨h1, h2⟩
    exact ⟨.inr ⟨h1, h2⟩, h2⟩
theorem gone_not (i : Int) (l : List Ru) : i ∉ (gone i l).map Ru.id := fun h => by
  obtain ⟨y, hy, e⟩ := List.mem_map.1 h
  exact (mem_gone.1 hy).2 e

end Go.Proofs.YtihhjcjmchlafaaGreatDoor

/- Layer 7's laws: the anchor; Set.Rule. -/
namespace Go.Proofs.YtihhjcjmchlafaaGreatDoor
open Go.RowKit Go.Maps
variable {w w' : World}

def r3 : Ru := ⟨3, 0, 0, 1, ⟨#[97]⟩⟩
def d7 : Dl := ⟨-1, 7, -1, -1, [r3], []⟩
theorem apply7 : applyM RS.first d7 = (⟨0, 7, 10000, 500, [r3]⟩, 0) := by
  have e : after RS.first d7 = [r3] := by simp [after, d7, RS.first, drops, puts, ins]
  have h1 : RS.first.Ok := by refine ⟨by decide, by decide, by simp [RS.first], by simp [RS.first]⟩
  have h2 : ¬ ((nums RS.first d7).num = false ∨ ∃ r ∈ d7.put, r.ok = false) := by
    rintro (h | ⟨r, hr, h⟩)
    · exact absurd h (by decide)
    · simp only [d7, List.mem_singleton] at hr
      subst hr
      exact absurd h (by decide)
  rw [applyM_ok h1 h2 (by simp [Dl.ids, d7]) (by simp [d7]) (by rw [e]; decide), e]
  rfl
theorem one_rule (w : World) (r : Ru) : RulesV (w.alloc (.cells #[.int .i64 r.id, .int .i64 r.pr, .int .i64 r.ac, .int .i64 r.sc, .string r.pat] 71)).heap.size (w.alloc (.cells #[.int .i64 r.id, .int .i64 r.pr, .int .i64 r.ac, .int .i64 r.sc, .string r.pat] 71)) (.slice (some ⟨w.heap.size, 0, none⟩) 1 1) [r] := by
  refine ⟨_, 1, rfl, Nat.le_refl _, fun _ => ⟨w.heap.size, 0, rfl, by simp, fun i x hx => ?_⟩⟩
  have h := Blk.new w 71 #[.int .i64 r.id, .int .i64 r.pr, .int .i64 r.ac, .int .i64 r.sc, .string r.pat]
  match i, hx with
  | 0, hx =>
    simp at hx
    subst hx
    exact h.c5
  | i + 1, hx => simp at hx
theorem row_nil (n : Nat) (w : World) : Row n w (.slice none 0 0) (zI []) := ⟨none, 0, rfl, Nat.le_refl _, fun h => absurd rfl h⟩

set_option maxRecDepth 100000 in
set_option maxHeartbeats 4000000 in
/-- the first rule of an ID, and whether there is one -/
theorem setRule_any (s : RS) (v : Value) (id : Int) (w : World) (hmax : s.rs.length ≤ 1000000) (hS : RulesV w.heap.size w v s.rs) :
    Calls Tryz.prog 36 #[.agg #[.int .i64 s.de, .int .i64 s.cl, .int .i64 s.fu, .int .i64 s.st, v], .int .i64 id] w
      fun e w' => e = .returned (.tuple #[.agg #[.int .i64 (look s.rs id).id, .int .i64 (look s.rs id).pr, .int .i64 (look s.rs id).ac, .int .i64 (look s.rs id).sc, .string (look s.rs id).pat], .bool (decide (id ∈ s.rs.map Ru.id))]) ∧ Below w.heap.size w w' := by
  obtain ⟨A, cap, rfl⟩ := hS.form
  have HS := Lib.hid hS
  clear hS
  go_enter Tryz.func36, Tryz.ntmps36
  go_wp2_with fail
  go_upto_region 2 with (fail)
  have hb0 : Below w.heap.size w ((w.alloc (.cells #[.int .i64 s.de, .int .i64 s.cl, .int .i64 s.fu, .int .i64 s.st, .slice A s.rs.length cap] 59)).alloc (.cells #[.int .i64 0, .int .i64 0, .int .i64 0, .int .i64 0, .string ⟨#[]⟩] 71)) := ((Below.refl _ _).alloc (Nat.le_refl _) _).alloc (by simp) _
  have hz0 : Blk ((w.alloc (.cells #[.int .i64 s.de, .int .i64 s.cl, .int .i64 s.fu, .int .i64 s.st, .slice A s.rs.length cap] 59)).alloc (.cells #[.int .i64 0, .int .i64 0, .int .i64 0, .int .i64 0, .string ⟨#[]⟩] 71)) (w.heap.size + 1) 71 #[.int .i64 0, .int .i64 0, .int .i64 0, .int .i64 0, .string ⟨#[]⟩] := Blk.at_new _ _ (by simp) _ _
  generalize (w.alloc (.cells #[.int .i64 s.de, .int .i64 s.cl, .int .i64 s.fu, .int .i64 s.st, .slice A s.rs.length cap] 59)).alloc (.cells #[.int .i64 0, .int .i64 0, .int .i64 0, .int .i64 0, .string ⟨#[]⟩] 71) = w0 at *
  have HS0 := Lib.hid (HS.out.on hb0)
  have HZ := Lib.hid hz0
  have HB := Lib.hid hb0
  clear hb0 hz0
  go_loopw [11] (fun i wr => ∃ k : Nat, k ≤ s.rs.length ∧ i = .int .i64 k ∧ Hid (∀ x ∈ s.rs.take k, x.id ≠ id) ∧ Below w0.heap.size w0 wr) (fun i _ => s.rs.length - (intOf i).toNat)
  case atStart => exact ⟨0, Nat.zero_le _, rfl, Lib.hid (by simp), Below.refl _ _⟩
  case round =>
    obtain ⟨k, hk, rfl, HN, hbel⟩ := hrel
    have hsz := hbel.size
    by_cases hlt : k < s.rs.length
    · obtain ⟨b, off, rfl, hb, c0, c1, c2, c3, c4⟩ := (HS0.out.below hbel).at_ hlt
      have HG := Lib.hid (List.getElem?_eq_getElem hlt)
      generalize s.rs[k] = r at HG c0 c1 c2 c3 c4
      have HLt := Lib.hid hlt
      by_cases he : r.id = id
      · have HL : Hid (look s.rs id = r ∧ decide (id ∈ s.rs.map Ru.id) = true) := Lib.hid (by
          have hm : r ∈ s.rs := List.mem_of_getElem? HG.out
          refine ⟨?_, decide_eq_true (he ▸ List.mem_map_of_mem hm)⟩
          unfold look
          obtain ⟨hk', e⟩ := List.getElem?_eq_some_iff.1 HG.out
          have : s.rs.find? (fun x => decide (x.id = id)) = some r := by
            rw [List.find?_eq_some_iff_getElem]
            refine ⟨by simpa using he, k, hk', e, fun j hj => ?_⟩
            have := HN.out s.rs[j] (List.mem_take_iff_getElem.2 ⟨j, by omega, rfl⟩)
            simpa using this
          rw [this]
          rfl)
        have HBl := Lib.hid hbel
        obtain ⟨z0, z1, z2, z3, z4⟩ := (HZ.out.on hbel).c5
        obtain ⟨f0, f1, f2, f3, f4⟩ := (HZ.out.on hbel).f5
        have hlr := (HZ.out.on hbel).lt
        go_wp2
        refine bodyPost_ret (v := .tuple #[.agg #[.int .i64 r.id, .int .i64 r.pr, .int .i64 r.ac, .int .i64 r.sc, .string r.pat], .bool true]) (by simp [results, Tryz.results36, go_sem, *]) rfl ⟨by rw [HL.out.1, HL.out.2], ?_⟩
        refine Below.alloc ?_ (by have := (HB.out.trans (HBl.out.mono HB.out.size)).size; simp; omega) _
        refine Below.setCell ?_ (show w.heap.size ≤ w.heap.size + 1 by omega) _
        refine Below.setCell ?_ (show w.heap.size ≤ w.heap.size + 1 by omega) _
        refine Below.setCell ?_ (show w.heap.size ≤ w.heap.size + 1 by omega) _
        refine Below.setCell ?_ (show w.heap.size ≤ w.heap.size + 1 by omega) _
        refine Below.setCell ?_ (show w.heap.size ≤ w.heap.size + 1 by omega) _
        exact HB.out.trans (HBl.out.mono HB.out.size)
      · have HE := Lib.hid he
        go_wp2
        go_roundw
        case rel => exact ⟨k + 1, HLt.out, by go_num, Lib.hid (by
          rw [ru_take HG.out]
          intro x hx
          rcases List.mem_append.1 hx with h | h
          · exact HN.out x h
          · rw [List.mem_singleton.1 h]; exact HE.out), hbel.alloc hsz _⟩
        case measure => have := HLt.out; simp [intOf]; omega
    · obtain rfl : k = s.rs.length := by omega
      have HL : Hid (look s.rs id = Ru.none ∧ decide (id ∈ s.rs.map Ru.id) = false) := Lib.hid (by
        have hn := HN.out
        rw [List.take_length] at hn
        refine ⟨?_, decide_eq_false fun h => ?_⟩
        · unfold look
          rw [List.find?_eq_none.2 fun x hx => by simpa using hn x hx]
          rfl
        · obtain ⟨x, hx, e⟩ := List.mem_map.1 h
          exact hn x hx e)
      have HBl := Lib.hid hbel
      obtain ⟨z0, z1, z2, z3, z4⟩ := (HZ.out.on hbel).c5
      obtain ⟨f0, f1, f2, f3, f4⟩ := (HZ.out.on hbel).f5
      have hlr := (HZ.out.on hbel).lt
      go_wp2
      refine bodyPost_ret (v := .tuple #[.agg #[.int .i64 0, .int .i64 0, .int .i64 0, .int .i64 0, .string ⟨#[]⟩], .bool false]) (by simp [results, Tryz.results36, go_sem, *]) rfl ⟨by rw [HL.out.1, HL.out.2]; rfl, ?_⟩
      refine Below.setCell ?_ (show w.heap.size ≤ w.heap.size + 1 by omega) _
      refine Below.setCell ?_ (show w.heap.size ≤ w.heap.size + 1 by omega) _
      refine Below.setCell ?_ (show w.heap.size ≤ w.heap.size + 1 by omega) _
      refine Below.setCell ?_ (show w.heap.size ≤ w.heap.size + 1 by omega) _
      refine Below.setCell ?_ (show w.heap.size ≤ w.heap.size + 1 by omega) _
      exact HB.out.trans (HBl.out.mono HB.out.size)

end Go.Proofs.YtihhjcjmchlafaaGreatDoor

