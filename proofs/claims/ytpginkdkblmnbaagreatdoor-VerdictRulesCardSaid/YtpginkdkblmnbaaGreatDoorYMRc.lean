/- Joined: RuQ, RuS, RuL, RuM2, RuN, RuX. -/
import Derived.Test.YtpginkdkblmnbaaGreatDoorYMRa
import Derived.Test.YtpginkdkblmnbaaGreatDoorYMRb
import Derived.BigQuiet
import Derived.Deep.QuietTactic
import Derived.Laws.StructEq
/- Of layer 7, without a program: what comes of deltas. -/
namespace Go.Proofs.YtpginkdkblmnbaaGreatDoor

theorem mem_puts : ∀ {p l : List Ru} {x : Ru}, (p.map Ru.id).Nodup → (x ∈ puts l p ↔ x ∈ p ∨ (x ∈ l ∧ x.id ∉ p.map Ru.id))
  | [], l, x, _ => by simp [puts]
  | r :: p, l, x, h => by
    obtain ⟨h1, h2⟩ := List.nodup_cons.1 h
    show x ∈ puts (ins r l) p ↔ _
    rw [mem_puts h2, mem_ins]
    simp only [List.mem_cons, List.map_cons, not_or]
    constructor
    · rintro (h | ⟨rfl | ⟨h3, h4⟩, h5⟩)
      · exact .inl (.inr h)
      · exact .inl (.inl rfl)
      · exact .inr ⟨h3, h4, h5⟩
    · rintro ((rfl | h) | ⟨h3, h4, h5⟩)
      · exact .inr ⟨.inl rfl, h1⟩
      · exact .inl h
      · exact .inr ⟨.inr ⟨h3, h4⟩, h5⟩
theorem mem_drops {l : List Ru} {ids : List Int} {x : Ru} : x ∈ drops l ids ↔ x ∈ l ∧ x.id ∉ ids := by simp [drops]
/-- when a change is taken -/
structure Taken (s : RS) (d : Dl) : Prop where
  ok : s.Ok
  num : (nums s d).num = true
  put : ∀ r ∈ d.put, r.ok = true
  once : d.ids.Nodup
  drop : ∀ i ∈ d.drop, i ∈ s.rs.map Ru.id
  few : (after s d).length ≤ 16
theorem after_rise {s : RS} {d : Dl} (h : s.Ok) : Rise (after s d) := (h.2.2.2.drops _).puts _
theorem Taken.put_nodup {s : RS} {d : Dl} (h : Taken s d) : (d.put.map Ru.id).Nodup := (List.nodup_append.1 h.once).1
theorem mem_after {s : RS} {d : Dl} (h : Taken s d) {x : Ru} : x ∈ after s d ↔ x ∈ d.put ∨ (x ∈ s.rs ∧ x.id ∉ d.drop ∧ x.id ∉ d.put.map Ru.id) := by
  unfold after
  rw [mem_puts h.put_nodup, mem_drops, and_assoc]
/-- what comes of a change is right -/
theorem Taken.right {s : RS} {d : Dl} (h : Taken s d) : RS.Ok { nums s d with rs := after s d } := by
  refine ⟨h.num, h.few, fun r hr => ?_, after_rise h.ok⟩
  rcases (mem_after h).1 hr with h' | ⟨h', _⟩
  · exact h.put r h'
  · exact h.ok.2.2.1 r h'

/-! ### RuleKeeps -/
end Go.Proofs.YtpginkdkblmnbaaGreatDoor

/- Of layer 7, without a program: a rule that is put and dropped behind it. -/
namespace Go.Proofs.YtpginkdkblmnbaaGreatDoor

end Go.Proofs.YtpginkdkblmnbaaGreatDoor

/- Layer 7's laws: the anchor; Set.Rule. -/
namespace Go.Proofs.YtpginkdkblmnbaaGreatDoor
open Go.RowKit Go.Maps
variable {w w' : World}

def r3 : Ru := ⟨3, 0, 0, 1, ⟨#[97]⟩⟩
end Go.Proofs.YtpginkdkblmnbaaGreatDoor

/- colandermade.Set. -/
namespace Go.Proofs.YtpginkdkblmnbaaGreatDoor
open Go.RowKit Go.Maps
variable {w w' : World}

theorem infoX : (Tryz.prog.info? 109).map (fun i => (i.zero, i.size, i.bytes)) = some (some (.agg #[.int .i64 0, .int .i64 0, .int .i64 0, .int .i64 0, .string ⟨#[]⟩]), 5, 48) := by kernel_rfl
theorem OwnU.farset {base : Nat} {e : TypeId} {V : Value} {l : List Ru} (h : OwnU w base e V l) {a : Addr} (ha : V.ownBlock ≠ some a.block) (u : Value) : OwnU (w.setCell a u) base e V l := ownsRow_setCell_other h ha u
theorem OwnU.form {base : Nat} {e : TypeId} {V : Value} {l : List Ru} (h : OwnU w base e V l) : ∃ A c, V = .slice A l.length c := by
  obtain ⟨A, c, hv, _⟩ := h.set
  exact ⟨A, c, hv⟩

set_option maxRecDepth 100000 in
set_option maxHeartbeats 4000000 in
theorem madeSet_any (s : RS) (v : Value) (w : World) (hmax : s.rs.length ≤ 1000) (hS : RulesV w.heap.size w v s.rs) :
    Calls Tryz.prog 25 #[.agg #[.int .i64 s.de, .int .i64 s.cl, .int .i64 s.fu, .int .i64 s.st, v]] w
      fun e w' => ∃ V, e = .returned (.agg #[.int .i64 s.de, .int .i64 s.cl, .int .i64 s.fu, .int .i64 s.st, V]) ∧ OwnU w' w.heap.size 109 V s.rs ∧ Below w.heap.size w w' := by
  obtain ⟨A, cap, rfl⟩ := hS.form
  obtain ⟨i0, hi, hz0, hz1, hz2⟩ := info_three infoX
  have HS := Lib.hid hS
  clear hS
  go_enter Tryz.func25, Tryz.ntmps25
  go_wp2_with fail
  go_upto_region 3 with (fail)
  have hb0 : Below w.heap.size w (((w.alloc (.cells #[.int .i64 s.de, .int .i64 s.cl, .int .i64 s.fu, .int .i64 s.st, .slice A s.rs.length cap] 59)).alloc (.cells #[.int .i64 0, .int .i64 0, .int .i64 0, .int .i64 0, .slice none 0 0] 68)).alloc (.cells #[.int .i64 s.de, .int .i64 s.cl, .int .i64 s.fu, .int .i64 s.st, .slice none 0 0] 68)) := (((Below.refl _ _).alloc (Nat.le_refl _) _).alloc (by simp) _).alloc (by simp; omega) _
  have hz : Blk (((w.alloc (.cells #[.int .i64 s.de, .int .i64 s.cl, .int .i64 s.fu, .int .i64 s.st, .slice A s.rs.length cap] 59)).alloc (.cells #[.int .i64 0, .int .i64 0, .int .i64 0, .int .i64 0, .slice none 0 0] 68)).alloc (.cells #[.int .i64 s.de, .int .i64 s.cl, .int .i64 s.fu, .int .i64 s.st, .slice none 0 0] 68)) (w.heap.size + 1) 68 #[.int .i64 0, .int .i64 0, .int .i64 0, .int .i64 0, .slice none 0 0] := (Blk.at_new _ _ (by simp) _ _).alloc _
  have hx : Blk (((w.alloc (.cells #[.int .i64 s.de, .int .i64 s.cl, .int .i64 s.fu, .int .i64 s.st, .slice A s.rs.length cap] 59)).alloc (.cells #[.int .i64 0, .int .i64 0, .int .i64 0, .int .i64 0, .slice none 0 0] 68)).alloc (.cells #[.int .i64 s.de, .int .i64 s.cl, .int .i64 s.fu, .int .i64 s.st, .slice none 0 0] 68)) (w.heap.size + 2) 68 #[.int .i64 s.de, .int .i64 s.cl, .int .i64 s.fu, .int .i64 s.st, .slice none 0 0] := Blk.at_new _ _ (by simp) _ _
  generalize ((w.alloc (.cells #[.int .i64 s.de, .int .i64 s.cl, .int .i64 s.fu, .int .i64 s.st, .slice A s.rs.length cap] 59)).alloc (.cells #[.int .i64 0, .int .i64 0, .int .i64 0, .int .i64 0, .slice none 0 0] 68)).alloc (.cells #[.int .i64 s.de, .int .i64 s.cl, .int .i64 s.fu, .int .i64 s.st, .slice none 0 0] 68) = w0 at *
  have HB0 := Lib.hid hb0
  have HZ0 := Lib.hid hz
  have HX0 := Lib.hid hx
  clear hb0 hz hx
  go_loopw [18] (fun i wr => ∃ (k : Nat) (V : Value), k ≤ s.rs.length ∧ i = .int .i64 k ∧ Hid (Blk wr (w.heap.size + 2) 68 #[.int .i64 s.de, .int .i64 s.cl, .int .i64 s.fu, .int .i64 s.st, V]) ∧ Hid (Blk wr (w.heap.size + 1) 68 #[.int .i64 0, .int .i64 0, .int .i64 0, .int .i64 0, .slice none 0 0]) ∧ Hid (OwnU wr w.heap.size 109 V (s.rs.take k)) ∧ Hid (Below w.heap.size w wr)) (fun i _ => s.rs.length - (intOf i).toNat)
  case atStart => exact ⟨0, _, Nat.zero_le _, rfl, HX0, HZ0, Lib.hid (OwnU.nil _ _ _), HB0⟩
  case round =>
    obtain ⟨k, V, hk, rfl, HX, HZ, HO, HB⟩ := hrel
    by_cases hlt : k < s.rs.length
    · obtain ⟨b, off, rfl, hb, c0, c1, c2, c3, c4⟩ := (HS.out.below HB.out).at_ hlt
      have HG := Lib.hid (List.getElem?_eq_getElem hlt)
      generalize s.rs[k] = r at HG c0 c1 c2 c3 c4
      have HLt := Lib.hid hlt
      have HLen : Hid ((s.rs.take k ++ [r]).length = k + 1) := Lib.hid (by simp; omega)
      have d4 := HX.out.cell 4
      have hlx := HX.out.lt
      have hne := own_ne HO.out HX.out (by decide)
      have HNe := Lib.hid hne
      clear hne hlt
      go_wp2_with (first
        | (at_builtin
           refine wpList_append_rule _ rfl (.tmp 23) (.tmp 25) 66 rfl w.heap.size 109 i0 (.agg #[.int .i64 0, .int .i64 0, .int .i64 0, .int .i64 0, .string ⟨#[]⟩]) 48 Tryz.underlying66 hi hz0 hz1 hz2 rfl V (s.rs.take k) rfl ((HO.out.alloc _).alloc _) _ 1 r rfl (Blk.at_new _ _ (by simp) _ _) (by simp; omega) (by decide) (by have := HB.out.size; simp; omega) ?_
           intro V' w1 hown' hgrow'
           obtain ⟨VA, VC, hV⟩ := hown'.form
           rw [HLen.out] at hV
           subst hV
           have hX1 := ((HX.out.alloc (.cells #[.int .i64 r.id, .int .i64 r.pr, .int .i64 r.ac, .int .i64 r.sc, .string r.pat] 71)).alloc (.cells #[.int .i64 r.id, .int .i64 r.pr, .int .i64 r.ac, .int .i64 r.sc, .string r.pat] 109)).grown hgrow' (fun e => HNe.out e.symm)
           have g4 := hX1.frozen 4
           have e4 := hX1.cell 4
           have hl1 := hX1.lt)
        | go_in)
      have hne1 := own_ne hown' hX1 (by decide)
      have hX2 : Blk (w1.setCell ⟨w.heap.size + 2, 4, none⟩ (.slice VA (k + 1) VC)) (w.heap.size + 2) 68 #[.int .i64 s.de, .int .i64 s.cl, .int .i64 s.fu, .int .i64 s.st, .slice VA (k + 1) VC] := hX1.set_ 4 _
      have hO2 : OwnU (w1.setCell ⟨w.heap.size + 2, 4, none⟩ (.slice VA (k + 1) VC)) w.heap.size 109 (.slice VA (k + 1) VC) (s.rs.take (k + 1)) := by
        rw [ru_take HG.out]
        exact hown'.farset hne1 _
      have hB1 : Below w.heap.size w w1 := ((HB.out.alloc HB.out.size _).alloc (by have := HB.out.size; simp; omega) _).grown hgrow' (by have := HB.out.size; simp; omega) (fun j hj => (World.ownsRow.lt HO.out j hj).1)
      have hZ1 : Blk w1 (w.heap.size + 1) 68 #[.int .i64 0, .int .i64 0, .int .i64 0, .int .i64 0, .slice none 0 0] := ((HZ.out.alloc _).alloc _).grown hgrow' (fun e => by
        have := own_ne HO.out HZ.out (by decide)
        exact this e.symm)
      have HX2 := Lib.hid hX2
      have HO2 := Lib.hid hO2
      have HB2 := Lib.hid (hB1.setCell (p := ⟨w.heap.size + 2, 4, none⟩) (show w.heap.size ≤ w.heap.size + 2 by omega) (.slice VA (k + 1) VC))
      have HZ2 := Lib.hid (hZ1.far (p := ⟨w.heap.size + 2, 4, none⟩) (show w.heap.size + 1 ≠ w.heap.size + 2 by omega) (.slice VA (k + 1) VC))
      clear hne1 hX2 hO2 hB1 hZ1 hX1 hown' hgrow' g4 e4
      go_roundw
      case rel => exact ⟨k + 1, _, HLt.out, by go_num, HX2, HZ2, HO2, HB2⟩
      case measure => have := HLt.out; simp [intOf]; omega
    · obtain rfl : k = s.rs.length := by omega
      have hO := HO.out
      rw [List.take_length] at hO
      obtain ⟨VA, VC, rfl⟩ := hO.form
      obtain ⟨z0, z1, z2, z3, z4⟩ := HZ.out.c5
      obtain ⟨f0, f1, f2, f3, f4⟩ := HZ.out.f5
      obtain ⟨x0, x1, x2, x3, x4⟩ := HX.out.c5
      have hlr := HZ.out.lt
      have hlx := HX.out.lt
      have HOf := Lib.hid hO
      have hne := own_ne hO HZ.out (by decide)
      have HNe := Lib.hid hne
      clear hO hne
      go_wp2
      refine bodyPost_ret (v := .agg #[.int .i64 s.de, .int .i64 s.cl, .int .i64 s.fu, .int .i64 s.st, .slice VA s.rs.length VC]) (by simp [results, Tryz.results25, go_sem, *]) rfl ⟨_, rfl, ?_, ?_⟩
      · exact ((((HOf.out.farset HNe.out _).farset HNe.out _).farset HNe.out _).farset HNe.out _).farset HNe.out _
      · refine Below.setCell ?_ (show w.heap.size ≤ w.heap.size + 1 by omega) _
        refine Below.setCell ?_ (show w.heap.size ≤ w.heap.size + 1 by omega) _
        refine Below.setCell ?_ (show w.heap.size ≤ w.heap.size + 1 by omega) _
        refine Below.setCell ?_ (show w.heap.size ≤ w.heap.size + 1 by omega) _
        refine Below.setCell ?_ (show w.heap.size ≤ w.heap.size + 1 by omega) _
        exact HB.out

end Go.Proofs.YtpginkdkblmnbaaGreatDoor

/- The document's Same, of any two sets; equality of rules. -/
namespace Go.Proofs.YtpginkdkblmnbaaGreatDoor
open Go.RowKit Go.Maps
variable {w w' : World}

end Go.Proofs.YtpginkdkblmnbaaGreatDoor

/- The append of a list of rules onto a row of the call's own; a store into such a row. -/
namespace Go.Proofs.YtpginkdkblmnbaaGreatDoor
open Go.RowKit Go.Maps
variable {w w' : World}

section
variable {P : Program} (w : World)
end
/-- what lies in a row of the call's own, when it isn't empty -/
theorem OwnU.held {base : Nat} {e : TypeId} {A : Option Addr} {n c : Nat} {l : List Ru} (h : OwnU w base e (.slice A n c) l) (hn : 0 < l.length) : ∃ g cs, A = some ⟨g, 0, none⟩ ∧ base ≤ g ∧ Blk w g e cs ∧ l.length * 5 ≤ cs.size := by
  rcases h.2 with ⟨_, h0⟩ | ⟨g, cap, cur, hv, hb, hg, hc, _, hs, _⟩
  · omega
  · injection hv with h1 h2 h3
    refine ⟨g, cur, h1, hb, hg, ?_⟩
    rw [hs]
    exact Nat.mul_le_mul_right 5 hc
theorem Far.of_own {base : Nat} {e : TypeId} {v : Value} {l : List Ru} (h : OwnU w base e v l) : Far base v := fun k hk => (h.lt k hk).1

end Go.Proofs.YtpginkdkblmnbaaGreatDoor

