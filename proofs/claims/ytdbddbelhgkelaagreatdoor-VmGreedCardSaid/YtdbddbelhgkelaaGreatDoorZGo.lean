/- Loops; what made gives. -/
import Derived.Test.YtdbddbelhgkelaaGreatDoorZGn
import Derived.Test.YtdbddbelhgkelaaGreatDoorZSf
import Derived.Test.YtdbddbelhgkelaaGreatDoorZMPf
namespace Go.Proofs.YtdbddbelhgkelaaGreatDoor
open Go.RowKit
open Go.Proofs.YtdbddbelhgkelaaGreatDoor.Cl (Rg SetV SetAt rgCells info_three)
variable {w w' w0 : World} {n₀ : Nat} {fo : Bool} {G : Int}

theorem PgV.six {v : Value} {X : List In} {i : Nat} {x : In} (h : PgV n₀ w v X) (hi : X[i]? = some x) : ∃ g c A cs, v = .slice (some ⟨g, 0, none⟩) X.length c ∧ X.length ≤ c ∧ g < w.heap.size ∧ n₀ ≤ g ∧ OwnS w n₀ (.slice A x.set.length cs) x.set ∧
    w.cell? ⟨g, i * 6, none⟩ = some (.int .i64 x.op) ∧ w.cell? ⟨g, i * 6 + 1, none⟩ = some (.int .i64 x.a) ∧ w.cell? ⟨g, i * 6 + 2, none⟩ = some (.int .i64 x.b) ∧ w.cell? ⟨g, i * 6 + 3, none⟩ = some (.int .i64 x.c) ∧ w.cell? ⟨g, i * 6 + 4, none⟩ = some (.int .i64 x.d) ∧ w.cell? ⟨g, i * 6 + 5, none⟩ = some (.slice A x.set.length cs) := by
  obtain ⟨g, c, A, cs, h1, h2, h3, h4, h5, h6⟩ := h.at_ hi
  exact ⟨g, c, A, cs, h1, h2, h3, h4, h5, h6 0 _ rfl, h6 1 _ rfl, h6 2 _ rfl, h6 3 _ rfl, h6 4 _ rfl, h6 5 _ rfl⟩
theorem marks_take {X : List In} {k : Nat} {x : In} (h : X[k]? = some x) : marks (X.take (k + 1)) = marks (X.take k) + (if x.op = 10 then 1 else 0) := by
  obtain ⟨hk, rfl⟩ := List.getElem?_eq_some_iff.1 h
  rw [List.take_succ_eq_append_getElem hk, marks_append, marks_cons]
  rfl

set_option maxRecDepth 100000 in
set_option maxHeartbeats 1000000 in
theorem loops_any {v : Value} {X : List In} (h : PgV n₀ w v X) : Calls Tryz.prog 62 #[v] w fun e w' => e = .returned (.int .i64 (marks X : Nat)) ∧ Below w.heap.size w w' := by
  obtain ⟨Av, cv, rfl, hcv, hXl⟩ := h.form
  have HP := Lib.hid h
  clear h
  go_enter Tryz.func62, Tryz.ntmps62
  go_wp2
  go_loopw [3, 8] (fun c i wr => ∃ k : Nat, k ≤ X.length ∧ i = .int .i64 k ∧ c = .int .i64 (marks (X.take k) : Nat) ∧ Below w.heap.size w wr) (fun _ i _ => X.length - (intOf i).toNat)
  case atStart => exact ⟨0, Nat.zero_le _, rfl, by simp [marks_nil], Below.refl _ _⟩
  case round =>
    obtain ⟨k, hk, rfl, rfl, hbel⟩ := hrel
    have hmk := marks_le (X.take k)
    rw [List.length_take] at hmk
    by_cases hlt : k < X.length
    · have hlti : (k : Int) < X.length := by omega
      have HLt := Lib.hid hlt
      have HMt := Lib.hid (marks_take (List.getElem?_eq_getElem hlt))
      obtain ⟨g, c, A, cs, hv, hc, hg, _, hO, d0, d1, d2, d3, d4, d5⟩ := (HP.out.on hbel).six (List.getElem?_eq_getElem hlt)
      obtain ⟨rfl, _, rfl⟩ := Value.slice.inj hv
      have hml : marks (X.take k) ≤ 100000 := by omega
      clear hv hO
      generalize X[k] = x at *
      have hb6 := hbel.alloc hbel.size (.cells #[.int .i64 x.op, .int .i64 x.a, .int .i64 x.b, .int .i64 x.c, .int .i64 x.d, .slice A x.set.length cs] 118)
      have HB := Lib.hid (Blk.new wr 118 #[.int .i64 x.op, .int .i64 x.a, .int .i64 x.b, .int .i64 x.c, .int .i64 x.d, .slice A x.set.length cs])
      go_upto_region 5 with (fail)
      clear d0 d1 d2 d3 d4 d5
      generalize wr.alloc _ = W at *
      have b6 := HB.out.c6_
      by_cases ho : x.op = 10
      · have hob : (x.op == 10) = true := by simp [ho]
        have HM : Hid (marks (X.take (k + 1)) = marks (X.take k) + 1) := Lib.hid (by rw [HMt.out, if_pos ho])
        clear ho
        go_wp2
        go_roundw
        case rel => exact ⟨k + 1, HLt.out, by go_num, by rw [HM.out]; go_num, hb6⟩
        case measure => have := HLt.out; simp [intOf]; omega
      · have hob : (x.op == 10) = false := by simp [ho]
        have HM : Hid (marks (X.take (k + 1)) = marks (X.take k)) := Lib.hid (by rw [HMt.out, if_neg ho]; rfl)
        clear ho
        go_wp2
        go_roundw
        case rel => exact ⟨k + 1, HLt.out, by go_num, by rw [HM.out], hb6⟩
        case measure => have := HLt.out; simp [intOf]; omega
    · obtain rfl : k = X.length := by omega
      go_wp2
      go_ret
      refine ⟨?_, hbel⟩
      rw [List.take_length]
      rfl

/-- What start-up code laid: utf8's tables, the letters with twins. -/
structure TabL (n : Nat) (w : World) : Prop where
  tabs : TabsAt n w
  lu : Cl.LU n w
theorem TabL.on (h : TabL w.heap.size w) (hb : Below w.heap.size w w') : TabL w'.heap.size w' := ⟨tabs_on h.tabs hb hb.size, h.lu.on hb⟩

/-- A text's pattern and its verdict. -/
def ndT (x : ByteArray) : Nd := ndOf (parse 1026 x.data.toList)
def fcT (x : ByteArray) : Nat := (fOf (parse 1026 x.data.toList)).1
def foT (x : ByteArray) : Bool := foOf (parse 1026 x.data.toList)
def gT (x : ByteArray) : Nat := gOf (parse 1026 x.data.toList)
def vdT (x : ByteArray) : Nat := if fcT x = 0 then verdictN (ndT x) else 0
def prT (x : ByteArray) : List In := if fcT x = 0 ∧ verdictN (ndT x) = 0 then whole (foT x) (ndT x) else []
/-- What made gives of a text. -/
def MadeP (w : World) (x : ByteArray) (e : Ending) (w' : World) : Prop := Below w.heap.size w w' ∧ ∃ A c, e = .returned (.tuple #[.slice A (prT x).length c, .int .i64 (fcT x : Nat), .int .i64 (vdT x : Nat)]) ∧ PgV w.heap.size w' (.slice A (prT x).length c) (prT x)
theorem PgV.nil (n₀ : Nat) (w : World) : PgV n₀ w (.slice none 0 0) [] := ⟨[], rfl, World.ownsRow_nil _ _ _ _, by simp, by simp⟩
theorem pat_ok {x : ByteArray} (h : fcT x = 0) : Wf (ndT x) ∧ Wn (gT x : Nat) (ndT x) ∧ gT x ≤ 9 := by
  have e := ok_of (by omega) (rfl : parse 1026 x.data.toList = parse 1026 x.data.toList) h
  exact ⟨parse_wf e, parse_wn e, parse_nine e⟩

end Go.Proofs.YtdbddbelhgkelaaGreatDoor
