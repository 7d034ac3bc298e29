/- colanderlaw07.ids: those that a delta touches. -/
import Derived.Test.YtdbddbelhgkelaaRuX
import Derived.Test.YtdbddbelhgkelaaRuI
namespace Go.Proofs.Ytdbddbelhgkelaa
open Go.RowKit Go.Maps
variable {w w' : World}

theorem infoInt : (Try.prog.info? 3).map (fun i => (i.zero, i.size, i.bytes)) = some (some (.int .i64 0), 1, 8) := by kernel_rfl
theorem zI_one (l : List Int) : ∀ y ∈ zI l, y.oneCell' = true := by
  intro y hy
  obtain ⟨z, _, rfl⟩ := List.mem_map.1 hy
  rfl
def OwnI (w : World) (base : Nat) (v : Value) (l : List Int) : Prop := w.ownsRow base 3 1 v l.length (zI l)
theorem OwnI.row {base : Nat} {v : Value} {l : List Int} (h : OwnI w base v l) : Row w.heap.size w v (zI l) := Row.of_own h
theorem OwnI.form {base : Nat} {v : Value} {l : List Int} (h : OwnI w base v l) : ∃ A c, v = .slice A l.length c := by
  obtain ⟨A, c, hv, _⟩ := h.row
  exact ⟨A, c, by simpa [zI] using hv⟩

set_option maxRecDepth 100000 in
set_option maxHeartbeats 4000000 in
theorem ids_any (d : Dl) (pv dv : Value) (w : World) (hm1 : d.put.length ≤ 1000) (hm2 : d.drop.length ≤ 1000) (hP : RulesV w.heap.size w pv d.put) (hD : Row w.heap.size w dv (zI d.drop)) :
    Calls Try.prog 23 #[.agg #[.int .i64 d.de, .int .i64 d.cl, .int .i64 d.fu, .int .i64 d.st, pv, dv]] w
      fun e w' => ∃ v, e = .returned v ∧ OwnI w' w.heap.size v (d.drop ++ d.put.map Ru.id) ∧ Below w.heap.size w w' := by
  obtain ⟨A1, cap1, rfl⟩ := hP.form
  obtain ⟨A2, cap2, rfl⟩ : ∃ A c, dv = .slice A d.drop.length c := by obtain ⟨A, c, h, _⟩ := hD; exact ⟨A, c, by simpa [zI] using h⟩
  obtain ⟨i0, hi, hz0, hz1, hz2⟩ := info_three infoInt
  have HP := Lib.hid hP
  have HD := Lib.hid hD
  clear hP hD
  go_enter Try.func23, Try.ntmps23
  have hb0 : Below w.heap.size w (w.alloc (.cells #[.int .i64 d.de, .int .i64 d.cl, .int .i64 d.fu, .int .i64 d.st, .slice A1 d.put.length cap1, .slice A2 d.drop.length cap2] 27)) := (Below.refl _ _).alloc (Nat.le_refl _) _
  have hx0 : Blk (w.alloc (.cells #[.int .i64 d.de, .int .i64 d.cl, .int .i64 d.fu, .int .i64 d.st, .slice A1 d.put.length cap1, .slice A2 d.drop.length cap2] 27)) w.heap.size 27 #[.int .i64 d.de, .int .i64 d.cl, .int .i64 d.fu, .int .i64 d.st, .slice A1 d.put.length cap1, .slice A2 d.drop.length cap2] := Blk.new _ _ _
  go_wp2_with (first
    | (at_builtin
       refine wpList_append_row _ rfl (.tmp 6) (.tmp 8) 25 rfl w.heap.size 3 i0 (.int .i64 0) 8 Try.underlying25 hi hz0 hz1 hz2 rfl (.slice (some ⟨w.heap.size + 1, 0, none⟩) 0 0) 0 [] rfl (by simpa using own_empty (w.alloc (.cells #[.int .i64 d.de, .int .i64 d.cl, .int .i64 d.fu, .int .i64 d.st, .slice A1 d.put.length cap1, .slice A2 d.drop.length cap2] 27)) w.heap.size 3 (by simp)) w.heap.size (.slice A2 d.drop.length cap2) (zI d.drop) rfl ((HD.out.below hb0).below ((Below.refl _ _).alloc (by simp) _)) (zI_one _) (by simp [zI, maxLen]; omega) (by simp [zI]; omega) (by simp; omega) ?_
       intro v1 w1 h1 h2
       have own1 : OwnI w1 w.heap.size v1 d.drop := by simpa [OwnI, zI] using h1
       have hB1 : Below w.heap.size w w1 := (hb0.alloc hb0.size _).grown h2 (by simp; omega) (fun k hk => by simp [Value.ownBlock] at hk; omega)
       have hx1 := ((hx0.alloc (.cells #[] 3)).grown h2 (by simp [Value.ownBlock]))
       have x4 := hx1.cell 4
       have hlx := hx1.lt)
    | go_in)
  have HO1 := Lib.hid own1
  have HB1 := Lib.hid hB1
  clear own1 hB1 hx1 x4 hlx h1 h2 hb0 hx0
  go_loopw [13, 3] (fun i o wr => ∃ k : Nat, k ≤ d.put.length ∧ i = .int .i64 k ∧ Hid (OwnI wr w.heap.size o (d.drop ++ (d.put.take k).map Ru.id)) ∧ Hid (Below w.heap.size w wr)) (fun i _ _ => d.put.length - (intOf i).toNat)
  case atStart => exact ⟨0, Nat.zero_le _, rfl, Lib.hid (by simpa using HO1.out), HB1⟩
  case round =>
    obtain ⟨k, hk, rfl, HO, HB⟩ := hrel
    by_cases hlt : k < d.put.length
    · obtain ⟨b, off, rfl, hb, c0, c1, c2, c3, c4⟩ := (HP.out.below HB.out).at_ hlt
      have HG := Lib.hid (List.getElem?_eq_getElem hlt)
      generalize d.put[k] = r at HG c0 c1 c2 c3 c4
      have HLt := Lib.hid hlt
      obtain ⟨OA, OC, hof⟩ := HO.out.form
      subst hof
      have HLn : Hid ((d.drop ++ (d.put.take k).map Ru.id).length ≤ 2000) := Lib.hid (by simp; omega)
      go_wp2_with (first
        | (at_builtin
           refine wpList_append_row _ rfl (.tmp 17) (.tmp 20) 25 rfl w.heap.size 3 i0 (.int .i64 0) 8 Try.underlying25 hi hz0 hz1 hz2 rfl (.slice OA (d.drop ++ (d.put.take k).map Ru.id).length OC) (d.drop ++ (d.put.take k).map Ru.id).length (zI (d.drop ++ (d.put.take k).map Ru.id)) rfl (World.ownsRow.alloc (World.ownsRow.alloc HO.out _) _) (wr.heap.size + 1 + 1) (.slice (some ⟨wr.heap.size + 1, 0, none⟩) 1 1) [.int .i64 r.id] rfl (by simpa using Row.lit (wr.alloc (.cells #[.int .i64 r.id, .int .i64 r.pr, .int .i64 r.ac, .int .i64 r.sc, .string r.pat] 44)) #[.int .i64 r.id] 3 (0, 0)) (by simp [Value.oneCell']) (by have := HLn.out; simp only [List.length_cons, List.length_nil, maxLen]; omega) (by have := HLn.out; simp only [List.length_cons, List.length_nil]; omega) (by have := HB.out.size; simp; omega) ?_
           intro v2 w2 h1 h2)
        | go_in)
      go_roundw
      case rel => exact ⟨k + 1, HLt.out, by go_num, Lib.hid (by
          unfold OwnI
          rw [ru_take HG.out]
          simpa [zI, Nat.add_assoc] using h1), Lib.hid (((HB.out.alloc HB.out.size _).alloc (by have := HB.out.size; simp; omega) _).grown h2 (by have := HB.out.size; simp; omega) (fun k hk => (World.ownsRow.lt HO.out k hk).1))⟩
      case measure => have := HLt.out; simp [intOf]; omega
    · obtain rfl : k = d.put.length := by omega
      go_wp2
      go_ret
      exact ⟨_, rfl, by simpa using HO.out, HB.out⟩

end Go.Proofs.Ytdbddbelhgkelaa
