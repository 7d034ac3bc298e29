/- colanderref07: find. -/
import Derived.Test.YtifpfpgibjmibaaRuAb
namespace Go.Proofs.Ytifpfpgibjmibaa
open Go.RowKit
variable {w w' : World}

set_option maxRecDepth 100000 in
set_option maxHeartbeats 4000000 in
theorem xfind_any (l : List Ru) (id : Int) (v : Value) (w : World) (hmax : l.length ≤ 1000000) (hS : RulesV w.heap.size w v l) :
    Calls Try.prog 25 #[v, .int .i64 id] w fun e w' => ∃ z : Int, e = .returned (.int .i64 z) ∧ ((z = -1 ∧ id ∉ l.map Ru.id) ∨ (0 ≤ z ∧ id ∈ l.map Ru.id)) ∧ w' = w := by
  obtain ⟨A, cap, rfl⟩ := hS.form
  have HS := Lib.hid hS
  clear hS
  go_enter Try.func25, Try.ntmps25
  go_upto_region 2 with (fail)
  go_loopw [5] (fun i wr => ∃ k : Nat, k ≤ l.length ∧ i = .int .i64 k ∧ Hid (id ∉ (l.take k).map Ru.id) ∧ wr = w) (fun i _ => l.length - (intOf i).toNat)
  case atStart => exact ⟨0, Nat.zero_le _, rfl, Lib.hid (by simp), rfl⟩
  case round =>
    obtain ⟨k, hk, rfl, HK, rfl⟩ := hrel
    by_cases hlt : k < l.length
    · obtain ⟨g, off, hA, hg, c0, c1, c2, c3, c4⟩ := HS.out.at_ hlt
      subst hA
      have hm : (l[k]).id ∈ l.map Ru.id := List.mem_map_of_mem (List.getElem_mem hlt)
      have ht : l.take (k + 1) = l.take k ++ [l[k]] := List.take_append_getElem hlt ▸ rfl
      generalize l[k] = r at c0 c1 c2 c3 c4 hm ht
      have HM := Lib.hid hm
      have HTk := Lib.hid ht
      have HLt := Lib.hid hlt
      have HWr : Hid (wrap64 ((k : Int) + 1) = ((k + 1 : Nat) : Int)) := Lib.hid (by unfold wrap64; omega)
      clear hm ht
      by_cases he : r.id = id
      · clear hk
        go_wp2
        go_ret
        exact ⟨k, rfl, .inr ⟨by omega, he ▸ HM.out⟩, rfl⟩
      · clear hk
        go_wp2
        go_roundw
        case rel => exact ⟨k + 1, HLt.out, by go_num, Lib.hid (by rw [HTk.out]; simp only [List.map_append, List.mem_append, not_or]; exact ⟨HK.out, by simpa using fun h => he h.symm⟩), trivial⟩
        case measure => have := HLt.out; simp [intOf]; omega
    · obtain rfl : k = l.length := by omega
      have h := HK.out
      rw [List.take_length] at h
      have HN := Lib.hid h
      clear h
      go_wp2
      go_ret
      exact ⟨-1, rfl, .inl ⟨rfl, HN.out⟩, rfl⟩

end Go.Proofs.Ytifpfpgibjmibaa
