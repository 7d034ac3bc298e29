/- Layer 13: frames of records, and writing them. -/
import Derived.Test.YtefgobmpleoafaaGreatLdI
import Derived.Test.YtefgobmpleoafaaGreatPkG
namespace Go.Proofs.YtefgobmpleoafaaGreat
open Go.RowKit
variable {w w' : World}

def fcat (l : List Rc) : List UInt8 := l.flatMap fun r => frm (eC r)
theorem fcat_take {l : List Rc} {k : Nat} {r : Rc} (h : l[k]? = some r) : fcat (l.take (k + 1)) = fcat (l.take k) ++ frm (eC r) := by
  obtain ⟨hk, rfl⟩ := List.getElem?_eq_some_iff.1 h
  unfold fcat
  rw [List.take_succ_eq_append_getElem hk, List.flatMap_append]
  simp
theorem fcat_len {l : List Rc} (hl : ∀ r ∈ l, r.ok = true) : (fcat l).length ≤ l.length * 4760 := frames_len hl
theorem fcat_tlen {l : List Rc} (hl : ∀ r ∈ l, r.ok = true) (k : Nat) (hk : l.length ≤ 100) : (fcat (l.take k)).length ≤ 476000 := by
  have := fcat_len (l := l.take k) fun r hr => hl r (List.mem_of_mem_take hr)
  have h2 : (l.take k).length ≤ 100 := by simp; omega
  have := Nat.mul_le_mul_right 4760 h2
  omega
set_option maxRecDepth 100000 in
set_option maxHeartbeats 8000000 in
theorem frames_any (l : List Rc) (v : Value) (w : World) (hl : l.length ≤ 100) (hok : ∀ r ∈ l, r.ok = true) (base : Nat) (hR : RecsO base w v l) :
    Calls Tryz.prog 29 #[v] w fun e w' => ∃ v', e = .returned v' ∧ Own w' w.heap.size v' (fcat l) ∧ Below w.heap.size w w' := by
  obtain ⟨A, c, rfl⟩ := hR.len
  obtain ⟨i0, hi, hz0, hz1, hz2⟩ := info_three info_u8
  have HR := Lib.hid hR
  have HK := Lib.hid hok
  obtain ⟨n, hn⟩ : ∃ n, n = l.length := ⟨_, rfl⟩
  rw [← hn] at HR hl ⊢
  have HL := Lib.hid hn
  clear hR hn hok
  go_enter Tryz.func29, Tryz.ntmps29
  go_wp2
  go_loopw [3, 12] (fun V i wr => ∃ k : Nat, k ≤ n ∧ i = .int .i64 (k : Int) ∧ Hid (Own wr w.heap.size V (fcat (l.take k))) ∧ Hid (Below w.heap.size w wr)) (fun _ i _ => n - (intOf i).toNat)
  case atStart => exact ⟨0, Nat.zero_le _, rfl, Lib.hid (own_nil _ _), Lib.hid (Below.refl _ _)⟩
  case round =>
    obtain ⟨k, hk, rfl, HO, HW⟩ := hrel
    have hsz : w.heap.size ≤ wr.heap.size := HW.out.size
    by_cases hlt : k < n
    · have hkl : k < l.length := by rw [← HL.out]; exact hlt
      obtain ⟨b, Al, cl, rfl, hbb, c0, c1, c2, c3, he⟩ := (HR.out.on HW.out).at_ hkl
      have HG := Lib.hid (List.getElem?_eq_getElem hkl)
      have hok := HK.out l[k] (List.getElem_mem _)
      generalize l[k] = r at HG hok c0 c1 c2 c3 he
      have hlen := (Rc.ok_len hok).2
      have hfl := fcat_tlen HK.out k (by rw [← HL.out]; exact hl)
      have BA : Hid (∀ o, Below w.heap.size w (wr.alloc o)) := Lib.hid fun o => HW.out.alloc hsz o
      have OA : Hid (∀ o, Own (wr.alloc o) w.heap.size u3 (fcat (l.take k))) := Lib.hid fun o => HO.out.below ((Below.refl _ _).alloc (Nat.le_refl _) o)
      have EC : Hid (∀ o, Calls Tryz.prog 45 #[r.val (.slice Al r.log.length cl)] (wr.alloc o) (EncP (wr.alloc o) r.ok (eC r))) := Lib.hid fun o => encC_any r _ _ ((he.alloc o).read)
      obtain ⟨ln, hln⟩ : ∃ ln, ln = r.log.length := ⟨_, rfl⟩
      rw [← hln] at c3 EC
      clear he hln hkl
      have hso : ∀ o : Obj, w.heap.size ≤ (wr.alloc o).heap.size := fun o => by simp; omega
      have HSO := Lib.hid hso
      clear hso
      go_wp2_with fail
      refine (EC.out _).mono ?_
      rintro e w6 ⟨b6, h6⟩
      rw [if_pos ⟨hok, by omega⟩] at h6
      obtain ⟨v6, rfl, o6⟩ := h6
      have B6 := Lib.hid ((BA.out _).trans (b6.mono (HSO.out _)))
      have O6 := Lib.hid ((OA.out _).below b6)
      have MK := Lib.hid (make_ok w6.heap.size v6 (eC r) (by omega) w6 (Nat.le_refl _) o6.bytes)
      clear b6 o6 c0 c1 c2 c3 HO BA OA EC
      go_wp2_with fail
      refine MK.out.mono ?_
      rintro e w7 ⟨v7, rfl, o7, b7⟩
      have B7 := Lib.hid (B6.out.trans (b7.mono B6.out.size))
      have O7 := Lib.hid (O6.out.below b7)
      have X7 := Lib.hid o7
      have hs7 : w.heap.size ≤ w7.heap.size := B7.out.size
      have HFL : Hid ((fcat (l.take k)).length + (frm (eC r)).length ≤ 140737488355328) := Lib.hid (by rw [frm_len]; omega)
      clear b7 o7 MK O6 B6 hlen hfl
      go_wp2_with (at_builtin
                   refine wpList_app _ rfl (.tmp 26) (.tmp 27) rfl u3 (fcat (l.take k)) rfl O7.out w7.heap.size v7 (frm (eC r)) rfl X7.out.bytes HFL.out hs7 ?_
                   intro v8 w8 o8 g8 l8
                   have B8 : Hid (Below w.heap.size w w8) := Lib.hid (B7.out.grown g8 hs7 (fun j hj => (O7.out.lt j hj).1))
                   have O8 : Hid (Own w8 w.heap.size v8 (fcat (l.take k) ++ frm (eC r))) := Lib.hid o8
                   clear o8 g8 l8)
      go_roundw
      case rel => exact ⟨k + 1, by omega, by go_num, by rw [fcat_take HG.out]; exact O8, B8⟩
      case measure => simp [intOf]; omega
    · obtain rfl : k = n := by omega
      have hO := HO.out
      rw [List.take_of_length_le (by rw [← HL.out]; omega)] at hO
      have O := Lib.hid hO
      clear hO HO
      go_wp2
      go_ret
      exact ⟨u3, rfl, O.out, HW.out⟩
end Go.Proofs.YtefgobmpleoafaaGreat
