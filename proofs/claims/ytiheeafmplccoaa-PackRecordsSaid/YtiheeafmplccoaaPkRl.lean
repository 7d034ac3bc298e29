/- PackReads: the law's walk. -/
import Derived.Test.YtiheeafmplccoaaPkT
import Derived.Test.YtiheeafmplccoaaPkLa
import Derived.Test.YtiheeafmplccoaaPkRg
namespace Go.Proofs.Ytiheeafmplccoaa
open Go.RowKit
variable {w w' : World}

theorem smallE_ok {e : En} (h : e.ok = true) : smallE e = true := by
  obtain ⟨_, h1, h2, h3, _⟩ := (Dl.okP_iff.1 (En.ok_iff.1 h).2.2.2)
  simp only [smallE, Bool.and_eq_true, decide_eq_true_eq, List.all_eq_true]
  refine ⟨⟨by omega, by omega⟩, fun r hr => ?_⟩
  have h4 := h2 r hr
  simp only [Ru.ok, decide_eq_true_eq] at h4
  omega
set_option maxRecDepth 100000 in
set_option maxHeartbeats 16000000 in
theorem packReads_law (v : Value) (s : List UInt8) (W : World) (hl : s.length ≤ 9223372036854775807) (h : Bytes W.heap.size W v s) :
    Calls Try.prog 4 #[v] W fun e w' => e = .returned (.bool true) ∧ Below W.heap.size W w' := by
  have HBY := Lib.hid h
  obtain ⟨A, cap, hv, hcap, _⟩ := h
  obtain ⟨n, hn⟩ : ∃ n, n = s.length := ⟨_, rfl⟩
  rw [← hn] at hv hcap hl
  subst hv
  have HN := Lib.hid hn
  clear hn
  go_enter Try.func4, Try.ntmps4
  go_wp2_with fail
  refine (anchor11_any _).mono ?_
  rintro e w1 ⟨rfl, b1⟩
  have B1 := Lib.hid b1
  have hs1 : W.heap.size ≤ w1.heap.size := b1.size
  clear b1
  by_cases hgt : (3000 : Int) < (n : Int)
  · go_wp2
    go_ret
    exact ⟨rfl, B1.out⟩
  go_wp2_with fail
  refine (decM_any W.heap.size _ s w1 hs1 (HBY.out.below B1.out)).mono ?_
  rintro e w2 ⟨b2, h2⟩
  have B2 := Lib.hid (B1.out.trans (b2.mono hs1))
  have hs2 : W.heap.size ≤ w2.heap.size := B2.out.size
  clear b2
  rcases h2 with ⟨m, v', hd, rfl, A2, c2, rfl, hv2⟩ | ⟨hd, rfl⟩
  · obtain ⟨hl3, hok, hsm⟩ := dM_some.1 hd
    have HD := Lib.hid hd
    have HOK := Lib.hid hok
    have HSM := Lib.hid hsm
    have HSL : Hid (m.log.length ≤ 64) := Lib.hid (Ms.ok_len hok).1
    have HSE : Hid (∀ e ∈ m.log, e.ok = true) := Lib.hid (by obtain ⟨_, _, _, _, _, _, _, _, h9⟩ := Ms.ok_iff.1 hok; exact h9)
    have b3 : Below W.heap.size W (w2.alloc (.cells #[.int .i64 m.k, .int .i64 m.vi, .int .i64 m.fr, .int .i64 m.to, .int .i64 m.op, .int .i64 m.co, .int .i64 m.no, .slice A2 m.log.length c2] 24)) := B2.out.alloc hs2 _
    have B3 := Lib.hid b3
    have M3 := Lib.hid (Blk.new w2 24 #[.int .i64 m.k, .int .i64 m.vi, .int .i64 m.fr, .int .i64 m.to, .int .i64 m.op, .int .i64 m.co, .int .i64 m.no, .slice A2 m.log.length c2])
    have E3 := Lib.hid ((OwnE.read hv2).on ((Below.refl w2.heap.size w2).alloc (Nat.le_refl _) (.cells #[.int .i64 m.k, .int .i64 m.vi, .int .i64 m.fr, .int .i64 m.to, .int .i64 m.op, .int .i64 m.co, .int .i64 m.no, .slice A2 m.log.length c2] 24)))
    have hs3 : W.heap.size ≤ (w2.alloc (.cells #[.int .i64 m.k, .int .i64 m.vi, .int .i64 m.fr, .int .i64 m.to, .int .i64 m.op, .int .i64 m.co, .int .i64 m.no, .slice A2 m.log.length c2] 24)).heap.size := b3.size
    clear hd hok hsm b3 hv2
    go_upto_region 6 with (fail)
    generalize w2.alloc _ = w3 at *
    generalize w2.heap.size = mb at *
    go_wp2_with fail
    refine (parseM_any W.heap.size _ s w3 hs3 (HBY.out.below B3.out) (by rw [← HN.out]; omega)).mono ?_
    rintro e w4 ⟨b4, x, A4, c4, ok, rfl, o4, h4⟩
    obtain ⟨rfl, hx⟩ : ok = true ∧ m = x := by
      rcases h4 with ⟨h, h'⟩ | ⟨_, h'⟩
      · rw [HD.out] at h'
        exact ⟨h, Option.some.inj h'⟩
      · rw [HD.out] at h'
        cases h'
    subst hx
    clear h4
    have M4 := Lib.hid (M3.out.on b4)
    have E4 := Lib.hid (E3.out.on b4)
    have B4 := Lib.hid (B3.out.trans (b4.mono hs3))
    have hs4 : W.heap.size ≤ w4.heap.size := B4.out.size
    have b5 : Below W.heap.size W (w4.alloc (.cells #[.int .i64 m.k, .int .i64 m.vi, .int .i64 m.fr, .int .i64 m.to, .int .i64 m.op, .int .i64 m.co, .int .i64 m.no, .slice A4 m.log.length c4] 29)) := B4.out.alloc hs4 _
    have B5 := Lib.hid b5
    have M5 := Lib.hid (M4.out.alloc (.cells #[.int .i64 m.k, .int .i64 m.vi, .int .i64 m.fr, .int .i64 m.to, .int .i64 m.op, .int .i64 m.co, .int .i64 m.no, .slice A4 m.log.length c4] 29))
    have X5 := Lib.hid (Blk.new w4 29 #[.int .i64 m.k, .int .i64 m.vi, .int .i64 m.fr, .int .i64 m.to, .int .i64 m.op, .int .i64 m.co, .int .i64 m.no, .slice A4 m.log.length c4])
    have E5 := Lib.hid (E4.out.on ((Below.refl w4.heap.size w4).alloc (Nat.le_refl _) (.cells #[.int .i64 m.k, .int .i64 m.vi, .int .i64 m.fr, .int .i64 m.to, .int .i64 m.op, .int .i64 m.co, .int .i64 m.no, .slice A4 m.log.length c4] 29)))
    have G5 := Lib.hid ((OwnE.read o4).on ((Below.refl w4.heap.size w4).alloc (Nat.le_refl _) (.cells #[.int .i64 m.k, .int .i64 m.vi, .int .i64 m.fr, .int .i64 m.to, .int .i64 m.op, .int .i64 m.co, .int .i64 m.no, .slice A4 m.log.length c4] 29)))
    have hs5 : W.heap.size ≤ (w4.alloc (.cells #[.int .i64 m.k, .int .i64 m.vi, .int .i64 m.fr, .int .i64 m.to, .int .i64 m.op, .int .i64 m.co, .int .i64 m.no, .slice A4 m.log.length c4] 29)).heap.size := b5.size
    clear b4 o4 b5 M3 E3 M4 E4
    go_upto_region 7 with (fail)
    generalize w4.alloc _ = w5 at *
    generalize w4.heap.size = xb at *
    have x0 := M5.out.cell 0
    have x1 := M5.out.cell 1
    have x2 := M5.out.cell 2
    have x3 := M5.out.cell 3
    have x4 := M5.out.cell 4
    have x5 := M5.out.cell 5
    have x6 := M5.out.cell 6
    have x7 := M5.out.cell 7
    have HE := Lib.hid (encM_any m _ w5 E5.out)
    go_wp2_with fail
    refine HE.out.mono ?_
    intro e w6 he
    obtain ⟨b6, hf⟩ := he.cases
    clear he HE
    rcases hf with ⟨_, _, A6, c6, rfl, o6⟩ | ⟨hok, _⟩ | ⟨_, hbig, _⟩
    rotate_left
    · rw [HOK.out] at hok; cases hok
    · rw [← HSM.out] at hbig; omega
    have B6 := Lib.hid (B5.out.trans (b6.mono hs5))
    have M6 := Lib.hid (M5.out.on b6)
    have X6 := Lib.hid (X5.out.on b6)
    have E6 := Lib.hid (E5.out.on b6)
    have G6 := Lib.hid (G5.out.on b6)
    have hs6 : W.heap.size ≤ w6.heap.size := B6.out.size
    have O6 := Lib.hid o6.bytes
    have hlen : (eM m).length = n := by rw [← HSM.out, HN.out]
    rw [hlen] at O6 ⊢
    clear b6 o6 hlen M5 X5 E5 G5 x0 x1 x2 x3 x4 x5 x6 x7
    have x0 := M6.out.cell 0
    have x1 := M6.out.cell 1
    have x2 := M6.out.cell 2
    have x3 := M6.out.cell 3
    have x4 := M6.out.cell 4
    have x5 := M6.out.cell 5
    have x6 := M6.out.cell 6
    have x7 := M6.out.cell 7
    have y0 := X6.out.cell 0
    have y1 := X6.out.cell 1
    have y2 := X6.out.cell 2
    have y3 := X6.out.cell 3
    have y4 := X6.out.cell 4
    have y5 := X6.out.cell 5
    have y6 := X6.out.cell 6
    have y7 := X6.out.cell 7
    have LK := Lib.hid (likeMsg_any m m _ _ w6 (by have := HSL.out; omega) (fun e he => smallE_ok (HSE.out e he)) (fun e he => smallE_len (smallE_ok (HSE.out e he))) E6.out G6.out)
    go_wp2_with fail
    refine LK.out.mono ?_
    rintro e w7 ⟨c, rfl, hc, b7⟩
    obtain rfl : c = true := hc.2 (by trivial)
    have B7 := Lib.hid (B6.out.trans (b7.mono hs6))
    obtain ⟨SA, hSA⟩ : ∃ S : ByteArray, S = ⟨s.toArray⟩ := ⟨_, rfl⟩
    have q1 := run_string_bytes (O6.out.below b7)
    have q2 := run_string_bytes (HBY.out.below B7.out)
    rw [← HSM.out, ← hSA] at q1
    rw [← hSA] at q2
    have f1 : (SA.toList == SA.toList) = true := beq_self_eq_true _
    clear hc b7 hSA x0 x1 x2 x3 x4 x5 x6 x7 y0 y1 y2 y3 y4 y5 y6 y7
    go_wp2
    go_ret
    exact ⟨rfl, B7.out⟩
  · have HD := Lib.hid hd
    have b3 : Below W.heap.size W (w2.alloc (.cells #[.int .i64 0, .int .i64 0, .int .i64 0, .int .i64 0, .int .i64 0, .int .i64 0, .int .i64 0, .slice none 0 0] 24)) := B2.out.alloc hs2 _
    have B3 := Lib.hid b3
    have M3 := Lib.hid (Blk.new w2 24 #[.int .i64 0, .int .i64 0, .int .i64 0, .int .i64 0, .int .i64 0, .int .i64 0, .int .i64 0, .slice none 0 0])
    have hs3 : W.heap.size ≤ (w2.alloc (.cells #[.int .i64 0, .int .i64 0, .int .i64 0, .int .i64 0, .int .i64 0, .int .i64 0, .int .i64 0, .slice none 0 0] 24)).heap.size := b3.size
    clear hd b3
    go_upto_region 6 with (fail)
    generalize w2.alloc _ = w3 at *
    generalize w2.heap.size = mb at *
    go_wp2_with fail
    refine (parseM_any W.heap.size _ s w3 hs3 (HBY.out.below B3.out) (by rw [← HN.out]; omega)).mono ?_
    rintro e w4 ⟨b4, x, A4, c4, ok, rfl, o4, h4⟩
    obtain rfl : ok = false := by
      rcases h4 with ⟨_, h'⟩ | ⟨h, _⟩
      · rw [HD.out] at h'
        cases h'
      · exact h
    clear h4 o4
    have B4 := Lib.hid (B3.out.trans (b4.mono hs3))
    have hs4 : W.heap.size ≤ w4.heap.size := B4.out.size
    have B5 := Lib.hid (B4.out.alloc hs4 (.cells #[.int .i64 x.k, .int .i64 x.vi, .int .i64 x.fr, .int .i64 x.to, .int .i64 x.op, .int .i64 x.co, .int .i64 x.no, .slice A4 x.log.length c4] 29))
    have M5 := Lib.hid ((M3.out.on b4).alloc (.cells #[.int .i64 x.k, .int .i64 x.vi, .int .i64 x.fr, .int .i64 x.to, .int .i64 x.op, .int .i64 x.co, .int .i64 x.no, .slice A4 x.log.length c4] 29))
    clear b4 M3
    go_upto_region 7 with (fail)
    generalize w4.alloc _ = w5 at *
    have x0 := M5.out.cell 0
    have x1 := M5.out.cell 1
    have x2 := M5.out.cell 2
    have x3 := M5.out.cell 3
    have x4 := M5.out.cell 4
    have x5 := M5.out.cell 5
    have x6 := M5.out.cell 6
    have x7 := M5.out.cell 7
    go_wp2
    go_ret
    exact ⟨rfl, B5.out⟩
end Go.Proofs.Ytiheeafmplccoaa
