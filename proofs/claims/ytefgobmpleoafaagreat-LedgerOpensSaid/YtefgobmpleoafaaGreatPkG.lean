/- Package pack: Encode, EncodeRecord. -/
import Derived.Test.YtefgobmpleoafaaGreatMEf
namespace Go.Proofs.YtefgobmpleoafaaGreat
open Go.RowKit
variable {w w' : World} {wb : Nat} {s : List UInt8}

theorem zeroW (w : World) : Wt w.heap.size (w.alloc (.cells #[.slice none 0 0] 121)) [] := ⟨_, Blk.new _ _ _, World.ownsRow_nil _ _ _ _⟩
/-- What Encode answers. -/
def EncP (w : World) (ok : Bool) (b : List UInt8) (e : Ending) (w' : World) : Prop :=
  Below w.heap.size w w' ∧ if ok = true ∧ b.length ≤ 65536 then ∃ v, e = .returned (.tuple #[v, .int .i64 0]) ∧ Own w' w.heap.size v b else e = .returned (.tuple #[.slice none 0 0, .int .i64 (if ok then 12 else 10)])
theorem EncP.bad {b : List UInt8} (h : Below w.heap.size w w') : EncP w false b (.returned (.tuple #[.slice none 0 0, .int .i64 10])) w' := ⟨h, by simp⟩
theorem EncP.big {b : List UInt8} (h : Below w.heap.size w w') (hb : 65536 < b.length) : EncP w true b (.returned (.tuple #[.slice none 0 0, .int .i64 12])) w' := ⟨h, by rw [if_neg (by omega)]; rfl⟩
theorem EncP.good {b : List UInt8} {v : Value} (h : Below w.heap.size w w') (hb : b.length ≤ 65536) (ho : Own w' w.heap.size v b) : EncP w true b (.returned (.tuple #[v, .int .i64 0])) w' := ⟨h, by rw [if_pos ⟨rfl, hb⟩]; exact ⟨v, rfl, ho⟩⟩
/-- What encode answers, with a writer that has nothing yet. -/
def EncW (n₀ wb : Nat) (w : World) (ok : Bool) (b : List UInt8) (e : Ending) (w' : World) : Prop :=
  (ok = false ∧ e = .returned (.tuple #[.slice none 0 0, .int .i64 10]) ∧ Below n₀ w w') ∨
  (ok = true ∧ 65536 < b.length ∧ e = .returned (.tuple #[.slice none 0 0, .int .i64 12]) ∧ Below n₀ w w') ∨
  (ok = true ∧ b.length ≤ 65536 ∧ Below n₀ w w' ∧ ∃ v, e = .returned (.tuple #[v, .int .i64 0]) ∧ Own w' wb v b)
theorem Own.lower {a b : Nat} {v : Value} {s : List UInt8} (h : Own w a v s) (hb : b ≤ a) : Own w b v s := by
  refine ⟨h.1, ?_⟩
  rcases h.2 with h0 | ⟨g, cap, cur, hv, hg, hr⟩
  · exact .inl h0
  · exact .inr ⟨g, cap, cur, hv, by omega, hr⟩
set_option maxRecDepth 100000 in
set_option maxHeartbeats 4000000 in
theorem encodeC_any (m : Rc) (v : Value) (hV : EntsV wb w v m.log) (h : Wt wb w []) :
    Calls Tryz.prog 65 #[.pointer (some ⟨wb, 0, none⟩), m.val v, mv 66 wb] w (EncW wb wb w m.ok (eC m)) := by
  have hlen := fun h => (Rc.ok_len (r := m) h).2
  obtain ⟨A, c, rfl⟩ := hV.form
  obtain ⟨arr, harr⟩ : ∃ arr : Array Value, arr = #[.int .i64 m.k, .int .i64 m.a, .int .i64 m.b, .slice A m.log.length c] := ⟨_, rfl⟩
  have hwb := h.lt
  have B0 : Below wb w (w.alloc (.cells arr 82)) := (Below.refl _ _).alloc (by omega) _
  have HB0 := Lib.hid B0
  have HF0 := Lib.hid ((FrW.refl (wb := wb) w).alloc (.cells arr 82))
  have HX := Lib.hid (Blk.new w 82 arr)
  have HV := Lib.hid (hV.below B0)
  have H := Lib.hid (h.alloc (.cells arr 82))
  have hsz : w.heap.size < (w.alloc (.cells arr 82)).heap.size := by simp
  subst harr
  clear hV h B0
  go_enter Tryz.func65, Tryz.ntmps65
  go_upto_region 1 with (fail)
  generalize w.alloc _ = w0 at *
  have x0 := HX.out.cell 0
  have x1 := HX.out.cell 1
  have x2 := HX.out.cell 2
  have x3 := HX.out.cell 3
  go_wp2_with fail
  refine (prec_any m _ _ (HV.out.more (by omega))).mono ?_
  rintro e w1 ⟨rfl, hb1⟩
  have HX1 := HX.out.on hb1
  have y0 := HX1.cell 0
  have y1 := HX1.cell 1
  have y2 := HX1.cell 2
  have y3 := HX1.cell 3
  have HV1 := Lib.hid (HV.out.below (hb1.mono (by omega)))
  have H1 := Lib.hid (H.out.on hb1)
  have HF1 := Lib.hid (HF0.out.trans (FrW.of_below hb1))
  clear x0 x1 x2 x3 hb1 HX1
  cases hok : m.ok
  · go_wp2
    go_ret2
    exact .inl ⟨hok, rfl, HF1.out.old (by omega)⟩
  · have hlen2 := hlen hok
    have HK := Lib.hid hok
    clear hlen hok
    go_wp2_with fail
    refine (wrecord_any m _ HK.out HV1.out H1.out (by simp)).mono ?_
    rintro e w2 ⟨rfl, h1, h2⟩
    rw [List.nil_append] at h1
    obtain ⟨u, hB, hO⟩ := h1
    obtain ⟨Au, cu, rfl⟩ := one_slice hO
    have z0 := hB.cell 0
    have HO := Lib.hid hO
    have HF2 := Lib.hid ((HF1.out.trans h2).old (by omega))
    have hl2 := hB.lt
    clear hB hO h2
    obtain ⟨n, hn⟩ : ∃ n, n = (eC m).length := ⟨_, rfl⟩
    rw [← hn] at z0 hlen2
    have HN := Lib.hid hn
    clear hn
    have hbig : n ≤ 65536 := by omega
    clear hlen2
    go_wp2
    go_ret2
    exact .inr (.inr ⟨HK.out, by rw [← HN.out]; exact hbig, HF2.out, .slice Au n cu, rfl, by rw [HN.out]; exact HO.out⟩)
set_option maxRecDepth 100000 in
set_option maxHeartbeats 4000000 in
theorem encC_any (m : Rc) (v : Value) (w : World) (hV : EntsV w.heap.size w v m.log) :
    Calls Tryz.prog 45 #[m.val v] w (EncP w m.ok (eC m)) := by
  obtain ⟨A, c, rfl⟩ := hV.form
  obtain ⟨arr, harr⟩ : ∃ arr : Array Value, arr = #[.int .i64 m.k, .int .i64 m.a, .int .i64 m.b, .slice A m.log.length c] := ⟨_, rfl⟩
  have B0 : Below w.heap.size w (w.alloc (.cells arr 82)) := (Below.refl _ _).alloc (Nat.le_refl _) _
  have B1 := B0.alloc (by simp) (.cells #[.slice none 0 0] 121)
  have HB1 := Lib.hid B1
  have HV := Lib.hid ((hV.below B1).more (Nat.le_succ _))
  have HW := Lib.hid (zeroW (w.alloc (.cells arr 82)))
  subst harr
  have hs1 : ((w.alloc (.cells #[.int .i64 m.k, .int .i64 m.a, .int .i64 m.b, .slice A m.log.length c] 82)).alloc (.cells #[.slice none 0 0] 121)).heap.size = w.heap.size + 2 := by simp
  rw [show (w.alloc (.cells #[.int .i64 m.k, .int .i64 m.a, .int .i64 m.b, .slice A m.log.length c] 82)).heap.size = w.heap.size + 1 by simp] at HW
  clear hV B0 B1
  go_enter Tryz.func45, Tryz.ntmps45
  go_wp2_with fail
  refine (encodeC_any m _ HV.out HW.out).mono ?_
  rintro e w1 (⟨hok, rfl, hb⟩ | ⟨hok, hl, rfl, hb⟩ | ⟨hok, hl, hb, v, rfl, ho⟩)
  · have HB := Lib.hid (HB1.out.trans (hb.mono (by omega)))
    have HK := Lib.hid hok
    clear hb hok
    go_wp2
    go_ret2
    rw [HK.out]
    exact EncP.bad HB.out
  · have HB := Lib.hid (HB1.out.trans (hb.mono (by omega)))
    have HK := Lib.hid hok
    have HL := Lib.hid hl
    clear hb hok hl
    go_wp2
    go_ret2
    rw [HK.out]
    exact EncP.big HB.out HL.out
  · have HB := Lib.hid (HB1.out.trans (hb.mono (by omega)))
    have HK := Lib.hid hok
    have HL := Lib.hid hl
    have HO := Lib.hid ho
    clear hb hok hl ho
    go_wp2
    go_ret2
    rw [HK.out]
    exact EncP.good HB.out HL.out (HO.out.lower (by omega))
end Go.Proofs.YtefgobmpleoafaaGreat
