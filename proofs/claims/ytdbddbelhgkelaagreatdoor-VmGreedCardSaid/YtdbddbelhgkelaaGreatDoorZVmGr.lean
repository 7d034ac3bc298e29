/- VmGreed. -/
import Derived.Test.YtdbddbelhgkelaaGreatDoorZVmTw
import Derived.Test.YtdbddbelhgkelaaGreatDoorZMWe
import Derived.Test.YtdbddbelhgkelaaGreatDoorZMRf
namespace Go.Proofs.YtdbddbelhgkelaaGreatDoor
open Go.RowKit
open Go.Proofs.YtdbddbelhgkelaaGreatDoor.Cl (Rg SetV SetAt rgCells info_three hasB)
variable {w w' w0 : World}

theorem gText_len {a b m : Nat} {tl : List UInt8} (ha : a ≤ 20) (hb : b ≤ 20) (hm : m ≤ 2) (ht : tl.length ≤ 1) : (gText a b m tl).length ≤ 100 := by
  have h1 := (dd_two a (by omega)).2.2
  have h2 := (dd_two b (by omega)).2.2
  have h3 : (modeB m).length ≤ 1 := by
    match m, hm with
    | 0, _ => decide
    | 1, _ => decide
    | 2, _ => decide
  simp only [gText, List.length_cons, List.length_append]
  omega
/-- what is found of VmGreed's texts, in the words of the law -/
structure Fo (U : List Int) (a b n : Nat) : Prop where
  no : n < a → ∀ m, m ≤ 2 → ∀ tl : List UInt8, (tl = [] ∨ (tl = [97] ∧ m = 2)) → (findM (whole false (gNode a b m tl)) U 20000 4096 (U.length + 1) 0 (startM (whole false (gNode a b m tl)))).1 = 0
  yes : a ≤ n → ∀ m, (m = 0 ∨ m = 2) → ∃ s, findM (whole false (gNode a b m [])) U 20000 4096 (U.length + 1) 0 (startM (whole false (gNode a b m []))) = (1, s) ∧ s.sl[0]? = some 0 ∧ s.sl[1]? = some ((min n b : Nat) : Int)
  few : a ≤ n → ∃ s, findM (whole false (gNode a b 1 [])) U 20000 4096 (U.length + 1) 0 (startM (whole false (gNode a b 1 []))) = (1, s) ∧ s.sl[0]? = some 0 ∧ s.sl[1]? = some ((a : Nat) : Int)
  more : a ≤ n → (findM (whole false (gNode a b 2 [97])) U 20000 4096 (U.length + 1) 0 (startM (whole false (gNode a b 2 [97])))).1 = if b < n then 1 else 0
theorem fo_any {U : List Int} {a b n : Nat} (hn : runsA U n) (hab : a ≤ b) (hb : b ≤ 20) (hU : U.length ≤ 60) : Fo U a b n := by
  have G : ∀ m, m ≤ 2 → ∀ tl : List UInt8, (tl = [] ∨ (tl = [97] ∧ m = 2)) → _ := fun m hm tl ht => g_find (U := U) (n := n) (fuel := 20000) (stack := 4096) (g_prog (lo := a) (hi := b) (m := m) (tl := tl) hab) hn (by omega) (by omega) hm ht (by omega) (by omega) hU (s := startM (whole false (gNode a b m tl))) rfl rfl rfl (by simp [startM]; omega)
  have e : a + (b - a) = b := by omega
  refine ⟨fun h m hm tl ht => (G m hm tl ht).1 h, fun h m hm => ?_, fun h => ?_, fun h => ?_⟩
  · obtain ⟨h1, h2, h3⟩ := (G m (by omega) [] (.inl rfl)).2.1 h hm rfl
    rw [e] at h3
    exact ⟨_, Prod.ext h1 rfl, h2, h3⟩
  · obtain ⟨h1, h2, h3⟩ := (G 1 (by omega) [] (.inl rfl)).2.2.1 h rfl rfl
    exact ⟨_, Prod.ext h1 rfl, h2, h3⟩
  · have := (G 2 (by omega) [97] (.inr ⟨rfl, rfl⟩)).2.2.2 h rfl rfl
    rw [e] at this
    exact this
/-- found of one of them, by its text -/
theorem gfound {x : ByteArray} {uv : Value} {a b m k : Nat} {tl : List UInt8} {U : List Int} (hx : x.data.toList = gText a b m tl) (hab : a ≤ b) (hb : b ≤ 20) (hm : m ≤ 2) (ht : tl = [] ∨ (tl = [97] ∧ m = 2)) (hT : TabL w.heap.size w) (hU : w.ownsRow 0 3 1 uv U.length (zI U)) (hle : U.length ≤ 60)
    (hR : (findM (whole false (gNode a b m tl)) U 20000 4096 (U.length + 1) 0 (startM (whole false (gNode a b m tl)))).1 = k) (h2 : k = 0 ∨ k = 1) :
    Calls Tryz.prog 23 #[.string x, uv] w fun e w' => (∃ a b : Int, e = .returned (.tuple #[.int .i64 (k : Nat), .int .i64 a, .int .i64 b])) ∧ Below w.heap.size w w' := by
  have hl : x.size ≤ 100 := by
    have := gText_len (a := a) (b := b) (by omega) hb hm (tl := tl) (by rcases ht with rfl | ⟨rfl, _⟩ <;> simp)
    rw [← hx] at this
    simpa using this
  exact found_one (by omega) hT (prT_g hx (by omega) hb hab hm ht) (g_ok (by omega) hb hab hm ht) (by simp [whole, app]) hU (by omega) hR h2
theorem gfoundY {x : ByteArray} {uv : Value} {a b m : Nat} {U : List Int} {s : Ms} {e : Int} (hx : x.data.toList = gText a b m []) (hab : a ≤ b) (hb : b ≤ 20) (hm : m ≤ 2) (hT : TabL w.heap.size w) (hU : w.ownsRow 0 3 1 uv U.length (zI U)) (hle : U.length ≤ 60)
    (hR : findM (whole false (gNode a b m [])) U 20000 4096 (U.length + 1) 0 (startM (whole false (gNode a b m []))) = (1, s)) (h0 : s.sl[0]? = some 0) (h1 : s.sl[1]? = some e) :
    Calls Tryz.prog 23 #[.string x, uv] w fun r w' => r = .returned (.tuple #[.int .i64 1, .int .i64 0, .int .i64 e]) ∧ Below w.heap.size w w' := by
  have hl : x.size ≤ 100 := by
    have := gText_len (a := a) (b := b) (by omega) hb hm (tl := []) (by simp)
    rw [← hx] at this
    simpa using this
  exact found_any (by omega) hT (prT_g hx (by omega) hb hab hm (.inl rfl)) (g_ok (by omega) hb hab hm (.inl rfl)) (by simp [whole, app]) hU (by omega) hR (.inr ⟨rfl, h0, h1⟩)

set_option maxRecDepth 100000 in
set_option maxHeartbeats 4000000 in
theorem greed_law (dv : Value) (sd : List UInt8) (lo hi : Int) (w : World) (hT : TabL w.heap.size w) (hd : Bytes w.heap.size w dv sd) (hlo : -9223372036854775808 ≤ lo ∧ lo ≤ 9223372036854775807) (hhi : -9223372036854775808 ≤ hi ∧ hi ≤ 9223372036854775807) :
    Calls Tryz.prog 5 #[dv, .int .i64 lo, .int .i64 hi] w fun e w' => e = .returned (.bool true) ∧ Below w.heap.size w w' := by
  have HT := Lib.hid hT
  have HD := Lib.hid hd
  have HA := Lib.hid (anchor6_any hT)
  obtain ⟨D, dcap, rfl, hdcap, _⟩ := hd
  clear hT
  by_cases hl : sd.length ≤ 60 ∧ 0 ≤ lo ∧ lo ≤ 20 ∧ lo ≤ hi ∧ hi ≤ 20
  · obtain ⟨hl1, hl2, hl3, hl4, hl5⟩ := hl
    have hl1i : (sd.length : Int) ≤ 60 := by omega
    obtain ⟨a, rfl⟩ : ∃ a : Nat, lo = a := ⟨lo.toNat, by omega⟩
    obtain ⟨b, rfl⟩ : ∃ b : Nat, hi = b := ⟨hi.toNat, by omega⟩
    have hab : a ≤ b := by omega
    have hb20 : b ≤ 20 := by omega
    go_enter Tryz.func5, Tryz.ntmps5
    go_wp2_with fail
    refine HA.out.mono ?_
    rintro e w1 ⟨rfl, hb1⟩
    have HB1 := Lib.hid hb1
    clear hb1
    have HS := Lib.hid (refSplit_own _ sd (by omega) w1 w.heap.size HB1.out.size (HD.out.below HB1.out))
    go_wp2_with fail
    refine HS.out.mono ?_
    rintro e w2 ⟨v, rfl, hU, hb2⟩
    have HB2 := Lib.hid (HB1.out.trans (hb2.mono HB1.out.size))
    obtain ⟨U, hUd⟩ : ∃ U, (un sd).map (fun n : Nat => (n : Int)) = U := ⟨_, rfl⟩
    have hul : (un sd).length = U.length := by rw [← hUd, List.length_map]
    have hui : ints (un sd) = zI U := by rw [← hUd, zI, List.map_map]; rfl
    have hue : U.length ≤ 60 := by rw [← hul]; have := un_len sd; omega
    rw [hul, hui] at hU
    have HU := Lib.hid hU
    have HUe := Lib.hid hue
    obtain ⟨Av, cv, rfl⟩ : ∃ A c, v = .slice A U.length c := by
      rcases own_at hU with ⟨rfl, h⟩ | ⟨g, c, rfl, _⟩
      · exact ⟨_, _, by rw [h]⟩
      · exact ⟨_, _, rfl⟩
    clear hU hb2 hul hui hUd HS
    go_wp2
    go_loopw [8] (fun i wr => wr = w2 ∧ ∃ k : Nat, k ≤ U.length ∧ i = .int .i64 k ∧ Hid (∀ j, j < k → U[j]? = some 97)) (fun i _ => U.length - (intOf i).toNat)
    case atStart => exact ⟨rfl, 0, Nat.zero_le _, rfl, Lib.hid fun j h => absurd h (by omega)⟩
    case round =>
      obtain ⟨rfl, k, hk, rfl, HK⟩ := hrel
      by_cases hlt : k < U.length
      · have hlti : (k : Int) < (U.length : Int) := by omega
        rcases own_at HU.out with ⟨_, h0⟩ | ⟨gu, cu, hv, _, _, _, hcell, _⟩
        · omega
        obtain ⟨rfl, _, rfl⟩ := Value.slice.inj hv
        have hu := hcell k (by omega)
        rw [zI_get (List.getElem?_eq_getElem hlt)] at hu
        have HX := Lib.hid (List.getElem?_eq_getElem hlt)
        generalize U[k] = u at hu HX
        have HLt := Lib.hid hlt
        clear hcell hv hlt
        by_cases h97 : u = 97
        · subst h97
          go_wp2
          go_roundw
          case rel => exact ⟨trivial, k + 1, HLt.out, by go_num, Lib.hid fun j hj => by
            by_cases e : j = k
            · rw [e]; exact HX.out
            · exact HK.out j (by omega)⟩
          case measure => have := HLt.out; simp [intOf]; omega
        · have hrun : runsA U k := ⟨HK.out, by rw [HX.out]; intro h; exact h97 (Option.some.inj h)⟩
          have HRun := Lib.hid hrun
          clear hrun
          have hfo := fo_any HRun.out hab hb20 HUe.out
          by_cases hna : k < a
          · have hnai : (k : Int) < (a : Int) := by omega
            have F0 := Lib.hid (fun (x : ByteArray) (hx : x.data.toList = gText a b 0 []) (w : World) (uv : Value) (hT : TabL w.heap.size w) (hU : w.ownsRow 0 3 1 uv U.length (zI U)) => gfound (k := 0) hx hab hb20 (by omega) (.inl rfl) hT hU HUe.out (hfo.no hna 0 (by omega) [] (.inl rfl)) (.inl rfl))
            have F1 := Lib.hid (fun (x : ByteArray) (hx : x.data.toList = gText a b 1 []) (w : World) (uv : Value) (hT : TabL w.heap.size w) (hU : w.ownsRow 0 3 1 uv U.length (zI U)) => gfound (k := 0) hx hab hb20 (by omega) (.inl rfl) hT hU HUe.out (hfo.no hna 1 (by omega) [] (.inl rfl)) (.inl rfl))
            have F2 := Lib.hid (fun (x : ByteArray) (hx : x.data.toList = gText a b 2 []) (w : World) (uv : Value) (hT : TabL w.heap.size w) (hU : w.ownsRow 0 3 1 uv U.length (zI U)) => gfound (k := 0) hx hab hb20 (by omega) (.inl rfl) hT hU HUe.out (hfo.no hna 2 (by omega) [] (.inl rfl)) (.inl rfl))
            have F3 := Lib.hid (fun (x : ByteArray) (hx : x.data.toList = gText a b 2 [97]) (w : World) (uv : Value) (hT : TabL w.heap.size w) (hU : w.ownsRow 0 3 1 uv U.length (zI U)) => gfound (k := 0) hx hab hb20 (by omega) (.inr ⟨rfl, rfl⟩) hT hU HUe.out (hfo.no hna 2 (by omega) [97] (.inr ⟨rfl, rfl⟩)) (.inl rfl))
            clear hfo
            go_wp2_with fail
            refine (two_any a (by omega) _).mono ?_
            rintro e w3 ⟨rfl, hb3⟩
            have HB3 := Lib.hid (HB2.out.trans (hb3.mono HB2.out.size))
            have HU3 := Lib.hid (own_kept (HU.out.mono (Nat.zero_le _)) fun i hi _ _ => hb3.block i hi)
            clear hb3
            go_wp2_with fail
            refine (two_any b (by omega) _).mono ?_
            rintro e w4 ⟨rfl, hb4⟩
            have HB4 := Lib.hid (HB3.out.trans (hb4.mono HB3.out.size))
            have HU4 := Lib.hid (own_kept HU3.out fun i hi _ _ => hb4.block i hi)
            clear hb4
            go_wp2_with fail
            refine (F0.out _ (by simp [ByteArray.data_append, gText, modeB]) w4 _ (HT.out.on HB4.out) HU4.out).mono ?_
            rintro e w5 ⟨⟨x1, y1, rfl⟩, hb5⟩
            have HB5 := Lib.hid (HB4.out.trans (hb5.mono HB4.out.size))
            have HU5 := Lib.hid (own_kept HU4.out fun i hi _ _ => hb5.block i hi)
            clear hb5
            go_wp2_with fail
            refine (F1.out _ (by simp [ByteArray.data_append, gText, modeB]) w5 _ (HT.out.on HB5.out) HU5.out).mono ?_
            rintro e w6 ⟨⟨x2, y2, rfl⟩, hb6⟩
            have HB6 := Lib.hid (HB5.out.trans (hb6.mono HB5.out.size))
            have HU6 := Lib.hid (own_kept HU5.out fun i hi _ _ => hb6.block i hi)
            clear hb6
            go_wp2_with fail
            refine (F2.out _ (by simp [ByteArray.data_append, gText, modeB]) w6 _ (HT.out.on HB6.out) HU6.out).mono ?_
            rintro e w7 ⟨⟨x3, y3, rfl⟩, hb7⟩
            have HB7 := Lib.hid (HB6.out.trans (hb7.mono HB6.out.size))
            have HU7 := Lib.hid (own_kept HU6.out fun i hi _ _ => hb7.block i hi)
            clear hb7
            go_wp2_with fail
            refine (F3.out _ (by simp [ByteArray.data_append, gText, modeB]) w7 _ (HT.out.on HB7.out) HU7.out).mono ?_
            rintro e w8 ⟨⟨x4, y4, rfl⟩, hb8⟩
            have HB8 := Lib.hid (HB7.out.trans (hb8.mono HB7.out.size))
            clear hb8
            go_wp2
            go_ret
            exact ⟨rfl, HB8.out⟩
          · have hnai : ¬ (k : Int) < (a : Int) := by omega
            obtain ⟨s1, e1, p1, q1⟩ := hfo.yes (by omega) 0 (.inl rfl)
            obtain ⟨s2, e2, p2, q2⟩ := hfo.few (by omega)
            obtain ⟨s3, e3, p3, q3⟩ := hfo.yes (by omega) 2 (.inr rfl)
            have e4 := hfo.more (by omega)
            obtain ⟨mn, hmn⟩ : ∃ mn : Nat, min k b = mn := ⟨_, rfl⟩
            obtain ⟨mo, hmo⟩ : ∃ mo : Nat, (if b < k then 1 else 0) = mo := ⟨_, rfl⟩
            have hmo2 : (mo = 0 ∧ ¬ b < k) ∨ (mo = 1 ∧ b < k) := by
              by_cases h : b < k
              · rw [if_pos h] at hmo; exact .inr ⟨hmo.symm, h⟩
              · rw [if_neg h] at hmo; exact .inl ⟨hmo.symm, h⟩
            rw [hmn] at q1 q3
            rw [hmo] at e4
            have F0 := Lib.hid (fun (x : ByteArray) (hx : x.data.toList = gText a b 0 []) (w : World) (uv : Value) (hT : TabL w.heap.size w) (hU : w.ownsRow 0 3 1 uv U.length (zI U)) => gfoundY hx hab hb20 (by omega) hT hU HUe.out e1 p1 q1)
            have F1 := Lib.hid (fun (x : ByteArray) (hx : x.data.toList = gText a b 1 []) (w : World) (uv : Value) (hT : TabL w.heap.size w) (hU : w.ownsRow 0 3 1 uv U.length (zI U)) => gfoundY hx hab hb20 (by omega) hT hU HUe.out e2 p2 q2)
            have F2 := Lib.hid (fun (x : ByteArray) (hx : x.data.toList = gText a b 2 []) (w : World) (uv : Value) (hT : TabL w.heap.size w) (hU : w.ownsRow 0 3 1 uv U.length (zI U)) => gfoundY hx hab hb20 (by omega) hT hU HUe.out e3 p3 q3)
            have F3 := Lib.hid (fun (x : ByteArray) (hx : x.data.toList = gText a b 2 [97]) (w : World) (uv : Value) (hT : TabL w.heap.size w) (hU : w.ownsRow 0 3 1 uv U.length (zI U)) => gfound (k := mo) hx hab hb20 (by omega) (.inr ⟨rfl, rfl⟩) hT hU HUe.out e4 (by rcases hmo2 with h | h; exact .inl h.1; exact .inr h.1))
            have hmni : (mn : Int) = min (k : Int) (b : Int) := by omega
            have HMn := Lib.hid hmni
            have HMo := Lib.hid hmo2
            clear hfo e1 e2 e3 e4 p1 p2 p3 q1 q2 q3 hmn hmo hmo2 hmni
            go_wp2_with fail
            refine (two_any a (by omega) _).mono ?_
            rintro e w3 ⟨rfl, hb3⟩
            have HB3 := Lib.hid (HB2.out.trans (hb3.mono HB2.out.size))
            have HU3 := Lib.hid (own_kept (HU.out.mono (Nat.zero_le _)) fun i hi _ _ => hb3.block i hi)
            clear hb3
            go_wp2_with fail
            refine (two_any b (by omega) _).mono ?_
            rintro e w4 ⟨rfl, hb4⟩
            have HB4 := Lib.hid (HB3.out.trans (hb4.mono HB3.out.size))
            have HU4 := Lib.hid (own_kept HU3.out fun i hi _ _ => hb4.block i hi)
            clear hb4
            go_wp2_with fail
            refine (F0.out _ (by simp [ByteArray.data_append, gText, modeB]) w4 _ (HT.out.on HB4.out) HU4.out).mono ?_
            rintro e w5 ⟨rfl, hb5⟩
            have HB5 := Lib.hid (HB4.out.trans (hb5.mono HB4.out.size))
            have HU5 := Lib.hid (own_kept HU4.out fun i hi _ _ => hb5.block i hi)
            clear hb5
            go_wp2_with fail
            refine (F1.out _ (by simp [ByteArray.data_append, gText, modeB]) w5 _ (HT.out.on HB5.out) HU5.out).mono ?_
            rintro e w6 ⟨rfl, hb6⟩
            have HB6 := Lib.hid (HB5.out.trans (hb6.mono HB5.out.size))
            have HU6 := Lib.hid (own_kept HU5.out fun i hi _ _ => hb6.block i hi)
            clear hb6
            go_wp2_with fail
            refine (F2.out _ (by simp [ByteArray.data_append, gText, modeB]) w6 _ (HT.out.on HB6.out) HU6.out).mono ?_
            rintro e w7 ⟨rfl, hb7⟩
            have HB7 := Lib.hid (HB6.out.trans (hb7.mono HB6.out.size))
            have HU7 := Lib.hid (own_kept HU6.out fun i hi _ _ => hb7.block i hi)
            clear hb7
            go_wp2_with fail
            refine (F3.out _ (by simp [ByteArray.data_append, gText, modeB]) w7 _ (HT.out.on HB7.out) HU7.out).mono ?_
            rintro e w8 ⟨⟨x4, y4, rfl⟩, hb8⟩
            have HB8 := Lib.hid (HB7.out.trans (hb8.mono HB7.out.size))
            clear hb8
            have hmni := HMn.out
            rcases HMo.out with ⟨rfl, hbk⟩ | ⟨rfl, hbk⟩
            · have hbki : ¬ (b : Int) < (k : Int) := by omega
              go_wp2
          
              go_ret
              exact ⟨rfl, HB8.out⟩
            · have hbki : (b : Int) < (k : Int) := by omega
              go_wp2
              go_ret
              exact ⟨rfl, HB8.out⟩
      · obtain rfl : k = U.length := by omega
        have hrun : runsA U U.length := ⟨HK.out, by rw [List.getElem?_eq_none (Nat.le_refl _)]; simp⟩
        have HRun := Lib.hid hrun
        clear hrun hlt
        have hge : ¬ ((U.length : Int) < (U.length : Int)) := by omega
        have hfo := fo_any HRun.out hab hb20 HUe.out
        by_cases hna : U.length < a
        · have hnai : (U.length : Int) < (a : Int) := by omega
          have F0 := Lib.hid (fun (x : ByteArray) (hx : x.data.toList = gText a b 0 []) (w : World) (uv : Value) (hT : TabL w.heap.size w) (hU : w.ownsRow 0 3 1 uv U.length (zI U)) => gfound (k := 0) hx hab hb20 (by omega) (.inl rfl) hT hU HUe.out (hfo.no hna 0 (by omega) [] (.inl rfl)) (.inl rfl))
          have F1 := Lib.hid (fun (x : ByteArray) (hx : x.data.toList = gText a b 1 []) (w : World) (uv : Value) (hT : TabL w.heap.size w) (hU : w.ownsRow 0 3 1 uv U.length (zI U)) => gfound (k := 0) hx hab hb20 (by omega) (.inl rfl) hT hU HUe.out (hfo.no hna 1 (by omega) [] (.inl rfl)) (.inl rfl))
          have F2 := Lib.hid (fun (x : ByteArray) (hx : x.data.toList = gText a b 2 []) (w : World) (uv : Value) (hT : TabL w.heap.size w) (hU : w.ownsRow 0 3 1 uv U.length (zI U)) => gfound (k := 0) hx hab hb20 (by omega) (.inl rfl) hT hU HUe.out (hfo.no hna 2 (by omega) [] (.inl rfl)) (.inl rfl))
          have F3 := Lib.hid (fun (x : ByteArray) (hx : x.data.toList = gText a b 2 [97]) (w : World) (uv : Value) (hT : TabL w.heap.size w) (hU : w.ownsRow 0 3 1 uv U.length (zI U)) => gfound (k := 0) hx hab hb20 (by omega) (.inr ⟨rfl, rfl⟩) hT hU HUe.out (hfo.no hna 2 (by omega) [97] (.inr ⟨rfl, rfl⟩)) (.inl rfl))
          clear hfo
          go_wp2_with fail
          refine (two_any a (by omega) _).mono ?_
          rintro e w3 ⟨rfl, hb3⟩
          have HB3 := Lib.hid (HB2.out.trans (hb3.mono HB2.out.size))
          have HU3 := Lib.hid (own_kept (HU.out.mono (Nat.zero_le _)) fun i hi _ _ => hb3.block i hi)
          clear hb3
          go_wp2_with fail
          refine (two_any b (by omega) _).mono ?_
          rintro e w4 ⟨rfl, hb4⟩
          have HB4 := Lib.hid (HB3.out.trans (hb4.mono HB3.out.size))
          have HU4 := Lib.hid (own_kept HU3.out fun i hi _ _ => hb4.block i hi)
          clear hb4
          go_wp2_with fail
          refine (F0.out _ (by simp [ByteArray.data_append, gText, modeB]) w4 _ (HT.out.on HB4.out) HU4.out).mono ?_
          rintro e w5 ⟨⟨x1, y1, rfl⟩, hb5⟩
          have HB5 := Lib.hid (HB4.out.trans (hb5.mono HB4.out.size))
          have HU5 := Lib.hid (own_kept HU4.out fun i hi _ _ => hb5.block i hi)
          clear hb5
          go_wp2_with fail
          refine (F1.out _ (by simp [ByteArray.data_append, gText, modeB]) w5 _ (HT.out.on HB5.out) HU5.out).mono ?_
          rintro e w6 ⟨⟨x2, y2, rfl⟩, hb6⟩
          have HB6 := Lib.hid (HB5.out.trans (hb6.mono HB5.out.size))
          have HU6 := Lib.hid (own_kept HU5.out fun i hi _ _ => hb6.block i hi)
          clear hb6
          go_wp2_with fail
          refine (F2.out _ (by simp [ByteArray.data_append, gText, modeB]) w6 _ (HT.out.on HB6.out) HU6.out).mono ?_
          rintro e w7 ⟨⟨x3, y3, rfl⟩, hb7⟩
          have HB7 := Lib.hid (HB6.out.trans (hb7.mono HB6.out.size))
          have HU7 := Lib.hid (own_kept HU6.out fun i hi _ _ => hb7.block i hi)
          clear hb7
          go_wp2_with fail
          refine (F3.out _ (by simp [ByteArray.data_append, gText, modeB]) w7 _ (HT.out.on HB7.out) HU7.out).mono ?_
          rintro e w8 ⟨⟨x4, y4, rfl⟩, hb8⟩
          have HB8 := Lib.hid (HB7.out.trans (hb8.mono HB7.out.size))
          clear hb8
          go_wp2
          go_ret
          exact ⟨rfl, HB8.out⟩
        · have hnai : ¬ (U.length : Int) < (a : Int) := by omega
          obtain ⟨s1, e1, p1, q1⟩ := hfo.yes (by omega) 0 (.inl rfl)
          obtain ⟨s2, e2, p2, q2⟩ := hfo.few (by omega)
          obtain ⟨s3, e3, p3, q3⟩ := hfo.yes (by omega) 2 (.inr rfl)
          have e4 := hfo.more (by omega)
          obtain ⟨mn, hmn⟩ : ∃ mn : Nat, min U.length b = mn := ⟨_, rfl⟩
          obtain ⟨mo, hmo⟩ : ∃ mo : Nat, (if b < U.length then 1 else 0) = mo := ⟨_, rfl⟩
          have hmo2 : (mo = 0 ∧ ¬ b < U.length) ∨ (mo = 1 ∧ b < U.length) := by
            by_cases h : b < U.length
            · rw [if_pos h] at hmo; exact .inr ⟨hmo.symm, h⟩
            · rw [if_neg h] at hmo; exact .inl ⟨hmo.symm, h⟩
          rw [hmn] at q1 q3
          rw [hmo] at e4
          have F0 := Lib.hid (fun (x : ByteArray) (hx : x.data.toList = gText a b 0 []) (w : World) (uv : Value) (hT : TabL w.heap.size w) (hU : w.ownsRow 0 3 1 uv U.length (zI U)) => gfoundY hx hab hb20 (by omega) hT hU HUe.out e1 p1 q1)
          have F1 := Lib.hid (fun (x : ByteArray) (hx : x.data.toList = gText a b 1 []) (w : World) (uv : Value) (hT : TabL w.heap.size w) (hU : w.ownsRow 0 3 1 uv U.length (zI U)) => gfoundY hx hab hb20 (by omega) hT hU HUe.out e2 p2 q2)
          have F2 := Lib.hid (fun (x : ByteArray) (hx : x.data.toList = gText a b 2 []) (w : World) (uv : Value) (hT : TabL w.heap.size w) (hU : w.ownsRow 0 3 1 uv U.length (zI U)) => gfoundY hx hab hb20 (by omega) hT hU HUe.out e3 p3 q3)
          have F3 := Lib.hid (fun (x : ByteArray) (hx : x.data.toList = gText a b 2 [97]) (w : World) (uv : Value) (hT : TabL w.heap.size w) (hU : w.ownsRow 0 3 1 uv U.length (zI U)) => gfound (k := mo) hx hab hb20 (by omega) (.inr ⟨rfl, rfl⟩) hT hU HUe.out e4 (by rcases hmo2 with h | h; exact .inl h.1; exact .inr h.1))
          have hmni : (mn : Int) = min (U.length : Int) (b : Int) := by omega
          have HMn := Lib.hid hmni
          have HMo := Lib.hid hmo2
          clear hfo e1 e2 e3 e4 p1 p2 p3 q1 q2 q3 hmn hmo hmo2 hmni
          go_wp2_with fail
          refine (two_any a (by omega) _).mono ?_
          rintro e w3 ⟨rfl, hb3⟩
          have HB3 := Lib.hid (HB2.out.trans (hb3.mono HB2.out.size))
          have HU3 := Lib.hid (own_kept (HU.out.mono (Nat.zero_le _)) fun i hi _ _ => hb3.block i hi)
          clear hb3
          go_wp2_with fail
          refine (two_any b (by omega) _).mono ?_
          rintro e w4 ⟨rfl, hb4⟩
          have HB4 := Lib.hid (HB3.out.trans (hb4.mono HB3.out.size))
          have HU4 := Lib.hid (own_kept HU3.out fun i hi _ _ => hb4.block i hi)
          clear hb4
          go_wp2_with fail
          refine (F0.out _ (by simp [ByteArray.data_append, gText, modeB]) w4 _ (HT.out.on HB4.out) HU4.out).mono ?_
          rintro e w5 ⟨rfl, hb5⟩
          have HB5 := Lib.hid (HB4.out.trans (hb5.mono HB4.out.size))
          have HU5 := Lib.hid (own_kept HU4.out fun i hi _ _ => hb5.block i hi)
          clear hb5
          go_wp2_with fail
          refine (F1.out _ (by simp [ByteArray.data_append, gText, modeB]) w5 _ (HT.out.on HB5.out) HU5.out).mono ?_
          rintro e w6 ⟨rfl, hb6⟩
          have HB6 := Lib.hid (HB5.out.trans (hb6.mono HB5.out.size))
          have HU6 := Lib.hid (own_kept HU5.out fun i hi _ _ => hb6.block i hi)
          clear hb6
          go_wp2_with fail
          refine (F2.out _ (by simp [ByteArray.data_append, gText, modeB]) w6 _ (HT.out.on HB6.out) HU6.out).mono ?_
          rintro e w7 ⟨rfl, hb7⟩
          have HB7 := Lib.hid (HB6.out.trans (hb7.mono HB6.out.size))
          have HU7 := Lib.hid (own_kept HU6.out fun i hi _ _ => hb7.block i hi)
          clear hb7
          go_wp2_with fail
          refine (F3.out _ (by simp [ByteArray.data_append, gText, modeB]) w7 _ (HT.out.on HB7.out) HU7.out).mono ?_
          rintro e w8 ⟨⟨x4, y4, rfl⟩, hb8⟩
          have HB8 := Lib.hid (HB7.out.trans (hb8.mono HB7.out.size))
          clear hb8
          have hmni := HMn.out
          rcases HMo.out with ⟨rfl, hbk⟩ | ⟨rfl, hbk⟩
          · have hbki : ¬ (b : Int) < (U.length : Int) := by omega
            go_wp2
        
            go_ret
            exact ⟨rfl, HB8.out⟩
          · have hbki : (b : Int) < (U.length : Int) := by omega
            go_wp2
            go_ret
            exact ⟨rfl, HB8.out⟩
  · have hor : 60 < (sd.length : Int) ∨ lo < 0 ∨ 20 < lo ∨ hi < lo ∨ 20 < hi := by omega
    go_enter Tryz.func5, Tryz.ntmps5
    go_wp2_with fail
    refine HA.out.mono ?_
    rintro e w1 ⟨rfl, hb1⟩
    go_wp2
    all_goals first | (go_ret; exact ⟨rfl, hb1⟩) | skip
theorem vmGreed_law (dv : Value) (sd : List UInt8) (lo hi : Int) (w : World) (hT : TabL w.heap.size w) (hd : Bytes w.heap.size w dv sd) (hlo : -9223372036854775808 ≤ lo ∧ lo ≤ 9223372036854775807) (hhi : -9223372036854775808 ≤ hi ∧ hi ≤ 9223372036854775807) :
    Calls Tryz.prog 5 #[dv, .int .i64 lo, .int .i64 hi] w fun e w' => e = .returned (.bool true) ∧ Below w.heap.size w w' := greed_law dv sd lo hi w hT hd hlo hhi

end Go.Proofs.YtdbddbelhgkelaaGreatDoor
