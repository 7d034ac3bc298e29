/- slices.SortStableFunc over the places of a scope's rules: a sort by insertion. -/
import Derived.Test.YtihhjcjmchlafaaRuOi
import Derived.Test.YtihhjcjmchlafaaRuOp
import Derived.Test.YtihhjcjmchlafaaRuShelf
import Derived.Deep.QuietTactic
namespace Go.Proofs.Ytihhjcjmchlafaa
open Go.RowKit Go.Shelf Go.Lib
variable {w w' : World}

def encO (l : List Ru) (z : Int) : Value := .int .i64 (inn l z)
def cfO (l : List Ru) (x y : Int) : Int := Lib.compareInt (prC l y) (prC l x)
theorem ltO (l : List Ru) (x y : Int) : ltOf (cfO l) x y = decide (prC l y < prC l x) := by
  unfold ltOf cfO Lib.compareInt
  by_cases h1 : prC l y < prC l x
  · simp [h1]
  · by_cases h2 : prC l x < prC l y <;> simp [h1, h2]

set_option maxRecDepth 100000 in
set_option maxHeartbeats 2000000 in
theorem cmpO_any (l : List Ru) (hne : l ≠ []) (base sb : Nat) (W : World) (x0 x1 x2 x3 : Value) (A : Option Addr) (cap : Nat) (hX : Blk W sb 24 #[x0, x1, x2, x3, .slice A l.length cap]) (hS : RulesV base W (.slice A l.length cap) l) (x y : Int) :
    Calls Try.prog 38 #[encO l x, encO l y, .pointer (some ⟨sb, 0, none⟩)] W fun e w' => e = .returned (.int .i64 (cfO l x y)) ∧ ∃ q os', w' = Sort.grow (W.drewN q) os' := by
  have hcon := fun a b W' => AnyG.cmp_Compare_int Try.cmpInt a b W'
  change ∀ a b W', Calls Try.prog 39 _ _ _ at hcon
  obtain ⟨kx, ex, lx⟩ := inn_in hne x
  obtain ⟨ky, ey, ly⟩ := inn_in hne y
  obtain ⟨b, off, rfl, hb, hx⟩ := hS.at_ lx
  obtain ⟨b', off', hA, hb', hy⟩ := hS.at_ ly
  injection hA with hA
  injection hA with hA1 hA2
  subst hA1 hA2
  have HGx := List.getElem?_eq_getElem lx
  have HGy := List.getElem?_eq_getElem ly
  have epx : prC l x = l[kx].pr := by unfold prC prAt; rw [ex, Int.toNat_natCast, HGx]; rfl
  have epy : prC l y = l[ky].pr := by unfold prC prAt; rw [ey, Int.toNat_natCast, HGy]; rfl
  unfold cfO encO
  rw [ex, ey, epx, epy]
  generalize l[kx] = rx at hx
  generalize l[ky] = ry at hy
  have qx := hx.2.1
  have qy := hy.2.1
  have x4 := hX.cell 4
  have hlx := hX.lt
  have HC := Lib.hid (hcon ry.pr rx.pr)
  clear hcon ex ey epx epy HGx HGy hx hy hX hS
  generalize Lib.compareInt ry.pr rx.pr = c at HC ⊢
  go_enter Try.func38, Try.ntmps38
  go_wp2_with fail
  go_quiet (first | (go_at_call 39; exact Calls.quiet_of_same (HC.out _)))
  go_wp2
  go_ret
  exact ⟨rfl, nq, #[], by rw [Sort.grow_empty]⟩

theorem below_sortW (w : World) (base g n : Nat) (enc : Int → Value) (d : Array Int) (os : Array Obj) (hg : base ≤ g) (hb : base ≤ w.heap.size) : Below base w (sortWorld enc w g 0 n d os) := by
  refine ⟨rfl, rfl, rfl, ?_, fun k hk => ?_⟩
  · exact SW.le (enc := enc) (w0 := w) (blk := g) (off := 0) (dk := d) ⟨n, os, rfl⟩
  · unfold sortWorld
    rw [Sort.heap_grow_old _ _ (by rw [size_putRow]; show k < w.heap.size; omega)]
    unfold Sort.putRow Sort.mapBlock
    simp only [Sort.heap_ahead]
    rw [Array.getElem?_modify, if_neg (by omega)]

set_option maxRecDepth 100000 in
/-- a sort by insertion of nothing -/
theorem insNone_any (p : Option Addr) (cap : Nat) (f : Value) (hf : ∃ g cb, f = .func (.func g) #[] cb) (w : World) : Calls Try.prog 55 #[.slice p 0 cap, .int .i64 0, .int .i64 0, f] w fun e w' => e = .returned (.tuple #[]) ∧ w' = w := by
  obtain ⟨g, cb, rfl⟩ := hf
  go_enter Try.func55, Try.ntmps55
  go_wp2
  go_loopw [8] (fun i wr => i = .int .i64 1 ∧ wr = w) (fun _ _ => 0)
  case atStart => exact ⟨rfl, by first | trivial | rfl⟩
  case round =>
    obtain ⟨rfl, hw⟩ := hrel
    subst hw
    go_wp2
    exact ⟨rfl, .tuple #[], by simp [results, Try.results55, go_sem], rfl, by first | trivial | rfl⟩

set_option maxRecDepth 100000 in
/-- at most sixteen: one sort by insertion -/
theorem stable_any {Q : Ending → World → Prop} (p : Option Addr) (n cap : Nat) (h16 : n ≤ 16) (f : Value) (hf : ∃ g cb, f = .func (.func g) #[] cb) (w : World) (h : Calls Try.prog 55 #[.slice p n cap, .int .i64 0, .int .i64 n, f] w fun e w' => e = .returned (.tuple #[]) ∧ Q (.returned (.tuple #[])) w') :
    Calls Try.prog 47 #[.slice p n cap, .int .i64 n, f] w Q := by
  obtain ⟨g, cb, rfl⟩ := hf
  have H := Lib.hid h
  clear h
  have hni : ¬ (20 : Int) ≤ (n : Int) := by omega
  have hnj : ¬ (20 : Int) < (n : Int) := by omega
  go_enter Try.func47, Try.ntmps47
  go_wp2
  go_loopw [7, 8] (fun a b wr => a = .int .i64 0 ∧ b = .int .i64 20 ∧ wr = w) (fun _ _ _ => 0)
  case atStart => exact ⟨rfl, rfl, by first | trivial | rfl⟩
  case round =>
    obtain ⟨rfl, rfl, hw⟩ := hrel
    subst hw
    go_wp2_with fail
    refine H.out.mono ?_
    rintro e w1 ⟨rfl, hq⟩
    have HQ := Lib.hid hq
    clear hq
    go_wp2
    go_loopw [6, 7, 8, 9] (fun a b c d wr => a = .int .i64 20 ∧ wr = w1) (fun _ _ _ _ _ => 0)
    case atStart => exact ⟨rfl, by first | trivial | rfl⟩
    case round =>
      obtain ⟨rfl, hw⟩ := hrel
      subst hw
      go_wp2
      exact ⟨rfl, .tuple #[], by simp [results, Try.results47, go_sem], HQ.out⟩

set_option maxRecDepth 100000 in
set_option maxHeartbeats 2000000 in
theorem sortStable_any (l : List Ru) (hs : Ru → Bool) (hpr : ∀ r ∈ l, 0 ≤ r.pr ∧ r.pr ≤ 1000) (base : Nat) (sb : Nat) (w : World) (x0 x1 x2 x3 : Value) (A : Option Addr) (cap : Nat) (h16 : l.length ≤ 16) (hsb : sb < base)
    (hX : Blk w sb 24 #[x0, x1, x2, x3, .slice A l.length cap]) (hS : RulesV base w (.slice A l.length cap) l) {OA : Option Addr} {OC : Nat} (hO : OwnI w base (.slice OA (picked l hs l.length).length OC) (picked l hs l.length)) (hb : base ≤ w.heap.size) :
    Calls Try.prog 37 #[.slice OA (picked l hs l.length).length OC, .func (.func 38) #[] #[.pointer (some ⟨sb, 0, none⟩)]] w fun e w' => e = .returned (.tuple #[]) ∧ Row w'.heap.size w' (.slice OA (picked l hs l.length).length OC) (zI (ordR l hs 1001)) ∧ Below base w w' := by
  have hpl : (picked l hs l.length).length ≤ 16 := Nat.le_trans picked_len h16
  have key : Calls Try.prog 55 #[.slice OA (picked l hs l.length).length OC, .int .i64 0, .int .i64 (picked l hs l.length).length, .func (.func 38) #[] #[.pointer (some ⟨sb, 0, none⟩)]] w fun e w' => e = .returned (.tuple #[]) ∧ (Row w'.heap.size w' (.slice OA (picked l hs l.length).length OC) (zI (ordR l hs 1001)) ∧ Below base w w') := by
    have hsort := ord_sort (lt := ltOf (cfO l)) (hs := hs) (ltO l) hpr
    by_cases hp : picked l hs l.length = []
    · have hord : ordR l hs 1001 = [] := by
        rw [← hsort, hp]
        unfold Sort.insertionSort
        rw [Sort.insOuter, if_neg (by simp)]
      have hr := hO.row
      rw [hp] at hr
      rw [hp, hord]
      refine (insNone_any OA OC _ ⟨_, _, rfl⟩ w).mono ?_
      rintro e w' ⟨rfl, rfl⟩
      exact ⟨rfl, hr, Below.refl _ _⟩
    · have hne : l ≠ [] := by
        rintro rfl
        exact hp rfl
      have hpos : 0 < (picked l hs l.length).length := List.length_pos_iff.2 hp
      obtain ⟨g, c, hv, hg1, hg2⟩ := World.ownsRow.form hO hpos
      injection hv with hv1 _ hv2
      subst hv1 hv2
      have hlt : g < w.heap.size := (World.ownsRow.lt hO g rfl).2
      have hin : ∀ j, j < (picked l hs l.length).toArray.size → encO l (picked l hs l.length).toArray[j]! = .int .i64 (picked l hs l.length).toArray[j]! := fun j hj => by
        unfold encO
        rw [inn_of]
        refine picked_at (hs := hs) (n := l.length) ?_
        rw [getElem!_pos _ j hj]
        simp
      have hH : Sort.Holds (encO l) w g 0 (picked l hs l.length).toArray := fun j hj => by
        refine ⟨?_, World.ownsRow.frozenAt hO (0 + j)⟩
        have hj' : j < (picked l hs l.length).length := by simpa using hj
        rw [World.ownsRow.cellAt hO (0 + j) (by omega), Nat.zero_add, zI_get (List.getElem?_eq_getElem hj'), hin j hj, getElem!_pos _ j hj]
        simp
      have hcmp : CmpLays1 Try.prog 38 #[.pointer (some ⟨sb, 0, none⟩)] (encO l) (cfO l) g 0 (picked l hs l.length).toArray.size w := fun m os dk _ x y => by
        have hB := below_sortW w base g m (encO l) dk os hg1 hb
        exact cmpO_any l hne base sb _ x0 x1 x2 x3 A cap (hX.below hB hsb) (hS.below hB) x y
      have eg : ∀ args w, (callFunc 38 args).run Try.prog w = .ok (.enter 38 args) w := enters_of Try.func38 (by kernel_rfl) rfl
      have hsz : (picked l hs l.length).toArray.size = (picked l hs l.length).length := by simp
      have hcon := Any.insertionSortCmpFunc_s Try.insInt (encO l) (cfO l) 38 #[.pointer (some ⟨sb, 0, none⟩)] g 0 OC 0 (picked l hs l.length).toArray.size (picked l hs l.length).toArray (picked l hs l.length).toArray w w eg hcmp ⟨fun _ => rfl, hH, hlt⟩ rfl (SW.start hH) (Nat.zero_le _) (Nat.le_refl _) (by omega)
      change Calls Try.prog 55 _ _ _ at hcon
      rw [hsz] at hcon
      refine hcon.mono ?_
      rintro e w' ⟨rfl, hsw⟩
      refine ⟨rfl, ?_, ?_⟩
      · rw [hsz] at hsort
        obtain ⟨d', hd'⟩ : ∃ d', d' = Sort.insertionSort (ltOf (cfO l)) (picked l hs l.length).toArray 0 (picked l hs l.length).length := ⟨_, rfl⟩
        rw [← hd'] at hsw hsort
        have hperm := (Sort.insertionSort_holds (lt := ltOf (cfO l)) ⟨fun x => by rw [ltO]; simp, fun x y z h1 h2 => by rw [ltO] at *; simp at *; omega, fun x y z h1 h2 => by rw [ltO] at *; simp at *; omega⟩ (picked l hs l.length).toArray 0 (picked l hs l.length).length (Nat.zero_le _) (by simp)).1
        rw [← hd'] at hperm
        have hds : d'.size = (picked l hs l.length).length := by rw [hperm.1]; simp
        have hho := hsw.holds hlt hH (by rw [hds]; simp)
        have hlen : (zI (ordR l hs 1001)).length = (picked l hs l.length).length := by rw [← hsort]; simp [zI, hds]
        have hle := hsw.le
        obtain ⟨_, c2, hv, hc, _⟩ := hO.row
        have hcap : (picked l hs l.length).length ≤ OC := by
          injection hv with _ _ e2
          subst e2
          simpa [zI] using hc
        refine ⟨some ⟨g, 0, none⟩, OC, by rw [hlen], by rw [hlen]; exact hcap, fun _ => ⟨g, 0, rfl, by omega, fun j u hu => ?_⟩⟩
        obtain ⟨hj, _⟩ := List.getElem?_eq_some_iff.1 hu
        rw [hlen, ← hds] at hj
        rw [(hho j hj).1]
        have hall := Sort.permIn_all (picked l hs l.length).toArray d' 0 (picked l hs l.length).length (fun x => 0 ≤ x ∧ x < (l.length : Int)) (by simp) hperm (fun q _ hq => by
          rw [getElem!_pos _ q (by simpa using hq)]
          exact picked_at (hs := hs) (n := l.length) (by simp)) j (Nat.zero_le _) (by omega)
        unfold encO
        rw [inn_of hall]
        rw [← hsort] at hu
        have e : d'.toList[j]? = some d'[j]! := by
          rw [getElem!_pos d' j hj, Array.getElem?_toList]
          exact Array.getElem?_eq_getElem hj
        rw [zI_get e] at hu
        exact hu
      · obtain ⟨m, os, rfl⟩ := hsw
        exact below_sortW w base g m (encO l) _ os hg1 hb
  have key2 := stable_any OA (picked l hs l.length).length OC hpl (.func (.func 38) #[] #[.pointer (some ⟨sb, 0, none⟩)]) ⟨_, _, rfl⟩ w (Q := fun e w' => e = .returned (.tuple #[]) ∧ Row w'.heap.size w' (.slice OA (picked l hs l.length).length OC) (zI (ordR l hs 1001)) ∧ Below base w w') (key.mono fun e w' h => ⟨h.1, rfl, h.2⟩)
  have HK := Lib.hid key2
  clear key key2
  generalize (picked l hs l.length).length = n at HK hpl ⊢
  go_enter Try.func37, Try.ntmps37
  go_wp2_with fail
  refine HK.out.mono ?_
  rintro e w1 ⟨rfl, h1, h2⟩
  have H1 := Lib.hid h1
  have H2 := Lib.hid h2
  clear h1 h2
  go_wp2
  exact ⟨rfl, .tuple #[], by simp [results, Try.results37, go_sem], rfl, H1.out, H2.out⟩

end Go.Proofs.Ytihhjcjmchlafaa
