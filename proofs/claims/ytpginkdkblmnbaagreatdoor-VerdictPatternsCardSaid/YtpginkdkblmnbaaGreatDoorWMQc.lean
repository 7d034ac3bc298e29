import Derived.Test.YtpginkdkblmnbaaGreatDoorWMQa
namespace Go.Proofs.YtpginkdkblmnbaaGreatDoor
section
open Go.RowKit
open Go.Proofs.YtpginkdkblmnbaaGreatDoor.Cl (Rg à Ý Ä ò Î ü ņ)
variable {w w' : World} {E : RE} {σ : St} {I g d c p : Nat} {rv : Value} {refs : List (Nat × Nat)} {f : Flt}
def PV (base : Nat) (w : World) (v : Value) (l : List Rg) : Prop := Đ (fun b => base ≤ b ∧ b < w.heap.size) w v l
theorem Äy (w : World) (l : List Rg) (cs : Array Value) (n : Nat) (t : TypeId) (hn : n = l.length) (h : cs.toList = Ä l) : PV w.heap.size (w.alloc (.cells cs t)) (.slice (some ⟨w.heap.size, 0, none⟩) n n) l := by
 subst hn
 refine ⟨_, _, rfl, ŋ _, fun _ => ⟨w.heap.size, 0, rfl, ⟨ŋ _, by simp⟩, fun i r hr => ?_⟩⟩
 obtain ⟨h1, h2⟩ := ü l i r hr;constructor
 ·rw [cell_of_row _ w.heap.size _ _ _ _ (heap_alloc_new w _), ĉ, ← Array.getElem?_toList, h]
  exact h1
 ·rw [cell_of_row _ w.heap.size _ _ _ _ (heap_alloc_new w _), ĉ, ← Array.getElem?_toList, h]
  exact h2
theorem PV.below {base : Nat} {v : Value} {l : List Rg} (h : PV base w v l) (hb : Below w.heap.size w w') : PV base w' v l := Đ.keep h fun b hk => ⟨⟨hk.1, Ć hk.2 hb.size⟩, hb.block b hk.2⟩
theorem Ŗ (a b : Int) : Calls Tryz.prog 105 #[.int .i64 a, .int .i64 b] w fun e w' => ∃ A n, e = .returned (.slice A 1 n) ∧ PV w.heap.size w' (.slice A 1 n) [(a, b)] ∧ Below w.heap.size w w' := by
 go_enter Tryz.func105, Tryz.ntmps105;go_wp2;go_ret;exact ⟨_, _, rfl, Äy w [(a, b)] _ 1 _ rfl rfl, (ā _ _).alloc (ŋ _) _⟩
def shB (u : Int) : Bool := decide (u = 100 ∨ u = 119 ∨ u = 115 ∨ u = 68 ∨ u = 87 ∨ u = 83)
theorem Åt (c : Nat) : shB (c : Int) = (Ť c).isSome := by
 unfold shB Ť
 by_cases h1 : c = 100 ∨ c = 68
 ·rw [if_pos h1]; simp; omega
 ·rw [if_neg h1]
  by_cases h2 : c = 119 ∨ c = 87
  ·rw [if_pos h2]; simp; omega
  ·rw [if_neg h2]
   by_cases h3 : c = 115 ∨ c = 83
   ·rw [if_pos h3]; simp; omega
   ·rw [if_neg h3]; simp; omega
theorem ï (u : Int) (b : Bool) (hb : shB u = b) : Calls Tryz.prog 126 #[.int .i64 u] w fun e w' => e = .returned (.bool b) ∧ w' = w := by
 by_cases h0 : u = 100
 ·subst h0
  obtain rfl : b = true := by rw [← hb]; rfl
  clear hb;go_enter Tryz.func126, Tryz.ntmps126;go_wp2;go_ret;exact ⟨rfl, rfl⟩
 have k0 : (u == 100) = false := by simp [h0]
 by_cases h1 : u = 119
 ·subst h1
  obtain rfl : b = true := by rw [← hb]; rfl
  clear hb;go_enter Tryz.func126, Tryz.ntmps126;go_wp2;go_ret;exact ⟨rfl, rfl⟩
 have k1 : (u == 119) = false := by simp [h1]
 by_cases h2 : u = 115
 ·subst h2
  obtain rfl : b = true := by rw [← hb]; rfl
  clear hb;go_enter Tryz.func126, Tryz.ntmps126;go_wp2;go_ret;exact ⟨rfl, rfl⟩
 have k2 : (u == 115) = false := by simp [h2]
 by_cases h3 : u = 68
 ·subst h3
  obtain rfl : b = true := by rw [← hb]; rfl
  clear hb;go_enter Tryz.func126, Tryz.ntmps126;go_wp2;go_ret;exact ⟨rfl, rfl⟩
 have k3 : (u == 68) = false := by simp [h3]
 by_cases h4 : u = 87
 ·subst h4
  obtain rfl : b = true := by rw [← hb]; rfl
  clear hb;go_enter Tryz.func126, Tryz.ntmps126;go_wp2;go_ret;exact ⟨rfl, rfl⟩
 have k4 : (u == 87) = false := by simp [h4]
 by_cases h5 : u = 83
 ·subst h5
  obtain rfl : b = true := by rw [← hb]; rfl
  clear hb;go_enter Tryz.func126, Tryz.ntmps126;go_wp2;go_ret;exact ⟨rfl, rfl⟩
 have k5 : (u == 83) = false := by simp [h5]
 obtain rfl : b = false := by rw [← hb]; simp [shB]; omega
 clear hb;go_enter Tryz.func126, Tryz.ntmps126;go_wp2;go_ret;exact ⟨rfl, rfl⟩
theorem Ág {c : Nat} {l : List Rg} (h : Ť c = some l) : (c = 100 ∨ c = 68) ∧ l = [(48, 57)] ∨ (c = 119 ∨ c = 87) ∧ l = [(48, 57), (65, 90), (95, 95), (97, 122)] ∨ (c = 115 ∨ c = 83) ∧ l = [(9, 13), (32, 32)] := by
 unfold Ť at h;split at h
 ·left; rename_i h1; exact ⟨h1, (Option.some.inj h).symm⟩
 split at h
 ·right; left; rename_i h1; exact ⟨h1, (Option.some.inj h).symm⟩
 split at h
 ·right; right; rename_i h1; exact ⟨h1, (Option.some.inj h).symm⟩
 ·cases h
theorem Æx (c : Nat) (l : List Rg) (h : Ť c = some l) : Calls Tryz.prog 127 #[.int .i64 (c : Nat)] w fun e w' => ∃ A n, e = .returned (.slice A l.length n) ∧ PV w.heap.size w' (.slice A l.length n) l ∧ Below w.heap.size w w' := by
 rcases Ág h with ⟨hc, rfl⟩ | ⟨hc, rfl⟩ | ⟨hc, rfl⟩
 ·rcases hc with rfl | rfl
  ·clear h
   simp only [Int.cast_ofNat_Int];go_enter Tryz.func127, Tryz.ntmps127
   go_wp2_with fail
   refine (Ŝ 100 false rfl).mono ?_;rintro e w1 ⟨rfl, rfl⟩
   go_wp2_with fail
   refine (Ŗ 48 57).mono ?_;rintro e w2 ⟨A, n, rfl, hp, hb⟩;go_wp2;go_ret;exact ⟨A, n, rfl, hp, hb⟩
  ·clear h
   simp only [Int.cast_ofNat_Int];go_enter Tryz.func127, Tryz.ntmps127
   go_wp2_with fail
   refine (Ŝ 68 true rfl).mono ?_;rintro e w1 ⟨rfl, rfl⟩
   go_wp2_with fail
   refine (Ŗ 48 57).mono ?_;rintro e w2 ⟨A, n, rfl, hp, hb⟩;go_wp2;go_ret;exact ⟨A, n, rfl, hp, hb⟩
 ·rcases hc with rfl | rfl
  ·clear h
   simp only [Int.cast_ofNat_Int];go_enter Tryz.func127, Tryz.ntmps127
   go_wp2_with fail
   refine (Ŝ 119 false rfl).mono ?_;rintro e w1 ⟨rfl, rfl⟩;go_wp2;go_ret;exact ⟨_, _, rfl, Äy _ [(48, 57), (65, 90), (95, 95), (97, 122)] _ 4 _ rfl rfl, (ā _ _).alloc (ŋ _) _⟩
  ·clear h
   simp only [Int.cast_ofNat_Int];go_enter Tryz.func127, Tryz.ntmps127
   go_wp2_with fail
   refine (Ŝ 87 true rfl).mono ?_;rintro e w1 ⟨rfl, rfl⟩;go_wp2;go_ret;exact ⟨_, _, rfl, Äy _ [(48, 57), (65, 90), (95, 95), (97, 122)] _ 4 _ rfl rfl, (ā _ _).alloc (ŋ _) _⟩
 ·rcases hc with rfl | rfl
  ·clear h
   simp only [Int.cast_ofNat_Int];go_enter Tryz.func127, Tryz.ntmps127
   go_wp2_with fail
   refine (Ŝ 115 false rfl).mono ?_;rintro e w1 ⟨rfl, rfl⟩;go_wp2;go_ret;exact ⟨_, _, rfl, Äy _ [(9, 13), (32, 32)] _ 2 _ rfl rfl, (ā _ _).alloc (ŋ _) _⟩
  ·clear h
   simp only [Int.cast_ofNat_Int];go_enter Tryz.func127, Tryz.ntmps127
   go_wp2_with fail
   refine (Ŝ 83 true rfl).mono ?_;rintro e w1 ⟨rfl, rfl⟩;go_wp2;go_ret;exact ⟨_, _, rfl, Äy _ [(9, 13), (32, 32)] _ 2 _ rfl rfl, (ā _ _).alloc (ŋ _) _⟩
def Àv (u : Int) : Int := if 48 ≤ u ∧ u ≤ 57 then u - 48 else if 97 ≤ u ∧ u ≤ 102 then u - 97 + 10 else -1
theorem ÀD (u : Int) (h0 : -1 ≤ u) (h1 : u ≤ 1114367) : Calls Tryz.prog 149 #[.int .i64 u] w fun e w' => e = .returned (.int .i64 (Àv u)) ∧ w' = w := by
 by_cases a : 48 ≤ u ∧ u ≤ 57
 ·have e : Àv u = u - 48 := by unfold Àv; rw [if_pos a]
  have hd : dgB u = true := decide_eq_true a;rw [e];clear e;go_enter Tryz.func149, Tryz.ntmps149
  go_wp2_with fail
  refine (þ u true hd).mono ?_;rintro e w1 ⟨rfl, rfl⟩;go_wp2;go_ret;exact ⟨rfl, rfl⟩
 have hd : dgB u = false := decide_eq_false a
 by_cases b1 : 97 ≤ u
 ·by_cases b2 : u ≤ 102
  ·have e : Àv u = u - 97 + 10 := by unfold Àv; rw [if_neg a, if_pos ⟨b1, b2⟩]
   rw [e];clear e a;go_enter Tryz.func149, Tryz.ntmps149
   go_wp2_with fail
   refine (þ u false hd).mono ?_;rintro e w1 ⟨rfl, rfl⟩;go_wp2;go_ret;exact ⟨rfl, rfl⟩
  ·have e : Àv u = -1 := by unfold Àv; rw [if_neg a, if_neg (by omega)]
   rw [e];clear e a;go_enter Tryz.func149, Tryz.ntmps149
   go_wp2_with fail
   refine (þ u false hd).mono ?_;rintro e w1 ⟨rfl, rfl⟩;go_wp2;go_ret;exact ⟨rfl, rfl⟩
 ·have e : Àv u = -1 := by unfold Àv; rw [if_neg a, if_neg (by omega)]
  rw [e];clear e a;go_enter Tryz.func149, Tryz.ntmps149
  go_wp2_with fail
  refine (þ u false hd).mono ?_;rintro e w1 ⟨rfl, rfl⟩;go_wp2;go_ret;exact ⟨rfl, rfl⟩
end
section
open Go.RowKit
open Go.Proofs.YtpginkdkblmnbaaGreatDoor.Cl (Rg à Ý Ä ò Î ü ņ í Á ö)
variable {w w' : World} {E : RE} {σ : St} {I g d c p : Nat} {rv : Value} {refs : List (Nat × Nat)} {f : Flt}
theorem Ìl : (Tryz.prog.info? 93).map (fun i => (i.zero, i.size, i.bytes)) = some (some (.agg #[.int .i64 0, .int .i64 0]), 2, 16) := by kernel_rfl
theorem PV.setV {base : Nat} {v : Value} {l : List Rg} (h : PV base w v l) : à w.heap.size w v l := Đ.to_setV (Đ.keep h fun _ hb => ⟨hb.2, rfl⟩)
theorem Ër {base : Nat} {e : TypeId} {v : Value} {l : List Rg} (h : Cl.Own w base e v l) : PV base w v l := by
 rcases h.2 with ⟨rfl, hn⟩ | ⟨g, cap, cur, rfl, hb, hh, hn, hr⟩
 ·obtain rfl : l = [] := ď hn
  exact Đ.nil _ _
 ·have hadd : ∀ j, (⟨g, 0, none⟩ : Addr).add j = ⟨g, 0 + j, none⟩ := fun j => by unfold Addr.add; split <;> simp_all
  refine ⟨_, _, rfl, by omega, fun _ => ⟨g, 0, rfl, ⟨hb, ä hh⟩, fun i r hr => ?_⟩⟩
  obtain ⟨h1, h2⟩ := ü l i r hr;have c1 := h.cells (g := g) rfl _ _ h1;have c2 := h.cells (g := g) rfl _ _ h2;rw [hadd] at c1 c2
  refine ⟨by rw [← c1], ?_⟩
  rw [← c2]
  congr 2
def inn (x : Int) (a : Int × Int) (r : Rg) : Int × Int := (if r.1 ≤ x ∧ x ≤ r.2 ∧ a.1 < r.2 then r.2 else a.1, if x < r.1 ∧ r.1 < a.2 then r.1 else a.2)
def Æy (l : List Rg) : Nat → Int → List Rg → Option (List Rg)
 | 0, x, out => if x ≤ 1114367 then none else some out
 | f + 1, x, out => if x ≤ 1114367 then
  (if x ≤ (l.foldl (inn x) (-1, 1114368)).1 then Æy l f ((l.foldl (inn x) (-1, 1114368)).1 + 1) out else Æy l f (l.foldl (inn x) (-1, 1114368)).2 (out ++ [(x, (l.foldl (inn x) (-1, 1114368)).2 - 1)]))
  else some out
theorem Ín {l : List Rg} (hl : ∀ r ∈ l, 0 ≤ r.1 ∧ r.1 ≤ 1114367 ∧ 0 ≤ r.2 ∧ r.2 ≤ 1114367) (x : Int) : ∀ (a : Int × Int), -1 ≤ a.1 ∧ a.1 ≤ 1114367 ∧ 0 ≤ a.2 ∧ a.2 ≤ 1114368 →
 -1 ≤ (l.foldl (inn x) a).1 ∧ (l.foldl (inn x) a).1 ≤ 1114367 ∧ 0 ≤ (l.foldl (inn x) a).2 ∧ (l.foldl (inn x) a).2 ≤ 1114368 := by
 induction l with
 | nil => intro a h; exact h
 | cons r l ih =>
  intro a h
  have hr := hl r (by simp)
  rw [List.foldl_cons]
  refine ih (fun r' hr' => hl r' (by simp [hr'])) _ ?_
  simp only [inn]
  split <;> split <;> omega
set_option maxRecDepth 100000 in
set_option maxHeartbeats 4000000 in
theorem ÏV (l R : List Rg) (hl : ∀ r ∈ l, 0 ≤ r.1 ∧ r.1 ≤ 1114367 ∧ 0 ≤ r.2 ∧ r.2 ≤ 1114367) (h10 : l.length ≤ 10) (hR : Æy l 40 0 [] = some R) (v : Value) (hv : à w.heap.size w v l) :
 Calls Tryz.prog 172 #[v] w fun e w' => ∃ A n, e = .returned (.slice A R.length n) ∧ PV w.heap.size w' (.slice A R.length n) R ∧ Below w.heap.size w w' := by
 obtain ⟨A, cap, rfl, hcap, hS⟩ := hv
 have HS : Hid (∀ (k : Nat) (r : Rg), l[k]? = some r → ∃ b off, A = some ⟨b, off, none⟩ ∧ b < w.heap.size ∧ w.cell? ⟨b, off + k * 2, none⟩ = some (.int .i64 r.1) ∧ w.cell? ⟨b, off + k * 2 + 1, none⟩ = some (.int .i64 r.2)) := ħ (fun k r hk => by
  obtain ⟨b, off, hA, hb, hc⟩ := hS (by rintro rfl; simp at hk)
  exact ⟨b, off, hA, hb, hc k r hk⟩)
 have HL := ħ hl;have HR := ħ hR;obtain ⟨i0, hi, hz0, hz1, hz2⟩ := Á Ìl;clear hS hl hR;go_enter Tryz.func172, Tryz.ntmps172;go_wp2
 go_loopg [3, 4] 40 (fun g s3 s4 wr => ∃ (out : List Rg) (x : Int), s4 = .int .i64 x ∧ Cl.Own wr w.heap.size 93 s3 out ∧ 0 ≤ x ∧ x ≤ 1114368 ∧ out.length + g ≤ 40 ∧ Hid (Æy l g x out = some R) ∧ Below w.heap.size w wr)
 case atStart => exact ⟨[], 0, rfl, Cl.Own.nil _ _ _, by omega, by omega, by simp, HR, ā _ _⟩
 case round =>
  obtain ⟨out, x, rfl, hown, hx0, hx1, hlen, HN, hbel⟩ := hrel;have hsz := hbel.size
  by_cases hx : x ≤ 1114367
  ·cases gk with
   | zero =>
    have := HN.o;unfold Æy at this;rw [if_pos hx] at this;cases this
   | succ gk =>
    obtain ⟨fo, hfo⟩ : ∃ fo, fo = l.foldl (inn x) (-1, 1114368) := ⟨_, rfl⟩
    have HN2 : Hid ((if x ≤ fo.1 then Æy l gk (fo.1 + 1) out else Æy l gk fo.2 (out ++ [(x, fo.2 - 1)])) = some R) := ħ (by
     have h := HN.o;unfold Æy at h;rw [if_pos hx, ← hfo] at h
     exact h)
    have HFO := ħ hfo
    have hfr := Ín HL.o x (-1, 1114368) (by omega)
    rw [← hfo] at hfr;obtain ⟨f1, f2, f3, f4⟩ := hfr;have HOwn := ħ hown;clear hfo HN hown;go_wp2
    go_loopw [5, 6, 7] (fun s5 s6 s7 W => ∃ (k : Nat) (a b : Int), k ≤ l.length ∧ s7 = .int .i64 k ∧ s5 = .int .i64 a ∧ s6 = .int .i64 b ∧ Hid ((a, b) = (l.take k).foldl (inn x) (-1, 1114368)) ∧ W = wr) (fun _ _ i _ => l.length - (intOf i).toNat)
    case atStart => exact ⟨0, -1, 1114368, Ą _, rfl, rfl, rfl, ħ rfl, rfl⟩
    case round =>
     obtain ⟨k, a, b, hk, rfl, rfl, rfl, HK, rfl⟩ := hrel
     by_cases hlt : k < l.length
     ·have hlti : (k : Int) < l.length := by omega
      obtain ⟨bb, off, hA, hbb, c1, c2⟩ := HS.o k _ (Ā hlt);subst hA
      replace c1 := (hbel.cell (p := ⟨bb, off + k * 2, none⟩) hbb).trans c1
      replace c2 := (hbel.cell (p := ⟨bb, off + k * 2 + 1, none⟩) hbb).trans c2
      have HT : Hid (∀ z, z = inn x (a, b) l[k] → z = (l.take (k + 1)).foldl (inn x) (-1, 1114368)) := ħ (fun z hz => by
       rw [ĕ hlt, List.foldl_append, ← HK.o, hz]
       rfl)
      generalize l[k] = r at c1 c2 HT;obtain ⟨r1, r2⟩ := r;simp only at c1 c2
      by_cases a1 : r1 ≤ x
      ·have nb : ¬ x < r1 := by omega
       by_cases a2 : x ≤ r2
       ·by_cases a3 : a < r2
        ·go_wp2
         go_roundw
         case rel => exact ⟨k + 1, r2, b, by omega, by go_num, rfl, rfl, ħ (HT.o _ (by simp [inn, a1, a2, a3, nb])), trivial⟩
         case measure => simp [intOf]; omega
        ·go_wp2
         go_roundw
         case rel => exact ⟨k + 1, a, b, by omega, by go_num, rfl, rfl, ħ (HT.o _ (by simp [inn, a3, nb])), trivial⟩
         case measure => simp [intOf]; omega
       ·go_wp2
        go_roundw
        case rel => exact ⟨k + 1, a, b, by omega, by go_num, rfl, rfl, ħ (HT.o _ (by simp [inn, a2, nb])), trivial⟩
        case measure => simp [intOf]; omega
      ·have pb : x < r1 := by omega
       by_cases b2 : r1 < b
       ·go_wp2
        go_roundw
        case rel => exact ⟨k + 1, a, r1, by omega, by go_num, rfl, rfl, ħ (HT.o _ (by simp [inn, a1, pb, b2])), trivial⟩
        case measure => simp [intOf]; omega
       ·go_wp2
        go_roundw
        case rel => exact ⟨k + 1, a, b, by omega, by go_num, rfl, rfl, ħ (HT.o _ (by simp [inn, a1, b2])), trivial⟩
        case measure => simp [intOf]; omega
     ·obtain rfl : k = l.length := by omega
      have hab : (a, b) = fo := by rw [HK.o, HFO.o, Ă]
      obtain ⟨fa, fb⟩ := fo;obtain ⟨rfl, rfl⟩ := Prod.mk.inj hab;simp only at f1 f2 f3 f4 HN2;clear HK HFO hab
      by_cases hge : x ≤ a
      ·rw [if_pos hge] at HN2
       go_wp2
       go_roundg gk
       case measure => omega
       case rel => exact ⟨out, a + 1, by go_num, HOwn.o, by omega, by omega, by omega, HN2, hbel⟩
      ·rw [if_neg hge] at HN2
       have hSV := (Äy wr [(x, b - 1)] #[.int .i64 x, .int .i64 (b - 1)] 1 93 rfl rfl).setV;have hO := HOwn.o.alloc (.cells #[.int .i64 x, .int .i64 (b - 1)] 93);have hbA := hbel.alloc hsz (.cells #[.int .i64 x, .int .i64 (b - 1)] 93);have hszA := hbA.size
       go_wp2_with (at_builtin; refine í _ rfl _ _ 35 rfl w.heap.size 93 i0 (.agg #[.int .i64 0, .int .i64 0]) 16 Tryz.underlying35 hi hz0 hz1 hz2 rfl _ _ rfl hO _ _ _ rfl hSV (by unfold maxLen; simp; omega) (by simp; omega) hszA ?_; intro v' w6 hown' hgrow)
       go_wp2
       go_roundg gk
       case measure => omega
       case rel => exact ⟨out ++ [(x, b - 1)], b, rfl, hown', by omega, by omega, by simp; omega, HN2, ö hbA hO (ŋ _) hgrow (by simp; omega)⟩
  ·have hR : out = R := by
    have h := HN.o
    cases gk with
    | zero => unfold Æy at h; rw [if_neg hx] at h; exact Option.some.inj h
    | succ gk => unfold Æy at h; rw [if_neg hx] at h; exact Option.some.inj h
   subst hR;obtain ⟨A', n', rfl, _⟩ := (Ër hown);have hp := (Ër hown);go_wp2;go_ret;exact ⟨_, _, rfl, hp, hbel⟩
end
section
open Go.RowKit
open Go.Proofs.YtpginkdkblmnbaaGreatDoor.Cl (Rg à Ý Ä ò Î)
variable {w w' w0 : World} {E : RE} {σ σ1 : St} {I g d c p : Nat} {rv : Value} {refs : List (Nat × Nat)} {f : Flt}
theorem on0 (h : Sv E w I g d c p rv refs) : Calls Tryz.prog 61 #[.pointer (some ⟨E.rb, 0, none⟩), .int .i64 0] w fun e w' => e = .returned (.int .i64 (onI E I)) ∧ ∃ m, w' = w.drewN m := Ìk 0 (by omega) h
theorem on1 (h : Sv E w I g d c p rv refs) : Calls Tryz.prog 61 #[.pointer (some ⟨E.rb, 0, none⟩), .int .i64 1] w fun e w' => e = .returned (.int .i64 (onI E (I + 1))) ∧ ∃ m, w' = w.drewN m := Ìk 1 (by omega) h
theorem Gd.move (h : Gd E w0 σ d rv I refs) {σ' : St} {I' : Nat} (hs : Sv E w I' σ.g d 0 0 rv refs) (hp : Pos E.s σ' I') (hg : σ'.g = σ.g) (hb : σ'.bk = σ.bk) (hle : I ≤ I') (hN : I' ≤ E.N) : Gd E w σ' d rv I' refs :=
 ⟨by rw [hg]; exact hs, hp, by rw [hb]; exact h.refl, by rw [hb]; exact h.same, h.deep, hN, ē h.rl hle⟩
theorem ÃA (h : Gd E w σ d rv I refs) : onI E I = onN σ.t 0 := h.onI 0
theorem ÀK {J : Nat} (h : 0 ≤ onI E J) : ∃ u : Nat, (un E.s)[J]? = some u ∧ onI E J = (u : Int) ∧ J < E.N := by
 unfold onI at h ⊢;split at h
 ·rename_i u hu
  exact ⟨u, hu, rfl, (List.getElem?_eq_some_iff.1 hu).1⟩
 ·omega
theorem Ës {t : List UInt8} (h : at_ t 0 = 92) (h0 : 0 ≤ onN t 1) : (onN t 1 = (Í t : Int) ∧ onN t 1 < 128 ∧ (t.drop 1) ≠ [] ∧ at_ (t.drop 1) 0 < 128) ∨ (128 ≤ onN t 1 ∧ 128 ≤ Í t) := by
 have hn : t ≠ [] := Àf (by omega)
 have hx : nx t = (92, 1) := by rw [ş hn (by omega), h]
 have hs : Í t = at_ (t.drop 1) 0 := by
  unfold Í;rw [if_pos h, Àl]
 have ho : onN t 1 = onN (t.drop 1) 0 := by rw [Äb hn 0, hx]
 rw [ho] at h0 ⊢;rw [hs]
 have hr : t.drop 1 ≠ [] := fun e => by rw [e, Äx] at h0; omega
 rw [ÀY hr]
 by_cases hb : at_ (t.drop 1) 0 < 128
 ·left
  rw [ş hr hb]
  exact ⟨rfl, by simp only; omega, hr, hb⟩
 ·right
  have := ÂJ hr (by omega)
  omega
theorem Èx (h : Pos E.s σ I) (h92 : at_ σ.t 0 = 92) (hn : σ.t.drop 1 ≠ []) (hb : at_ (σ.t.drop 1) 0 < 128) : Pos E.s (σ.adv 2) (I + 2) := by
 have h1 := h.small (Àf (by omega)) (by omega)
 have h2 := Pos.small h1 hn hb
 have e : (σ.adv 1).adv 1 = σ.adv 2 := by simp [St.adv, Nat.add_assoc]
 rwa [e] at h2
theorem Ìm (t : List UInt8) : (0 ≤ Àv (onN t 0) ↔ ń (at_ t 0) = true) ∧ (ń (at_ t 0) = true → Àv (onN t 0) = (Ày (at_ t 0) : Int) ∧ t ≠ [] ∧ at_ t 0 < 128) := by
 have key : ń (at_ t 0) = true → onN t 0 = ((at_ t 0 : Nat) : Int) ∧ t ≠ [] ∧ at_ t 0 < 128 := fun h => by
  unfold ń at h;have h' := of_decide_eq_true h
  exact ⟨(Ŋ (by omega) (by omega)).2 rfl, Àf (by omega), by omega⟩
 refine ⟨⟨fun h => ?_, fun h => ?_⟩, fun h => ?_⟩
 ·unfold Àv at h
  have hr : (48 ≤ onN t 0 ∧ onN t 0 ≤ 57) ∨ (97 ≤ onN t 0 ∧ onN t 0 ≤ 102) := by
   split at h
   ·left; assumption
   split at h
   ·right; assumption
   ·omega
  obtain ⟨c, hc⟩ : ∃ c : Nat, onN t 0 = (c : Int) := ⟨(onN t 0).toNat, by omega⟩
  have := (Ŋ (t := t) (c := c) (by omega) (by omega)).1 hc
  unfold ń;rw [decide_eq_true_eq];omega
 ·obtain ⟨h1, _⟩ := key h
  unfold ń at h;have h' := of_decide_eq_true h;unfold Àv;rw [h1];split
  ·omega
  ·split <;> omega
 ·obtain ⟨h1, h2, h3⟩ := key h
  refine ⟨?_, h2, h3⟩;unfold ń at h;have h' := of_decide_eq_true h;unfold Àv Ày;rw [h1];split
  ·rw [if_pos (by omega)]; omega
  ·rw [if_pos (by omega), if_neg (by omega)]; omega
def ÏW (E : RE) (d : Nat) (rv : Value) (refs : List (Nat × Nat)) (w : World) (r : Except Flt (Nat × St)) (e : Ending) (w' : World) : Prop :=
 match r with
 | .ok x => e = .returned (.int .i64 (x.1 : Nat)) ∧ FrR E w rv w' rv ∧ ∃ I', Gd E w' x.2 d rv I' refs
 | .error f => e = .returned (.int .i64 0) ∧ FrR E w rv w' rv ∧ Bd E w' d rv f
set_option maxRecDepth 100000 in
set_option maxHeartbeats 1000000 in
theorem Æz (h : Gd E w0 σ d rv I refs) (hs : Sv E w (I + 2) σ.g d 0 0 rv refs) (h92 : at_ σ.t 0 = 92) (u : Int) (hu : u = onN σ.t 1) (h0 : 0 ≤ u) :
 Calls Tryz.prog 129 #[.pointer (some ⟨E.rb, 0, none⟩), .int .i64 u, .int .i64 (I : Nat)] w (ÏW E d rv refs w (Ð σ)) := by
 have hle := h.le;have hn := hs.n256
 have HF := ħ (fun W (hW : Sv E W (I + 2) σ.g d 0 0 rv refs) => Ō (σ0 := σ) (I0 := I) 21 (by omega) h.atI hW)
 have HG := ħ h;have HS := ħ hs
 have hlet := Ës h92 (by rw [← hu]; exact h0)
 rw [← hu] at hlet
 have hI2 : 0 ≤ onI E (I + 1) := by rw [h.onI 1, ← hu]; exact h0
 obtain ⟨_, _, _, hN2⟩ := ÀK hI2;have HU := ħ hu;clear hs h hu hI2
 have hsg : u ≤ 1114367 := by rw [HU.o]; exact (Æt _ _).2
 have HP2 : Hid (u < 128 → Pos E.s (σ.adv 2) (I + 2)) := ħ (fun hlt => by
  rcases hlet with ⟨_, _, h1, h2⟩ | ⟨h1, _⟩
  ·exact Èx HG.o.pos h92 h1 h2
  ·omega)
 have HSg : Hid (u < 128 → (Í σ.t : Int) = u) := ħ (fun hlt => by
  rcases hlet with ⟨h1, _⟩ | ⟨h1, _⟩
  ·exact h1.symm
  ·omega)
 have HSh : Hid (128 ≤ u → 128 ≤ Í σ.t) := ħ (fun hlt => by
  rcases hlet with ⟨_, h1, _⟩ | ⟨_, h1⟩
  ·omega
  ·exact h1)
 clear hlet;obtain ⟨r, hr⟩ : ∃ r, r = Ð σ := ⟨_, rfl⟩;rw [← hr];have HR := ħ hr;clear hr
 by_cases h110 : u = 110
 ·subst h110
  have hsn : Í σ.t = 110 := by have := HSg.o (by omega); omega
  obtain rfl : r = .ok (10, σ.adv 2) := by rw [HR.o]; unfold Ð; simp [hsn]
  go_enter Tryz.func129, Tryz.ntmps129;go_wp2;go_ret
  exact ⟨rfl, FrR.refl w, I + 2, HG.o.move HS.o (HP2.o (by omega)) rfl rfl (by omega) (by omega)⟩
 have k110 : (u == 110) = false := by simp [h110]
 by_cases h116 : u = 116
 ·subst h116
  have hsn : Í σ.t = 116 := by have := HSg.o (by omega); omega
  obtain rfl : r = .ok (9, σ.adv 2) := by rw [HR.o]; unfold Ð; simp [hsn]
  go_enter Tryz.func129, Tryz.ntmps129;go_wp2;go_ret
  exact ⟨rfl, FrR.refl w, I + 2, HG.o.move HS.o (HP2.o (by omega)) rfl rfl (by omega) (by omega)⟩
 have k116 : (u == 116) = false := by simp [h116]
 by_cases h114 : u = 114
 ·subst h114
  have hsn : Í σ.t = 114 := by have := HSg.o (by omega); omega
  obtain rfl : r = .ok (13, σ.adv 2) := by rw [HR.o]; unfold Ð; simp [hsn]
  go_enter Tryz.func129, Tryz.ntmps129;go_wp2;go_ret
  exact ⟨rfl, FrR.refl w, I + 2, HG.o.move HS.o (HP2.o (by omega)) rfl rfl (by omega) (by omega)⟩
 have k114 : (u == 114) = false := by simp [h114]
 by_cases h120 : u = 120
 ·subst h120
  have hsn : Í σ.t = 120 := by have := HSg.o (by omega); omega
  have hsm : smB 120 = true := rfl;have hd : dgB 120 = false := rfl;have hbg : bgB 120 = false := rfl
  have hp2 := HP2.o (by omega)
  have e0 : onI E (I + 2) = onN (σ.adv 2).t 0 := hp2.on 0;have e1 : onI E (I + 2 + 1) = onN (σ.adv 2).t 1 := hp2.on 1;have hx0 := Ìm (σ.adv 2).t
  have ha2 : at_ (σ.adv 2).t 0 = at_ σ.t 2 := by show at_ (σ.t.drop 2) 0 = _; rw [Àl]
  rw [ha2] at hx0;have HO0 := ħ (on0 HS.o);rw [e0] at HO0;have hr0 := Æt (σ.adv 2).t 0
  have hesc : Ð σ = if ń (at_ σ.t 2) && ń (at_ σ.t 3) then .ok (16 * Ày (at_ σ.t 2) + Ày (at_ σ.t 3), σ.adv 4) else .error (21, σ.pos) := by
   unfold Ð;rw [if_pos hsn];split
   ·rename_i hlen
    have : at_ σ.t 3 = 0 := Ãl (by omega)
    rw [this]
    have : ń 0 = false := by decide
    rw [this, Bool.and_false, if_neg (by simp)]
   ·rfl
  obtain ⟨v0, hv0⟩ : ∃ v0, v0 = onN (σ.adv 2).t 0 := ⟨_, rfl⟩;rw [← hv0] at HO0 hr0 hx0
  by_cases g0 : ń (at_ σ.t 2) = true
  ·obtain ⟨hv, hne0, hlt0⟩ := hx0.2 g0
   have hge0 : 0 ≤ Àv v0 := hx0.1.2 g0
   have hne0' : (σ.adv 2).t ≠ [] := by
    intro e;rw [hv0, e, Äx] at hge0;simp [Àv] at hge0
   have hp3 := hp2.small hne0' (by rw [ha2]; exact hlt0)
   have e3 : (σ.adv 2).adv 1 = σ.adv 3 := by simp [St.adv, Nat.add_assoc]
   rw [e3] at hp3;have e1' : onI E (I + 2 + 1) = onN (σ.adv 3).t 0 := hp3.on 0;have hx1 := Ìm (σ.adv 3).t
   have ha3 : at_ (σ.adv 3).t 0 = at_ σ.t 3 := by show at_ (σ.t.drop 3) 0 = _; rw [Àl]
   rw [ha3] at hx1
   have HO1 := ħ (fun W (hW : Sv E W (I + 2) σ.g d 0 0 rv refs) => on1 hW)
   rw [e1'] at HO1;have hr1 := Æt (σ.adv 3).t 0;obtain ⟨v1, hv1⟩ : ∃ v1, v1 = onN (σ.adv 3).t 0 := ⟨_, rfl⟩;rw [← hv1] at HO1 hr1 hx1
   by_cases g1 : ń (at_ σ.t 3) = true
   ·obtain ⟨hvv, hne1, hlt1⟩ := hx1.2 g1
    have hge1 : 0 ≤ Àv v1 := hx1.1.2 g1
    have hne1' : (σ.adv 3).t ≠ [] := by
     intro e;rw [hv1, e, Äx] at hge1;simp [Àv] at hge1
    have hp4 := hp3.small hne1' (by rw [ha3]; exact hlt1)
    have e4 : (σ.adv 3).adv 1 = σ.adv 4 := by simp [St.adv, Nat.add_assoc]
    rw [e4] at hp4
    obtain rfl : r = .ok (16 * Ày (at_ σ.t 2) + Ày (at_ σ.t 3), σ.adv 4) := by rw [HR.o, hesc, g0, g1]; rfl
    have hi0 : 0 ≤ onI E (I + 2) := by rw [e0, ← hv0]; unfold Àv at hge0; omega
    have hi1 : 0 ≤ onI E (I + 2 + 1) := by rw [e1', ← hv1]; unfold Àv at hge1; omega
    obtain ⟨n0, hn0, hq0, hN0⟩ := ÀK hi0;obtain ⟨n1, hn1, hq1, hN1⟩ := ÀK hi1
    have hvn0 : v0 = (n0 : Int) := by rw [hv0, ← e0, hq0]
    have hvn1 : v1 = (n1 : Int) := by rw [hv1, ← e1', hq1]
    have HV := ħ (show (16 : Int) * Àv n0 + Àv n1 = ((16 * Ày (at_ σ.t 2) + Ày (at_ σ.t 3) : Nat) : Int) from by
     rw [← hvn0, ← hvn1, hv, hvv]; omega)
    have hb0 : 0 ≤ Àv n0 ∧ Àv n0 ≤ 15 := by rw [← hvn0, hv]; rw [← hvn0] at *; unfold Ày; unfold ń at g0; have := of_decide_eq_true g0; split <;> omega
    have hb1 : 0 ≤ Àv n1 ∧ Àv n1 ≤ 15 := by rw [← hvn1, hvv]; unfold Ày; unfold ń at g1; have := of_decide_eq_true g1; split <;> omega
    obtain ⟨b00, b01⟩ := hb0;obtain ⟨b10, b11⟩ := hb1;rw [hvn0] at HO0 hge0;rw [hvn1] at HO1 hge1;have HP4 := ħ hp4;have HN0 := ħ hn0;have HN1 := ħ hn1;have hsv4 := HS.o;obtain ⟨hA, hub, u0⟩ := HS.o.us _ _ hn0;obtain ⟨_, _, u1⟩ := HS.o.us _ _ hn1;have hne := HS.o.ne.1;obtain ⟨c0, _, c2, _⟩ := HS.o.ten;have f2 := HS.o.fz 2;rw [hA] at c0
    have hcn0 : (n0 : Int) ≤ 1114367 := by rw [← hvn0]; exact hr0.2
    have hcn1 : (n1 : Int) ≤ 1114367 := by rw [← hvn1]; exact hr1.2
    have hIN : (I : Int) + 4 ≤ (E.N : Int) := by omega
    have hi2 : ((I : Int) + 2 + 2 - 2).toNat = I + 2 := by omega
    have hi3 : ((I : Int) + 2 + 2 - 1).toNat = I + 2 + 1 := by omega
    have hI4 : ((I + 2 : Nat) : Int) + 2 = ((I + 4 : Nat) : Int) := by omega
    clear hx0 hx1 hv hvv hv0 hv1 e0 e1 e1' hq0 hq1 hvn0 hvn1 hn0 hn1 hi0 hi1 hr0 hr1 hesc hp2 hp3 hp4 hsv4;go_enter Tryz.func129, Tryz.ntmps129
    go_wp2_with fail
    refine HO0.o.mono ?_;rintro e w1 ⟨rfl, m1, hw1⟩
    have HS1 : Hid (Sv E w1 (I + 2) σ.g d 0 0 rv refs) := ħ (by rw [hw1]; exact HS.o.drewN _)
    have HF1 : Hid (FrR E w rv w1 rv) := ħ (by rw [hw1]; exact (FrR.refl w).drewN _)
    clear hw1
    go_wp2_with fail
    refine (ÀD n0 (by omega) hcn0).mono ?_
    rintro e _ ⟨rfl, rfl⟩
    go_wp2_with fail
    refine (HO1.o _ HS1.o).mono ?_;rintro e w2 ⟨rfl, m2, hw2⟩
    have HS2 : Hid (Sv E w2 (I + 2) σ.g d 0 0 rv refs) := ħ (by rw [hw2]; exact HS1.o.drewN _)
    have HF2 : Hid (FrR E w rv w2 rv) := ħ (by rw [hw2]; exact HF1.o.drewN _)
    clear hw2 c0 c2 f2 u0 u1;obtain ⟨_, _, c2, _⟩ := HS2.o.ten;have f2 := HS2.o.fz 2
    go_wp2_with fail
    refine (ÀD n1 (by omega) hcn1).mono ?_
    rintro e w3 ⟨rfl, rfl⟩
    go_upto_region 11 with (fail)
    have hS3 : Sv E (w3.setCell ⟨E.rb, 2, none⟩ (.int .i64 ((I : Int) + 2 + 2))) (I + 4) σ.g d 0 0 rv refs := by
     have := HS2.o.setI (J := I + 4) (by omega)
     rwa [show ((I + 4 : Nat) : Int) = (I : Int) + 2 + 2 from by omega] at this
    have hF3 := HF2.o.set_ (q := ⟨E.rb, 2, none⟩) (.inl rfl) (.int .i64 ((I : Int) + 2 + 2));have HS3 := ħ hS3;have HF3 := ħ hF3;clear hS3 hF3 c2 f2 hne hi2 hi3 hI4;generalize w3.setCell ⟨E.rb, 2, none⟩ (.int .i64 ((I : Int) + 2 + 2)) = W3 at *;obtain ⟨c0, _, c2, _⟩ := HS3.o.ten;obtain ⟨_, _, u0⟩ := HS3.o.us _ _ HN0.o;obtain ⟨_, _, u1⟩ := HS3.o.us _ _ HN1.o;rw [hA] at c0
    have hz0 : (-1 : Int) ≤ (n0 : Int) := by omega
    have hz1 : (-1 : Int) ≤ (n1 : Int) := by omega
    have q0 : (0 : Int) ≤ (I : Int) + 4 - 2 := by omega
    have q1 : (I : Int) + 4 - 2 < (E.N : Int) := by omega
    have q2 : ((I : Int) + 4 - 2).toNat = I + 2 := by omega
    have q3 : (0 : Int) ≤ (I : Int) + 4 - 1 := by omega
    have q4 : (I : Int) + 4 - 1 < (E.N : Int) := by omega
    have q5 : ((I : Int) + 4 - 1).toNat = I + 2 + 1 := by omega
    go_quiet (first | (go_at_call_of 149 (Value.int .i64 (n0 : Int)); exact Calls.quiet_of_same (ÀD n0 hz0 hcn0)) | (go_at_call_of 149 (Value.int .i64 (n1 : Int)); exact Calls.quiet_of_same (ÀD n1 hz1 hcn1)))
    go_wp2;go_ret
    exact ⟨by rw [HV.o]; rfl, HF3.o.drewN _, I + 4, HG.o.move (HS3.o.drewN _) HP4.o rfl rfl (by omega) (by omega)⟩
   ·have hlt1 : ¬ 0 ≤ Àv v1 := fun hh => g1 (hx1.1.1 hh)
    obtain rfl : r = .error (21, σ.pos) := by rw [HR.o, hesc, g0]; simp [g1]
    clear hx0 hx1 hv hv0 hv1 e0 e1 e1' hesc hp2 hp3;go_enter Tryz.func129, Tryz.ntmps129
    go_wp2_with fail
    refine HO0.o.mono ?_;rintro e w1 ⟨rfl, m1, hw1⟩
    have HS1 : Hid (Sv E w1 (I + 2) σ.g d 0 0 rv refs) := ħ (by rw [hw1]; exact HS.o.drewN _)
    have HF1 : Hid (FrR E w rv w1 rv) := ħ (by rw [hw1]; exact (FrR.refl w).drewN _)
    clear hw1
    go_wp2_with fail
    refine (ÀD v0 hr0.1 hr0.2).mono ?_;rintro e _ ⟨rfl, rfl⟩
    go_wp2_with fail
    refine (HO1.o _ HS1.o).mono ?_;rintro e w2 ⟨rfl, m2, hw2⟩
    have HS2 : Hid (Sv E w2 (I + 2) σ.g d 0 0 rv refs) := ħ (by rw [hw2]; exact HS1.o.drewN _)
    have HF2 : Hid (FrR E w rv w2 rv) := ħ (by rw [hw2]; exact HF1.o.drewN _)
    clear hw2
    go_wp2_with fail
    refine (ÀD v1 hr1.1 hr1.2).mono ?_;rintro e _ ⟨rfl, rfl⟩
    go_wp2_with (first | (go_at_call 150; refine (þ _ _ hd).mono ?_; rintro e w1 ⟨rfl, rfl⟩) | (go_at_call 151; refine (ů _ _ hsm).mono ?_; rintro e w1 ⟨rfl, rfl⟩) | (go_at_call 35; refine (HF.o _ HS2.o).mono ?_; rintro e w1 ⟨rfl, hF, hB⟩))
    go_ret;exact ⟨rfl, HF2.o.trans hF, hB⟩
  ·have hlt0 : ¬ 0 ≤ Àv v0 := fun hh => g0 (hx0.1.1 hh)
   obtain rfl : r = .error (21, σ.pos) := by rw [HR.o, hesc]; simp [g0]
   clear hx0 hv0 e0 e1 hesc hp2;go_enter Tryz.func129, Tryz.ntmps129
   go_wp2_with fail
   refine HO0.o.mono ?_;rintro e w1 ⟨rfl, m1, rfl⟩
   go_wp2_with fail
   refine (ÀD v0 hr0.1 hr0.2).mono ?_;rintro e w2 ⟨rfl, rfl⟩
   go_wp2_with (first | (go_at_call 150; refine (þ _ _ hd).mono ?_; rintro e w1 ⟨rfl, rfl⟩) | (go_at_call 151; refine (ů _ _ hsm).mono ?_; rintro e w1 ⟨rfl, rfl⟩) | (go_at_call 35; refine (HF.o _ (HS.o.drewN _)).mono ?_; rintro e w1 ⟨rfl, hF, hB⟩))
   go_ret;exact ⟨rfl, ((FrR.refl w).drewN _).trans hF, hB⟩
 have k120 : (u == 120) = false := by simp [h120]
 obtain ⟨b1, hd⟩ : ∃ b, dgB u = b := ⟨_, rfl⟩;obtain ⟨b2, hsm⟩ : ∃ b, smB u = b := ⟨_, rfl⟩;obtain ⟨b3, hbg⟩ : ∃ b, bgB u = b := ⟨_, rfl⟩
 have HM : Hid (∀ b, ð (Í σ.t) = b → r = if b then .ok (Í σ.t, σ.adv 2) else .error (21, σ.pos)) := ħ (fun b hb => by
  have n1 : Í σ.t ≠ 120 ∧ Í σ.t ≠ 110 ∧ Í σ.t ≠ 116 ∧ Í σ.t ≠ 114 := by
   by_cases hlt : u < 128
   ·have := HSg.o hlt
    omega
   ·have := HSh.o (by omega)
    omega
  rw [HR.o];unfold Ð
  rw [if_neg n1.1, if_neg n1.2.1, if_neg n1.2.2.1, if_neg n1.2.2.2, hb])
 by_cases hlo : u ≤ 32
 ·obtain rfl : r = .error (21, σ.pos) := by rw [HM.o false (by have := HSg.o (by omega); unfold ð; rw [decide_eq_false_iff_not]; omega)]; rfl
  have hlo' : ¬ 32 < u := by omega
  go_enter Tryz.func129, Tryz.ntmps129
  go_wp2_with (first | (go_at_call 150; refine (þ _ _ hd).mono ?_; rintro e w1 ⟨rfl, rfl⟩) | (go_at_call 151; refine (ů _ _ hsm).mono ?_; rintro e w1 ⟨rfl, rfl⟩) | (go_at_call 128; refine (Ŝ _ _ hbg).mono ?_; rintro e w1 ⟨rfl, rfl⟩) | (go_at_call 35; refine (HF.o _ HS.o).mono ?_; rintro e w1 ⟨rfl, hF, hB⟩))
  go_ret;exact ⟨rfl, hF, hB⟩
 have hlo' : 32 < u := by omega
 by_cases hhi : 127 ≤ u
 ·obtain rfl : r = .error (21, σ.pos) := by
   rw [HM.o false (by
    unfold ð;rw [decide_eq_false_iff_not]
    by_cases hlt : u < 128
    ·have := HSg.o hlt; omega
    ·have := HSh.o (by omega); omega)]
   rfl
  have hhi' : ¬ u < 127 := by omega
  go_enter Tryz.func129, Tryz.ntmps129
  go_wp2_with (first | (go_at_call 150; refine (þ _ _ hd).mono ?_; rintro e w1 ⟨rfl, rfl⟩) | (go_at_call 151; refine (ů _ _ hsm).mono ?_; rintro e w1 ⟨rfl, rfl⟩) | (go_at_call 128; refine (Ŝ _ _ hbg).mono ?_; rintro e w1 ⟨rfl, rfl⟩) | (go_at_call 35; refine (HF.o _ HS.o).mono ?_; rintro e w1 ⟨rfl, hF, hB⟩))
  go_ret;exact ⟨rfl, hF, hB⟩
 have hhi' : u < 127 := by omega
 have hsu := HSg.o (by omega)
 cases b1 with
 | true =>
  have hdd := of_decide_eq_true hd
  obtain rfl : r = .error (21, σ.pos) := by rw [HM.o false (by unfold ð; rw [decide_eq_false_iff_not]; omega)]; rfl
  go_enter Tryz.func129, Tryz.ntmps129
  go_wp2_with (first | (go_at_call 150; refine (þ _ _ hd).mono ?_; rintro e w1 ⟨rfl, rfl⟩) | (go_at_call 151; refine (ů _ _ hsm).mono ?_; rintro e w1 ⟨rfl, rfl⟩) | (go_at_call 128; refine (Ŝ _ _ hbg).mono ?_; rintro e w1 ⟨rfl, rfl⟩) | (go_at_call 35; refine (HF.o _ HS.o).mono ?_; rintro e w1 ⟨rfl, hF, hB⟩))
  go_ret;exact ⟨rfl, hF, hB⟩
 | false =>
  have hdd := of_decide_eq_false hd
  cases b2 with
  | true =>
   have hss := of_decide_eq_true hsm
   obtain rfl : r = .error (21, σ.pos) := by rw [HM.o false (by unfold ð; rw [decide_eq_false_iff_not]; omega)]; rfl
   go_enter Tryz.func129, Tryz.ntmps129
   go_wp2_with (first | (go_at_call 150; refine (þ _ _ hd).mono ?_; rintro e w1 ⟨rfl, rfl⟩) | (go_at_call 151; refine (ů _ _ hsm).mono ?_; rintro e w1 ⟨rfl, rfl⟩) | (go_at_call 128; refine (Ŝ _ _ hbg).mono ?_; rintro e w1 ⟨rfl, rfl⟩) | (go_at_call 35; refine (HF.o _ HS.o).mono ?_; rintro e w1 ⟨rfl, hF, hB⟩))
   go_ret;exact ⟨rfl, hF, hB⟩
  | false =>
   have hss := of_decide_eq_false hsm
   cases b3 with
   | true =>
    have hbb := of_decide_eq_true hbg
    obtain rfl : r = .error (21, σ.pos) := by rw [HM.o false (by unfold ð; rw [decide_eq_false_iff_not]; omega)]; rfl
    go_enter Tryz.func129, Tryz.ntmps129
    go_wp2_with (first | (go_at_call 150; refine (þ _ _ hd).mono ?_; rintro e w1 ⟨rfl, rfl⟩) | (go_at_call 151; refine (ů _ _ hsm).mono ?_; rintro e w1 ⟨rfl, rfl⟩) | (go_at_call 128; refine (Ŝ _ _ hbg).mono ?_; rintro e w1 ⟨rfl, rfl⟩) | (go_at_call 35; refine (HF.o _ HS.o).mono ?_; rintro e w1 ⟨rfl, hF, hB⟩))
    go_ret;exact ⟨rfl, hF, hB⟩
   | false =>
    have hbb := of_decide_eq_false hbg
    obtain rfl : r = .ok (Í σ.t, σ.adv 2) := by rw [HM.o true (by unfold ð; rw [decide_eq_true_eq]; omega)]; rfl
    go_enter Tryz.func129, Tryz.ntmps129
    go_wp2_with (first | (go_at_call 150; refine (þ _ _ hd).mono ?_; rintro e w1 ⟨rfl, rfl⟩) | (go_at_call 151; refine (ů _ _ hsm).mono ?_; rintro e w1 ⟨rfl, rfl⟩) | (go_at_call 128; refine (Ŝ _ _ hbg).mono ?_; rintro e w1 ⟨rfl, rfl⟩))
    go_ret
    exact ⟨by simp only; rw [hsu]; rfl, FrR.refl _, I + 2, HG.o.move HS.o (HP2.o (by omega)) rfl rfl (by omega) (by omega)⟩
end
section
open Go.RowKit
open Go.Proofs.YtpginkdkblmnbaaGreatDoor.Cl (Rg à Ý Ä ò Î)
variable {w w' w0 : World} {E : RE} {σ σ1 : St} {I g d c p : Nat} {rv : Value} {refs : List (Nat × Nat)} {f : Flt}
theorem Gd.lt (h : Gd E w σ d rv I refs) (hn : σ.t ≠ []) : I < E.N := by
 rcases Nat.lt_or_ge I E.N with hlt | hge
 ·exact hlt
 ·exact absurd (h.pos.end_.2 hge) hn
def Ãb (σ : St) : Except Flt ((Option (List Rg) × Nat) × St) := match units (Í σ.t) with
 | some l => .ok ((some l, 0), σ.adv 2)
 | none => match Ł σ with
  | .error e => .error e
  | .ok x => .ok ((none, x.1), x.2)
theorem Ët {σ : St} (h : at_ σ.t 0 ≠ 92) : Ãb σ = .ok ((none, (nx σ.t).1), σ.adv (nx σ.t).2) := by
 have hs : Í σ.t = 0 := by unfold Í; rw [if_neg h]
 unfold Ãb Ł;rw [hs, if_neg h];rfl
theorem ÉT {σ : St} (h : at_ σ.t 0 = 92) (hu : units (Í σ.t) = none) : Ãb σ = match Ð σ with | .error e => .error e | .ok x => .ok ((none, x.1), x.2) := by
 unfold Ãb Ł;rw [hu, if_pos h]
theorem Ío {σ : St} {l : List Rg} (hu : units (Í σ.t) = some l) : Ãb σ = .ok ((some l, 0), σ.adv 2) := by
 unfold Ãb;rw [hu]
def ÑC (E : RE) (d : Nat) (rv : Value) (refs : List (Nat × Nat)) (w : World) (r : Except Flt ((Option (List Rg) × Nat) × St)) (e : Ending) (w' : World) : Prop :=
 match r with
 | .ok ((some l, _), σ1) => ∃ b o n, e = .returned (.tuple #[.int .i64 0, .slice (some ⟨b, o, none⟩) l.length n]) ∧ PV w.heap.size w' (.slice (some ⟨b, o, none⟩) l.length n) l ∧ FrR E w rv w' rv ∧ ∃ I', Gd E w' σ1 d rv I' refs
 | .ok ((none, u), σ1) => e = .returned (.tuple #[.int .i64 (u : Nat), .slice none 0 0]) ∧ FrR E w rv w' rv ∧ ∃ I', Gd E w' σ1 d rv I' refs
 | .error f => e = .returned (.tuple #[.int .i64 0, .slice none 0 0]) ∧ FrR E w rv w' rv ∧ Bd E w' d rv f
theorem PV.less {base base' : Nat} {v : Value} {l : List Rg} (h : PV base w v l) (hb : base' ≤ base) : PV base' w v l := Đ.keep h fun _ hk => ⟨⟨ē hb hk.1, hk.2⟩, rfl⟩
theorem Ëu {c : Nat} {l : List Rg} (h : Ť c = some l) : l ≠ [] ∧ l.length ≤ 4 := by
 rcases Ág h with ⟨_, rfl⟩ | ⟨_, rfl⟩ | ⟨_, rfl⟩ <;> exact ⟨by simp, by simp⟩
theorem Èy {c : Nat} {l : List Rg} (h : Ť c = some l) : Æy l 40 0 [] = some (ò 0 l) ∧ ò 0 l ≠ [] ∧ (ò 0 l).length ≤ 5 ∧ (∀ r ∈ l, 0 ≤ r.1 ∧ r.1 ≤ 1114367 ∧ 0 ≤ r.2 ∧ r.2 ≤ 1114367) := by
 rcases Ág h with ⟨_, rfl⟩ | ⟨_, rfl⟩ | ⟨_, rfl⟩
 ·exact ⟨by kernel_rfl, by decide, by decide, by decide⟩
 ·exact ⟨by kernel_rfl, by decide, by decide, by decide⟩
 ·exact ⟨by kernel_rfl, by decide, by decide, by decide⟩
theorem PV.some {base n cap : Nat} {A : Option Addr} {l : List Rg} (h : PV base w (.slice A n cap) l) (hl : l ≠ []) : ∃ b o, A = Option.some ⟨b, o, none⟩ := by
 obtain ⟨A', c, hv, _, hk⟩ := h;obtain ⟨rfl, _, rfl⟩ := Value.slice.inj hv;obtain ⟨b, o, hA, _⟩ := hk hl;exact ⟨b, o, hA⟩
theorem ÇG {c : Nat} {l : List Rg} (h : units c = some l) : ∃ l0, Ť c = some l0 ∧ l = if 65 ≤ c ∧ c ≤ 90 then ò 0 l0 else l0 := by
 unfold units at h;split at h
 ·rename_i hc
  obtain ⟨l0, h1, h2⟩ := Option.map_eq_some_iff.1 h
  exact ⟨l0, h1, by rw [if_pos hc, h2]⟩
 ·rename_i hc
  exact ⟨l, h, by rw [if_neg hc]⟩
theorem Ëv {c : Nat} (h : units c = none) : Ť c = none := by
 unfold units at h;split at h
 ·exact Option.map_eq_none_iff.1 h
 ·exact h
theorem ÐU {c : Nat} {l : List Rg} (h : Ť c = some l) : 68 ≤ c ∧ c ≤ 119 := by
 rcases Ág h with ⟨h, _⟩ | ⟨h, _⟩ | ⟨h, _⟩ <;> omega
set_option maxRecDepth 100000 in
set_option maxHeartbeats 1000000 in
theorem ÄY (h : Gd E w σ d rv I refs) (hn : σ.t ≠ []) : Calls Tryz.prog 152 #[.pointer (some ⟨E.rb, 0, none⟩)] w (ÑC E d rv refs w (Ãb σ)) := by
 have hlt := h.lt hn;have h256 := h.sv.n256;have HO := ħ (on0 h.sv);have e0 : onI E I = onN σ.t 0 := h.onI 0;rw [e0, ÀY hn] at HO;have HG := ħ h;have hx := h.pos.next hn;have HX := ħ hx;obtain ⟨_, _, c2, _⟩ := h.sv.ten;clear hx e0 h;obtain ⟨r, hr⟩ : ∃ r, r = Ãb σ := ⟨_, rfl⟩;rw [← hr];have HR := ħ hr;clear hr
 have hst : ∀ W, Sv E W I σ.g d 0 0 rv refs → Sv E (W.setCell ⟨E.rb, 2, none⟩ (.int .i64 ((I : Int) + 1))) (I + 1) σ.g d 0 0 rv refs := fun W hW => by
  have := hW.setI (J := I + 1) (by omega)
  rwa [Int.natCast_add] at this
 have HST := ħ hst;clear hst
 by_cases h92 : at_ σ.t 0 = 92
 ·have hnx : nx σ.t = (92, 1) := by rw [ş hn (by omega), h92]
  rw [hnx] at HO HX
  have hst2 : ∀ W, Sv E W (I + 1) σ.g d 0 0 rv refs → Sv E (W.setCell ⟨E.rb, 2, none⟩ (.int .i64 ((I : Int) + 1 + 1))) (I + 2) σ.g d 0 0 rv refs := fun W hW => by
   have := hW.setI (J := I + 2) (by omega)
   rwa [show ((I + 2 : Nat) : Int) = (I : Int) + 1 + 1 from by omega] at this
  have HST2 := ħ hst2
  have HO1 : Hid (∀ W, Sv E W (I + 1) σ.g d 0 0 rv refs → Calls Tryz.prog 61 #[.pointer (some ⟨E.rb, 0, none⟩), .int .i64 0] W fun e w' => e = .returned (.int .i64 (onN σ.t 1)) ∧ ∃ m, w' = W.drewN m) := ħ (fun W hW => by
   have := on0 hW
   rwa [HG.o.onI 1] at this)
  have HFl := ħ (fun W (hW : Sv E W (I + 2) σ.g d 0 0 rv refs) => Ō (σ0 := σ) (I0 := I) 21 (by omega) HG.o.atI hW)
  have hlet := Ës h92;have hr1 := Æt σ.t 1
  have HSi := ħ (fun W u (hW : Sv E W (I + 2) σ.g d 0 0 rv refs) (hu : u = onN σ.t 1) (h0 : 0 ≤ u) => Æz HG.o hW h92 u hu h0)
  have hneg : onN σ.t 1 < 0 → Í σ.t = 0 := fun hh => by
   have h1 : onN σ.t 1 = onN (σ.t.drop 1) 0 := by rw [Äb hn 0, hnx]
   rw [h1] at hh;have := Æs.1 hh;unfold Í;rw [if_pos h92]
   have e : at_ σ.t 1 = at_ (σ.t.drop 1) 0 := by rw [Àl]
   rw [e, this];rfl
  obtain ⟨u, hu⟩ : ∃ u, u = onN σ.t 1 := ⟨_, rfl⟩;rw [← hu] at HO1 hlet hr1 hneg;have HU := ħ hu
  have HX2 : Hid (0 ≤ u → u < 128 → Pos E.s (σ.adv 2) (I + 2)) := ħ (fun q0 hl => by
   rcases hlet q0 with ⟨_, _, h1, h2⟩ | ⟨h1, _⟩
   ·exact Èx HG.o.pos h92 h1 h2
   ·omega)
  have hN2 : 0 ≤ u → I + 2 ≤ E.N := fun q0 => by
   have : 0 ≤ onI E (I + 1) := by rw [HG.o.onI 1, ← hu]; exact q0
   obtain ⟨_, _, _, h⟩ := ÀK this;omega
  clear hu hst2 hnx;go_enter Tryz.func152, Tryz.ntmps152
  go_wp2_with fail
  refine HO.o.mono ?_;rintro e w1 ⟨rfl, m1, hw1⟩
  have HS1 : Hid (Sv E w1 I σ.g d 0 0 rv refs) := ħ (by rw [hw1]; exact HG.o.sv.drewN _)
  have HF1 : Hid (FrR E w rv w1 rv) := ħ (by rw [hw1]; exact (FrR.refl w).drewN _)
  clear hw1 c2;obtain ⟨_, _, c2, _⟩ := HS1.o.ten;have f2 := HS1.o.fz 2
  go_upto_region 6 with (fail)
  have HS2 := ħ (HST.o _ HS1.o);have HF2 := ħ (HF1.o.set_ (q := ⟨E.rb, 2, none⟩) (.inl rfl) (.int .i64 ((I : Int) + 1)));clear c2 f2;generalize w1.setCell ⟨E.rb, 2, none⟩ (.int .i64 ((I : Int) + 1)) = w2 at *
  go_wp2_with fail
  refine (HO1.o _ HS2.o).mono ?_;rintro e w3 ⟨rfl, m3, hw3⟩
  have HS3 : Hid (Sv E w3 (I + 1) σ.g d 0 0 rv refs) := ħ (by rw [hw3]; exact HS2.o.drewN _)
  have HF3 : Hid (FrR E w rv w3 rv) := ħ (by rw [hw3]; exact HF2.o.drewN _)
  clear hw3;obtain ⟨_, _, c2, _⟩ := HS3.o.ten;rw [Int.natCast_add] at c2;have f2 := HS3.o.fz 2
  go_upto_region 8 with (fail)
  have HS4 := ħ (HST2.o _ HS3.o);have HF4 := ħ (HF3.o.set_ (q := ⟨E.rb, 2, none⟩) (.inl rfl) (.int .i64 ((I : Int) + 1 + 1)));clear c2 f2;generalize w3.setCell ⟨E.rb, 2, none⟩ (.int .i64 ((I : Int) + 1 + 1)) = w4 at *;have hsz4 := HF4.o.size
  by_cases q0 : u < 0
  ·have hs0 := hneg q0
   obtain rfl : r = .error (21, σ.pos) := by
    rw [HR.o, ÉT h92 (by rw [hs0]; rfl)]
    unfold Ð;simp [hs0, ð]
   go_wp2_with fail
   refine (HFl.o _ HS4.o).mono ?_;rintro e w5 ⟨rfl, hF5, hB⟩;go_wp2;go_ret2;exact ⟨rfl, HF4.o.trans hF5, hB⟩
  have hq0 : 0 ≤ u := by omega
  have hS2N := hN2 hq0
  cases hun : units (Í σ.t) with
  | some l =>
   obtain ⟨l0, hl0, hl⟩ := ÇG hun;have hcl := ÐU hl0
   have hus : u = (Í σ.t : Int) ∧ u < 128 := by
    rcases hlet hq0 with ⟨h1, h2, _⟩ | ⟨_, h2⟩
    ·exact ⟨h1, h2⟩
    ·omega
   obtain rfl : r = .ok ((some l, 0), σ.adv 2) := by rw [HR.o, Ío hun]
   have hsh : shB u = true := by rw [hus.1, Åt, hl0]; rfl
   have HX3 := HX2.o hq0 hus.2
   have hGd : ∀ W, Sv E W (I + 2) σ.g d 0 0 rv refs → Gd E W (σ.adv 2) d rv (I + 2) refs := fun W hW => HG.o.move hW HX3 rfl rfl (by omega) hS2N
   have HGd := ħ hGd;obtain ⟨ll1, ll2⟩ := Ëu hl0;obtain ⟨nn1, nn2, nn3, nn4⟩ := Èy hl0
   have HNt := ħ (fun v W hv => ÏV (w := W) l0 (ò 0 l0) nn4 (by omega) nn1 v hv)
   have hus1 := hus.1
   by_cases hbig : 65 ≤ Í σ.t ∧ Í σ.t ≤ 90
   ·rw [if_pos hbig] at hl
    subst hl
    have hbg : bgB u = true := by unfold bgB; rw [decide_eq_true_eq]; omega
    have HKd := ħ (fun W => Æx (w := W) (Í σ.t) l0 hl0)
    rw [← hus1] at HKd;clear hus hus1 hbig hcl
    go_wp2_with fail
    refine (ï u true hsh).mono ?_;rintro e w4b ⟨rfl, rfl⟩
    go_wp2_with fail
    refine (Ŝ u true hbg).mono ?_;rintro e w4c ⟨rfl, rfl⟩
    go_wp2_with fail
    refine (HKd.o _).mono ?_;rintro e w5 ⟨A, n, rfl, hp5, hb5⟩
    go_wp2_with fail
    refine (HNt.o _ _ hp5.setV).mono ?_;rintro e w6 ⟨A2, n2, rfl, hp6, hb6⟩;obtain ⟨b, o, rfl⟩ := hp6.some nn2;have hb56 := hb5.trans (hb6.mono hb5.size);go_wp2;go_ret2;exact ⟨b, o, n2, rfl, hp6.less (ē hsz4 hb5.size), HF4.o.trans (FrR.of_below hb56), I + 2, HGd.o _ (HS4.o.on hb56)⟩
   ·rw [if_neg hbig] at hl
    subst hl
    have hbg : bgB u = false := by unfold bgB; rw [decide_eq_false_iff_not]; omega
    have HKd := ħ (fun W => Æx (w := W) (Í σ.t) l hl0)
    rw [← hus1] at HKd;clear hus hus1 hbig hcl
    go_wp2_with fail
    refine (ï u true hsh).mono ?_;rintro e w4b ⟨rfl, rfl⟩
    go_wp2_with fail
    refine (Ŝ u false hbg).mono ?_;rintro e w4c ⟨rfl, rfl⟩
    go_wp2_with fail
    refine (ï u true hsh).mono ?_;rintro e w4d ⟨rfl, rfl⟩
    go_wp2_with fail
    refine (HKd.o _).mono ?_;rintro e w5 ⟨A, n, rfl, hp5, hb5⟩;obtain ⟨b, o, rfl⟩ := hp5.some ll1;go_wp2;go_ret2;exact ⟨b, o, n, rfl, hp5.less hsz4, HF4.o.trans (FrR.of_below hb5), I + 2, HGd.o _ (HS4.o.on hb5)⟩
  | none =>
   have hlow := Ëv hun
   have hsh : shB u = false := by
    rcases hlet hq0 with ⟨h1, _⟩ | ⟨h1, _⟩
    ·rw [h1, Åt, hlow]; rfl
    ·unfold shB; rw [decide_eq_false_iff_not]; omega
   have hrr : r = match Ð σ with | .error e => .error e | .ok x => .ok ((none, x.1), x.2) := by rw [HR.o, ÉT h92 hun]
   have HRR := ħ hrr;clear hrr hlow hun
   go_wp2_with fail
   refine (ï u false hsh).mono ?_;rintro e w4b ⟨rfl, rfl⟩
   go_wp2_with fail
   refine (ï u false hsh).mono ?_;rintro e w4c ⟨rfl, rfl⟩
   go_wp2_with fail
   refine (HSi.o _ u HS4.o HU.o hq0).mono ?_;intro e w5 hp5
   cases hes : Ð σ with
   | error f =>
    have hr2 := HRR.o;rw [hes] at hr2 hp5;obtain ⟨rfl, hF5, hB⟩ := hp5;obtain rfl := hr2;go_wp2;go_ret2;exact ⟨rfl, HF4.o.trans hF5, hB⟩
   | ok x =>
    have hr2 := HRR.o;rw [hes] at hr2 hp5;obtain ⟨rfl, hF5, I', hG⟩ := hp5;obtain rfl := hr2;go_wp2;go_ret2;exact ⟨rfl, HF4.o.trans hF5, I', hG⟩
 ·obtain rfl : r = .ok ((none, (nx σ.t).1), σ.adv (nx σ.t).2) := by rw [HR.o, Ët h92]
  have hne : ((((nx σ.t).1 : Nat) : Int) != 92) = true := by
   have h1 := Ŋ (t := σ.t) (c := 92) (by omega) (by omega)
   rw [ÀY hn] at h1;simp;intro e
   exact h92 (h1.1 (by omega))
  have HX1 := HX.o;generalize hnx : nx σ.t = q at *;obtain ⟨u, sz⟩ := q;simp only at hne HO HX1;clear HX hnx;go_enter Tryz.func152, Tryz.ntmps152
  go_wp2_with fail
  refine HO.o.mono ?_;rintro e w1 ⟨rfl, m1, hw1⟩
  have HS1 : Hid (Sv E w1 I σ.g d 0 0 rv refs) := ħ (by rw [hw1]; exact HG.o.sv.drewN _)
  have HF1 : Hid (FrR E w rv w1 rv) := ħ (by rw [hw1]; exact (FrR.refl w).drewN _)
  clear hw1 c2;obtain ⟨_, _, c2, _⟩ := HS1.o.ten;have f2 := HS1.o.fz 2
  go_upto_region 4 with (fail)
  have HS2 := ħ (HST.o _ HS1.o);have HF2 := ħ (HF1.o.set_ (q := ⟨E.rb, 2, none⟩) (.inl rfl) (.int .i64 ((I : Int) + 1)));clear c2 f2;generalize w1.setCell ⟨E.rb, 2, none⟩ (.int .i64 ((I : Int) + 1)) = w2 at *;go_wp2;go_ret2
  exact ⟨rfl, HF2.o, I + 1, HG.o.move HS2.o HX1 rfl rfl (by omega) (by omega)⟩
end
end Go.Proofs.YtpginkdkblmnbaaGreatDoor
