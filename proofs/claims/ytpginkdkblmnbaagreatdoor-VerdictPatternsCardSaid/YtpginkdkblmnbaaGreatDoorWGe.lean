import Derived.Test.YtpginkdkblmnbaaGreatDoorWMGa
import Derived.Test.YtpginkdkblmnbaaGreatDoorWMSa
import Derived.Test.YtpginkdkblmnbaaGreatDoorWClTwin
namespace Go.Proofs.YtpginkdkblmnbaaGreatDoor
section
open Go.RowKit
open Go.Proofs.YtpginkdkblmnbaaGreatDoor.Cl (Rg à Ý Ä Á)
variable {w w' a0 : World} {n₀ wb lp lp' : Nat} {fo : Bool} {M : List In} {G : Int}
abbrev Ś (n₀ : Nat) (w : World) (nd : Nd) (A1 A2 : Option Addr) (p1 p2 : Nat) : Prop := Ê (fun b => b < n₀) w nd (.slice A1 nd.set.length p1) (.slice A2 nd.kids.length p2)
theorem Ê.lowB {nd : Nd} {sv kv : Value} (h : Ê (fun b => b < n₀) w nd sv kv) (hb : Below n₀ w w') : Ê (fun b => b < n₀) w' nd sv kv := h.keep fun b hk => ⟨hk, hb.block b hk⟩
def Áz (n₀ : Nat) (w : World) (L : List Nd) (A : Option Addr) (b off : Nat) : Prop := ∀ i x, L[i]? = some x → A = some ⟨b, off, none⟩ ∧ b < n₀ ∧
 ∃ A1 A2 p1 p2, Ś n₀ w x A1 A2 p1 p2 ∧ Ţ w b (off + i * 7) x (.slice A1 x.set.length p1) (.slice A2 x.kids.length p2)
theorem Áz.low {L : List Nd} {A : Option Addr} {b off : Nat} (h : Áz n₀ w L A b off) (hb : Below n₀ w w') : Áz n₀ w' L A b off := fun i x hx => by
 obtain ⟨h1, h2, A1, A2, p1, p2, h3, h4⟩ := h i x hx;exact ⟨h1, h2, A1, A2, p1, p2, h3.lowB hb, h4.on (hb.block b h2)⟩
theorem Ś.kids {nd : Nd} {A1 A2 : Option Addr} {p1 p2 : Nat} (h : Ś n₀ w nd A1 A2 p1 p2) : ∃ b off, Áz n₀ w nd.kids A2 b off ∧ nd.kids.length ≤ 1000000 := by
 obtain ⟨_, _, b, off, he, _, hm, _, _, hk⟩ := h.parts;obtain ⟨rfl, _, rfl⟩ := Value.slice.inj he
 exact ⟨b, off, fun i x hx => hk i x hx, hm⟩
abbrev Wm (n₀ wb : Nat) (fo : Bool) (w : World) (M : List In) : Prop := Wr n₀ wb fo w M (Ã M)
abbrev WmP (n₀ wb : Nat) (fo : Bool) (w : World) (M : List In) : Ending → World → Prop := WrP n₀ wb fo w M (Ã M)
structure Nx (G : Int) (n : Nat) (nd : Nd) : Prop where
 wf : Wf nd
 wn : Wn G nd
 sz : SizeOf.sizeOf nd ≤ n
theorem Wn.kids {nd : Nd} (h : Wn G nd) : ∀ x ∈ nd.kids, Wn G x := by cases h with | mk _ _ _ hk => exact hk
theorem Wn.set {nd : Nd} (h : Wn G nd) : Ns nd.set := by cases h with | mk hs _ _ _ => exact hs
theorem Nx.kids {n : Nat} {nd : Nd} (h : Nx G (n + 1) nd) : ∀ x ∈ nd.kids, Nx G n x := fun x hx => ⟨(ÀX h.wf h.sz x hx).1, h.wn.kids x hx, (ÀX h.wf h.sz x hx).2⟩
structure Àq (n₀ : Nat) (w : World) : Prop where
 lu : Cl.LU n₀ w
theorem Àq.low (h : Àq n₀ w) (hb : Below n₀ w w') : Àq n₀ w' := ⟨h.lu.below hb⟩
def Éi (n₀ wb : Nat) (fo : Bool) (G : Int) (n : Nat) : Prop := ∀ (nd : Nd), Nx G n nd → ∀ (w : World) (M : List In) (A1 A2 : Option Addr) (p1 p2 : Nat), Àq n₀ w → Ś n₀ w nd A1 A2 p1 p2 → Wm n₀ wb fo w M → M.length + (â fo nd).length ≤ 90000 →
 Calls Tryz.prog 47 #[.pointer (some ⟨wb, 0, none⟩), .agg #[.int .i64 nd.kind, .int .i64 nd.lo, .int .i64 nd.hi, .int .i64 nd.mode, .int .i64 nd.ref, .slice A1 nd.set.length p1, .slice A2 nd.kids.length p2]] w (WmP n₀ wb fo w (app M (â fo nd)))
def Èe (n₀ wb : Nat) (fo : Bool) (G : Int) (n : Nat) : Prop := ∀ (L : List Nd), (∀ x ∈ L, Nx G n x) → L.length ≤ 1000000 → ∀ (w : World) (M : List In) (A : Option Addr) (p b off : Nat), Àq n₀ w → Áz n₀ w L A b off → Wm n₀ wb fo w M → M.length + (ĸ (L.map (â fo))).length ≤ 90000 →
 Calls Tryz.prog 69 #[.pointer (some ⟨wb, 0, none⟩), .slice A L.length p] w (WmP n₀ wb fo w (app M (ĸ (L.map (â fo)))))
theorem Éj (a b : List (List In)) : ĸ (a ++ b) = app (ĸ a) (ĸ b) := by
 induction a with
 | nil => rw [List.nil_append, ĸ, ËN]
 | cons x a ih => rw [List.cons_append, ĸ, ĸ, ih, İ]
theorem Îb (f : Nd → List In) (L : List Nd) (x : Nd) : ĸ ((L ++ [x]).map f) = app (ĸ (L.map f)) (f x) := by
 rw [Ĕ, Éj, List.map_cons, List.map_nil, ÁN]
theorem Ék (f : Nd → List In) {L : List Nd} {k : Nat} (h : k < L.length) : (ĸ ((L.take k).map f)).length + (f L[k]).length ≤ (ĸ (L.map f)).length := by
 have e : L = L.take k ++ (L[k] :: L.drop (k + 1)) := by
  rw [← List.drop_eq_getElem_cons h, List.take_append_drop]
 have e2 : ĸ (L.map f) = app (ĸ ((L.take k).map f)) (app (f L[k]) (ĸ ((L.drop (k + 1)).map f))) := by
  conv => lhs; rw [e]
  rw [Ĕ, Éj, List.map_cons, ĸ]
 rw [e2, Ø, Ø];omega
set_option maxRecDepth 100000 in
set_option maxHeartbeats 2000000 in
theorem Çk (n : Nat) (ih : Éi n₀ wb fo G n) : Èe n₀ wb fo G n := by
 intro L hL hm w M A p b off hE hK hW hlen;have HK := ħ hK;have HIH := ħ ih;have HL := ħ hL;have HE := ħ hE;have HW := ħ hW;have HLen := ħ hlen;have hlow := (Wr.low hW);obtain ⟨hlow1, hlow2⟩ := hlow;clear hK ih hL hE hW hlen;go_enter Tryz.func69, Tryz.ntmps69;go_wp2
 go_loopw [8] (fun i wr => ∃ (k : Nat), k ≤ L.length ∧ i = .int .i64 k ∧ Hid (Wm n₀ wb fo wr (app M (ĸ ((L.take k).map (â fo)))) ∧ FrW n₀ wb w wr)) (fun i _ => L.length - (intOf i).toNat)
 case atStart => exact ⟨0, Ą _, rfl, ħ ⟨by rw [List.take_zero, List.map_nil, ĸ, ÀV]; exact HW.o, FrW.refl _⟩⟩
 case round =>
  obtain ⟨k, hk, rfl, HR⟩ := hrel;have hsz := HR.o.2.size
  have HBl := ħ (HR.o.2.old (by omega))
  by_cases hlt : k < L.length
  ·have hlti : (k : Int) < L.length := by omega
   obtain ⟨hA, hb, a1, a2, r1, r2, hN, hC⟩ := HK.o k _ (Ā hlt);subst hA;have HX := ħ (HL.o _ (Ē hlt));have HT := ħ (Š hlt);have HTl := ħ (Ék (â fo) hlt);generalize L[k] = x at hN hC HX HT HTl;have h7 := (hC.on (HBl.o.block b hb)).seven_
   have HN := ħ ((hN.lowB HBl.o).lowB (Ĳ wr #[.int .i64 x.kind, .int .i64 x.lo, .int .i64 x.hi, .int .i64 x.mode, .int .i64 x.ref, .slice a1 x.set.length r1, .slice a2 x.kids.length r2] |>.mono (by omega)))
   have HB := ħ (Blk.new wr 27 #[.int .i64 x.kind, .int .i64 x.lo, .int .i64 x.hi, .int .i64 x.mode, .int .i64 x.ref, .slice a1 x.set.length r1, .slice a2 x.kids.length r2]);have HW6 := ħ (HR.o.1.alloc (.cells #[.int .i64 x.kind, .int .i64 x.lo, .int .i64 x.hi, .int .i64 x.mode, .int .i64 x.ref, .slice a1 x.set.length r1, .slice a2 x.kids.length r2] 27));have HF6 := ħ (HR.o.2.alloc (.cells #[.int .i64 x.kind, .int .i64 x.lo, .int .i64 x.hi, .int .i64 x.mode, .int .i64 x.ref, .slice a1 x.set.length r1, .slice a2 x.kids.length r2] 27));clear hN hC
   go_upto_region 3 with (fail)
   have h77 := HB.o.c7;generalize wr.alloc _ = W at *
   have HE6 := ħ (HE.o.low (HF6.o.old (by omega)))
   go_wp2_with fail
   refine (HIH.o x HX.o W _ a1 a2 r1 r2 HE6.o HN.o HW6.o (by rw [Ø]; have := HTl.o; have := HLen.o; omega)).mono ?_
   rintro e w1 ⟨rfl, hW1, hF1⟩;have HR1 := ħ (And.intro hW1 (HF6.o.trans hF1));clear HN HB h77 h7 hW1 hF1;go_wp2;go_roundw
   case rel =>
    refine ⟨k + 1, by omega, by go_num, ħ ?_⟩
    rw [HT.o, Îb, ← İ];exact HR1.o
   case measure => simp [intOf]; omega
  ·obtain rfl : k = L.length := by omega
   go_wp2;have HR2 := HR.o;rw [Ă] at HR2
   exact ⟨rfl, .tuple #[], by simp [results, Tryz.results69, go_sem], rfl, HR2.1, HR2.2⟩
end
end Go.Proofs.YtpginkdkblmnbaaGreatDoor
