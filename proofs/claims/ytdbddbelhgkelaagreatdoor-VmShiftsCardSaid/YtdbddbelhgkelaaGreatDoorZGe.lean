/- The writer: nodes in memory; rows of nodes. -/
import Derived.Test.YtdbddbelhgkelaaGreatDoorZMGa
import Derived.Test.YtdbddbelhgkelaaGreatDoorZMSa
import Derived.Test.YtdbddbelhgkelaaGreatDoorZClTwin
namespace Go.Proofs.YtdbddbelhgkelaaGreatDoor
open Go.RowKit
open Go.Proofs.YtdbddbelhgkelaaGreatDoor.Cl (Rg SetV SetAt rgCells info_three)
variable {w w' a0 : World} {n₀ wb lp lp' : Nat} {fo : Bool} {M : List In} {G : Int}

/-- A node that lies below a number of blocks, as a call has it. -/
abbrev NodeB (n₀ : Nat) (w : World) (nd : Nd) (A1 A2 : Option Addr) (p1 p2 : Nat) : Prop := NodeV (fun b => b < n₀) w nd (.slice A1 nd.set.length p1) (.slice A2 nd.kids.length p2)
theorem NodeV.lowB {nd : Nd} {sv kv : Value} (h : NodeV (fun b => b < n₀) w nd sv kv) (hb : Below n₀ w w') : NodeV (fun b => b < n₀) w' nd sv kv := h.keep fun b hk => ⟨hk, hb.block b hk⟩
/-- Kids that lie below. -/
def KidsB (n₀ : Nat) (w : World) (L : List Nd) (A : Option Addr) (b off : Nat) : Prop := ∀ i x, L[i]? = some x → A = some ⟨b, off, none⟩ ∧ b < n₀ ∧
  ∃ A1 A2 p1 p2, NodeB n₀ w x A1 A2 p1 p2 ∧ NCells w b (off + i * 7) x (.slice A1 x.set.length p1) (.slice A2 x.kids.length p2)
theorem KidsB.low {L : List Nd} {A : Option Addr} {b off : Nat} (h : KidsB n₀ w L A b off) (hb : Below n₀ w w') : KidsB n₀ w' L A b off := fun i x hx => by
  obtain ⟨h1, h2, A1, A2, p1, p2, h3, h4⟩ := h i x hx
  exact ⟨h1, h2, A1, A2, p1, p2, h3.lowB hb, h4.on (hb.block b h2)⟩
theorem NodeB.kids {nd : Nd} {A1 A2 : Option Addr} {p1 p2 : Nat} (h : NodeB n₀ w nd A1 A2 p1 p2) : ∃ b off, KidsB n₀ w nd.kids A2 b off ∧ nd.kids.length ≤ 1000000 := by
  obtain ⟨_, _, b, off, he, _, hm, _, _, hk⟩ := h.parts
  obtain ⟨rfl, _, rfl⟩ := Value.slice.inj he
  exact ⟨b, off, fun i x hx => hk i x hx, hm⟩

/-- The writer, with as many loops as there are Marks. -/
abbrev Wm (n₀ wb : Nat) (fo : Bool) (w : World) (M : List In) : Prop := Wr n₀ wb fo w M (marks M)
abbrev WmP (n₀ wb : Nat) (fo : Bool) (w : World) (M : List In) : Ending → World → Prop := WrP n₀ wb fo w M (marks M)
/-- What holds of a node all along. -/
structure Nx (G : Int) (n : Nat) (nd : Nd) : Prop where
  wf : Wf nd
  wn : Wn G nd
  sz : SizeOf.sizeOf nd ≤ n
theorem Wn.kids {nd : Nd} (h : Wn G nd) : ∀ x ∈ nd.kids, Wn G x := by cases h with | mk _ _ _ hk => exact hk
theorem Wn.set {nd : Nd} (h : Wn G nd) : Ns nd.set := by cases h with | mk hs _ _ _ => exact hs
theorem Nx.kids {n : Nat} {nd : Nd} (h : Nx G (n + 1) nd) : ∀ x ∈ nd.kids, Nx G n x := fun x hx => ⟨(kids_ok h.wf h.sz x hx).1, h.wn.kids x hx, (kids_ok h.wf h.sz x hx).2⟩
/-- Blocks that start-up code laid, and what lies below. -/
structure Env5 (n₀ : Nat) (w : World) : Prop where
  lu : Cl.LU n₀ w
theorem Env5.low (h : Env5 n₀ w) (hb : Below n₀ w w') : Env5 n₀ w' := ⟨h.lu.below hb⟩

def NodeC (n₀ wb : Nat) (fo : Bool) (G : Int) (n : Nat) : Prop := ∀ (nd : Nd), Nx G n nd → ∀ (w : World) (M : List In) (A1 A2 : Option Addr) (p1 p2 : Nat), Env5 n₀ w → NodeB n₀ w nd A1 A2 p1 p2 → Wm n₀ wb fo w M → M.length + (code fo nd).length ≤ 90000 →
  Calls Tryz.prog 68 #[.pointer (some ⟨wb, 0, none⟩), .agg #[.int .i64 nd.kind, .int .i64 nd.lo, .int .i64 nd.hi, .int .i64 nd.mode, .int .i64 nd.ref, .slice A1 nd.set.length p1, .slice A2 nd.kids.length p2]] w (WmP n₀ wb fo w (app M (code fo nd)))
def RowG (n₀ wb : Nat) (fo : Bool) (G : Int) (n : Nat) : Prop := ∀ (L : List Nd), (∀ x ∈ L, Nx G n x) → L.length ≤ 1000000 → ∀ (w : World) (M : List In) (A : Option Addr) (p b off : Nat), Env5 n₀ w → KidsB n₀ w L A b off → Wm n₀ wb fo w M → M.length + (rowC (L.map (code fo))).length ≤ 90000 →
  Calls Tryz.prog 86 #[.pointer (some ⟨wb, 0, none⟩), .slice A L.length p] w (WmP n₀ wb fo w (app M (rowC (L.map (code fo)))))
theorem rowC_app (a b : List (List In)) : rowC (a ++ b) = app (rowC a) (rowC b) := by
  induction a with
  | nil => rw [List.nil_append, rowC, nil_app]
  | cons x a ih => rw [List.cons_append, rowC, rowC, ih, app_assoc]
theorem row_snoc (f : Nd → List In) (L : List Nd) (x : Nd) : rowC ((L ++ [x]).map f) = app (rowC (L.map f)) (f x) := by
  rw [List.map_append, rowC_app, List.map_cons, List.map_nil, rowC_one]
theorem row_take_le (f : Nd → List In) {L : List Nd} {k : Nat} (h : k < L.length) : (rowC ((L.take k).map f)).length + (f L[k]).length ≤ (rowC (L.map f)).length := by
  have e : L = L.take k ++ (L[k] :: L.drop (k + 1)) := by
    rw [← List.drop_eq_getElem_cons h, List.take_append_drop]
  have e2 : rowC (L.map f) = app (rowC ((L.take k).map f)) (app (f L[k]) (rowC ((L.drop (k + 1)).map f))) := by
    conv => lhs; rw [e]
    rw [List.map_append, rowC_app, List.map_cons, rowC]
  rw [e2, app_len, app_len]
  omega

set_option maxRecDepth 100000 in
set_option maxHeartbeats 2000000 in
theorem rowG_step (n : Nat) (ih : NodeC n₀ wb fo G n) : RowG n₀ wb fo G n := by
  intro L hL hm w M A p b off hE hK hW hlen
  have HK := Lib.hid hK
  have HIH := Lib.hid ih
  have HL := Lib.hid hL
  have HE := Lib.hid hE
  have HW := Lib.hid hW
  have HLen := Lib.hid hlen
  have hlow := (Wr.low hW)
  obtain ⟨hlow1, hlow2⟩ := hlow
  clear hK ih hL hE hW hlen
  go_enter Tryz.func86, Tryz.ntmps86
  go_wp2
  go_loopw [8] (fun i wr => ∃ (k : Nat), k ≤ L.length ∧ i = .int .i64 k ∧ Hid (Wm n₀ wb fo wr (app M (rowC ((L.take k).map (code fo)))) ∧ FrW n₀ wb w wr)) (fun i _ => L.length - (intOf i).toNat)
  case atStart => exact ⟨0, Nat.zero_le _, rfl, Lib.hid ⟨by rw [List.take_zero, List.map_nil, rowC, app_nil]; exact HW.out, FrW.refl _⟩⟩
  case round =>
    obtain ⟨k, hk, rfl, HR⟩ := hrel
    have hsz := HR.out.2.size
    have HBl := Lib.hid (HR.out.2.old (by omega))
    by_cases hlt : k < L.length
    · have hlti : (k : Int) < L.length := by omega
      obtain ⟨hA, hb, a1, a2, r1, r2, hN, hC⟩ := HK.out k _ (List.getElem?_eq_getElem hlt)
      subst hA
      have HX := Lib.hid (HL.out _ (List.getElem_mem hlt))
      have HT := Lib.hid (take_snoc hlt)
      have HTl := Lib.hid (row_take_le (code fo) hlt)
      generalize L[k] = x at hN hC HX HT HTl
      have h7 := (hC.on (HBl.out.block b hb)).seven_
      have HN := Lib.hid ((hN.lowB HBl.out).lowB (new_blk wr #[.int .i64 x.kind, .int .i64 x.lo, .int .i64 x.hi, .int .i64 x.mode, .int .i64 x.ref, .slice a1 x.set.length r1, .slice a2 x.kids.length r2] |>.mono (by omega)))
      have HB := Lib.hid (Blk.new wr 27 #[.int .i64 x.kind, .int .i64 x.lo, .int .i64 x.hi, .int .i64 x.mode, .int .i64 x.ref, .slice a1 x.set.length r1, .slice a2 x.kids.length r2])
      have HW6 := Lib.hid (HR.out.1.alloc (.cells #[.int .i64 x.kind, .int .i64 x.lo, .int .i64 x.hi, .int .i64 x.mode, .int .i64 x.ref, .slice a1 x.set.length r1, .slice a2 x.kids.length r2] 27))
      have HF6 := Lib.hid (HR.out.2.alloc (.cells #[.int .i64 x.kind, .int .i64 x.lo, .int .i64 x.hi, .int .i64 x.mode, .int .i64 x.ref, .slice a1 x.set.length r1, .slice a2 x.kids.length r2] 27))
      clear hN hC
      go_upto_region 3 with (fail)
      have h77 := HB.out.c7
      generalize wr.alloc _ = W at *
      have HE6 := Lib.hid (HE.out.low (HF6.out.old (by omega)))
      go_wp2_with fail
      refine (HIH.out x HX.out W _ a1 a2 r1 r2 HE6.out HN.out HW6.out (by rw [app_len]; have := HTl.out; have := HLen.out; omega)).mono ?_
      rintro e w1 ⟨rfl, hW1, hF1⟩
      have HR1 := Lib.hid (And.intro hW1 (HF6.out.trans hF1))
      clear HN HB h77 h7 hW1 hF1
      go_wp2
      go_roundw
      case rel =>
        refine ⟨k + 1, by omega, by go_num, Lib.hid ?_⟩
        rw [HT.out, row_snoc, ← app_assoc]
        exact HR1.out
      case measure => simp [intOf]; omega
    · obtain rfl : k = L.length := by omega
      go_wp2
      have HR2 := HR.out
      rw [List.take_length] at HR2
      exact ⟨rfl, .tuple #[], by simp [results, Tryz.results86, go_sem], rfl, HR2.1, HR2.2⟩

end Go.Proofs.YtdbddbelhgkelaaGreatDoor
