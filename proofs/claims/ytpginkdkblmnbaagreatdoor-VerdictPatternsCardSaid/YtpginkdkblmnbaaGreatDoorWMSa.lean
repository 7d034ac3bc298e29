import Derived.Test.YtpginkdkblmnbaaGreatDoorWMPa
import Derived.Test.YtpginkdkblmnbaaGreatDoorWSa
import Derived.Deep.QuietTactic
import Derived.Deep.RegionWith
import Derived.Deep.Cut
import Derived.WalkSmall
namespace Go.Proofs.YtpginkdkblmnbaaGreatDoor
section
open Go.Proofs.YtpginkdkblmnbaaGreatDoor.Cl
section
variable {nd : Nd}
theorem Wf.shape (h : Wf nd) : Ü nd.kind nd.lo nd.hi nd.mode nd.kids.length := by cases h with | mk hs _ => exact hs
theorem Wf.kids (h : Wf nd) : ∀ x ∈ nd.kids, Wf x := by cases h with | mk _ hk => exact hk
theorem Áo (nd : Nd) : ĵ nd = Ák nd.kind nd.lo (nd.kids.map ĵ) := by cases nd with | mk => exact ÈU ..
theorem Âi (nd : Nd) : å nd = Ân nd.kind nd.hi (nd.kids.map å) := by cases nd with | mk => exact ËM ..
theorem ÁO (nd : Nd) : Å nd = Ř nd.kind nd.lo nd.hi nd.mode (nd.kids.map Å) := by cases nd with | mk => exact Äm ..
theorem ÅO (nd : Nd) : Ë nd = (Ál nd.kind nd.mode (nd.kids.map å) && nd.kids.all Ë) := by cases nd with | mk => exact Êr ..
theorem ÅP (h : nd.kind = 1) : ĵ nd = 1 ∧ å nd = 1 := by
 rw [Áo, Âi]; simp [Ák, Ân, h, Ï, far]
theorem ÄO (h : nd.kind = 6) : ĵ nd = 0 ∧ å nd = -1 := by
 rw [Áo, Âi]; simp [Ák, Ân, h, Ï, far]
theorem ÀB (hw : Wf nd) (h : nd.kind = 2 ∨ nd.kind = 5 ∨ nd.kind = 8) : ĵ nd = û nd.kids ∧ å nd = ê nd.kids := by
 rcases h with h | h
 ·rw [Áo, Âi]
  simp [Ák, Ân, h, û, ê]
 ·have hs := hw.shape
  have hl : nd.kids.length = 1 := by unfold Ü at hs; omega
  obtain ⟨x, hx⟩ := Ào hl
  have hwx : Wf x := hw.kids x (by rw [hx]; simp)
  rw [Áo, Âi, hx, Ça hwx, Ád hwx];have := (ř hwx).2
  rcases h with h | h <;> simp [Ák, Ân, h, hd, Ål this]
theorem ÅQ (hw : Wf nd) (h : nd.kind = 3) : ĵ nd = ÁL nd.kids ∧ å nd = Ŧ nd.kids := by
 have hr := ÄK hw.kids;rw [Áo, Âi];simp only [Ák, Ân, h, ÁL];have := (ÄJ hw.kids).2;refine ⟨?_, ?_⟩
 ·simp; exact Ål this
 ·unfold Ŧ at hr ⊢
  simp;split
  ·rfl
  ·rename_i he
   rw [if_neg he] at hr;unfold ÀM
   rw [if_neg (by omega)]
theorem ÅR (hw : Wf nd) (h : nd.kind = 4) : ĵ nd = Ï (nd.lo * û nd.kids) ∧ å nd = ÀN nd.hi (ê nd.kids) ∧ 0 ≤ nd.lo ∧ nd.lo ≤ 64 ∧ -1 ≤ nd.hi ∧ nd.hi ≤ 64 := by
 have hs := hw.shape
 have hl : nd.kids.length = 1 ∧ 0 ≤ nd.lo ∧ nd.lo ≤ 64 ∧ -1 ≤ nd.hi ∧ nd.hi ≤ 64 := by unfold Ü at hs; omega
 obtain ⟨x, hx⟩ := Ào hl.1
 have hwx : Wf x := hw.kids x (by rw [hx]; simp)
 have := ĳ hwx;refine ⟨?_, ?_, hl.2⟩
 ·rw [Áo, hx, Ça hwx]; simp [Ák, h, hd]
 ·have e : Ân 4 nd.hi ([x].map å) = if å x = 0 ∨ nd.hi = 0 then 0 else if å x < 0 ∨ nd.hi < 0 then -1 else ÀM (nd.hi * å x) := by simp [Ân, hd]
  rw [Âi, hx, Ád hwx, h, e];unfold ÀN
  by_cases c1 : å x = 0 ∨ nd.hi = 0
  ·rw [if_pos c1, if_pos c1.symm]
  ·have c1' : ¬ (nd.hi = 0 ∨ å x = 0) := fun c => c1 c.symm
   rw [if_neg c1, if_neg c1']
   by_cases c2 : å x < 0 ∨ nd.hi < 0
   ·have c2' : nd.hi = -1 ∨ å x = -1 := by omega
    rw [if_pos c2, if_pos c2']
   ·have c2' : ¬ (nd.hi = -1 ∨ å x = -1) := by omega
    rw [if_neg c2, if_neg c2']
theorem Àh (h1 : nd.kind ≠ 1) (h2 : nd.kind ≠ 2) (h3 : nd.kind ≠ 3) (h4 : nd.kind ≠ 4) (h5 : nd.kind ≠ 5) (h6 : nd.kind ≠ 6) (h8 : nd.kind ≠ 8) : ĵ nd = 0 ∧ å nd = 0 := by
 rw [Áo, Âi]; simp [Ák, Ân, h1, h2, h3, h4, h5, h6, h8, Ï, far]
theorem ÁP (h : nd.kind = 1 ∨ nd.kind = 6 ∨ nd.kind = 9) : Å nd = 1 := by
 rw [ÁO]; simp [Ř, h, Ï, far]
theorem Éh (h : nd.kind = 2) : Å nd = Ķ nd.kids := by
 rw [ÁO]; simp [Ř, h, Ķ]
theorem Çi (hw : Wf nd) (h : nd.kind = 3) : Å nd = Ï (Ķ nd.kids + 2 * ((nd.kids.length : Int) - 1)) := by
 have h0 := ÀU hw.kids;have hs := hw.shape
 have hl : 2 ≤ nd.kids.length := by unfold Ü at hs; omega
 rw [ÁO]; simp [Ř, h, Ķ];unfold Ï far
 split <;> split <;> (try split) <;> omega
theorem Áe (hw : Wf nd) (h : nd.kind = 5 ∨ nd.kind = 7 ∨ nd.kind = 8) : Å nd = Ï (Ķ nd.kids + 2) := by
 have hs := hw.shape
 have hl : nd.kids.length = 1 := by unfold Ü at hs; omega
 obtain ⟨x, hx⟩ := Ào hl
 have hwx : Wf x := hw.kids x (by rw [hx]; simp)
 rw [ÁO, hx, Çb hwx]
 rcases h with h | h | h <;> simp [Ř, h, hd]
theorem ÅS (hw : Wf nd) (h : nd.kind = 4) : Å nd = Ï (nd.lo * Ķ nd.kids + (if nd.hi = -1 then Ķ nd.kids + 4 else (nd.hi - nd.lo) * (Ķ nd.kids + 1)) + (if nd.mode = 2 then 2 else 0)) ∧ 0 ≤ nd.lo ∧ nd.lo ≤ 64 ∧ -1 ≤ nd.hi ∧ nd.hi ≤ 64 ∧ (nd.hi ≠ -1 → nd.lo ≤ nd.hi) := by
 have hs := hw.shape
 have hl : nd.kids.length = 1 ∧ 0 ≤ nd.lo ∧ nd.lo ≤ 64 ∧ -1 ≤ nd.hi ∧ nd.hi ≤ 64 ∧ (0 ≤ nd.hi → nd.lo ≤ nd.hi) := by unfold Ü at hs; omega
 obtain ⟨x, hx⟩ := Ào hl.1
 have hwx : Wf x := hw.kids x (by rw [hx]; simp)
 refine ⟨?_, by omega, by omega, by omega, by omega, by omega⟩
 rw [ÁO, hx, Çb hwx];simp only [Ř, h, hd];simp
 by_cases c : nd.hi = -1
 ·rw [if_pos (by omega), if_pos c]
 ·rw [if_neg (by omega), if_neg c]
theorem Äs (h1 : nd.kind ≠ 1) (h2 : nd.kind ≠ 2) (h3 : nd.kind ≠ 3) (h4 : nd.kind ≠ 4) (h5 : nd.kind ≠ 5) (h6 : nd.kind ≠ 6) (h7 : nd.kind ≠ 7) (h8 : nd.kind ≠ 8) (h9 : nd.kind ≠ 9) : Å nd = 0 := by
 rw [ÁO]; simp [Ř, h1, h2, h3, h4, h5, h6, h7, h8, h9, Ï, far]
end
end
section
open Go.RowKit
open Go.Proofs.YtpginkdkblmnbaaGreatDoor.Cl (Rg à Ý Ä)
variable {w w' : World}
theorem Blk.c7 {g : Nat} {t : TypeId} {x0 x1 x2 x3 x4 x5 x6 : Value} (h : Blk w g t #[x0, x1, x2, x3, x4, x5, x6]) : w.cell? ⟨g, 0, none⟩ = some x0 ∧ w.cell? ⟨g, 1, none⟩ = some x1 ∧ w.cell? ⟨g, 2, none⟩ = some x2 ∧ w.cell? ⟨g, 3, none⟩ = some x3 ∧ w.cell? ⟨g, 4, none⟩ = some x4 ∧
 w.cell? ⟨g, 5, none⟩ = some x5 ∧ w.cell? ⟨g, 6, none⟩ = some x6 :=
 ⟨h.cell 0, h.cell 1, h.cell 2, h.cell 3, h.cell 4, h.cell 5, h.cell 6⟩
theorem Blk.c9 {g : Nat} {t : TypeId} {x0 x1 x2 x3 x4 x5 x6 x7 x8 : Value} (h : Blk w g t #[x0, x1, x2, x3, x4, x5, x6, x7, x8]) : w.cell? ⟨g, 0, none⟩ = some x0 ∧ w.cell? ⟨g, 1, none⟩ = some x1 ∧ w.cell? ⟨g, 2, none⟩ = some x2 ∧ w.cell? ⟨g, 3, none⟩ = some x3 ∧ w.cell? ⟨g, 4, none⟩ = some x4 ∧
 w.cell? ⟨g, 5, none⟩ = some x5 ∧ w.cell? ⟨g, 6, none⟩ = some x6 ∧ w.cell? ⟨g, 7, none⟩ = some x7 ∧ w.cell? ⟨g, 8, none⟩ = some x8 :=
 ⟨h.cell 0, h.cell 1, h.cell 2, h.cell 3, h.cell 4, h.cell 5, h.cell 6, h.cell 7, h.cell 8⟩
def Ài (w : World) (L : List Nd) (A : Option Addr) (b off : Nat) : Prop := ∀ i x, L[i]? = some x → A = some ⟨b, off, none⟩ ∧ b < w.heap.size ∧
 ∃ A1 A2 p1 p2, Ê (fun b => b < w.heap.size) w x (.slice A1 x.set.length p1) (.slice A2 x.kids.length p2) ∧ Ţ w b (off + i * 7) x (.slice A1 x.set.length p1) (.slice A2 x.kids.length p2)
theorem Ê.on_ {nd : Nd} {sv kv : Value} (h : Ê (fun b => b < w.heap.size) w nd sv kv) (hb : Below w.heap.size w w') : Ê (fun b => b < w'.heap.size) w' nd sv kv :=
 h.keep fun b hk => ⟨Ć hk hb.size, hb.block b hk⟩
theorem Ài.on {L : List Nd} {A : Option Addr} {b off : Nat} (h : Ài w L A b off) (hb : Below w.heap.size w w') : Ài w' L A b off := fun i x hx => by
 obtain ⟨h1, h2, A1, A2, p1, p2, h3, h4⟩ := h i x hx;exact ⟨h1, Ć h2 hb.size, A1, A2, p1, p2, h3.on_ hb, h4.on (hb.block b h2)⟩
def ÅT (n : Nat) : Prop := ∀ (nd : Nd), SizeOf.sizeOf nd ≤ n → Wf nd → ∀ (w : World) (A1 A2 : Option Addr) (p1 p2 : Nat), Ê (fun b => b < w.heap.size) w nd (.slice A1 nd.set.length p1) (.slice A2 nd.kids.length p2) →
 Calls Tryz.prog 10 #[.agg #[.int .i64 nd.kind, .int .i64 nd.lo, .int .i64 nd.hi, .int .i64 nd.mode, .int .i64 nd.ref, .slice A1 nd.set.length p1, .slice A2 nd.kids.length p2]] w
  fun e w' => e = .returned (.tuple #[.int .i64 (ĵ nd), .int .i64 (å nd)]) ∧ Below w.heap.size w w'
def ÍZ (n : Nat) : Prop := ∀ (L : List Nd), (∀ x ∈ L, Wf x ∧ SizeOf.sizeOf x ≤ n) → L.length ≤ 1000000 → ∀ (w : World) (A : Option Addr) (p b off : Nat), Ài w L A b off →
 Calls Tryz.prog 36 #[.slice A L.length p] w fun e w' => e = .returned (.tuple #[.int .i64 (û L), .int .i64 (ê L)]) ∧ Below w.heap.size w w'
def Èd (n : Nat) : Prop := ∀ (L : List Nd), (∀ x ∈ L, Wf x ∧ SizeOf.sizeOf x ≤ n) → L ≠ [] → L.length ≤ 1000000 → ∀ (w : World) (A : Option Addr) (p b off : Nat), Ài w L A b off →
 Calls Tryz.prog 37 #[.slice A L.length p] w fun e w' => e = .returned (.tuple #[.int .i64 (ÁL L), .int .i64 (Ŧ L)]) ∧ Below w.heap.size w w'
theorem Š {L : List Nd} {k : Nat} (h : k < L.length) : L.take (k + 1) = L.take k ++ [L[k]] := by rw [ĕ h]
theorem ÅU {L : List Nd} {k : Nat} {x : Nd} (h : x ∈ L.take k) : x ∈ L := List.mem_of_mem_take h
set_option maxRecDepth 100000 in
set_option maxHeartbeats 2000000 in
theorem Çj (n : Nat) (ih : ÅT n) : ÍZ n := by
 intro L hL hm w A p b off hK;have HK := ħ hK;have HIH := ħ ih;have HL := ħ hL;clear hK ih hL;go_enter Tryz.func36, Tryz.ntmps36;go_wp2
 go_loopw [2, 3, 10] (fun lo hi i wr => ∃ (k : Nat) (l0 h0 : Int), k ≤ L.length ∧ i = .int .i64 k ∧ lo = .int .i64 l0 ∧ hi = .int .i64 h0 ∧ Hid (l0 = û (L.take k) ∧ h0 = ê (L.take k)) ∧ Below w.heap.size w wr) (fun _ _ i _ => L.length - (intOf i).toNat)
 case atStart => exact ⟨0, 0, 0, Ą _, rfl, rfl, rfl, ħ ⟨rfl, rfl⟩, ā _ _⟩
 case round =>
  obtain ⟨k, l0, h0, hk, rfl, rfl, rfl, HE, hbel⟩ := hrel;have hsz := hbel.size
  by_cases hlt : k < L.length
  ·have hlti : (k : Int) < L.length := by omega
   obtain ⟨hA, hb, a1, a2, r1, r2, hN, hC⟩ := HK.o k _ (Ā hlt);subst hA;have HX := ħ (HL.o _ (Ē hlt));have HT := ħ (Š hlt)
   have HW := ħ (fun x (hx : x ∈ L.take k) => (HL.o x (ÅU hx)).1)
   generalize L[k] = x at hN hC HX HT;have h7 := (hC.on (hbel.block b hb)).seven_;have HN := ħ ((hN.on_ hbel).on_ ((ā wr.heap.size wr).alloc (ŋ _) (.cells #[.int .i64 x.kind, .int .i64 x.lo, .int .i64 x.hi, .int .i64 x.mode, .int .i64 x.ref, .slice a1 x.set.length r1, .slice a2 x.kids.length r2] 27)));have HB := ħ (Blk.new wr 27 #[.int .i64 x.kind, .int .i64 x.lo, .int .i64 x.hi, .int .i64 x.mode, .int .i64 x.ref, .slice a1 x.set.length r1, .slice a2 x.kids.length r2]);have hb6 := hbel.alloc hsz (.cells #[.int .i64 x.kind, .int .i64 x.lo, .int .i64 x.hi, .int .i64 x.mode, .int .i64 x.ref, .slice a1 x.set.length r1, .slice a2 x.kids.length r2] 27);clear hN hC
   have hr0 : 0 ≤ l0 ∧ l0 ≤ 1048576 ∧ -1 ≤ h0 ∧ h0 ≤ 1048576 := by
    obtain ⟨e1, e2⟩ := HE.o;have r1 := ÄI HW.o;have r2 := Âv (l := L.take k);rw [e1, e2];unfold far at r1 r2;omega
   obtain ⟨c1, c2, c3, c4⟩ := hr0;obtain ⟨l1, hl1⟩ : ∃ l1, l1 = ĵ x := ⟨_, rfl⟩;obtain ⟨h1, hh1⟩ : ∃ h1, h1 = å x := ⟨_, rfl⟩
   have hr1 : 0 ≤ l1 ∧ l1 ≤ 1048576 ∧ -1 ≤ h1 ∧ h1 ≤ 1048576 := by
    have r1 := ř HX.o.1;have r2 := ĳ HX.o.1;rw [hl1, hh1];unfold far at r1 r2;omega
   obtain ⟨d1, d2, d3, d4⟩ := hr1
   have HE1 := ħ (show l1 = ĵ x ∧ h1 = å x from ⟨hl1, hh1⟩)
   clear hl1 hh1
   go_upto_region 4 with (fail)
   have h77 := HB.o.c7;generalize wr.alloc (.cells #[.int .i64 x.kind, .int .i64 x.lo, .int .i64 x.hi, .int .i64 x.mode, .int .i64 x.ref, .slice a1 x.set.length r1, .slice a2 x.kids.length r2] 27) = W at *
   go_wp2_with fail
   refine (HIH.o x HX.o.2 HX.o.1 W a1 a2 r1 r2 HN.o).mono ?_;rw [← HE1.o.1, ← HE1.o.2];rintro e w1 ⟨rfl, hb1⟩;have hbw := hb6.trans (hb1.mono hb6.size);clear HN HB h77
   go_wp2_with fail
   refine (ň (l0 + l1)).mono ?_;rintro e w2 ⟨rfl, rfl⟩
   go_wp2_with fail
   refine (Âh h0 h1 ⟨c3, c4⟩ ⟨d3, d4⟩).mono ?_;rintro e w2 ⟨rfl, rfl⟩;go_wp2;go_roundw
   case rel =>
    refine ⟨k + 1, _, _, by omega, by go_num, rfl, rfl, ħ ?_, hbw⟩
    rw [HT.o, Ês HW.o HX.o.1, Ãr HX.o.1, ← HE.o.1, ← HE.o.2, ← HE1.o.1, ← HE1.o.2];exact ⟨rfl, rfl⟩
   case measure => simp [intOf]; omega
  ·obtain rfl : k = L.length := by omega
   go_wp2;go_ret2;refine ⟨?_, hbel⟩;rw [HE.o.1, HE.o.2, Ă];rfl
set_option maxRecDepth 100000 in
set_option maxHeartbeats 2000000 in
theorem ÄP (n : Nat) (ih : ÅT n) : Èd n := by
 intro L hL hne hm w A p b off hK;have HK := ħ hK;have HIH := ħ ih;have HL := ħ hL;have hl0 : 0 < L.length := List.length_pos_iff.2 hne;clear hK ih hL hne;go_enter Tryz.func37, Tryz.ntmps37;go_wp2
 go_loopw [2, 3, 10] (fun lo hi i wr => ∃ (k : Nat) (l0 h0 : Int), k ≤ L.length ∧ i = .int .i64 k ∧ lo = .int .i64 l0 ∧ hi = .int .i64 h0 ∧ Hid (k = 0 ∨ (l0 = ÁL (L.take k) ∧ h0 = Ŧ (L.take k))) ∧ Below w.heap.size w wr) (fun _ _ i _ => L.length - (intOf i).toNat)
 case atStart => exact ⟨0, 0, 0, Ą _, rfl, rfl, rfl, ħ (.inl rfl), ā _ _⟩
 case round =>
  obtain ⟨k, l0, h0, hk, rfl, rfl, rfl, HE, hbel⟩ := hrel;have hsz := hbel.size
  by_cases hlt : k < L.length
  ·have hlti : (k : Int) < L.length := by omega
   obtain ⟨hA, hb, a1, a2, r1, r2, hN, hC⟩ := HK.o k _ (Ā hlt);subst hA;have HX := ħ (HL.o _ (Ē hlt));have HT := ħ (Š hlt)
   have HW := ħ (fun x (hx : x ∈ L.take k) => (HL.o x (ÅU hx)).1)
   generalize L[k] = x at hN hC HX HT;have h7 := (hC.on (hbel.block b hb)).seven_;have HN := ħ ((hN.on_ hbel).on_ ((ā wr.heap.size wr).alloc (ŋ _) (.cells #[.int .i64 x.kind, .int .i64 x.lo, .int .i64 x.hi, .int .i64 x.mode, .int .i64 x.ref, .slice a1 x.set.length r1, .slice a2 x.kids.length r2] 27)));have HB := ħ (Blk.new wr 27 #[.int .i64 x.kind, .int .i64 x.lo, .int .i64 x.hi, .int .i64 x.mode, .int .i64 x.ref, .slice a1 x.set.length r1, .slice a2 x.kids.length r2]);have hb6 := hbel.alloc hsz (.cells #[.int .i64 x.kind, .int .i64 x.lo, .int .i64 x.hi, .int .i64 x.mode, .int .i64 x.ref, .slice a1 x.set.length r1, .slice a2 x.kids.length r2] 27);clear hN hC;obtain ⟨l1, hl1⟩ : ∃ l1, l1 = ĵ x := ⟨_, rfl⟩;obtain ⟨h1, hh1⟩ : ∃ h1, h1 = å x := ⟨_, rfl⟩
   have hr1 : 0 ≤ l1 ∧ l1 ≤ 1048576 ∧ -1 ≤ h1 ∧ h1 ≤ 1048576 := by
    have r1 := ř HX.o.1;have r2 := ĳ HX.o.1;rw [hl1, hh1];unfold far at r1 r2;omega
   obtain ⟨d1, d2, d3, d4⟩ := hr1
   have HE1 := ħ (show l1 = ĵ x ∧ h1 = å x from ⟨hl1, hh1⟩)
   clear hl1 hh1
   go_upto_region 4 with (fail)
   have h77 := HB.o.c7;generalize wr.alloc (.cells #[.int .i64 x.kind, .int .i64 x.lo, .int .i64 x.hi, .int .i64 x.mode, .int .i64 x.ref, .slice a1 x.set.length r1, .slice a2 x.kids.length r2] 27) = W at *
   go_wp2_with fail
   refine (HIH.o x HX.o.2 HX.o.1 W a1 a2 r1 r2 HN.o).mono ?_;rw [← HE1.o.1, ← HE1.o.2];rintro e w1 ⟨rfl, hb1⟩;have hbw := hb6.trans (hb1.mono hb6.size);clear HN HB h77
   by_cases hk0 : k = 0
   ·subst hk0
    go_wp2;go_roundw
    case rel =>
     refine ⟨1, _, _, by omega, by go_num, rfl, rfl, ħ (.inr ?_), hbw⟩
     have e := HT.o;simp only [List.take_zero, List.nil_append, ĉ] at e;rw [e, ÆZ HX.o.1, Ìq HX.o.1];exact HE1.o
    case measure => simp [intOf]; omega
   ·have hk1 : ((k : Int) == 0) = false := by simp; omega
    have HE' : Hid (l0 = ÁL (L.take k) ∧ h0 = Ŧ (L.take k)) := ħ (by
     rcases HE.o with h | h
     ·exact absurd h hk0
     ·exact h)
    have hr0 : 0 ≤ l0 ∧ l0 ≤ 1048576 ∧ -1 ≤ h0 ∧ h0 ≤ 1048576 := by
     obtain ⟨e1, e2⟩ := HE'.o;have r1 := ÄJ HW.o;have r2 := ÄK HW.o;rw [e1, e2];unfold far at r1 r2;omega
    obtain ⟨c1, c2, c3, c4⟩ := hr0
    have hfin : ∀ z, z = min l0 l1 → Hid (k + 1 = 0 ∨ (z = ÁL (L.take (k + 1)) ∧ Âp h0 h1 = Ŧ (L.take (k + 1)))) := fun z hz => ħ (.inr (by
     rw [HT.o, Êv HX.o.1, Ãs HX.o.1, ← HE'.o.1, ← HE'.o.2, ← HE1.o.1, ← HE1.o.2]
     exact ⟨hz, rfl⟩))
    have HFin := ħ hfin;clear hfin
    by_cases hmin : l1 < l0
    ·go_wp2_with fail
     refine (Çh h0 h1 ⟨c3, c4⟩ ⟨d3, d4⟩).mono ?_;rintro e w2 ⟨rfl, rfl⟩;go_wp2;go_roundw
     case rel => exact ⟨k + 1, _, _, by omega, by go_num, rfl, rfl, HFin.o _ (by omega), hbw⟩
     case measure => simp [intOf]; omega
    ·go_wp2_with fail
     refine (Çh h0 h1 ⟨c3, c4⟩ ⟨d3, d4⟩).mono ?_;rintro e w2 ⟨rfl, rfl⟩;go_wp2;go_roundw
     case rel => exact ⟨k + 1, _, _, by omega, by go_num, rfl, rfl, HFin.o _ (by omega), hbw⟩
     case measure => simp [intOf]; omega
  ·obtain rfl : k = L.length := by omega
   go_wp2;go_ret2;refine ⟨?_, hbel⟩
   rcases HE.o with h | h
   ·omega
   ·rw [h.1, h.2, Ă]
    rfl
end
section
open Go.RowKit
open Go.Proofs.YtpginkdkblmnbaaGreatDoor.Cl (Rg à Ý Ä)
variable {w w' : World}
theorem ÃO {k lo hi m : Int} {n : Nat} (h : Ü k lo hi m n) : (k = 0 ∨ k = 7 ∨ k = 9) ∨ k = 1 ∨ k = 6 ∨ (k = 2 ∨ k = 5 ∨ k = 8) ∨ k = 3 ∨ k = 4 := by unfold Ü at h; omega
theorem ÀX {nd : Nd} {n : Nat} (hw : Wf nd) (hsz : SizeOf.sizeOf nd ≤ n + 1) : ∀ x ∈ nd.kids, Wf x ∧ SizeOf.sizeOf x ≤ n := fun x hx => by
 obtain ⟨i, hi⟩ := List.mem_iff_getElem?.1 hx;have := Ïw hi
 exact ⟨hw.kids x hx, by omega⟩
theorem Ê.kidsV {nd : Nd} {A1 A2 : Option Addr} {p1 p2 : Nat} (h : Ê (fun b => b < w.heap.size) w nd (.slice A1 nd.set.length p1) (.slice A2 nd.kids.length p2)) : ∃ b off, Ài w nd.kids A2 b off ∧ nd.kids.length ≤ 1000000 := by
 obtain ⟨_, _, b, off, he, _, hm, _, _, hk⟩ := h.parts;obtain ⟨rfl, _, rfl⟩ := Value.slice.inj he
 exact ⟨b, off, fun i x hx => hk i x hx, hm⟩
theorem Ĳ (w : World) (cs : Array Value) : Below w.heap.size w (w.alloc (.cells cs 27)) := (ā _ _).alloc (ŋ _) _
set_option maxRecDepth 100000 in
set_option maxHeartbeats 2000000 in
theorem ÊC (n : Nat) (ihr : ÍZ n) (ihc : Èd n) : ÅT (n + 1) := by
 intro nd hsz hw w A1 A2 p1 p2 hN;obtain ⟨b, off, hkv, hm⟩ := hN.kidsV;have HW := ħ hw;have HO := ħ (ÀX hw hsz);have HR := ħ ihr;have HC := ħ ihc;have hkd := ÃO hw.shape;obtain ⟨k, hk⟩ : ∃ k, k = nd.kind := ⟨_, rfl⟩;rw [← hk] at hkd ⊢;have hk' := hk.symm;have HB0 := ħ (Blk.new w 27 #[.int .i64 k, .int .i64 nd.lo, .int .i64 nd.hi, .int .i64 nd.mode, .int .i64 nd.ref, .slice A1 nd.set.length p1, .slice A2 nd.kids.length p2]);have hb0 := Ĳ w #[.int .i64 k, .int .i64 nd.lo, .int .i64 nd.hi, .int .i64 nd.mode, .int .i64 nd.ref, .slice A1 nd.set.length p1, .slice A2 nd.kids.length p2];have HV := ħ (hkv.on hb0);clear hkv hN ihr ihc hw hsz hk
 rcases hkd with h | rfl | rfl | h | rfl | rfl
 ·rcases h with rfl | rfl | rfl
  ·have e := Àh (nd := nd) (by omega) (by omega) (by omega) (by omega) (by omega) (by omega) (by omega)
   rw [e.1, e.2];have HK' := ħ hk';clear e hk';go_enter Tryz.func10, Tryz.ntmps10
   go_upto_region 1 with (fail)
   have h7 := HB0.o.c7;generalize w.alloc (.cells #[.int .i64 0, .int .i64 nd.lo, .int .i64 nd.hi, .int .i64 nd.mode, .int .i64 nd.ref, .slice A1 nd.set.length p1, .slice A2 nd.kids.length p2] 27) = W at *;go_wp2;go_ret2;exact ⟨rfl, hb0⟩
  ·have e := Àh (nd := nd) (by omega) (by omega) (by omega) (by omega) (by omega) (by omega) (by omega)
   rw [e.1, e.2];have HK' := ħ hk';clear e hk';go_enter Tryz.func10, Tryz.ntmps10
   go_upto_region 1 with (fail)
   have h7 := HB0.o.c7;generalize w.alloc (.cells #[.int .i64 7, .int .i64 nd.lo, .int .i64 nd.hi, .int .i64 nd.mode, .int .i64 nd.ref, .slice A1 nd.set.length p1, .slice A2 nd.kids.length p2] 27) = W at *;go_wp2;go_ret2;exact ⟨rfl, hb0⟩
  ·have e := Àh (nd := nd) (by omega) (by omega) (by omega) (by omega) (by omega) (by omega) (by omega)
   rw [e.1, e.2];have HK' := ħ hk';clear e hk';go_enter Tryz.func10, Tryz.ntmps10
   go_upto_region 1 with (fail)
   have h7 := HB0.o.c7;generalize w.alloc (.cells #[.int .i64 9, .int .i64 nd.lo, .int .i64 nd.hi, .int .i64 nd.mode, .int .i64 nd.ref, .slice A1 nd.set.length p1, .slice A2 nd.kids.length p2] 27) = W at *;go_wp2;go_ret2;exact ⟨rfl, hb0⟩
 ·have e := ÅP hk'
  rw [e.1, e.2];have HK' := ħ hk';clear e hk';go_enter Tryz.func10, Tryz.ntmps10
  go_upto_region 1 with (fail)
  have h7 := HB0.o.c7;generalize w.alloc (.cells #[.int .i64 1, .int .i64 nd.lo, .int .i64 nd.hi, .int .i64 nd.mode, .int .i64 nd.ref, .slice A1 nd.set.length p1, .slice A2 nd.kids.length p2] 27) = W at *;go_wp2;go_ret2;exact ⟨rfl, hb0⟩
 ·have e := ÄO hk'
  rw [e.1, e.2];have HK' := ħ hk';clear e hk';go_enter Tryz.func10, Tryz.ntmps10
  go_upto_region 1 with (fail)
  have h7 := HB0.o.c7;generalize w.alloc (.cells #[.int .i64 6, .int .i64 nd.lo, .int .i64 nd.hi, .int .i64 nd.mode, .int .i64 nd.ref, .slice A1 nd.set.length p1, .slice A2 nd.kids.length p2] 27) = W at *;go_wp2;go_ret2;exact ⟨rfl, hb0⟩
 ·rcases h with rfl | rfl | rfl
  ·have e := ÀB HW.o (by omega)
   rw [e.1, e.2];have HK' := ħ hk';clear e hk';go_enter Tryz.func10, Tryz.ntmps10
   go_upto_region 1 with (fail)
   have h7 := HB0.o.c7;generalize w.alloc (.cells #[.int .i64 2, .int .i64 nd.lo, .int .i64 nd.hi, .int .i64 nd.mode, .int .i64 nd.ref, .slice A1 nd.set.length p1, .slice A2 nd.kids.length p2] 27) = W at *
   go_wp2_with fail
   refine (HR.o nd.kids HO.o hm W A2 p2 b off HV.o).mono ?_;rintro e w1 ⟨rfl, hb1⟩;have hbw := hb0.trans (hb1.mono hb0.size);go_wp2;go_ret2;exact ⟨rfl, hbw⟩
  ·have e := ÀB HW.o (by omega)
   rw [e.1, e.2];have HK' := ħ hk';clear e hk';go_enter Tryz.func10, Tryz.ntmps10
   go_upto_region 1 with (fail)
   have h7 := HB0.o.c7;generalize w.alloc (.cells #[.int .i64 5, .int .i64 nd.lo, .int .i64 nd.hi, .int .i64 nd.mode, .int .i64 nd.ref, .slice A1 nd.set.length p1, .slice A2 nd.kids.length p2] 27) = W at *
   go_wp2_with fail
   refine (HR.o nd.kids HO.o hm W A2 p2 b off HV.o).mono ?_;rintro e w1 ⟨rfl, hb1⟩;have hbw := hb0.trans (hb1.mono hb0.size);go_wp2;go_ret2;exact ⟨rfl, hbw⟩
  ·have e := ÀB HW.o (by omega)
   rw [e.1, e.2];have HK' := ħ hk';clear e hk';go_enter Tryz.func10, Tryz.ntmps10
   go_upto_region 1 with (fail)
   have h7 := HB0.o.c7;generalize w.alloc (.cells #[.int .i64 8, .int .i64 nd.lo, .int .i64 nd.hi, .int .i64 nd.mode, .int .i64 nd.ref, .slice A1 nd.set.length p1, .slice A2 nd.kids.length p2] 27) = W at *
   go_wp2_with fail
   refine (HR.o nd.kids HO.o hm W A2 p2 b off HV.o).mono ?_;rintro e w1 ⟨rfl, hb1⟩;have hbw := hb0.trans (hb1.mono hb0.size);go_wp2;go_ret2;exact ⟨rfl, hbw⟩
 ·have hne : nd.kids ≠ [] := by
   have hs := HW.o.shape;rw [hk'] at hs;intro h0;rw [h0] at hs;unfold Ü at hs;simp at hs
  have HNE := ħ hne;clear hne;have e := ÅQ HW.o hk';rw [e.1, e.2];have HK' := ħ hk';clear e hk';go_enter Tryz.func10, Tryz.ntmps10
  go_upto_region 1 with (fail)
  have h7 := HB0.o.c7;generalize w.alloc (.cells #[.int .i64 3, .int .i64 nd.lo, .int .i64 nd.hi, .int .i64 nd.mode, .int .i64 nd.ref, .slice A1 nd.set.length p1, .slice A2 nd.kids.length p2] 27) = W at *
  go_wp2_with fail
  refine (HC.o nd.kids HO.o HNE.o hm W A2 p2 b off HV.o).mono ?_;rintro e w1 ⟨rfl, hb1⟩;have hbw := hb0.trans (hb1.mono hb0.size);go_wp2;go_ret2;exact ⟨rfl, hbw⟩
 ·obtain ⟨e1, e2, g1, g2, g3, g4⟩ := ÅR HW.o hk'
  rw [e1, e2];have hr1 := ÄI HW.o.kids;have hr2 := Âv (l := nd.kids);unfold far at hr1 hr2;obtain ⟨r1, r2⟩ := hr1;obtain ⟨r3, r4⟩ := hr2;have q0 : 0 ≤ nd.lo * û nd.kids := Int.mul_nonneg g1 r1
  have q1 : nd.lo * û nd.kids ≤ 64 * 1048576 := Int.mul_le_mul g2 r2 r1 (by omega)
  have hwr : IntKind.i64.wrap (nd.lo * û nd.kids) = nd.lo * û nd.kids := IntWalk.i64_in _ (by omega)
  have HRow := ħ (fun W (hW : Ài W nd.kids A2 b off) => HR.o nd.kids HO.o hm W A2 p2 b off hW)
  have HK' := ħ hk';clear e1 e2 hk';generalize û nd.kids = ls at *;generalize ê nd.kids = hs at *;go_enter Tryz.func10, Tryz.ntmps10
  go_upto_region 1 with (fail)
  have h7 := HB0.o.c7;generalize w.alloc (.cells #[.int .i64 4, .int .i64 nd.lo, .int .i64 nd.hi, .int .i64 nd.mode, .int .i64 nd.ref, .slice A1 nd.set.length p1, .slice A2 nd.kids.length p2] 27) = W at *
  go_wp2_with fail
  refine (HRow.o W HV.o).mono ?_;rintro e w1 ⟨rfl, hb1⟩;have hbw := hb0.trans (hb1.mono hb0.size);have h77 := (HB0.o.on hb1).c7;clear h7
  go_upto_region 14 with (fail)
  go_quiet (first | (go_at_call 38; exact Calls.quiet_of_same ((ň _).mono fun _ _ h => ⟨h.1, h.2.symm⟩)) | (go_at_call 39; exact Calls.quiet_of_same ((Èc _ _ ⟨g3, g4⟩ ⟨r3, r4⟩).mono fun _ _ h => ⟨h.1, h.2.symm⟩)))
  go_wp2;go_ret2;exact ⟨rfl, below_drewN hbw _⟩
theorem ÊD (n : Nat) : ÅT n ∧ ÍZ n ∧ Èd n := by
 induction n with
 | zero =>
  have h : ÅT 0 := by
   intro nd h
   cases nd with
   | mk a b c d e f g => simp only [Nd.mk.sizeOf_spec] at h; omega
  exact ⟨h, Çj 0 h, ÄP 0 h⟩
 | succ n ih =>
  have h := ÊC n ih.2.1 ih.2.2;exact ⟨h, Çj _ h, ÄP _ h⟩
theorem ÃP (L : List Nd) (hw : ∀ x ∈ L, Wf x) (hm : L.length ≤ 1000000) (w : World) (A : Option Addr) (p b off : Nat) (h : Ài w L A b off) :
 Calls Tryz.prog 36 #[.slice A L.length p] w fun e w' => e = .returned (.tuple #[.int .i64 (û L), .int .i64 (ê L)]) ∧ Below w.heap.size w w' :=
 (ÊD (SizeOf.sizeOf L)).2.1 L (fun x hx => ⟨hw x hx, Nat.le_of_lt (List.sizeOf_lt_of_mem hx)⟩) hm w A p b off h
end
end Go.Proofs.YtpginkdkblmnbaaGreatDoor
