import Derived.Test.YtpginkdkblmnbaaGreatDoorWMQv
import Derived.Test.YtpginkdkblmnbaaGreatDoorWMRf
namespace Go.Proofs.YtpginkdkblmnbaaGreatDoor
section
open Go.RowKit Go.Shelf
open Go.Proofs.YtpginkdkblmnbaaGreatDoor.Cl (Rg à Ý Ä ò Î Á)
variable {w w' w0 : World} {E : RE}
theorem ÆH (A : Option Addr) (len cap : Nat) (s : List UInt8) (hl : len = s.length) (k : Nat) (hk : k < len) (hmax : len ≤ 1000000) (w : World) (n₀ : Nat) (h : ķ n₀ w (.slice A len cap) s) :
 Calls Tryz.prog 60 #[.slice A len cap, .int .i64 k] w fun e w' =>
  e = .returned (.tuple #[.int .i64 (nx (s.drop k)).1, .int .i64 (nx (s.drop k)).2]) ∧ Below w.heap.size w w' := by
 obtain ⟨A', cap', hv, hc, h⟩ := h
 obtain ⟨rfl, rfl⟩ : A = A' ∧ cap = cap' := by rw [hl] at hv; simpa using hv
 obtain ⟨b, off, rfl, _, ht⟩ := h (fun e => by rw [e] at hl; simp at hl; omega)
 exact ËC s b off cap len k hl hk (by omega) hmax w ht
structure NwF (rb : Nat) (w w' : World) : Prop where
 os : w'.os = w.os
 tape : w'.tape = w.tape
 output : w'.output = w.output
 size : w.heap.size ≤ w'.heap.size
 block : ∀ i, i < w.heap.size → i ≠ rb → w'.heap[i]? = w.heap[i]?
theorem NwF.refl {rb : Nat} (w : World) : NwF rb w w := ⟨rfl, rfl, rfl, ŋ _, fun _ _ _ => rfl⟩
theorem NwF.on {rb : Nat} {w w' w'' : World} (h : NwF rb w w') (hb : Below w'.heap.size w' w'') : NwF rb w w'' :=
 ⟨hb.os.trans h.os, hb.tape.trans h.tape, hb.output.trans h.output, ē h.size hb.size, fun i hi hn => (hb.block i (Ć hi h.size)).trans (h.block i hi hn)⟩
theorem NwF.grown {rb : Nat} {w w' w'' : World} {row : Option Nat} (h : NwF rb w w') (hg : w'.grownBy w'' row) (hr : ∀ k, row = some k → w.heap.size ≤ k) : NwF rb w w'' :=
 ⟨hg.os.trans h.os, hg.tape.trans h.tape, hg.output.trans h.output, ē h.size hg.size, fun i hi hn => (hg.block i (Ć hi h.size) (fun e => by have := hr i e.symm; omega)).trans (h.block i hi hn)⟩
theorem NwF.set_ {rb : Nat} {w w' : World} (h : NwF rb w w') (j : Nat) (u : Value) : NwF rb w (w'.setCell ⟨rb, j, none⟩ u) :=
 ⟨h.os, h.tape, h.output, by simpa [World.setCell] using h.size, fun i hi hn => (Below.heap_setCell _ _ _ _ hn).trans (h.block i hi hn)⟩
theorem NwF.bytes {rb bb : Nat} {w w' : World} {s : List UInt8} (h : NwF rb w w') (hn : bb < w.heap.size) (hne : bb ≠ rb) {off cap : Nat} (hc : s.length ≤ cap) (ht : Txt w bb off s) : ķ w'.heap.size w' (.slice (some ⟨bb, off, none⟩) s.length cap) s :=
 ⟨_, _, rfl, hc, fun _ => ⟨bb, off, rfl, Ć hn h.size, fun j hj => (Ì (h.block bb hn hne) _).trans (ht j hj)⟩⟩
theorem NwF.bytesV {rb n₀ : Nat} {w w' : World} {v : Value} {s : List UInt8} (h : NwF rb w w') (hb : ķ n₀ w v s) (hn : n₀ ≤ w.heap.size) (hrb : v.ownBlock ≠ some rb) : ķ w'.heap.size w' v s := by
 obtain ⟨A, cap, rfl, hc, hx⟩ := hb
 refine ⟨A, cap, rfl, hc, fun hs => ?_⟩
 obtain ⟨b, off, rfl, hb, ht⟩ := hx hs
 exact ⟨b, off, rfl, by have := h.size; omega, fun j hj => (Ì (h.block b (by omega) (fun e => hrb (by rw [← e]; rfl))) _).trans (ht j hj)⟩
structure NwR (rb base L : Nat) (l1 l2 : List Nat) (V1 V2 : Value) (w : World) : Prop where
 blk : Blk w rb 91 #[V1, V2, .int .i64 0, .int .i64 0, .int .i64 0, .slice none 0 0, .int .i64 0, .int .i64 0, .bool false, .int .i64 (L : Nat)]
 o1 : w.ownsRow base 3 1 V1 l1.length (Åf l1)
 o2 : w.ownsRow base 3 1 V2 l2.length (Åf l2)
 apart : ∀ k, V1.ownBlock = some k → V2.ownBlock ≠ some k
 lt : rb < base
section
variable {rb base L u : Nat} {l1 l2 : List Nat} {V1 V2 V' : Value} {o : Obj} {w3 : World}
theorem NwR.on (h : NwR rb base L l1 l2 V1 V2 w) (hb : Below w.heap.size w w') : NwR rb base L l1 l2 V1 V2 w' :=
 ⟨h.blk.on hb, Þ h.o1 fun i hi => hb.block i (World.ownsRow.lt h.o1 i hi.symm).2, Þ h.o2 fun i hi => hb.block i (World.ownsRow.lt h.o2 i hi.symm).2, h.apart, h.lt⟩
theorem NwR.ne1 (h : NwR rb base L l1 l2 V1 V2 w) : some rb ≠ V1.ownBlock := fun e => by have := (World.ownsRow.lt h.o1 rb e.symm).1; have := h.lt; omega
theorem NwR.ne2 (h : NwR rb base L l1 l2 V1 V2 w) : some rb ≠ V2.ownBlock := fun e => by have := (World.ownsRow.lt h.o2 rb e.symm).1; have := h.lt; omega
theorem NwR.one (h : NwR rb base L l1 l2 V1 V2 w) (hg : (w.alloc o).grownBy w3 V1.ownBlock) (ho : w3.ownsRow base 3 1 V' (l1.length + 1) (Åf l1 ++ [.int .i64 (u : Nat)])) (hw : V'.ownBlock = V1.ownBlock ∨ V'.ownBlock = some (w.alloc o).heap.size) :
 NwR rb base L (l1 ++ [u]) l2 V' V2 (w3.setCell ⟨rb, 0, none⟩ V') := by
 have hal := h.on ((ā w.heap.size w).alloc (ŋ _) o)
 have hf : ∀ i, i ≠ rb → (w3.setCell ⟨rb, 0, none⟩ V').heap[i]? = w3.heap[i]? := fun i hi => Below.heap_setCell _ _ _ _ hi
 have hr : ∀ k, V'.ownBlock = some k → k ≠ rb := fun k hk e => by have := (World.ownsRow.lt ho k hk).1; have := h.lt; omega
 refine ⟨?_, ?_, ?_, ?_, h.lt⟩
 ·exact (hal.blk.grown hg hal.ne1).set_ 0 V'
 ·have := Þ ho (w' := w3.setCell ⟨rb, 0, none⟩ V') fun i hi => hf i (hr i hi.symm)
  rw [Çg, ă];exact this
 ·refine Þ (w := w.alloc o) hal.o2 fun i hi => (hf i (fun e => hal.ne2 (e ▸ hi))).trans (hg.block i (World.ownsRow.lt hal.o2 i hi.symm).2 fun e => hal.apart i e.symm hi.symm)
 ·intro k hk e
  rcases hw with e2 | e2
  ·exact h.apart k (e2 ▸ hk) e
  ·have h1 := (World.ownsRow.lt hal.o2 k e).2
   rw [hk] at e2
   injection e2 with e2
   omega
theorem NwR.two (h : NwR rb base L l1 l2 V1 V2 w) (hg : (w.alloc o).grownBy w3 V2.ownBlock) (ho : w3.ownsRow base 3 1 V' (l2.length + 1) (Åf l2 ++ [.int .i64 (u : Nat)])) (hw : V'.ownBlock = V2.ownBlock ∨ V'.ownBlock = some (w.alloc o).heap.size) :
 NwR rb base L l1 (l2 ++ [u]) V1 V' (w3.setCell ⟨rb, 1, none⟩ V') := by
 have hal := h.on ((ā w.heap.size w).alloc (ŋ _) o)
 have hf : ∀ i, i ≠ rb → (w3.setCell ⟨rb, 1, none⟩ V').heap[i]? = w3.heap[i]? := fun i hi => Below.heap_setCell _ _ _ _ hi
 have hr : ∀ k, V'.ownBlock = some k → k ≠ rb := fun k hk e => by have := (World.ownsRow.lt ho k hk).1; have := h.lt; omega
 refine ⟨?_, ?_, ?_, ?_, h.lt⟩
 ·exact (hal.blk.grown hg hal.ne2).set_ 1 V'
 ·refine Þ (w := w.alloc o) hal.o1 fun i hi => (hf i (fun e => hal.ne1 (e ▸ hi))).trans (hg.block i (World.ownsRow.lt hal.o1 i hi.symm).2 fun e => hal.apart i hi.symm e.symm)
 ·have := Þ ho (w' := w3.setCell ⟨rb, 1, none⟩ V') fun i hi => hf i (hr i hi.symm)
  rw [Çg, ă];exact this
 ·intro k hk e
  rcases hw with e2 | e2
  ·exact h.apart k hk (e2 ▸ e)
  ·have h1 := (World.ownsRow.lt hal.o1 k hk).2
   rw [e] at e2
   injection e2 with e2
   omega
theorem NwR.cells (h : NwR rb base L l1 l2 V1 V2 w) : w.cell? ⟨rb, 0, none⟩ = some V1 ∧ w.cell? ⟨rb, 1, none⟩ = some V2 := ⟨h.blk.cell 0, h.blk.cell 1⟩
end
set_option maxHeartbeats 4000000 in
set_option maxRecDepth 100000 in
theorem Ðl (s : List UInt8) (hmax : s.length ≤ 256) (w : World) :
 Calls Tryz.prog 32 #[.string ⟨s.toArray⟩] w fun e w' => ∃ V1 V2, e = .returned (.pointer (some ⟨w.heap.size, 0, none⟩)) ∧ NwR w.heap.size (w.heap.size + 2) s.length (un s) (ats 0 s) V1 V2 w' ∧ NwF w.heap.size w w' ∧ (∃ cs z, w'.heap[w.heap.size + 1]? = some (.cells cs 5 z)) := by
 obtain ⟨j0, gi, gz0, gz1, gz2⟩ := info_parts Ãf;have kc := Æe;go_enter Tryz.func32, Tryz.ntmps32
 go_upto_region 4 with (fail)
 have hB1 := ÀC (w.alloc (.cells #[.slice none 0 0, .slice none 0 0, .int .i64 0, .int .i64 0, .int .i64 0, .slice none 0 0, .int .i64 0, .int .i64 0, .bool false, .int .i64 (s.length : Nat)] 91)) ⟨s.toArray⟩;have hB0 : Below w.heap.size w (w.alloc (.cells #[.slice none 0 0, .slice none 0 0, .int .i64 0, .int .i64 0, .int .i64 0, .slice none 0 0, .int .i64 0, .int .i64 0, .bool false, .int .i64 (s.length : Nat)] 91)) := (ā _ _).alloc (ŋ _) _;have hRb0 : Blk (w.alloc (.cells #[.slice none 0 0, .slice none 0 0, .int .i64 0, .int .i64 0, .int .i64 0, .slice none 0 0, .int .i64 0, .int .i64 0, .bool false, .int .i64 (s.length : Nat)] 91)) w.heap.size 91 #[.slice none 0 0, .slice none 0 0, .int .i64 0, .int .i64 0, .int .i64 0, .slice none 0 0, .int .i64 0, .int .i64 0, .bool false, .int .i64 (s.length : Nat)] := Blk.new _ _ _;have hBy := Æf (w.alloc (.cells #[.slice none 0 0, .slice none 0 0, .int .i64 0, .int .i64 0, .int .i64 0, .slice none 0 0, .int .i64 0, .int .i64 0, .bool false, .int .i64 (s.length : Nat)] 91)) s;have hsz := Lib.bytesWorld_size (w.alloc (.cells #[.slice none 0 0, .slice none 0 0, .int .i64 0, .int .i64 0, .int .i64 0, .slice none 0 0, .int .i64 0, .int .i64 0, .bool false, .int .i64 (s.length : Nat)] 91)) 5 ⟨s.toArray⟩;have hnw := Lib.bytesWorld_at_new (w.alloc (.cells #[.slice none 0 0, .slice none 0 0, .int .i64 0, .int .i64 0, .int .i64 0, .slice none 0 0, .int .i64 0, .int .i64 0, .bool false, .int .i64 (s.length : Nat)] 91)) 5 ⟨s.toArray⟩
 have hs1 : (w.alloc (.cells #[.slice none 0 0, .slice none 0 0, .int .i64 0, .int .i64 0, .int .i64 0, .slice none 0 0, .int .i64 0, .int .i64 0, .bool false, .int .i64 (s.length : Nat)] 91)).heap.size = w.heap.size + 1 := by simp
 rw [hs1] at hBy hnw hsz;have hRb := hRb0.on hB1
 have hF0 : NwF w.heap.size w (w.alloc (.cells #[.slice none 0 0, .slice none 0 0, .int .i64 0, .int .i64 0, .int .i64 0, .slice none 0 0, .int .i64 0, .int .i64 0, .bool false, .int .i64 (s.length : Nat)] 91)) := NwF.refl (w) |>.on hB0
 have hF1 := hF0.on hB1;clear hRb0 hF0;generalize grownCap _ _ _ _ = bc at *;generalize Lib.bytesWorld _ _ _ = w1 at *
 have hb2 : w.heap.size + 1 + 1 = w1.heap.size := by rw [hsz]
 have HBy : Hid (∀ wr, NwF w.heap.size w1 wr → ķ wr.heap.size wr (.slice (some ⟨w.heap.size + 1, 0, none⟩) s.length bc) s) := ħ (fun wr h => h.bytesV hBy (Nat.le_of_eq hb2) (by simp [Value.ownBlock]))
 have HR1 : Hid (NwR w.heap.size (w.heap.size + 2) s.length [] [] (.slice none 0 0) (.slice none 0 0) w1) := ħ ⟨hRb, World.ownsRow_nil _ _ _ _, World.ownsRow_nil _ _ _ _, by intro k hk; simp [Value.ownBlock] at hk, by omega⟩
 have HN1 := ħ hnw;have HF1 := ħ hF1;have HSz := ħ hsz;obtain ⟨rb, hrbe⟩ : ∃ rb, rb = w.heap.size := ⟨_, rfl⟩;obtain ⟨L, hL⟩ : ∃ L, L = s.length := ⟨_, rfl⟩;rw [← hrbe] at HBy HR1 HN1 HF1 HSz;rw [← hrbe, ← hL];rw [← hL] at hmax HBy HR1;have HRb := ħ hrbe;have HL := ħ hL;clear hrbe hL hb2 hnw hF1 hsz hRb hBy hB1 hB0 hs1 kc
 go_loopw [5] (fun i wr => ∃ (k : Nat) (pre pa : List Nat) (V1 V2 : Value), i = .int .i64 k ∧ k ≤ L ∧ Hid (un s = pre ++ un (s.drop k)) ∧ Hid (ats 0 s = pa ++ ats k (s.drop k)) ∧ Hid (NwR rb (rb + 2) L pre pa V1 V2 wr) ∧ Hid (NwF rb w1 wr)) (fun i _ => L - (intOf i).toNat)
 case atStart => exact ⟨0, [], [], _, _, rfl, Ą _, ħ rfl, ħ rfl, HR1, ħ (NwF.refl _)⟩
 case round =>
  obtain ⟨k, pre, pa, V1, V2, rfl, hk, HU, HA, HR, HF⟩ := hrel
  by_cases hlt : k < L
  ·have hne : s.drop k ≠ [] := fun e => by have := congrArg List.length e; rw [ċ, Ď, ← HL.o] at this; omega
   have hstep := ÀT (s.drop k) hne;have hast := ÂI k (s.drop k) hne;have hz := ÁJ (s.drop k) hne;rw [ċ, ← HL.o] at hz
   have hnext := ÆH _ L bc s HL.o k hlt (by omega) wr _ (HBy.o wr HF.o)
   obtain ⟨u, z, huz⟩ : ∃ u z, nx (s.drop k) = (u, z) := ⟨_, _, rfl⟩;rw [huz] at hnext hstep hz hast;simp only at hnext hstep hz hast;rw [List.drop_drop] at hstep hast
   have hpl : pre.length < L := by
    have h2 := congrArg List.length HU.o;have h3 := Ìi s;rw [ă, hstep, ć] at h2;have := HL.o;omega
   have hpa : pa.length < L := by
    have h2 := congrArg List.length HA.o;have h3 := Ìi s;rw [Äa, ă, hast, ć] at h2;have := HL.o;omega
   have HU2 : Hid (un s = (pre ++ [u]) ++ un (s.drop (k + z))) := ħ (by rw [HU.o, hstep]; simp)
   have HA2 : Hid (ats 0 s = (pa ++ [k]) ++ ats (k + z) (s.drop (k + z))) := ħ (by rw [HA.o, hast]; simp)
   obtain ⟨hz1, hz4, hzl⟩ := hz
   have hzl' : z ≤ L - k := by omega
   have HN := ħ hnext;clear hnext hstep hast huz hne hzl HU HA
   go_upto_region 6 with (go_at_call 60; refine HN.o.mono ?_; rintro e w2 ⟨rfl, hB2⟩; have HR2 := ħ (HR.o.on hB2); have HF2 := ħ (HF.o.on hB2); clear hB2)
   have HZ1 := ħ hz1;clear HR HF HN hz1 hz4;obtain ⟨c0, c1⟩ := HR2.o.cells;have hrl := HR2.o.blk.lt;have hb6 := HF2.o.size;have hs1 := HSz.o
   have hpm : pre.length + 1 ≤ maxLen := by unfold maxLen; omega
   have hpb : (pre.length + 1) * 8 ≤ 140737488355328 := by omega
   have hbs : rb + 2 ≤ w2.heap.size := by omega
   go_upto_region 7 with (at_builtin; (refine ÿ rfl (.tmp 28) (.tmp 30) 61 rfl (rb + 2) 3 j0 (.int .i64 0) 1 8 Tryz.underlying61 gi gz0 gz1 gz2 rfl (by decide) V1 pre.length (Åf pre) rfl (Þ HR2.o.o1 fun i hi => Below.heap_alloc _ _ i (World.ownsRow.lt HR2.o.o1 i hi.symm).2) ⟨w2.heap.size, 0, none⟩ 1 1 [.int .i64 (u : Nat)] rfl rfl (fun j y hy => ÂY w2 #[.int .i64 (u : Nat)] 3 j y (by simpa using hy)) (by intro y hy; rw [List.mem_singleton.1 hy]; rfl) hpm hpb (by simp; omega) ?_); intro V3 w3 ho3 hg3 hw3; obtain ⟨g3, p3, hv3, _⟩ := ho3.form (Nat.succ_pos _); subst hv3; have HO3 := ħ ho3; have HG3 := ħ hg3; have HW3 := ħ hw3; have hz3 := (HR2.o.on ((ā _ _).alloc (ŋ _) (.cells #[.int .i64 (u : Nat)] 3))).blk.grown hg3 (HR2.o.ne1); have d0 := hz3.cell 0; have f0 := hz3.frozen 0; have l0 := hz3.lt; clear ho3 hg3 hw3 c0 c1)
   have HR3 := ħ (HR2.o.one (V' := .slice (some ⟨g3, 0, none⟩) (pre.length + 1) p3) (u := u) HG3.o HO3.o HW3.o)
   have HF3 := ħ (((HF2.o.on ((ā _ _).alloc (ŋ _) (.cells #[.int .i64 (u : Nat)] 3))).grown HG3.o (fun k hk => by have := (World.ownsRow.lt HR2.o.o1 k hk).1; have := HSz.o; omega)).set_ 0 (.slice (some ⟨g3, 0, none⟩) (pre.length + 1) p3))
   clear hz3 d0 f0 l0 HO3 HG3 HW3 HR2 HF2 hb6 hbs hrl hpm hpb;generalize w3.setCell _ _ = w4 at *;obtain ⟨c0, c1⟩ := HR3.o.cells;have hrl := HR3.o.blk.lt;have hb6 := HF3.o.size
   have hpm : pa.length + 1 ≤ maxLen := by unfold maxLen; omega
   have hpb : (pa.length + 1) * 8 ≤ 140737488355328 := by omega
   have hbs : rb + 2 ≤ w4.heap.size := by omega
   go_upto_region 8 with (at_builtin; (refine ÿ rfl (.tmp 38) (.tmp 40) 61 rfl (rb + 2) 3 j0 (.int .i64 0) 1 8 Tryz.underlying61 gi gz0 gz1 gz2 rfl (by decide) V2 pa.length (Åf pa) rfl (Þ HR3.o.o2 fun i hi => Below.heap_alloc _ _ i (World.ownsRow.lt HR3.o.o2 i hi.symm).2) ⟨w4.heap.size, 0, none⟩ 1 1 [.int .i64 (k : Nat)] rfl rfl (fun j y hy => ÂY w4 #[.int .i64 (k : Nat)] 3 j y (by simpa using hy)) (by intro y hy; rw [List.mem_singleton.1 hy]; rfl) hpm hpb (by simp; omega) ?_); intro V5 w5 ho5 hg5 hw5; obtain ⟨g5, p5, hv5, _⟩ := ho5.form (Nat.succ_pos _); subst hv5; have HO5 := ħ ho5; have HG5 := ħ hg5; have HW5 := ħ hw5; have hz5 := (HR3.o.on ((ā _ _).alloc (ŋ _) (.cells #[.int .i64 (k : Nat)] 3))).blk.grown hg5 (HR3.o.ne2); have d1 := hz5.cell 1; have f1 := hz5.frozen 1; have l1 := hz5.lt; clear ho5 hg5 hw5 c0 c1)
   have HR5 := ħ (HR3.o.two (V' := .slice (some ⟨g5, 0, none⟩) (pa.length + 1) p5) (u := k) HG5.o HO5.o HW5.o)
   have HF5 := ħ (((HF3.o.on ((ā _ _).alloc (ŋ _) (.cells #[.int .i64 (k : Nat)] 3))).grown HG5.o (fun k hk => by have := (World.ownsRow.lt HR3.o.o2 k hk).1; have := HSz.o; omega)).set_ 1 (.slice (some ⟨g5, 0, none⟩) (pa.length + 1) p5))
   clear hz5 d1 f1 l1 HO5 HG5 HW5 HR3 HF3 hb6 hbs hrl hpm hpb;generalize w5.setCell _ _ = w6 at *;go_wp2;go_roundw
   case rel => exact ⟨k + z, pre ++ [u], pa ++ [k], _, _, by go_num, by omega, HU2, HA2, HR5, HF5⟩
   case measure => have := HZ1.o; simp [intOf]; omega
  ·obtain rfl : k = L := by omega
   have e1 : un s = pre := by rw [HU.o, HL.o, List.drop_length, Äh, List.append_nil]
   have e2 : ats 0 s = pa := by rw [HA.o, HL.o, List.drop_length, Ìg, List.append_nil]
   have HR2 : Hid (NwR rb (rb + 2) s.length (un s) (ats 0 s) V1 V2 wr) := ħ (by rw [e1, e2, ← HL.o]; exact HR.o)
   have HF2 : Hid (NwF w.heap.size w wr) := ħ (by
    have h1 := HF1.o;have h2 := HF.o;have e := HRb.o;subst e
    exact ⟨h2.os.trans h1.os, h2.tape.trans h1.tape, h2.output.trans h1.output, ē h1.size h2.size, fun i hi hn => (h2.block i (Ć hi h1.size) hn).trans (h1.block i hi hn)⟩)
   have HN2 : Hid (∃ cs z, wr.heap[rb + 1]? = some (.cells cs 5 z)) := ħ ⟨_, _, (HF.o.block (rb + 1) (by rw [HSz.o]; omega) (by omega)).trans HN1.o⟩
   clear e1 e2 HU HA HR HF HN1 HF1;go_wp2;go_ret
   exact ⟨V1, V2, by rw [HRb.o]; rfl, by rw [← HRb.o]; exact HR2.o, HF2.o, by rw [← HRb.o]; exact HN2.o⟩
end
section
open Go.RowKit Go.Shelf
variable {w w' w0 : World} {E : RE}
theorem ÇL {base bb : Nat} {V : Value} {l : List Nat} (ho : w.ownsRow base 3 1 V l.length (Åf l)) (hbb : ∃ cs z, w.heap[bb]? = some (.cells cs 5 z)) :
 ∃ A b cap, V = .slice A l.length cap ∧ l.length ≤ cap ∧ (∀ i u, l[i]? = some u → A = some ⟨b, 0, none⟩ ∧ b < w.heap.size ∧ w.cell? ⟨b, i, none⟩ = some (.int .i64 (u : Nat))) ∧ (b = bb ∨ base ≤ b) ∧
  (∃ cs t z, w.heap[b]? = some (.cells cs t z) ∧ t ≠ 93 ∧ t ≠ 38) := by
 rcases ho.2 with ⟨rfl, hn⟩ | ⟨g, cap, cur, rfl, hb, hh, hle, _, hsz, htk⟩
 ·obtain ⟨cs, z, h⟩ := hbb
  refine ⟨none, bb, 0, by rw [hn], by omega, fun i u hu => ?_, .inl rfl, cs, _, z, h, by decide, by decide⟩
  rw [ď hn] at hu;simp at hu
 ·refine ⟨some ⟨g, 0, none⟩, g, cap, rfl, hle, fun i u hu => ⟨rfl, ä hh, ?_⟩, .inr hb, cur, _, _, hh, by decide, by decide⟩
  have hi : i < l.length := by
   rcases Nat.lt_or_ge i l.length with h | h
   ·exact h
   ·rw [List.getElem?_eq_none h] at hu; cases hu
  rw [cell_of_row w g i cur _ _ hh]
  have h1 : (cur.toList.take (l.length * 1))[i]? = (Åf l)[i]? := by rw [htk]
  rw [List.getElem?_take, if_pos (by omega)] at h1
  rw [← Array.getElem?_toList, h1];simp [Åf, hu]
def st0 (s : List UInt8) : St := { pos := 0, t := s, g := 0, bk := [] }
theorem ÐZ (s : List UInt8) (hmax : s.length ≤ 256) (w : World) :
 Calls Tryz.prog 32 #[.string ⟨s.toArray⟩] w fun e w' => ∃ E : RE, E.s = s ∧ E.rb = w.heap.size ∧ E.n₀ = w.heap.size ∧ e = .returned (.pointer (some ⟨E.rb, 0, none⟩)) ∧ Gd E w' (st0 s) 0 (.slice none 0 0) 0 [] ∧ Below w.heap.size w w' := by
 refine (Ðl s hmax w).mono ?_;rintro e w' ⟨V1, V2, rfl, hR, hF, hbb⟩;obtain ⟨A1, b1, c1, hv1, hc1, hu1, hb1, ht1⟩ := ÇL hR.o1 hbb;obtain ⟨A2, b2, c2, hv2, hc2, hu2, hb2, ht2⟩ := ÇL hR.o2 hbb;rw [Äa] at hv2 hc2;have hb := hR.blk;rw [hv1, hv2] at hb;have hN := Ìi s
 refine ⟨⟨w.heap.size, w.heap.size, A1, A2, b1, b2, c1, c2, s⟩, rfl, rfl, rfl, rfl, ⟨⟨hb, ⟨hmax, hc1, hc2⟩, hu1, hu2, World.ownsRow_nil _ _ _ _, ?_, ⟨ht1, ht2⟩, by simp [st0]⟩, ⟨rfl, Ą _, rfl, rfl⟩, rfl, ?_, by omega, Ą _, by simp⟩, ⟨hF.os, hF.tape, hF.output, hF.size, fun i hi => hF.block i hi (by omega)⟩⟩
 ·refine ⟨?_, ?_, by simp [Value.ownBlock], by simp [Value.ownBlock], by simp [Value.ownBlock], ŋ _⟩
  ·show b1 ≠ w.heap.size; omega
  ·show b2 ≠ w.heap.size; omega
 ·intro j r b hr; simp at hr
end
section
open Go.RowKit Go.Shelf
open Go.Proofs.YtpginkdkblmnbaaGreatDoor.Cl (Rg à Ý Ä ò Î Á)
variable {w w' w0 : World} {E : RE}
def XPP (n : Nat) (s : List UInt8) (w : World) (e : Ending) (w' : World) : Prop := Below w.heap.size w w' ∧ match ñ n s with
 | .error f => e = .returned (.tuple #[.agg #[.int .i64 0, .int .i64 0, .int .i64 0, .int .i64 0, .int .i64 0, .slice none 0 0, .bool false, .slice none 0 0], .int .i64 0, .bool false, .int .i64 (f.1 : Nat), .int .i64 (f.2 : Nat)])
 | .ok x => ∃ A1 n1 p1 nb A2 p2, e = .returned (.tuple #[.agg #[.int .i64 x.1.kind, .int .i64 x.1.lo, .int .i64 x.1.hi, .int .i64 x.1.mode, .int .i64 x.1.ref, .slice A1 n1 p1, .bool nb, .slice A2 x.1.kids.length p2], .int .i64 (x.2.1 : Nat), .bool x.2.2, .int .i64 0, .int .i64 0]) ∧
  Ó (fun b => w.heap.size ≤ b ∧ b < w'.heap.size) w' x.1 (.slice A1 n1 p1) nb (.slice A2 x.1.kids.length p2)
theorem Êf {l : List (Nat × Nat)} : ∀ {k : Nat} {r : Nat × Nat}, l[k]? = some r → (Àa l)[2 * k]? = some (.int .i64 (r.1 : Nat)) ∧ (Àa l)[2 * k + 1]? = some (.int .i64 (r.2 : Nat)) := by
 induction l with
 | nil => intro k r h; simp at h
 | cons x l ih =>
  intro k r h
  cases k with
  | zero => simp at h; subst h; exact ⟨rfl, rfl⟩
  | succ k =>
   have := ih (k := k) (r := r) (by simpa using h)
   have e : Àa (x :: l) = [.int .i64 (x.1 : Nat), .int .i64 (x.2 : Nat)] ++ Àa l := rfl
   rw [e, show 2 * (k + 1) = 2 * k + 2 by omega, List.getElem?_append_right (by simp), List.getElem?_append_right (by simp)]
   simpa using this
theorem Sv.ref {I g d c p : Nat} {rv : Value} {refs : List (Nat × Nat)} (h : Sv E w I g d c p rv refs) {k : Nat} {r : Nat × Nat} (hk : refs[k]? = some r) : ∃ b cap, rv = .slice (some ⟨b, 0, none⟩) refs.length cap ∧ b < w.heap.size ∧
 w.cell? ⟨b, 2 * k, none⟩ = some (.int .i64 (r.1 : Nat)) ∧ w.cell? ⟨b, 2 * k + 1, none⟩ = some (.int .i64 (r.2 : Nat)) := by
 have hkl : k < refs.length := by
  rcases Nat.lt_or_ge k refs.length with h | h
  ·exact h
  ·rw [List.getElem?_eq_none h] at hk; cases hk
 rcases h.own.2 with ⟨_, hn⟩ | ⟨b, cap, cur, hv, _, hh, _, _, _, htk⟩
 ·omega
 ·obtain ⟨h1, h2⟩ := Êf hk
  refine ⟨b, cap, hv, ä hh, ?_, ?_⟩
  ·rw [cell_of_row w b _ cur _ _ hh, ← Array.getElem?_toList]
   rw [← htk, List.getElem?_take, if_pos (by omega)] at h1
   exact h1
  ·rw [cell_of_row w b _ cur _ _ hh, ← Array.getElem?_toList]
   rw [← htk, List.getElem?_take, if_pos (by omega)] at h2
   exact h2
set_option maxRecDepth 100000 in
set_option maxHeartbeats 1000000 in
theorem ÃD {I g d c p : Nat} {rv : Value} {refs : List (Nat × Nat)} (c' i : Int) (h0 : c ≠ 0) (h : Sv E w I g d c p rv refs) : Calls Tryz.prog 35 #[.pointer (some ⟨E.rb, 0, none⟩), .int .i64 c', .int .i64 i] w fun e w' => e = .returned (.tuple #[]) ∧ FrR E w rv w' rv ∧ Sv E w' E.N g d c p rv refs := by
 obtain ⟨c0, c1, c2, _, _, _, c6, c7, c9⟩ := h.ten;have f2 := h.fz 2;have hn := h.n256
 have hne : ((c : Int) == 0) = false := by simp; omega
 have HH := ħ h;have H0 := ħ h0;clear h h0;go_enter Tryz.func35, Tryz.ntmps35;go_wp2
 exact ⟨rfl, .tuple #[], by simp [results, Tryz.results35, go_sem], rfl, (FrR.refl w).set_ (.inl rfl) _, HH.o.setI (by omega)⟩
theorem Below.drewX {n : Nat} (h : Below n w w') : Below n w w'.drew := h.trans ⟨rfl, rfl, rfl, ŋ _, fun _ _ => rfl⟩
theorem Gd.more {σ : St} {d I : Nat} {rv : Value} {refs : List (Nat × Nat)} (h : Gd E w σ d rv I refs) : σ.t.isEmpty = !decide (I < E.N) := by
 have hu := congrArg List.length h.pos.units;rw [ċ] at hu
 cases hh : σ.t with
 | nil =>
  rw [hh, Äh] at hu;have : E.N = (un E.s).length := rfl;simp at hu;simp;omega
 | cons b t =>
  have h2 := ÀT σ.t (by rw [hh]; simp)
  rw [h2, ć] at hu;have : E.N = (un E.s).length := rfl;simp;omega
theorem ËD {l : List (Nat × Nat)} {g : Nat} : ∀ {k : Nat} {b : Nat × Nat}, l[k]? = some b → g < b.1 → (∀ j c, j < k → l[j]? = some c → c.1 ≤ g) → l.find? (fun b => decide (g < b.1)) = some b := by
 induction l with
 | nil => intro k b h; simp at h
 | cons x l ih =>
  intro k b h hg hn
  cases k with
  | zero => simp at h; subst h; simp [hg]
  | succ k =>
   have h0 := hn 0 x (by omega) rfl
   rw [List.find?_cons_of_neg (by simp; omega)]
   exact ih (by simpa using h) hg fun j c hj hc => hn (j + 1) c (by omega) (by simpa using hc)
theorem ËE {l : List (Nat × Nat)} {g : Nat} (hn : ∀ (j : Nat) c, l[j]? = some c → c.1 ≤ g) : l.find? (fun b => decide (g < b.1)) = none := by
 rw [List.find?_eq_none];intro x hx;obtain ⟨j, hj, rfl⟩ := List.mem_iff_getElem.1 hx;have := hn j l[j] (Ā hj);simp;omega
theorem Êg {K : Nat → Prop} {nd : Nd} {pv kv : Value} {nb : Bool} (h : Ó K w nd pv nb kv) (n : Nat) : Ó K (w.drewN n) nd pv nb kv := by
 have hh : ∀ b, K b → K b ∧ (w.drewN n).heap[b]? = w.heap[b]? := fun b hb => ⟨hb, rfl⟩
 exact h.keep hh
theorem Ïg {K : Nat → Prop} {nd : Nd} {pv kv : Value} {nb : Bool} (h : Ó K w nd pv nb kv) : Ó K w.drew nd pv nb kv := by
 have hh : ∀ b, K b → K b ∧ w.drew.heap[b]? = w.heap[b]? := fun b hb => ⟨hb, rfl⟩
 exact h.keep hh
theorem ËF (w : World) : w.drew.heap.size = w.heap.size := rfl
theorem Ïh (s : List UInt8) : begins s = if ÀL s then (st0 s).adv 4 else st0 s := by
 unfold begins st0 St.adv
 split <;> simp
theorem ÆI {fn : Func} {Q : Ending → World → Prop} {a : Act} {b : Nat} {c0 c1 c2 c3 c4 c5 c6 c7 v3 v4 v5 v6 : Value} (hres : fn.results = #[.cell 2 38, .tmp 3, .tmp 4, .tmp 5, .tmp 6]) (h2 : a.tmps.getD 2 undef = .pointer (some ⟨b, 0, none⟩)) (h3 : a.tmps.getD 3 undef = v3) (h4 : a.tmps.getD 4 undef = v4) (h5 : a.tmps.getD 5 undef = v5) (h6 : a.tmps.getD 6 undef = v6) (hd : a.defers = [])
 (hB : Blk w b 38 #[c0, c1, c2, c3, c4, c5, c6, c7]) (hQ : Q (.returned (.tuple #[.agg #[c0, c1, c2, c3, c4, c5, c6, c7], v3, v4, v5, v6])) w) : bodyPost Tryz.prog fn Q Exit.ret a w := by
 obtain ⟨k0, k1, k2, k3, k4, k5, k6, k7⟩ := hB.eight;rw [Array.getD_eq_getD_getElem?] at h2 h3 h4 h5 h6;refine bodyPost_ret (v := .tuple #[.agg #[c0, c1, c2, c3, c4, c5, c6, c7], v3, v4, v5, v6]) ?_ hd hQ;simp [results, hres, go_sem, h2, h3, h4, h5, h6, k0, k1, k2, k3, k4, k5, k6, k7]
theorem ÁZ {n₀ b : Nat} {c0 c1 c2 c3 c4 c5 c6 c7 : Value} (hb : n₀ ≤ b) (h : Below n₀ w w') : Below n₀ w (st8 w' b c0 c1 c2 c3 c4 c5 c6 c7) :=
 (((((((h.setCell hb c0).setCell hb c1).setCell hb c2).setCell hb c3).setCell hb c4).setCell hb c5).setCell hb c6).setCell hb c7
set_option maxRecDepth 100000 in
set_option maxHeartbeats 4000000 in
theorem ËG (n : Nat) (s : List UInt8) (hfu : 4 * s.length + 2 ≤ n) (w : World) : Calls Tryz.prog 9 #[.string ⟨s.toArray⟩] w (XPP n s w) := by
 obtain ⟨P, hP⟩ : ∃ P, P = ñ n s := ⟨_, rfl⟩;have HP := ħ hP;have HB0 := ħ (Blk.new w 38 #[.int .i64 0, .int .i64 0, .int .i64 0, .int .i64 0, .int .i64 0, .slice none 0 0, .bool false, .slice none 0 0]);have hb0 : Below w.heap.size w (w.alloc (.cells #[.int .i64 0, .int .i64 0, .int .i64 0, .int .i64 0, .int .i64 0, .slice none 0 0, .bool false, .slice none 0 0] 38)) := (ā _ _).alloc (ŋ _) _
 have hs0 : (w.alloc (.cells #[.int .i64 0, .int .i64 0, .int .i64 0, .int .i64 0, .int .i64 0, .slice none 0 0, .bool false, .slice none 0 0] 38)).heap.size = w.heap.size + 1 := by simp
 clear hP;go_enter Tryz.func9, Tryz.ntmps9
 go_upto_region 1 with (fail)
 generalize w.alloc _ = w1 at *
 by_cases h256 : 256 < s.length
 ·have hz := HB0.o.eight
  have hfz := HB0.o.frozen;have hlt := HB0.o.lt;go_wp2
  have hpe : ñ n s = .error (12, 0) := by unfold ñ; rw [if_pos h256]
  exact ÆI rfl rfl rfl rfl rfl rfl rfl (Æ HB0.o) ⟨ÁZ (ŋ _) hb0, by rw [hpe]; rfl⟩
 ·have hmax : s.length ≤ 256 := by omega
  have HB1 := ħ hb0;clear hb0
  go_wp2_with fail
  refine (ÐZ s hmax w1).mono ?_;rintro e w2 ⟨E, hEs, hEr, hEn, rfl, hG, hb2⟩;have HB2 := ħ (HB1.o.trans (hb2.mono HB1.o.size));have HZ2 := ħ (HB0.o.on hb2);have HE := ħ (And.intro hEs (And.intro hEr hEn))
  have HIs := ħ (ù [40, 63, 105, 41] (by decide) (by decide) hG (ÀL s) rfl)
  clear hb2 hEs hEr hEn hG;obtain ⟨ff, hff⟩ : ∃ ff, ff = ÀL s := ⟨_, rfl⟩;rw [← hff] at HIs;have HFf := ħ hff;clear hff
  go_wp2_with fail
  refine HIs.o.mono ?_;rintro e w3 ⟨rfl, hF3, I3, hG3⟩
  have hG4 : Gd E w3 (begins s) 0 (.slice none 0 0) I3 [] := by rw [Ïh, ← HFf.o]; exact hG3
  have hlb : (begins s).t.length ≤ s.length := by rw [Ïh]; split <;> simp [st0, St.adv]
  have HAl := ħ ((Ïf E n).1 (by omega) hG4)
  have HF3 := ħ hF3;clear hF3 hG3 hG4 HIs
  go_wp2_with fail
  refine HAl.o.mono ?_;intro e w4 hp4;clear HAl
  cases hr : run n 0 0 [] (begins s) with
  | error f =>
   rw [hr] at hp4;obtain ⟨rv2, v, rfl, ⟨k0, lo, hi, m0, r0, A1, A2, n1, p1, n2, p2, nb, rfl⟩, hF4, hk4, g4, refs4, hS4⟩ := hp4
   have HPe : Hid (ñ n s = .error f) := ħ (by unfold ñ; rw [if_neg h256, hr])
   have HF4 := ħ (HF3.o.trans hF4);have HS4 := ħ hS4;clear hF4 hS4 HF3 hr
   go_upto_region 6 with (fail)
   have hb5 : Below w4.heap.size w4 (w4.alloc (.cells #[.int .i64 k0, .int .i64 lo, .int .i64 hi, .int .i64 m0, .int .i64 r0, .slice A1 n1 p1, .bool nb, .slice A2 n2 p2] 38)) := (ā _ _).alloc (ŋ _) _;generalize (w4.alloc (.cells #[.int .i64 k0, .int .i64 lo, .int .i64 hi, .int .i64 m0, .int .i64 r0, .slice A1 n1 p1, .bool nb, .slice A2 n2 p2] 38)) = w5 at *;have HS5 := ħ (HS4.o.on hb5);have HF5 := ħ (HF4.o.trans (FrR.of_below hb5));clear hb5 HS4 HF4;obtain ⟨c0, c1, c2, c3, c4, c5, c6, c7, c9⟩ := HS5.o.ten
   have k6 : ((f.1 : Int) == 0) = false := by simpa using hk4
   go_quiet (fail);have HS6 := ħ (HS5.o.drewN nq);have HF6 := ħ (HF5.o.drewN nq);clear c0 c1 c2 c3 c4 c5 c6 c7 c9 HS5 HF5;generalize w5.drewN nq = w6 at *
   go_upto_region 9 with (fail)
   go_loopw [10] (fun i wr => ∃ k : Nat, i = .int .i64 k ∧ k ≤ refs4.length ∧ Hid (Sv E wr E.N g4 0 f.1 f.2 rv2 refs4) ∧ Hid (FrR E w2 (.slice none 0 0) wr rv2)) (fun i _ => refs4.length - (intOf i).toNat)
   case atStart => exact ⟨0, rfl, Ą _, HS6, HF6⟩
   case round =>
    clear HS6 HF6;obtain ⟨k, rfl, hkl, HS, HF⟩ := hrel;obtain ⟨c0, c1, c2, c3, c4, c5, c6, c7, c9⟩ := HS.o.ten
    by_cases hlt : k < refs4.length
    ·obtain ⟨r, hr⟩ : ∃ r, refs4[k]? = some r := ⟨_, Ā hlt⟩
     obtain ⟨bq, cq, hrv, hbq, q0, q1⟩ := HS.o.ref hr;subst hrv
     have q2 : wr.cell? ⟨bq, k * 2, none⟩ = some (.int .i64 (r.1 : Nat)) := by rw [Nat.mul_comm]; exact q0
     have q3 : wr.cell? ⟨bq, k * 2 + 1, none⟩ = some (.int .i64 (r.2 : Nat)) := by rw [Nat.mul_comm]; exact q1
     go_upto_region 11 with (fail)
     go_quiet (fail);have HSd := ħ (HS.o.drewN nq);have HFd := ħ (HF.o.drewN nq);clear c0 c1 c2 c3 c4 c5 c6 c7 c9 q0 q1 q2 q3 HS HF;generalize wr.drewN nq = wd at *;obtain ⟨c0, c1, c2, c3, c4, c5, c6, c7, c9⟩ := HSd.o.ten;obtain ⟨bq', cq', hrv, hbq', q0, q1⟩ := HSd.o.ref hr
     obtain ⟨rfl, rfl⟩ : bq = bq' ∧ cq = cq' := by simpa using hrv
     have q2 : wd.cell? ⟨bq, k * 2, none⟩ = some (.int .i64 (r.1 : Nat)) := by rw [Nat.mul_comm]; exact q0
     have q3 : wd.cell? ⟨bq, k * 2 + 1, none⟩ = some (.int .i64 (r.2 : Nat)) := by rw [Nat.mul_comm]; exact q1
     have HK4 := ħ hk4;have HLt := ħ hlt;have h300 := HSd.o.bnd.2.2.2.2.2
     by_cases hg : (g4 : Int) < (r.1 : Int)
     ·go_wp2_with fail
      refine (ÃD 26 _ HK4.o HSd.o).mono ?_;rintro e w7 ⟨rfl, hF7, hS7⟩;have HS7 := ħ hS7;have HF7 := ħ (HFd.o.trans hF7);clear hF7 hS7 HSd HFd c0 c1 c2 c3 c4 c5 c6 c7 c9 q0 q1 q2 q3;go_wp2;go_roundw
      case rel => exact ⟨k + 1, by go_num, HLt.o, HS7, HF7⟩
      case measure => have := HLt.o; simp [intOf]; omega
     ·go_wp2
      go_roundw
      case rel => exact ⟨k + 1, by go_num, HLt.o, HSd, HFd⟩
      case measure => have := HLt.o; simp [intOf]; omega
    ·obtain rfl : k = refs4.length := by omega
     clear hlt hkl
     obtain ⟨cv, hcv⟩ : ∃ cv : Option Addr × Nat, rv2 = .slice cv.1 refs4.length cv.2 := by
      rcases HS.o.own.2 with ⟨h, hn⟩ | ⟨b, cap, _, h, _⟩
      ·exact ⟨(none, 0), by rw [h, hn]⟩
      ·exact ⟨(some ⟨b, 0, none⟩, cap), h⟩
     subst hcv
     have HZr : Hid (Blk wr w.heap.size 38 #[.int .i64 0, .int .i64 0, .int .i64 0, .int .i64 0, .int .i64 0, .slice none 0 0, .bool false, .slice none 0 0]) := ħ ((HF.o.block w.heap.size HZ2.o.lt (by rw [HE.o.2.1]; omega) (by simp [Value.ownBlock])).trans HZ2.o)
     have hz := HZr.o.eight;have hfz := HZr.o.frozen;have hlz := HZr.o.lt
     have hn1 : ¬ E.rb = w.heap.size := by rw [HE.o.2.1]; omega
     have hn2 : ¬ w.heap.size = E.rb := by rw [HE.o.2.1]; omega
     go_upto_region 14 with (fail)
     go_region
     have HX := ħ ((Æ (c0 := .int .i64 0) (c1 := .int .i64 0) (c2 := .int .i64 0) (c3 := .int .i64 0) (c4 := .int .i64 0) (c5 := .slice none 0 0) (c6 := .bool false) (c7 := .slice none 0 0) HZr.o).drew)
     have HBl := ħ (Below.drewX (ÁZ (c0 := .int .i64 0) (c1 := .int .i64 0) (c2 := .int .i64 0) (c3 := .int .i64 0) (c4 := .int .i64 0) (c5 := .slice none 0 0) (c6 := .bool false) (c7 := .slice none 0 0) (ŋ w.heap.size) (HB2.o.trans (HF.o.old (n := w.heap.size) HB2.o.size (by rw [HE.o.2.1]; omega) (by simp [Value.ownBlock])))))
     unfold st8 at HX HBl;generalize World.drew _ = wz at HX HBl ⊢;clear hz hfz hlz hn1 hn2 HZr HS HF c0 c1 c2 c3 c4 c5 c6 c7 c9;go_wp2
     exact ÆI rfl rfl rfl rfl rfl rfl rfl HX.o ⟨HBl.o, by rw [HPe.o]; rfl⟩
  | ok x =>
   obtain ⟨y, σ4⟩ := x;rw [hr] at hp4;obtain ⟨rv2, I4, refs4, A1, n1, p1, nb, A2, p2, rfl, hN4, hF4, hG4⟩ := hp4
   dsimp only at hN4 hG4 ⊢
   have HPe : Hid (ñ n s = ended ff y σ4) := ħ (by unfold ñ; rw [if_neg h256, hr, HFf.o])
   have HF4 := ħ (HF3.o.trans hF4);have HG4 := ħ hG4;have HN4 := ħ hN4;have HW3 : Hid (w.heap.size < w3.heap.size ∧ w.heap.size < w4.heap.size) := ħ ⟨Ć HZ2.o.lt HF3.o.size, Ć HZ2.o.lt HF4.o.size⟩;clear hF4 hG4 hN4 HF3 hr
   go_upto_region 6 with (fail)
   have hb5 : Below w4.heap.size w4 (w4.alloc (.cells #[.int .i64 y.kind, .int .i64 y.lo, .int .i64 y.hi, .int .i64 y.mode, .int .i64 y.ref, .slice A1 n1 p1, .bool nb, .slice A2 y.kids.length p2] 38)) := (ā _ _).alloc (ŋ _) _;have HX5 : Hid (Blk (w4.alloc (.cells #[.int .i64 y.kind, .int .i64 y.lo, .int .i64 y.hi, .int .i64 y.mode, .int .i64 y.ref, .slice A1 n1 p1, .bool nb, .slice A2 y.kids.length p2] 38)) w4.heap.size 38 #[.int .i64 y.kind, .int .i64 y.lo, .int .i64 y.hi, .int .i64 y.mode, .int .i64 y.ref, .slice A1 n1 p1, .bool nb, .slice A2 y.kids.length p2]) := ħ (Blk.new _ _ _);generalize (w4.alloc (.cells #[.int .i64 y.kind, .int .i64 y.lo, .int .i64 y.hi, .int .i64 y.mode, .int .i64 y.ref, .slice A1 n1 p1, .bool nb, .slice A2 y.kids.length p2] 38)) = w5 at *;have HG5 := ħ (HG4.o.on hb5);have HF5 := ħ (HF4.o.trans (FrR.of_below hb5))
   have HN5 : Hid (Ó (fun b => w3.heap.size ≤ b ∧ b < w4.heap.size) w5 y (.slice A1 n1 p1) nb (.slice A2 y.kids.length p2)) := ħ (HN4.o.keep fun b hb => ⟨⟨hb.1, hb.2.1⟩, hb5.block b hb.2.1⟩)
   obtain ⟨bx, hbx⟩ : ∃ bx, bx = w4.heap.size := ⟨_, rfl⟩;rw [← hbx] at HX5 HN5 HW3 ⊢;clear hb5 HG4 HF4 HN4 hbx;obtain ⟨c0, c1, c2, c3, c4, c5, c6, c7, c9⟩ := HG5.o.sv.ten
   by_cases hI : I4 < E.N
   ·have hdI : decide ((I4 : Int) < (E.N : Int)) = true := decide_eq_true (by omega)
    have hem : σ4.t.isEmpty = false := by rw [HG5.o.more]; simp [hI]
    go_quiet (fail)
    have hat : atI E I4 = σ4.pos := by
     have := HG5.o.pos.at_ (by intro e; rw [e] at hem; simp at hem)
     unfold atI;rw [this]
    have HG6 := ħ (HG5.o.drewN nq);have HF6 := ħ (HF5.o.drewN nq);clear c0 c1 c2 c3 c4 c5 c6 c7 c9 HG5 HF5 HN5 HX5;generalize w5.drewN nq = w6 at *;obtain ⟨c0, c1, c2, c3, c4, c5, c6, c7, c9⟩ := HG6.o.sv.ten;obtain ⟨f, hf⟩ : ∃ f : Flt, f = (20, atI E I4) := ⟨_, rfl⟩
    have HPe : Hid (ñ n s = .error f) := ħ (by rw [HPe.o, hf, hat]; unfold ended; rw [hem]; rfl)
    have hk4 : f.1 ≠ 0 := by rw [hf]; show (20 : Nat) ≠ 0; decide
    have HFl := ħ (Ãz 20 I4 (by decide) HG6.o.sv)
    obtain ⟨g4, hg4⟩ : ∃ g4, g4 = σ4.g := ⟨_, rfl⟩;rw [← hg4] at HFl
    have HFl : Hid (Calls Tryz.prog 35 #[.pointer (some ⟨E.rb, 0, none⟩), .int .i64 20, .int .i64 (I4 : Nat)] w6 fun e w' => e = .returned (.tuple #[]) ∧ FrR E w6 rv2 w' rv2 ∧ Sv E w' E.N g4 0 f.1 f.2 rv2 refs4) := ħ (by rw [hf]; exact HFl.o)
    clear hf hat hem hdI hI hg4
    go_wp2_with fail
    refine HFl.o.mono ?_;rintro e w7 ⟨rfl, hF7, hS7⟩;have HS6 := ħ hS7;have HF6 := ħ (HF6.o.trans hF7);clear hF7 hS7 HFl HG6 c0 c1 c2 c3 c4 c5 c6 c7 c9
    go_upto_region 9 with (fail)
    go_loopw [10] (fun i wr => ∃ k : Nat, i = .int .i64 k ∧ k ≤ refs4.length ∧ Hid (Sv E wr E.N g4 0 f.1 f.2 rv2 refs4) ∧ Hid (FrR E w2 (.slice none 0 0) wr rv2)) (fun i _ => refs4.length - (intOf i).toNat)
    case atStart => exact ⟨0, rfl, Ą _, HS6, HF6⟩
    case round =>
     clear HS6 HF6;obtain ⟨k, rfl, hkl, HS, HF⟩ := hrel;obtain ⟨c0, c1, c2, c3, c4, c5, c6, c7, c9⟩ := HS.o.ten
     by_cases hlt : k < refs4.length
     ·obtain ⟨r, hr⟩ : ∃ r, refs4[k]? = some r := ⟨_, Ā hlt⟩
      obtain ⟨bq, cq, hrv, hbq, q0, q1⟩ := HS.o.ref hr;subst hrv
      have q2 : wr.cell? ⟨bq, k * 2, none⟩ = some (.int .i64 (r.1 : Nat)) := by rw [Nat.mul_comm]; exact q0
      have q3 : wr.cell? ⟨bq, k * 2 + 1, none⟩ = some (.int .i64 (r.2 : Nat)) := by rw [Nat.mul_comm]; exact q1
      go_upto_region 11 with (fail)
      go_quiet (fail);have HSd := ħ (HS.o.drewN nq);have HFd := ħ (HF.o.drewN nq);clear c0 c1 c2 c3 c4 c5 c6 c7 c9 q0 q1 q2 q3 HS HF;generalize wr.drewN nq = wd at *;obtain ⟨c0, c1, c2, c3, c4, c5, c6, c7, c9⟩ := HSd.o.ten;obtain ⟨bq', cq', hrv, hbq', q0, q1⟩ := HSd.o.ref hr
      obtain ⟨rfl, rfl⟩ : bq = bq' ∧ cq = cq' := by simpa using hrv
      have q2 : wd.cell? ⟨bq, k * 2, none⟩ = some (.int .i64 (r.1 : Nat)) := by rw [Nat.mul_comm]; exact q0
      have q3 : wd.cell? ⟨bq, k * 2 + 1, none⟩ = some (.int .i64 (r.2 : Nat)) := by rw [Nat.mul_comm]; exact q1
      have HK4 := ħ hk4;have HLt := ħ hlt;have h300 := HSd.o.bnd.2.2.2.2.2
      by_cases hg : (g4 : Int) < (r.1 : Int)
      ·go_wp2_with fail
       refine (ÃD 26 _ HK4.o HSd.o).mono ?_;rintro e w7 ⟨rfl, hF7, hS7⟩;have HS7 := ħ hS7;have HF7 := ħ (HFd.o.trans hF7);clear hF7 hS7 HSd HFd c0 c1 c2 c3 c4 c5 c6 c7 c9 q0 q1 q2 q3;go_wp2;go_roundw
       case rel => exact ⟨k + 1, by go_num, HLt.o, HS7, HF7⟩
       case measure => have := HLt.o; simp [intOf]; omega
      ·go_wp2
       go_roundw
       case rel => exact ⟨k + 1, by go_num, HLt.o, HSd, HFd⟩
       case measure => have := HLt.o; simp [intOf]; omega
     ·obtain rfl : k = refs4.length := by omega
      clear hlt hkl
      obtain ⟨cv, hcv⟩ : ∃ cv : Option Addr × Nat, rv2 = .slice cv.1 refs4.length cv.2 := by
       rcases HS.o.own.2 with ⟨h, hn⟩ | ⟨b, cap, _, h, _⟩
       ·exact ⟨(none, 0), by rw [h, hn]⟩
       ·exact ⟨(some ⟨b, 0, none⟩, cap), h⟩
      subst hcv
      have HZr : Hid (Blk wr w.heap.size 38 #[.int .i64 0, .int .i64 0, .int .i64 0, .int .i64 0, .int .i64 0, .slice none 0 0, .bool false, .slice none 0 0]) := ħ ((HF.o.block w.heap.size HZ2.o.lt (by rw [HE.o.2.1]; omega) (by simp [Value.ownBlock])).trans HZ2.o)
      have hz := HZr.o.eight;have hfz := HZr.o.frozen;have hlz := HZr.o.lt
      have hn1 : ¬ E.rb = w.heap.size := by rw [HE.o.2.1]; omega
      have hn2 : ¬ w.heap.size = E.rb := by rw [HE.o.2.1]; omega
      go_upto_region 14 with (fail)
      go_region
      have HX := ħ ((Æ (c0 := .int .i64 0) (c1 := .int .i64 0) (c2 := .int .i64 0) (c3 := .int .i64 0) (c4 := .int .i64 0) (c5 := .slice none 0 0) (c6 := .bool false) (c7 := .slice none 0 0) HZr.o).drew)
      have HBl := ħ (Below.drewX (ÁZ (c0 := .int .i64 0) (c1 := .int .i64 0) (c2 := .int .i64 0) (c3 := .int .i64 0) (c4 := .int .i64 0) (c5 := .slice none 0 0) (c6 := .bool false) (c7 := .slice none 0 0) (ŋ w.heap.size) (HB2.o.trans (HF.o.old (n := w.heap.size) HB2.o.size (by rw [HE.o.2.1]; omega) (by simp [Value.ownBlock])))))
      unfold st8 at HX HBl;generalize World.drew _ = wz at HX HBl ⊢;clear hz hfz hlz hn1 hn2 HZr HS HF c0 c1 c2 c3 c4 c5 c6 c7 c9;go_wp2
      exact ÆI rfl rfl rfl rfl rfl rfl rfl HX.o ⟨HBl.o, by rw [HPe.o]; rfl⟩
   ·have hdI : decide ((I4 : Int) < (E.N : Int)) = false := decide_eq_false (by omega)
    go_quiet (fail)
    have hem : σ4.t.isEmpty = true := by rw [HG5.o.more]; simp [hI]
    have HG6 := ħ (HG5.o.drewN nq);have HF6 := ħ (HF5.o.drewN nq)
    have HX6 := ħ (show Blk (w5.drewN nq) bx 38 _ from HX5.o)
    have HN6 : Hid (Ó (fun b => w3.heap.size ≤ b ∧ b < bx) (w5.drewN nq) y (.slice A1 n1 p1) nb (.slice A2 y.kids.length p2)) := ħ (Êg HN5.o nq)
    have HEm := ħ hem;clear c0 c1 c2 c3 c4 c5 c6 c7 c9 HG5 HF5 HN5 HX5 hdI hI hem;generalize w5.drewN nq = w6 at *
    go_upto_region 9 with (fail)
    go_loopw [10] (fun i wr => ∃ k : Nat, i = .int .i64 k ∧ k ≤ refs4.length ∧ Hid (FrR E w2 (.slice none 0 0) wr rv2) ∧ Hid ((Gd E wr σ4 0 rv2 I4 refs4 ∧ Blk wr bx 38 #[.int .i64 y.kind, .int .i64 y.lo, .int .i64 y.hi, .int .i64 y.mode, .int .i64 y.ref, .slice A1 n1 p1, .bool nb, .slice A2 y.kids.length p2] ∧
     Ó (fun b => w3.heap.size ≤ b ∧ b < bx) wr y (.slice A1 n1 p1) nb (.slice A2 y.kids.length p2) ∧ ∀ j c, j < k → σ4.bk[j]? = some c → c.1 ≤ σ4.g) ∨ (∃ f : Flt, f.1 ≠ 0 ∧ ended ff y σ4 = .error f ∧ Sv E wr E.N σ4.g 0 f.1 f.2 rv2 refs4))) (fun i _ => refs4.length - (intOf i).toNat)
    case atStart => exact ⟨0, rfl, Ą _, HF6, ħ (.inl ⟨HG6.o, HX6.o, HN6.o, fun j c hj => by omega⟩)⟩
    case round =>
     clear HG6 HF6 HX6 HN6;obtain ⟨k, rfl, hkl, HF, HRel⟩ := hrel
     rcases HRel.o with ⟨hG, hX, hN, hno⟩ | ⟨f, hk4, hen, hS⟩
     ·have HG := ħ hG
      have HX := ħ hX;have HN := ħ hN;have HNo := ħ hno;have h300 := hG.sv.bnd.2.2.2.2.2;clear hG hX hN hno HRel;obtain ⟨c0, c1, c2, c3, c4, c5, c6, c7, c9⟩ := HG.o.sv.ten
      by_cases hlt : k < refs4.length
      ·obtain ⟨r, hr⟩ : ∃ r, refs4[k]? = some r := ⟨_, Ā hlt⟩
       obtain ⟨bq, cq, hrv, hbq, q0, q1⟩ := HG.o.sv.ref hr
       have hbl : k < σ4.bk.length := by rw [← HG.o.refl]; exact hlt
       obtain ⟨hs1, hs2⟩ := HG.o.same k r _ hr (Ā hbl);obtain ⟨cb, hcb⟩ : ∃ cb, cb = σ4.bk[k] := ⟨_, rfl⟩;rw [← hcb] at hs1 hs2
       have HBk : Hid (σ4.bk[k]? = some cb) := ħ (by rw [hcb]; exact Ā hbl)
       have HAt : Hid (atI E r.2 = cb.2) := ħ (by unfold atI; rw [hs2])
       have HS1 := ħ hs1;clear hs1 hs2 hcb;subst hrv
       have q2 : wr.cell? ⟨bq, k * 2, none⟩ = some (.int .i64 (r.1 : Nat)) := by rw [Nat.mul_comm]; exact q0
       have q3 : wr.cell? ⟨bq, k * 2 + 1, none⟩ = some (.int .i64 (r.2 : Nat)) := by rw [Nat.mul_comm]; exact q1
       go_upto_region 11 with (fail)
       go_quiet (fail);have HGd := ħ (HG.o.drewN nq);have HFd := ħ (HF.o.drewN nq)
       have HXd := ħ (show Blk (wr.drewN nq) bx 38 _ from HX.o)
       have HNd : Hid (Ó (fun b => w3.heap.size ≤ b ∧ b < bx) (wr.drewN nq) y (.slice A1 n1 p1) nb (.slice A2 y.kids.length p2)) := ħ (Êg HN.o nq)
       clear c0 c1 c2 c3 c4 c5 c6 c7 c9 q0 q1 q2 q3 HG HF HX HN;generalize wr.drewN nq = wd at *;obtain ⟨c0, c1, c2, c3, c4, c5, c6, c7, c9⟩ := HGd.o.sv.ten;obtain ⟨bq', cq', hrv, hbq', q0, q1⟩ := HGd.o.sv.ref hr
       obtain ⟨rfl, rfl⟩ : bq = bq' ∧ cq = cq' := by simpa using hrv
       have q2 : wd.cell? ⟨bq, k * 2, none⟩ = some (.int .i64 (r.1 : Nat)) := by rw [Nat.mul_comm]; exact q0
       have q3 : wd.cell? ⟨bq, k * 2 + 1, none⟩ = some (.int .i64 (r.2 : Nat)) := by rw [Nat.mul_comm]; exact q1
       have HLt := ħ hlt
       by_cases hg : (σ4.g : Int) < (r.1 : Int)
       ·have HFl := ħ (Ãz 26 r.2 (by decide) HGd.o.sv)
        have HEn : Hid (ended ff y σ4 = .error (26, atI E r.2)) := ħ (by
         have hf := ËD HBk.o (by have := HS1.o; omega) HNo.o
         unfold ended;rw [HEm.o, hf, HAt.o]
         rfl)
        go_wp2_with fail
        refine HFl.o.mono ?_;rintro e w7 ⟨rfl, hF7, hS7⟩;have HS7 := ħ hS7;have HF7 := ħ (HFd.o.trans hF7);clear hF7 hS7 HGd HFd HXd HNd HFl c0 c1 c2 c3 c4 c5 c6 c7 c9 q0 q1 q2 q3;go_wp2;go_roundw
        case rel => exact ⟨k + 1, by go_num, HLt.o, HF7, ħ (.inr ⟨(26, atI E r.2), by show (26 : Nat) ≠ 0; decide, HEn.o, HS7.o⟩)⟩
        case measure => have := HLt.o; simp [intOf]; omega
       ·have HNo2 : Hid (∀ j c, j < k + 1 → σ4.bk[j]? = some c → c.1 ≤ σ4.g) := ħ (fun j c hj hc => by
         by_cases e : j = k
         ·subst e
          have e2 := HBk.o;rw [hc] at e2
          injection e2 with e2
          subst e2;have := HS1.o;omega
         ·exact HNo.o j c (by omega) hc)
        go_wp2;go_roundw
        case rel => exact ⟨k + 1, by go_num, HLt.o, HFd, ħ (.inl ⟨HGd.o, HXd.o, HNd.o, HNo2.o⟩)⟩
        case measure => have := HLt.o; simp [intOf]; omega
      ·obtain rfl : k = refs4.length := by omega
       have HEn : Hid (ended ff y σ4 = .ok (y, σ4.g, ff)) := ħ (by
        have hf := ËE (g := σ4.g) (l := σ4.bk) (fun j c hc => HNo.o j c (by
         rw [HG.o.refl]
         rcases Nat.lt_or_ge j σ4.bk.length with h | h
         ·exact h
         ·rw [List.getElem?_eq_none h] at hc; cases hc) hc)
        unfold ended;rw [HEm.o, hf]
        rfl)
       clear hlt hkl
       obtain ⟨cv, hcv⟩ : ∃ cv : Option Addr × Nat, rv2 = .slice cv.1 refs4.length cv.2 := by
        rcases HG.o.sv.own.2 with ⟨h, hn⟩ | ⟨b, cap, _, h, _⟩
        ·exact ⟨(none, 0), by rw [h, hn]⟩
        ·exact ⟨(some ⟨b, 0, none⟩, cap), h⟩
       subst hcv
       have HZr : Hid (Blk wr w.heap.size 38 #[.int .i64 0, .int .i64 0, .int .i64 0, .int .i64 0, .int .i64 0, .slice none 0 0, .bool false, .slice none 0 0]) := ħ ((HF.o.block w.heap.size HZ2.o.lt (by rw [HE.o.2.1]; omega) (by simp [Value.ownBlock])).trans HZ2.o)
       have hz := HZr.o.eight;have hfz := HZr.o.frozen;have hlz := HZr.o.lt;obtain ⟨y0, y1, y2, y3, y4, y5, y6, y7⟩ := HX.o.eight;have hbl := HX.o.lt
       have hn1 : ¬ E.rb = w.heap.size := by rw [HE.o.2.1]; omega
       have hn2 : ¬ w.heap.size = E.rb := by rw [HE.o.2.1]; omega
       have hn3 : ¬ bx = w.heap.size := by have := HW3.o; omega
       have hn4 : ¬ w.heap.size = bx := by have := HW3.o; omega
       go_upto_region 15 with (fail)
       go_region
       have HX9 := ħ ((Æ (c0 := .int .i64 y.kind) (c1 := .int .i64 y.lo) (c2 := .int .i64 y.hi) (c3 := .int .i64 y.mode) (c4 := .int .i64 y.ref) (c5 := .slice A1 n1 p1) (c6 := .bool nb) (c7 := .slice A2 y.kids.length p2) HZr.o).drew)
       have HBl := ħ (Below.drewX (ÁZ (c0 := .int .i64 y.kind) (c1 := .int .i64 y.lo) (c2 := .int .i64 y.hi) (c3 := .int .i64 y.mode) (c4 := .int .i64 y.ref) (c5 := .slice A1 n1 p1) (c6 := .bool nb) (c7 := .slice A2 y.kids.length p2) (ŋ w.heap.size) (HB2.o.trans (HF.o.old (n := w.heap.size) HB2.o.size (by rw [HE.o.2.1]; omega) (by simp [Value.ownBlock])))))
       have HN9 : Hid (Ó (fun b => w.heap.size ≤ b ∧ b < wr.heap.size) (st8 wr w.heap.size (.int .i64 y.kind) (.int .i64 y.lo) (.int .i64 y.hi) (.int .i64 y.mode) (.int .i64 y.ref) (.slice A1 n1 p1) (.bool nb) (.slice A2 y.kids.length p2)) y (.slice A1 n1 p1) nb (.slice A2 y.kids.length p2)) := ħ (HN.o.keep fun b hb => ⟨⟨by have := HW3.o; omega, by omega⟩, ÂL (by have := HW3.o; omega)⟩)
       have HN9 := ħ (Ïg HN9.o);have hs9 : (st8 wr w.heap.size (.int .i64 y.kind) (.int .i64 y.lo) (.int .i64 y.hi) (.int .i64 y.mode) (.int .i64 y.ref) (.slice A1 n1 p1) (.bool nb) (.slice A2 y.kids.length p2)).drew.heap.size = wr.heap.size := (ËF _).trans ÂM;unfold st8 at HX9 HBl HN9 hs9;generalize World.drew _ = wz at HX9 HBl HN9 hs9 ⊢;clear hz hfz hlz hn1 hn2 hn3 hn4 HZr HG HF HX HN c0 c1 c2 c3 c4 c5 c6 c7 c9 y0 y1 y2 y3 y4 y5 y6 y7 hbl;have HS9 := ħ hs9;clear hs9;go_wp2
       exact ÆI rfl rfl rfl rfl rfl rfl rfl HX9.o ⟨HBl.o, by rw [HPe.o, HEn.o]; exact ⟨A1, n1, p1, nb, A2, p2, rfl, by rw [HS9.o]; exact HN9.o⟩⟩
     ·have HS := ħ hS
      have HEn := ħ hen
      have HPe : Hid (ñ n s = .error f) := ħ (by rw [HPe.o, hen])
      have k6 : ((f.1 : Int) == 0) = false := by simpa using hk4
      clear hS hen HRel;obtain ⟨c0, c1, c2, c3, c4, c5, c6, c7, c9⟩ := HS.o.ten
      by_cases hlt : k < refs4.length
      ·obtain ⟨r, hr⟩ : ∃ r, refs4[k]? = some r := ⟨_, Ā hlt⟩
       obtain ⟨bq, cq, hrv, hbq, q0, q1⟩ := HS.o.ref hr;subst hrv
       have q2 : wr.cell? ⟨bq, k * 2, none⟩ = some (.int .i64 (r.1 : Nat)) := by rw [Nat.mul_comm]; exact q0
       have q3 : wr.cell? ⟨bq, k * 2 + 1, none⟩ = some (.int .i64 (r.2 : Nat)) := by rw [Nat.mul_comm]; exact q1
       go_upto_region 11 with (fail)
       go_quiet (fail);have HSd := ħ (HS.o.drewN nq);have HFd := ħ (HF.o.drewN nq);clear c0 c1 c2 c3 c4 c5 c6 c7 c9 q0 q1 q2 q3 HS HF;generalize wr.drewN nq = wd at *;obtain ⟨c0, c1, c2, c3, c4, c5, c6, c7, c9⟩ := HSd.o.ten;obtain ⟨bq', cq', hrv, hbq', q0, q1⟩ := HSd.o.ref hr
       obtain ⟨rfl, rfl⟩ : bq = bq' ∧ cq = cq' := by simpa using hrv
       have q2 : wd.cell? ⟨bq, k * 2, none⟩ = some (.int .i64 (r.1 : Nat)) := by rw [Nat.mul_comm]; exact q0
       have q3 : wd.cell? ⟨bq, k * 2 + 1, none⟩ = some (.int .i64 (r.2 : Nat)) := by rw [Nat.mul_comm]; exact q1
       have HK4 := ħ hk4;have HLt := ħ hlt;have h300 := HSd.o.bnd.2.2.2.2.2
       by_cases hg : (σ4.g : Int) < (r.1 : Int)
       ·go_wp2_with fail
        refine (ÃD 26 _ HK4.o HSd.o).mono ?_;rintro e w7 ⟨rfl, hF7, hS7⟩;have HS7 := ħ hS7;have HF7 := ħ (HFd.o.trans hF7);clear hF7 hS7 HSd HFd c0 c1 c2 c3 c4 c5 c6 c7 c9 q0 q1 q2 q3;go_wp2;go_roundw
        case rel => exact ⟨k + 1, by go_num, HLt.o, HF7, ħ (.inr ⟨f, HK4.o, HEn.o, HS7.o⟩)⟩
        case measure => have := HLt.o; simp [intOf]; omega
       ·go_wp2
        go_roundw
        case rel => exact ⟨k + 1, by go_num, HLt.o, HFd, ħ (.inr ⟨f, HK4.o, HEn.o, HSd.o⟩)⟩
        case measure => have := HLt.o; simp [intOf]; omega
      ·obtain rfl : k = refs4.length := by omega
       clear hlt hkl
       obtain ⟨cv, hcv⟩ : ∃ cv : Option Addr × Nat, rv2 = .slice cv.1 refs4.length cv.2 := by
        rcases HS.o.own.2 with ⟨h, hn⟩ | ⟨b, cap, _, h, _⟩
        ·exact ⟨(none, 0), by rw [h, hn]⟩
        ·exact ⟨(some ⟨b, 0, none⟩, cap), h⟩
       subst hcv
       have HZr : Hid (Blk wr w.heap.size 38 #[.int .i64 0, .int .i64 0, .int .i64 0, .int .i64 0, .int .i64 0, .slice none 0 0, .bool false, .slice none 0 0]) := ħ ((HF.o.block w.heap.size HZ2.o.lt (by rw [HE.o.2.1]; omega) (by simp [Value.ownBlock])).trans HZ2.o)
       have hz := HZr.o.eight;have hfz := HZr.o.frozen;have hlz := HZr.o.lt
       have hn1 : ¬ E.rb = w.heap.size := by rw [HE.o.2.1]; omega
       have hn2 : ¬ w.heap.size = E.rb := by rw [HE.o.2.1]; omega
       go_upto_region 14 with (fail)
       go_region
       have HX := ħ ((Æ (c0 := .int .i64 0) (c1 := .int .i64 0) (c2 := .int .i64 0) (c3 := .int .i64 0) (c4 := .int .i64 0) (c5 := .slice none 0 0) (c6 := .bool false) (c7 := .slice none 0 0) HZr.o).drew)
       have HBl := ħ (Below.drewX (ÁZ (c0 := .int .i64 0) (c1 := .int .i64 0) (c2 := .int .i64 0) (c3 := .int .i64 0) (c4 := .int .i64 0) (c5 := .slice none 0 0) (c6 := .bool false) (c7 := .slice none 0 0) (ŋ w.heap.size) (HB2.o.trans (HF.o.old (n := w.heap.size) HB2.o.size (by rw [HE.o.2.1]; omega) (by simp [Value.ownBlock])))))
       unfold st8 at HX HBl;generalize World.drew _ = wz at HX HBl ⊢;clear hz hfz hlz hn1 hn2 HZr HS HF c0 c1 c2 c3 c4 c5 c6 c7 c9;go_wp2
       exact ÆI rfl rfl rfl rfl rfl rfl rfl HX.o ⟨HBl.o, by rw [HPe.o]; rfl⟩
end
end Go.Proofs.YtpginkdkblmnbaaGreatDoor
