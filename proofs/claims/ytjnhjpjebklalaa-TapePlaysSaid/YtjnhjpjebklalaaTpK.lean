/- The document's tape in memory; whether the power goes. -/
import Derived.Test.YtjnhjpjebklalaaTpH
namespace Go.Proofs.Ytjnhjpjebklalaa
open Go.RowKit
variable {w w' : World} {S : Nat → Prop} {h : Nat} {W : Tw} {vs vl : Value}

structure Tw.ok (W : Tw) : Prop where
  fits : (W.safe.length : Int) + W.loose.length ≤ W.room
  room : W.room ≤ 1048576
  left : -9223372036854775808 ≤ W.left ∧ W.left ≤ 9223372036854775807
  arm : W.armed = true → 0 ≤ W.left
theorem Tw.new_ok {room : Int} (h : 0 ≤ room) (h' : room ≤ 1048576) : (Tw.new room).ok := ⟨h, h', by show -9223372036854775808 ≤ (0 : Int) ∧ (0 : Int) ≤ 9223372036854775807; decide, fun h => by cases h⟩
theorem Tw.ok.fallen (k : W.ok) : W.fallen.ok := by
  unfold Tw.fallen
  split
  · rename_i ha
    have := k.arm ha
    have := k.left
    split
    · exact ⟨k.fits, k.room, k.left, fun e => by cases e⟩
    · exact ⟨k.fits, k.room, by simp only; omega, fun _ => by simp only; omega⟩
  · exact k
theorem Tw.fallen_room (W : Tw) : W.fallen.room = W.room := by unfold Tw.fallen; split <;> (try split) <;> rfl
/-- The document's tape in memory: its block, the rows of what is safe and of what isn't. -/
structure TwB (w : World) (h : Nat) (vs vl : Value) (W : Tw) : Prop where
  blk : Blk w h 29 #[vs, vl, .int .i64 W.room, .int .i64 W.left, .bool W.armed, .bool W.down]
  os : Own w h vs W.safe
  ol : Own w h vl W.loose
  ne : ∀ i, vs.ownBlock = some i → vl.ownBlock = some i → False
structure TwV (w : World) (h : Nat) (vs vl : Value) (W : Tw) : Prop extends TwB w h vs vl W where
  ok : W.ok
def Ft (h : Nat) (vs vl : Value) (i : Nat) : Prop := i = h ∨ vs.ownBlock = some i ∨ vl.ownBlock = some i
theorem TwV.old (k : TwV w h vs vl W) : ∀ i, Ft h vs vl i → h ≤ i ∧ i < w.heap.size := by
  rintro i (rfl | hi | hi)
  · exact ⟨Nat.le_refl _, k.blk.lt⟩
  · exact k.os.lt i hi
  · exact k.ol.lt i hi
theorem TwB.on (k : TwB w h vs vl W) (hB : Below w.heap.size w w') : TwB w' h vs vl W := ⟨k.blk.on hB, k.os.below hB, k.ol.below hB, k.ne⟩
theorem TwV.on (k : TwV w h vs vl W) (hB : Below w.heap.size w w') : TwV w' h vs vl W := ⟨k.toTwB.on hB, k.ok⟩
theorem TwV.fr (k : TwV w h vs vl W) (hF : Fr S w w') (hd : ∀ i, Ft h vs vl i → ¬ S i) : TwV w' h vs vl W :=
  ⟨⟨hF.blk k.blk (hd h (.inl rfl)), hF.own k.os (fun i hi => hd i (.inr (.inl hi))), hF.own k.ol (fun i hi => hd i (.inr (.inr hi))), k.ne⟩, k.ok⟩
theorem TwB.neS (k : TwB w h vs vl W) : vs.ownBlock ≠ some h := k.os.kind k.blk (by decide)
theorem TwB.neL (k : TwB w h vs vl W) : vl.ownBlock ≠ some h := k.ol.kind k.blk (by decide)
/-- A store into its own block. -/
theorem TwB.put (k : TwB w h vs vl W) (i : Nat) (u : Value) (W' : Tw) (h1 : W'.safe = W.safe) (h2 : W'.loose = W.loose) (hc : #[vs, vl, .int .i64 W'.room, .int .i64 W'.left, .bool W'.armed, .bool W'.down] = (#[vs, vl, .int .i64 W.room, .int .i64 W.left, .bool W.armed, .bool W.down] : Array Value).setIfInBounds i u) :
    TwB (w.setCell ⟨h, i, none⟩ u) h vs vl W' :=
  ⟨by rw [hc]; exact k.blk.set_ i u, by rw [h1]; exact k.os.keep fun j hj => Below.heap_setCell _ _ _ _ (by rintro rfl; exact k.neS hj), by rw [h2]; exact k.ol.keep fun j hj => Below.heap_setCell _ _ _ _ (by rintro rfl; exact k.neL hj), k.ne⟩
/-- A new row of what is safe. -/
theorem TwB.putS (k : TwB w h vs vl W) {v : Value} {s : List UInt8} (ho : Own w h v s) (hne : ∀ i, v.ownBlock = some i → vl.ownBlock = some i → False) : TwB (w.setCell ⟨h, 0, none⟩ v) h v vl { W with safe := s } :=
  ⟨by simpa using k.blk.set_ 0 v, ho.keep fun j hj => Below.heap_setCell _ _ _ _ (by rintro rfl; exact ho.kind k.blk (by decide) hj), k.ol.keep fun j hj => Below.heap_setCell _ _ _ _ (by rintro rfl; exact k.neL hj), hne⟩
/-- A new row of what isn't safe. -/
theorem TwB.putL (k : TwB w h vs vl W) {v : Value} {s : List UInt8} (ho : Own w h v s) (hne : ∀ i, vs.ownBlock = some i → v.ownBlock = some i → False) : TwB (w.setCell ⟨h, 1, none⟩ v) h vs v { W with loose := s } :=
  ⟨by simpa using k.blk.set_ 1 v, k.os.keep fun j hj => Below.heap_setCell _ _ _ _ (by rintro rfl; exact k.neS hj), ho.keep fun j hj => Below.heap_setCell _ _ _ _ (by rintro rfl; exact ho.kind k.blk (by decide) hj), hne⟩
theorem TwB.nilL (k : TwB w h vs vl W) : TwB (w.setCell ⟨h, 1, none⟩ (.slice none 0 0)) h vs (.slice none 0 0) { W with loose := [] } := k.putL (own_nil _ _) (fun i _ e => by cases e)
/-- What a step of it does. -/
def DidW (h : Nat) (vs vl : Value) (W : Tw) (w w' : World) : Prop := ∃ vs' vl', (∀ i, Ft h vs' vl' i → Ft h vs vl i ∨ w.heap.size ≤ i) ∧ TwV w' h vs' vl' W ∧ Fr (Ft h vs vl) w w'
theorem DidW.same (k : TwV w' h vs vl W) (hF : Fr (Ft h vs vl) w w') : DidW h vs vl W w w' := ⟨vs, vl, fun _ e => .inl e, k, hF⟩
theorem Fr.wide {S' : Nat → Prop} (k : Fr S w w') (hs : ∀ i, S i → S' i) : Fr S' w w' := ⟨k.os, k.tape, k.output, k.size, fun i hi hc => k.block i hi (fun e => hc (hs i e))⟩
set_option maxRecDepth 100000 in
set_option maxHeartbeats 2000000 in
theorem falls_any (k : TwV w h vs vl W) : Calls Try.prog 20 #[.pointer (some ⟨h, 0, none⟩)] w fun e w' => e = .returned (.bool W.fallsE) ∧ TwV w' h vs vl W.fallen ∧ Fr (Ft h vs vl) w w' := by
  have K0 := Lib.hid k
  have c3 := k.blk.cell 3
  have c4 := k.blk.cell 4
  have c5 := k.blk.cell 5
  have f3 := k.blk.frozen 3
  have f4 := k.blk.frozen 4
  have f5 := k.blk.frozen 5
  have hlt := k.blk.lt
  have hok := k.ok
  have HK := Lib.hid hok.fallen
  have HL := hok.left
  have HR := hok.arm
  clear k hok
  obtain ⟨safe, loose, room, left, armed, down⟩ := W
  simp only at c3 c4 c5 HL HR
  obtain ⟨hl1, hl2⟩ := HL
  cases armed
  · rw [show Tw.fallsE ⟨safe, loose, room, left, false, down⟩ = false from rfl, show Tw.fallen ⟨safe, loose, room, left, false, down⟩ = ⟨safe, loose, room, left, false, down⟩ from rfl]
    go_enter Try.func20, Try.ntmps20
    go_wp2
    go_ret
    exact ⟨rfl, K0.out, Fr.refl _⟩
  · by_cases h0 : left = 0
    · subst h0
      rw [show Tw.fallsE ⟨safe, loose, room, 0, true, down⟩ = true from rfl, show Tw.fallen ⟨safe, loose, room, 0, true, down⟩ = ⟨safe, loose, room, 0, false, true⟩ from rfl]
      go_enter Try.func20, Try.ntmps20
      go_wp2
      go_ret
      refine ⟨rfl, ⟨(K0.out.toTwB.put 5 (.bool true) ⟨safe, loose, room, 0, true, true⟩ rfl rfl rfl).put 4 (.bool false) ⟨safe, loose, room, 0, false, true⟩ rfl rfl rfl, HK.out⟩, ((Fr.refl w).set_ (q := ⟨h, 5, none⟩) (.inl (.inl rfl)) _).set_ (q := ⟨h, 4, none⟩) (.inl (.inl rfl)) _⟩
    · have e1 : Tw.fallsE ⟨safe, loose, room, left, true, down⟩ = false := by simp [Tw.fallsE, h0]
      have e2 : Tw.fallen ⟨safe, loose, room, left, true, down⟩ = ⟨safe, loose, room, left - 1, true, down⟩ := by simp [Tw.fallen, h0]
      have h1 : 0 < left := by have := HR rfl; omega
      have h0' : (left == 0) = false := by simpa using h0
      rw [e2] at HK
      rw [e1, e2]
      clear e1 e2 h0 HR
      go_enter Try.func20, Try.ntmps20
      go_wp2
      go_ret
      exact ⟨rfl, ⟨K0.out.toTwB.put 3 (.int .i64 (left - 1)) ⟨safe, loose, room, left - 1, true, down⟩ rfl rfl rfl, HK.out⟩, (Fr.refl w).set_ (q := ⟨h, 3, none⟩) (.inl (.inl rfl)) _⟩
theorem step_appX (w : World) {base : Nat} {ops : Array Oper} {o : Oper} {a : Act} {K : Act → World → Prop} {Q : Exit → Act → World → Prop} {E : Prop} (hgd : o.guard = none) (dd : Nat) (hdd : o.dst = some dd) (x y : Operand)
    (ho : o.op = .call { callee := .builtin .append, args := #[x, y], argTypes := #[27, 27] })
    (v : Value) (s : List UInt8) (hs : a.eval x = v) (hown : Own w base v s) (n₀ : Nat) (u : Value) (b : List UInt8) (hx : a.eval y = u) (hr : Bytes n₀ w u b) (hL : s.length + b.length ≤ 140737488355328) (hbase : base ≤ w.heap.size)
    (h : ∀ v' w', Own w' base v' (s ++ b) → w.grownBy w' v.ownBlock → (v'.ownBlock = v.ownBlock ∨ v'.ownBlock = some w.heap.size) → K { tmps := a.tmps.setIfInBounds dd v', defers := a.defers } w') :
    if Region.wanted o (yielded ops a.tmps) = true then Oper.wp Try.prog o a w K Q else E :=
  step_app w hgd x y ho v s hs hown n₀ u b hx hr hL hbase fun v' w' h1 h2 h3 => by
    show K (a.put o.dst v') w'
    rw [hdd]
    exact h v' w' h1 h2 h3
theorem own_lit2 (w : World) (base : Nat) (hb : base ≤ w.heap.size) : Own (w.alloc (.cells #[] 5)) base (.slice (some ⟨w.heap.size, 0, none⟩) 0 0) [] := own_empty w base 5 hb
end Go.Proofs.Ytjnhjpjebklalaa
