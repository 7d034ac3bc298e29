/- Package tape: Append, Sync, Trim, as contracts. -/
import Derived.Test.YtjnhjpjebklalaaTpA
namespace Go.Proofs.Ytjnhjpjebklalaa
open Go.RowKit
variable {w w' : World} {S : Nat → Prop} {g : Nat} {T : Tp}

set_option maxRecDepth 100000 in
set_option maxHeartbeats 2000000 in
theorem sync_any (h : TapeAt w g S T) : Calls Try.prog 17 #[.pointer (some ⟨g, 0, none⟩)] w fun e w' => e = .returned (.int .i64 (T.syncE : Int)) ∧ TapeAt w' g S T.sync ∧ Fr S w w' := by
  have H := Lib.hid h
  obtain ⟨v, hv⟩ := h
  have c4 := hv.blk.cell 4
  clear hv
  cases hd : T.down
  · have e1 : T.syncE = T.spendE := by simp [Tp.syncE, hd]
    rw [hd] at c4
    rw [e1]
    have e2 : T.left ≠ 0 → T.sync = T.spent.kept T.spent.bs.length := fun h0 => by simp [Tp.sync, hd, h0, Tp.spent_bs]
    have e3 : T.left = 0 → T.sync = T.spent := fun h0 => by simp [Tp.sync, hd, h0]
    have E2 := Lib.hid e2
    have E3 := Lib.hid e3
    clear e1 e2 e3 hd
    have SP := Lib.hid (spend_any H.out)
    by_cases h0 : T.left = 0
    · have e4 : T.spendE = 40 := by simp [Tp.spendE, h0]
      rw [E3.out h0]
      rw [e4] at SP ⊢
      clear e4 h0
      go_enter Try.func17, Try.ntmps17
      go_wp2_with fail
      refine SP.out.mono ?_
      rintro e w1 ⟨rfl, t1, f1⟩
      go_wp2
      go_ret
      exact ⟨rfl, t1, f1⟩
    · have e4 : T.spendE = 0 := by simp [Tp.spendE, h0]
      rw [E2.out h0]
      rw [e4] at SP ⊢
      clear e4 h0
      go_enter Try.func17, Try.ntmps17
      go_wp2_with fail
      refine SP.out.mono ?_
      rintro e w1 ⟨rfl, t1, f1⟩
      have K1 := Lib.hid (keep_any T.spent.bs.length (Nat.le_refl _) t1)
      obtain ⟨v1, hv1⟩ := t1
      have d0 := hv1.blk.cell 0
      obtain ⟨A, c, rfl⟩ := hv1.own.one
      have F1 := Lib.hid f1
      clear hv1 f1 c4
      go_wp2_with fail
      refine K1.out.mono ?_
      rintro e w2 ⟨rfl, t2, f2⟩
      go_wp2
      go_ret
      exact ⟨rfl, t2, F1.out.next f2⟩
  · have e1 : T.syncE = 40 := by simp [Tp.syncE, hd]
    have e2 : T.sync = T := by simp [Tp.sync, hd]
    rw [hd] at c4
    rw [e1, e2]
    clear e1 e2 hd
    go_enter Try.func17, Try.ntmps17
    go_wp2
    go_ret
    exact ⟨rfl, H.out, Fr.refl _⟩

set_option maxRecDepth 100000 in
set_option maxHeartbeats 2000000 in
theorem trim_any (n : Int) (h : TapeAt w g S T) : Calls Try.prog 19 #[.pointer (some ⟨g, 0, none⟩), .int .i64 n] w fun e w' => e = .returned (.int .i64 (T.trimE n : Int)) ∧ TapeAt w' g S (T.trim n) ∧ Fr S w w' := by
  have H := Lib.hid h
  obtain ⟨v, hv⟩ := h
  have c4 := hv.blk.cell 4
  have c0 := hv.blk.cell 0
  obtain ⟨A, c, rfl⟩ := hv.own.one
  clear hv
  cases hd : T.down
  · rw [hd] at c4
    by_cases hr : n < 0 ∨ (T.bs.length : Int) < n
    · have e1 : T.trimE n = 13 := by simp [Tp.trimE, hd, hr]
      have e2 : T.trim n = T := by simp [Tp.trim, hd, hr]
      rw [e1, e2]
      clear e1 e2 hd
      generalize T.bs.length = m at *
      by_cases h1 : n < 0
      · go_enter Try.func19, Try.ntmps19
        go_wp2
        go_ret
        exact ⟨rfl, H.out, Fr.refl _⟩
      · have h2 : (m : Int) < n := by omega
        go_enter Try.func19, Try.ntmps19
        go_wp2
        go_ret
        exact ⟨rfl, H.out, Fr.refl _⟩
    have e1 : T.trimE n = T.spendE := by simp [Tp.trimE, hd, hr]
    have e2 : T.left ≠ 0 → T.trim n = T.spent.kept n.toNat := fun h0 => by simp [Tp.trim, hd, h0, hr]
    have e3 : T.left = 0 → T.trim n = T.spent := fun h0 => by simp [Tp.trim, hd, h0, hr]
    have hn1 : ¬ n < 0 := by omega
    have hn2 : ¬ (T.bs.length : Int) < n := by omega
    have hn3 : n.toNat ≤ T.spent.bs.length := by rw [Tp.spent_bs]; omega
    rw [e1]
    have E2 := Lib.hid e2
    have E3 := Lib.hid e3
    have N3 := Lib.hid hn3
    clear e1 e2 e3 hd hr hn3
    have SP := Lib.hid (spend_any H.out)
    obtain ⟨m, hm⟩ : ∃ m, m = T.bs.length := ⟨_, rfl⟩
    rw [← hm] at c0 hn2
    clear hm
    by_cases h0 : T.left = 0
    · have e4 : T.spendE = 40 := by simp [Tp.spendE, h0]
      rw [E3.out h0]
      rw [e4] at SP ⊢
      clear e4 h0
      go_enter Try.func19, Try.ntmps19
      go_wp2_with fail
      refine SP.out.mono ?_
      rintro e w1 ⟨rfl, t1, f1⟩
      go_wp2
      go_ret
      exact ⟨rfl, t1, f1⟩
    · have e4 : T.spendE = 0 := by simp [Tp.spendE, h0]
      rw [E2.out h0]
      rw [e4] at SP ⊢
      clear e4 h0
      go_enter Try.func19, Try.ntmps19
      go_wp2_with fail
      refine SP.out.mono ?_
      rintro e w1 ⟨rfl, t1, f1⟩
      have K1 := keep_any n.toNat N3.out t1
      rw [show ((n.toNat : Nat) : Int) = n by omega] at K1
      have K1 := Lib.hid K1
      have F1 := Lib.hid f1
      clear f1 c4 c0 t1
      go_wp2_with fail
      refine K1.out.mono ?_
      rintro e w2 ⟨rfl, t2, f2⟩
      go_wp2
      go_ret
      exact ⟨rfl, t2, F1.out.next f2⟩
  · have e1 : T.trimE n = 40 := by simp [Tp.trimE, hd]
    have e2 : T.trim n = T := by simp [Tp.trim, hd]
    rw [hd] at c4
    rw [e1, e2]
    clear e1 e2 hd
    go_enter Try.func19, Try.ntmps19
    go_wp2
    go_ret
    exact ⟨rfl, H.out, Fr.refl _⟩

set_option maxRecDepth 100000 in
set_option maxHeartbeats 2000000 in
theorem append_any {n₀ : Nat} (u : Value) (b : List UInt8) (hu : ∀ w', Fr S w w' → Bytes n₀ w' u b) (h : TapeAt w g S T) : Calls Try.prog 16 #[.pointer (some ⟨g, 0, none⟩), u] w fun e w' => e = .returned (.int .i64 (T.appE b : Int)) ∧ Did g S (T.app b) w w' := by
  have H := Lib.hid h
  have HU := Lib.hid hu
  obtain ⟨A, c, rfl, _, _⟩ := hu w (Fr.refl w)
  obtain ⟨v, hv⟩ := h
  have c4 := hv.blk.cell 4
  clear hv hu
  cases hd : T.down
  · rw [hd] at c4
    have RM := Lib.hid (room_any H.out)
    have hok := H.out.ok
    have k1 := hok.fits
    have k2 := hok.room
    clear hok
    by_cases hr : T.room - (T.bs.length : Int) < (b.length : Int)
    · have e1 : T.appE b = 41 := by simp [Tp.appE, hd, hr]
      have e2 : T.app b = T := by simp [Tp.app, hd, hr]
      rw [e1, e2]
      clear e1 e2 hd HU
      generalize b.length = q at *
      generalize T.bs.length = m at *
      go_enter Try.func16, Try.ntmps16
      go_wp2_with fail
      refine RM.out.mono ?_
      rintro e w1 ⟨rfl, b1⟩
      go_wp2
      go_ret
      exact ⟨rfl, Did.same (H.out.on b1) (Fr.of_below b1)⟩
    have e1 : T.appE b = T.spendE := by simp [Tp.appE, hd, hr]
    have e2 : T.app b = T.spent.more b := by simp [Tp.app, hd, hr]
    rw [e1, e2]
    clear e1 e2 hd
    obtain ⟨q, hq⟩ : ∃ q, q = b.length := ⟨_, rfl⟩
    obtain ⟨m, hm⟩ : ∃ m, m = T.bs.length := ⟨_, rfl⟩
    rw [← hq] at hr HU ⊢
    rw [← hm] at RM hr k1
    have HQ := Lib.hid hq
    have HM := Lib.hid hm
    clear hq hm
    go_enter Try.func16, Try.ntmps16
    go_wp2_with fail
    refine RM.out.mono ?_
    rintro e w1 ⟨rfl, b1⟩
    have B1 := Lib.hid b1
    have SP := Lib.hid (spend_any (H.out.on b1))
    clear b1 RM
    go_wp2_with fail
    refine SP.out.mono ?_
    rintro e w2 ⟨rfl, t2, f2⟩
    have F2 := Lib.hid ((Fr.of_below B1.out : Fr S w w1).next f2)
    have T2 := Lib.hid t2
    obtain ⟨v, hv⟩ := t2
    have c0 := hv.blk.cell 0
    have f0 := hv.blk.frozen 0
    have hlt := hv.blk.lt
    obtain ⟨A2, c2, rfl⟩ := hv.own.one
    have hml : T.spent.bs.length = m := by rw [Tp.spent_bs]; exact HM.out.symm
    have HV := Lib.hid hv
    rw [hml] at c0
    have HML := Lib.hid hml
    have HR := Lib.hid (HU.out w2 F2.out)
    clear hv f2 hml c4
    go_wp2_with (at_builtin
                 refine wpList_app _ rfl (.tmp 21) (.tmp 22) rfl _ T.spent.bs (by rw [HML.out]; rfl) HV.out.own n₀ _ b rfl HR.out (by rw [HML.out, ← HQ.out]; omega) (Nat.le_of_lt hlt) ?_
                 intro v' w3 o3 g3 n3
                 have O3 : Hid (Own w3 g v' (T.spent.bs ++ b)) := Lib.hid o3
                 have G3 := Lib.hid g3
                 have e0 := (HV.out.blk.grown g3 (fun e => HV.out.own.kind HV.out.blk (by decide) e.symm))
                 have q0 := e0.cell 0
                 have z0 := e0.frozen 0
                 have z1 := e0.lt
                 have E0 := Lib.hid e0
                 have N3 := Lib.hid n3
                 obtain ⟨A3, c3, rfl⟩ := O3.out.one
                 obtain ⟨l3, hl3⟩ : ∃ l3, l3 = (T.spent.bs ++ b).length := ⟨_, rfl⟩
                 rw [← hl3] at O3 N3 ⊢
                 clear o3 g3 e0 n3 hl3)
    go_ret
    refine ⟨rfl, fun i => S i ∨ (Value.slice A3 l3 c3).ownBlock = some i, fun i hi => ?_, ⟨_, ?_, ?_, fun i hi => .inr hi, .inl HV.out.self, fun i hi => ?_, ?_⟩, ?_⟩
    · rcases hi with hi | hi
      · exact .inl hi
      · rcases N3.out with e | e
        · exact .inl (HV.out.foot i (by rw [← e]; exact hi))
        · rw [e] at hi
          injection hi with hi
          exact .inr (by rw [← hi]; exact F2.out.size)
    · exact E0.out.set_ 0 _
    · exact O3.out.keep fun j hj => Below.heap_setCell _ _ _ _ (by rintro rfl; exact O3.out.kind E0.out (by decide) hj)
    · rcases hi with hi | hi
      · have := HV.out.old i hi
        have := G3.out.size
        simp [World.setCell]
        omega
      · have := O3.out.lt i hi
        simpa [World.setCell] using this
    · exact HV.out.ok.more (by rw [Tp.spent_room, HML.out, ← HQ.out]; omega)
    · exact (F2.out.grown G3.out (fun k hk => .inl (HV.out.foot k hk))).set_ (q := ⟨g, 0, none⟩) (.inl HV.out.self) _
  · have e1 : T.appE b = 40 := by simp [Tp.appE, hd]
    have e2 : T.app b = T := by simp [Tp.app, hd]
    rw [hd] at c4
    rw [e1, e2]
    clear e1 e2 hd
    go_enter Try.func16, Try.ntmps16
    go_wp2
    go_ret
    exact ⟨rfl, Did.same H.out (Fr.refl _)⟩
end Go.Proofs.Ytjnhjpjebklalaa
