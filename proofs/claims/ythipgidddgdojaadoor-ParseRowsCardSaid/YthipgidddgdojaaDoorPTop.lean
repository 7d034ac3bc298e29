/- Patterns, read: what stands behind, and how deep, plays no part, but that it may be too deep. -/
import Derived.Test.YthipgidddgdojaaDoorPmLen
namespace Go.Proofs.YthipgidddgdojaaDoor
open Go.Proofs.YthipgidddgdojaaDoor.Cl
variable {γ δ : Nat} {B : List Nat} {q : List UInt8} {σ σ' σ1 : St}

def Got (γ δ : Nat) (B : List Nat) (q : List UInt8) (x : R) (r : Nd) (σ1 : St) : Prop := (∃ σ1', x = .ok (r, σ1') ∧ Sim γ B q σ1 σ1') ∨ (δ ≠ 0 ∧ ∃ p, x = .error (25, p))

theorem ends_sim (hs : Sim γ B q σ σ') (hq : Tail q) : (σ'.t.isEmpty || decide (at_ σ'.t 0 = 124 ∨ at_ σ'.t 0 = 41)) = (σ.t.isEmpty || decide (at_ σ.t 0 = 124 ∨ at_ σ.t 0 = 41)) := by
  by_cases hn : σ.t = []
  · have e : σ'.t = q := by rw [hs.ht, hn]; rfl
    rw [e, hn]
    rcases hq with rfl | ⟨p, rfl⟩
    · simp
    · have : at_ (41 :: p) 0 = 41 := rfl
      simp [this]
  · rw [hs.at0 hn]
    have e1 : σ'.t.isEmpty = false := by rw [hs.ht]; simp [hn]
    have e2 : σ.t.isEmpty = false := by simp [hn]
    rw [e1, e2]

theorem run_sim (hq : Tail q) (δ : Nat) : ∀ (n : Nat), (∀ d acc σ σ' r σ1, run n 0 d acc σ = .ok (r, σ1) → (γ = 0 ∨ σ1.g = σ.g) → Sim γ B q σ σ' → Got γ δ B q (run n 0 (d + δ) acc σ') r σ1) ∧
    (∀ d acc σ σ' r σ1, run n 1 d acc σ = .ok (r, σ1) → (γ = 0 ∨ σ1.g = σ.g) → Sim γ B q σ σ' → Got γ δ B q (run n 1 (d + δ) acc σ') r σ1) ∧
    (∀ d acc σ σ' r σ1, σ.t ≠ [] → run n 2 d acc σ = .ok (r, σ1) → (γ = 0 ∨ σ1.g = σ.g) → Sim γ B q σ σ' → Got γ δ B q (run n 2 (d + δ) acc σ') r σ1) ∧
    (∀ d acc σ σ' r σ1, at_ σ.t 0 = 40 → run n 3 d acc σ = .ok (r, σ1) → (γ = 0 ∨ σ1.g = σ.g) → Sim γ B q σ σ' → Got γ δ B q (run n 3 (d + δ) acc σ') r σ1) := by
  intro n
  induction n with
  | zero => refine ⟨?_, ?_, ?_, ?_⟩ <;> intros <;> simp [run] at *
  | succ n ih =>
    obtain ⟨ih0, ih1, ih2, ih3⟩ := ih
    obtain ⟨l0, l1, l2, l3⟩ := run_len n
    refine ⟨?_, ?_, ?_, ?_⟩
    · intro d acc σ σ' r σ1 h hg hs
      rw [run_alts] at h ⊢
      split at h
      · cases h
      · rename_i ra σa ha
        have ga := (l1 _ _ _ _ _ ha).2
        split at h
        · rename_i c
          have gb := (l0 _ _ _ _ _ h).2
          rw [adv_g] at gb
          rcases ih1 d [] σ σ' ra σa ha (by omega) hs with ⟨σa', ha', hs'⟩ | ⟨hd, p, ha'⟩
          · rw [ha']
            simp only
            rw [if_pos ((hs'.at_ hq (by decide) (by decide)).2 c)]
            exact ih0 d _ _ _ r σ1 h (by rw [adv_g]; omega) (hs'.adv (len_ne (at_ne (t := σa.t) (by omega))))
          · exact .inr ⟨hd, p, by rw [ha']⟩
        · rename_i c
          injection h with h; injection h with h1 h2; subst h1 h2
          rcases ih1 d [] σ σ' ra σa ha (by omega) hs with ⟨σa', ha', hs'⟩ | ⟨hd, p, ha'⟩
          · rw [ha']
            simp only
            rw [if_neg (fun e => c ((hs'.at_ hq (by decide) (by decide)).1 e))]
            exact .inl ⟨σa', rfl, hs'⟩
          · exact .inr ⟨hd, p, by rw [ha']⟩
    · intro d acc σ σ' r σ1 h hg hs
      rw [run_row] at h ⊢
      rw [ends_sim hs hq]
      split at h
      · rename_i c
        rw [if_pos c]
        injection h with h; injection h with h1 h2; subst h1 h2
        exact .inl ⟨σ', rfl, hs⟩
      · rename_i c
        rw [if_neg c]
        have hn : σ.t ≠ [] := by
          intro e
          rw [e] at c
          exact c rfl
        split at h
        · cases h
        · rename_i a σa ha
          have ga := (l2 _ _ _ _ _ hn ha).2
          have gb := (l1 _ _ _ _ _ h).2
          rcases ih2 d [] σ σ' a σa hn ha (by omega) hs with ⟨σa', ha', hs'⟩ | ⟨hd, p, ha'⟩
          · rw [ha']
            exact ih1 d _ _ _ r σ1 h (by omega) hs'
          · exact .inr ⟨hd, p, by rw [ha']⟩
    · intro d acc σ σ' r σ1 hn h hg hs
      rw [run_quant] at h ⊢
      rw [hs.at0 hn, hs.pre hq [40, 63, 58] (by decide)]
      split at h
      · cases h
      · rename_i a σa ha
        have gq := (quantRest_len h).2
        split at ha
        · rename_i c
          rw [if_pos c]
          have ga := (l3 _ _ _ _ _ c ha).2
          rcases ih3 d [] σ σ' a σa c ha (by omega) hs with ⟨σa', ha', hs'⟩ | ⟨hd, p, ha'⟩
          · rw [ha']
            exact .inl (quantRest_sim h hq hs')
          · exact .inr ⟨hd, p, by rw [ha']⟩
        · rename_i c
          rw [if_neg c]
          obtain ⟨σa', ha', hs'⟩ := atomP_sim ha hq hs hn
          rw [ha']
          exact .inl (quantRest_sim h hq hs')
    · intro d acc σ σ' r σ1 hc h hg hs
      rw [run_paren] at h ⊢
      split at h
      · cases h
      · split
        · exact .inr ⟨by omega, _, rfl⟩
        · split at h
          · cases h
          · rename_i sh σa ho
            split at h
            · cases h
            · rename_i kid σb hk
              split at h
              · rename_i c
                injection h with h; injection h with h1 h2; subst h1 h2
                have ga := (opening_len ho hc).2
                have gb := (l0 _ _ _ _ _ hk).2
                rw [adv_g] at hg
                obtain ⟨σa', ho', hsa⟩ := opening_sim ho hc hq (by omega) hs
                rw [ho']
                simp only
                have e : d + δ + 1 = d + 1 + δ := by omega
                rw [e]
                rcases ih0 (d + 1) [] σa σa' kid σb hk (by omega) hsa with ⟨σb', hk', hsb⟩ | ⟨hd, p, hk'⟩
                · rw [hk']
                  simp only
                  have hnb : σb.t ≠ [] := at_ne (by omega)
                  rw [hsb.at0 hnb, if_pos c]
                  exact .inl ⟨_, rfl, hsb.adv (len_ne hnb)⟩
                · exact .inr ⟨hd, p, by rw [hk']⟩
              · cases h

/-- What was read of a text that is a pattern. -/
structure Read (N : Nat) (s : List UInt8) (nd : Nd) (g : Nat) (bk : List (Nat × Nat)) : Prop where
  go : ∃ p, run N 0 0 [] { pos := 0, t := s, g := 0, bk := [] } = .ok (nd, { pos := p, t := [], g := g, bk := bk })
  len : s.length ≤ 256
  fold : foldAt s = false
  refs : bk.find? (fun b => decide (g < b.1)) = none
theorem read_of {N : Nat} {s : List UInt8} {nd : Nd} {g : Nat} (h : parse N s = .ok (nd, g, false)) : ∃ bk, Read N s nd g bk := by
  unfold parse at h
  split at h
  · cases h
  · rename_i hl
    split at h
    · cases h
    · rename_i r σ hr
      unfold ended at h
      split at h
      · cases h
      · rename_i ht
        split at h
        · cases h
        · rename_i hf
          injection h with h; injection h with h1 h2; injection h2 with h2 h3; subst h1 h2
          have e : begins s = { pos := 0, t := s, g := 0, bk := [] } := by unfold begins; rw [h3]; rfl
          rw [e] at hr
          have ht' : σ.t = [] := by simpa using ht
          refine ⟨σ.bk, ⟨σ.pos, ?_⟩, by omega, h3, hf⟩
          rw [hr, ← ht']
theorem find_none {l : List (Nat × Nat)} {g : Nat} : l.find? (fun b => decide (g < b.1)) = none ↔ ∀ x ∈ l.map (·.1), x ≤ g := by
  simp [List.find?_eq_none]
theorem Read.ended {N : Nat} {s : List UInt8} {nd : Nd} {g : Nat} {bk : List (Nat × Nat)} (h : Read N s nd g bk) : parse N s = .ok (nd, g, false) := by
  obtain ⟨p, hp⟩ := h.go
  have e : begins s = { pos := 0, t := s, g := 0, bk := [] } := by unfold begins; rw [h.fold]; rfl
  unfold parse
  rw [if_neg (by have := h.len; omega), e, hp]
  simp [Go.Proofs.YthipgidddgdojaaDoor.ended, h.refs, h.fold]

/-- A pattern in parentheses that only group. -/
theorem paren_run {N : Nat} {s rest : List UInt8} {nd : Nd} {g : Nat} {bk : List (Nat × Nat)} (h : Read N s nd g bk) (hr : isQ (at_ rest 0) = false) (acc : List Nd) (σ' : St) (ht : σ'.t = 40 :: 63 :: 58 :: (s ++ 41 :: rest)) (hg : σ'.g = 0) :
    (∃ σ3, run (N + 2) 2 0 acc σ' = .ok (nd, σ3) ∧ σ3.t = rest ∧ σ3.g = g ∧ σ3.bk.map (·.1) = σ'.bk.map (·.1) ++ bk.map (·.1)) ∨ ∃ p, run (N + 2) 2 0 acc σ' = .error (25, p) := by
  obtain ⟨p, hp⟩ := h.go
  have h0 : at_ σ'.t 0 = 40 := by rw [ht]; rfl
  have h3 : Go.Proofs.YthipgidddgdojaaDoor.pre [40, 63, 58] σ'.t = true := by rw [ht]; rfl
  have ho : opening σ' = .ok ((0, 0, 0), σ'.adv 3) := by unfold opening; rw [if_pos h3]
  rw [run_quant, if_pos h0, run_paren, if_neg (by decide), ho]
  simp only
  have hs : Sim 0 (σ'.bk.map (·.1)) (41 :: rest) { pos := 0, t := s, g := 0, bk := [] } (σ'.adv 3) := ⟨by simp [St.adv, ht], by simp [St.adv, hg], by simp [St.adv]⟩
  rcases (run_sim (.inr ⟨rest, rfl⟩) 1 N).1 0 [] _ _ _ _ hp (.inl rfl) hs with ⟨σb, hb, hsb⟩ | ⟨_, p', hb⟩
  · rw [hb]
    have htb : σb.t = 41 :: rest := hsb.ht
    have h41 : at_ σb.t 0 = 41 := by rw [htb]; rfl
    simp only
    rw [if_pos h41]
    have htr : (σb.adv 1).t = rest := by simp [St.adv, htb]
    simp only [wrap, if_true]
    unfold quantRest
    rw [htr, hr]
    exact .inl ⟨_, rfl, htr, hsb.hg, hsb.hb⟩
  · rw [hb]
    exact .inr ⟨p', rfl⟩
theorem row_ends {n d : Nat} {acc : List Nd} {σ : St} (h : σ.t = [] ∨ at_ σ.t 0 = 124) : run (n + 1) 1 d acc σ = .ok (joinR acc, σ) := by
  rw [run_row, if_pos]
  rcases h with h | h
  · rw [h]; rfl
  · simp [h]
theorem row_goes {n d : Nat} {acc : List Nd} {σ : St} (h : at_ σ.t 0 = 40) : run (n + 1) 1 d acc σ = match run n 2 d [] σ with
    | .error e => .error e
    | .ok (a, σ1) => run n 1 d (acc ++ [a]) σ1 := by
  rw [run_row]
  have := at_ne (t := σ.t) (by omega)
  exact if_neg (by simp [h, this])
theorem ended_ok {fold : Bool} {r : Nd} {σ : St} {g : Nat} (ht : σ.t = []) (hg : σ.g = g) (hn : ∀ x ∈ σ.bk.map (·.1), x ≤ g) : Go.Proofs.YthipgidddgdojaaDoor.ended fold r σ = .ok (r, g, fold) := by
  subst hg
  have h := find_none.2 hn
  unfold Go.Proofs.YthipgidddgdojaaDoor.ended
  rw [ht, h]
  rfl

theorem parse_wrap {N : Nat} {s : List UInt8} {nd : Nd} {g : Nat} (h : parse N s = .ok (nd, g, false)) :
    parse (N + 4) (40 :: 63 :: 58 :: (s ++ [41])) = .ok (nd, g, false) ∨ (252 < s.length ∧ parse (N + 4) (40 :: 63 :: 58 :: (s ++ [41])) = .error (12, 0)) ∨ ∃ p, parse (N + 4) (40 :: 63 :: 58 :: (s ++ [41])) = .error (25, p) := by
  obtain ⟨bk, hR⟩ := read_of h
  by_cases hl : 252 < s.length
  · refine .inr (.inl ⟨hl, ?_⟩)
    unfold parse
    rw [if_pos (by simp; omega)]
  have hf : foldAt (40 :: 63 :: 58 :: (s ++ [41])) = false := by simp [foldAt, pre, List.isPrefixOf]
  have hb : begins (40 :: 63 :: 58 :: (s ++ [41])) = { pos := 0, t := 40 :: 63 :: 58 :: (s ++ [41]), g := 0, bk := [] } := by unfold begins; rw [hf]; rfl
  unfold parse
  rw [if_neg (by simp; omega), hb, run_alts, row_goes rfl]
  rcases paren_run hR (rest := []) rfl [] { pos := 0, t := 40 :: 63 :: 58 :: (s ++ [41]), g := 0, bk := [] } rfl rfl with ⟨σ3, h3, ht, hg, hk⟩ | ⟨p, h3⟩
  · left
    rw [h3]
    simp only
    rw [row_ends (.inl ht)]
    simp only
    rw [if_neg (by rw [ht]; decide), hf]
    exact ended_ok ht hg (by rw [hk]; simpa using find_none.1 hR.refs)
  · right; right
    rw [h3]
    exact ⟨p, rfl⟩

/-- A pattern without groups, behind (?i). -/
theorem parse_fold {N : Nat} {s : List UInt8} {nd : Nd} {g : Nat} (h : parse N s = .ok (nd, g, false)) (hl : s.length ≤ 252) : parse N (40 :: 63 :: 105 :: 41 :: s) = .ok (nd, g, true) := by
  obtain ⟨bk, hR⟩ := read_of h
  obtain ⟨p, hp⟩ := hR.go
  have hf : foldAt (40 :: 63 :: 105 :: 41 :: s) = true := by simp [foldAt, pre, List.isPrefixOf]
  have hb : begins (40 :: 63 :: 105 :: 41 :: s) = { pos := 4, t := s, g := 0, bk := [] } := by unfold begins; rw [hf]; rfl
  unfold parse
  rw [if_neg (by simp; omega), hb, hf]
  rcases (run_sim (γ := 0) (B := []) (q := []) (.inl rfl) 0 N).1 0 [] _ { pos := 4, t := s, g := 0, bk := [] } _ _ hp (.inl rfl) ⟨by simp, rfl, rfl⟩ with ⟨σb, hb, hsb⟩ | ⟨hd, _⟩
  · simp only [Nat.add_zero] at hb
    rw [hb]
    exact ended_ok (by simpa using hsb.ht) (by simpa using hsb.hg) (by rw [hsb.hb]; simpa using find_none.1 hR.refs)
  · exact absurd rfl hd

theorem not_mark {N : Nat} {s : List UInt8} {nd : Nd} {σ : St} (h : run N 0 0 [] { pos := 0, t := s, g := 0, bk := [] } = .ok (nd, σ)) : at_ s 0 ≠ 63 := by
  intro e
  match N with
  | 0 => simp [run] at h
  | 1 => simp [run] at h
  | 2 =>
    rw [run_alts, run_row, if_neg (by simp [e, at_ne (t := s) (by omega)])] at h
    simp [run] at h
  | N + 3 =>
    have e2 : run (N + 1) 2 0 [] { pos := 0, t := s, g := 0, bk := [] } = .error (23, 0) := by
      rw [run_quant, if_neg (by simp [e])]
      unfold atomP
      simp [e, isQ]
    rw [run_alts, run_row, if_neg (by simp [e, at_ne (t := s) (by omega)]), e2] at h
    cases h

def grpN (kid : Nd) : Nd := .mk 5 0 0 0 1 [] [kid]
/-- A pattern without groups, in parentheses. -/
theorem parse_group {N : Nat} {s : List UInt8} {nd : Nd} (h : parse N s = .ok (nd, 0, false)) (hl : s.length ≤ 252) :
    parse (N + 4) (40 :: (s ++ [41])) = .ok (grpN nd, 1, false) ∨ ∃ p, parse (N + 4) (40 :: (s ++ [41])) = .error (25, p) := by
  obtain ⟨bk, hR⟩ := read_of h
  obtain ⟨p, hp⟩ := hR.go
  have hm := not_mark hp
  have hq : ∀ w : List UInt8, pre (40 :: 63 :: w) (40 :: (s ++ [41])) = false := by
    intro w
    cases s with
    | nil => simp [pre, List.isPrefixOf]
    | cons a s =>
      have : ¬ (63 : UInt8) = a := by
        rintro rfl
        exact hm rfl
      simp [pre, List.isPrefixOf, this]
  have hf : foldAt (40 :: (s ++ [41])) = false := hq _
  have hb : begins (40 :: (s ++ [41])) = { pos := 0, t := 40 :: (s ++ [41]), g := 0, bk := [] } := by unfold begins; rw [hf]; rfl
  have ho : opening { pos := 0, t := 40 :: (s ++ [41]), g := 0, bk := [] } = .ok ((5, 0, 1), { pos := 1, t := s ++ [41], g := 1, bk := [] }) := by
    unfold opening
    simp [hq, opened]
  unfold parse
  rw [if_neg (by simp; omega), hb, run_alts, row_goes rfl, run_quant, if_pos (show at_ (St.mk 0 (40 :: (s ++ [41])) 0 []).t 0 = 40 from rfl), run_paren, if_neg (by decide), ho]
  simp only
  rcases (run_sim (γ := 1) (B := []) (q := [41]) (.inr ⟨[], rfl⟩) 1 N).1 0 [] _ { pos := 1, t := s ++ [41], g := 1, bk := [] } _ _ hp (.inr rfl) ⟨rfl, rfl, rfl⟩ with ⟨σb, hb, hsb⟩ | ⟨_, p', hb⟩
  · left
    have htb : σb.t = [41] := hsb.ht
    rw [show run N 0 (0 + 1) [] { pos := 1, t := s ++ [41], g := 1, bk := [] } = _ from hb]
    simp only
    rw [if_pos (by rw [htb]; rfl)]
    have htr : (σb.adv 1).t = [] := by simp [St.adv, htb]
    simp only [wrap]
    unfold quantRest
    rw [htr, at_nil, isQ_zero]
    simp only [Bool.false_eq_true, if_false]
    rw [row_ends (.inl htr)]
    simp only
    rw [if_neg (by rw [htr]; decide), hf]
    exact ended_ok htr hsb.hg (by
      show ∀ x ∈ σb.bk.map (·.1), x ≤ 1
      rw [hsb.hb]
      intro x hx
      have := find_none.1 hR.refs x (by simpa using hx)
      omega)
  · right
    rw [show run N 0 (0 + 1) [] { pos := 1, t := s ++ [41], g := 1, bk := [] } = _ from hb]
    exact ⟨p', rfl⟩

theorem parse_cat {N : Nat} {a b : List UInt8} {x y : Nd} (ha : parse (N + 1) a = .ok (x, 0, false)) (hb : parse N b = .ok (y, 0, false)) (la : a.length ≤ 100) (lb : b.length ≤ 100) :
    parse (N + 5) (40 :: 63 :: 58 :: (a ++ 41 :: 40 :: 63 :: 58 :: (b ++ [41]))) = .ok (catN [x, y], 0, false) ∨ ∃ p, parse (N + 5) (40 :: 63 :: 58 :: (a ++ 41 :: 40 :: 63 :: 58 :: (b ++ [41]))) = .error (25, p) := by
  obtain ⟨bk, hR⟩ := read_of ha
  obtain ⟨bk', hR'⟩ := read_of hb
  obtain ⟨t, htt⟩ : ∃ t, t = (40 :: 63 :: 58 :: (a ++ 41 :: 40 :: 63 :: 58 :: (b ++ [41]))) := ⟨_, rfl⟩
  have hf : foldAt t = false := by rw [htt]; simp [foldAt, pre, List.isPrefixOf]
  have hbg : begins t = { pos := 0, t := t, g := 0, bk := [] } := by unfold begins; rw [hf]; rfl
  have h40 : at_ (St.mk 0 t 0 []).t 0 = 40 := by rw [htt]; rfl
  have hlt : ¬ 256 < t.length := by rw [htt]; simp; omega
  rw [← htt]
  unfold parse
  rw [if_neg hlt, hbg, run_alts, row_goes h40]
  rcases paren_run hR (rest := (40 :: 63 :: 58 :: (b ++ [41]))) rfl [] { pos := 0, t := t, g := 0, bk := [] } htt rfl with ⟨σ3, h3, ht, hg, hk⟩ | ⟨p, h3⟩
  · rw [h3]
    simp only
    rw [row_goes (by rw [ht]; rfl)]
    rcases paren_run hR' (rest := []) rfl [] σ3 ht hg with ⟨σ4, h4, ht4, hg4, hk4⟩ | ⟨p, h4⟩
    · left
      rw [h4]
      simp only
      rw [row_ends (.inl ht4)]
      simp only
      rw [if_neg (by rw [ht4]; decide), hf]
      exact ended_ok ht4 hg4 (by
        rw [hk4, hk]
        intro z hz
        rcases List.mem_append.1 hz with hz | hz
        · exact find_none.1 hR.refs z (by simpa using hz)
        · exact find_none.1 hR'.refs z hz)
    · right
      rw [h4]
      exact ⟨p, rfl⟩
  · right
    rw [h3]
    exact ⟨p, rfl⟩

theorem parse_alt {N : Nat} {a b : List UInt8} {x y : Nd} (ha : parse (N + 1) a = .ok (x, 0, false)) (hb : parse N b = .ok (y, 0, false)) (la : a.length ≤ 100) (lb : b.length ≤ 100) :
    parse (N + 5) (40 :: 63 :: 58 :: (a ++ 41 :: 124 :: 40 :: 63 :: 58 :: (b ++ [41]))) = .ok (altN [x, y], 0, false) ∨ ∃ p, parse (N + 5) (40 :: 63 :: 58 :: (a ++ 41 :: 124 :: 40 :: 63 :: 58 :: (b ++ [41]))) = .error (25, p) := by
  obtain ⟨bk, hR⟩ := read_of ha
  obtain ⟨bk', hR'⟩ := read_of hb
  obtain ⟨t, htt⟩ : ∃ t, t = (40 :: 63 :: 58 :: (a ++ 41 :: 124 :: 40 :: 63 :: 58 :: (b ++ [41]))) := ⟨_, rfl⟩
  have hf : foldAt t = false := by rw [htt]; simp [foldAt, pre, List.isPrefixOf]
  have hbg : begins t = { pos := 0, t := t, g := 0, bk := [] } := by unfold begins; rw [hf]; rfl
  have h40 : at_ (St.mk 0 t 0 []).t 0 = 40 := by rw [htt]; rfl
  have hlt : ¬ 256 < t.length := by rw [htt]; simp; omega
  rw [← htt]
  unfold parse
  rw [if_neg hlt, hbg, run_alts, row_goes h40]
  rcases paren_run hR (rest := (124 :: 40 :: 63 :: 58 :: (b ++ [41]))) rfl [] { pos := 0, t := t, g := 0, bk := [] } htt rfl with ⟨σ3, h3, ht, hg, hk⟩ | ⟨p, h3⟩
  · rw [h3]
    simp only
    rw [row_ends (.inr (by rw [ht]; rfl))]
    simp only
    rw [if_pos (by rw [ht]; rfl)]
    have h1 : (σ3.adv 1).t = 40 :: 63 :: 58 :: (b ++ [41]) := by simp [St.adv, ht]
    rw [run_alts, row_goes (by rw [h1]; rfl)]
    rcases paren_run hR' (rest := []) rfl [] (σ3.adv 1) h1 hg with ⟨σ4, h4, ht4, hg4, hk4⟩ | ⟨p, h4⟩
    · left
      rw [h4]
      simp only
      rw [row_ends (.inl ht4)]
      simp only
      rw [if_neg (by rw [ht4]; decide), hf]
      exact ended_ok ht4 hg4 (by
        rw [hk4]
        intro z hz
        rcases List.mem_append.1 hz with hz | hz
        · have hz' : z ∈ σ3.bk.map (·.1) := hz
          rw [hk] at hz'
          exact find_none.1 hR.refs z (by simpa using hz')
        · exact find_none.1 hR'.refs z hz)
    · right
      rw [h4]
      exact ⟨p, rfl⟩
  · right
    rw [h3]
    exact ⟨p, rfl⟩

end Go.Proofs.YthipgidddgdojaaDoor
