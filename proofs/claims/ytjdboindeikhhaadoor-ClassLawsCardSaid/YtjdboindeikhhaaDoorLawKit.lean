/- What the laws' walks share: the calls' contracts in one form. -/
import Derived.Test.YtjdboindeikhhaaDoorLawMath
import Derived.Test.YtjdboindeikhhaaDoorAnchor
import Derived.Test.YtjdboindeikhhaaDoorOr
import Derived.Test.YtjdboindeikhhaaDoorAnd
import Derived.Test.YtjdboindeikhhaaDoorHas
import Derived.Test.YtjdboindeikhhaaDoorRanges
namespace Go.Proofs.YtjdboindeikhhaaDoor
open Go.RowKit

theorem or_gives (v1 v2 : Value) (s o : List Rg) (w : World) (hs : SetV w.heap.size w v1 s) (ho : SetV w.heap.size w v2 o) (hms : s.length ≤ 400000) (hmo : o.length ≤ 400000) (h1 : Norm s) (h2 : Norm o) :
    Calls Tryd.prog 22 #[v1, v2] w (Gives (fun m => Norm m ∧ (∀ u, hasB m u = (hasB s u || hasB o u)) ∧ m.length ≤ s.length + o.length) w) :=
  (or_right v1 v2 s o w hs ho hms hmo h1 h2).mono fun _ _ ⟨v', m, he, hS, hn, hh, hl, hb⟩ => ⟨v', m, he, hS, ⟨hn, hh, hl⟩, hb⟩
theorem ranges_gives (v : Value) (l : List Rg) (w : World) (hmax : l.length ≤ 1000000) (hS : SetV w.heap.size w v l) :
    Calls Tryd.prog 12 #[v] w fun e w' => ∃ v', e = .returned v' ∧ SetV w'.heap.size w' v' l ∧ Below w.heap.size w w' :=
  (ranges_any v l w hmax hS).mono fun _ _ ⟨v', he, hO, hb⟩ => ⟨v', he, hO.set, hb⟩
theorem env_start {w : World} {v : Value} {l : List Rg} (h : SetV w.heap.size w v l) : Env w w [(v, l)] := ⟨Below.refl _ _, fun p hp => by
  obtain rfl := List.mem_singleton.1 hp
  exact h⟩

end Go.Proofs.YtjdboindeikhhaaDoor
