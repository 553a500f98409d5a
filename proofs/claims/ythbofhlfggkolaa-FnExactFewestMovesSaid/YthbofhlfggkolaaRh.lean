/-
  Steps of a region that draws its order where two operations may come up. Conditions: those that each theorem states.
-/
import Derived.Test.YthbofhlfggkolaaRg
namespace Go.Proofs.Ythbofhlfggkolaa
open Go.RowKit
set_option linter.unusedVariables false
section
variable {P : Program} {ops : Array Oper} {Q : Exit → Act → World → Prop} {S : World → Prop} {md : Region.Mode}
theorem gTwo (i j : Nat) {oi oj : Oper} {fuel : Nat} {listed : Array Bool} {a : Act} {w : World} (hi : ops[i]? = some oi) (hj : ops[j]? = some oj) (hr : Region.ready md ops listed = [i, j])
    (hwi : Region.wanted oi (yielded ops a.tmps) = true) (hwj : Region.wanted oj (yielded ops a.tmps) = true)
    (h1 : ∀ K : Act → World → Prop, (∀ a' w', S w' → wpAnyH P md ops Q S fuel (listed.setIfInBounds i true) a' w' → K a' w') → oi.wp P a w K Q)
    (h2 : ∀ K : Act → World → Prop, (∀ a' w', S w' → wpAnyH P md ops Q S fuel (listed.setIfInBounds j true) a' w' → K a' w') → oj.wp P a w K Q) : wpAnyH P md ops Q S (fuel + 1) listed a w :=
  wpAnyH_all hr (by simp) fun t ht => by
    rcases List.mem_cons.1 ht with rfl | ht
    · unfold wpOp
      rw [hi]
      simp only [hwi, if_true]
      exact .inl (h1 _ fun a' w' x y => ⟨x, y⟩)
    · obtain rfl := List.mem_singleton.1 ht
      unfold wpOp
      rw [hj]
      simp only [hwj, if_true]
      exact .inl (h2 _ fun a' w' x y => ⟨x, y⟩)
end
end Go.Proofs.Ythbofhlfggkolaa
