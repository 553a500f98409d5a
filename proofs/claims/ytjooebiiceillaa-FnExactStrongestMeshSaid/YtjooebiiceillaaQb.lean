/-
  Contracts of AirwaysAt: the program's and the model's. Conditions: those that each theorem states.
-/
import Derived.Test.YtjooebiiceillaaQa
namespace Go.Proofs.Ytjooebiiceillaa
open Go.RowKit
set_option linter.unusedVariables false
set_option linter.unusedSimpArgs false

theorem own_le {w : World} {B B' : Nat} {v : Value} {xs : List Int} (h : OwnI w B v xs) (hb : B' ≤ B) : OwnI w B' v xs :=
  ⟨h.1, h.2.elim Or.inl (fun ⟨g, cap, cur, hv, hg, r⟩ => Or.inr ⟨g, cap, cur, hv, Nat.le_trans hb hg, r⟩)⟩
theorem own_nil (w : World) (B : Nat) : OwnI w B (.slice none 0 0) [] := World.ownsRow_nil _ _ _ _
theorem openAt_any (J x : Int) (A : Option Addr) (cap : Nat) (xs : List Aw) (w : World) (hn : xs.length ≤ 1048576) (hr : AwR w A xs) :
    Calls Try.prog 121 #[.agg #[.int .i64 J, .slice A xs.length cap, (.map none)], .int .i64 x] w fun e w' => ∃ v, e = .returned v ∧ OwnI w' w.heap.size v (atTo xs x xs.length) ∧ Below w.heap.size w w' := by
  have HB0 := Lib.hid (show Below w.heap.size w ((w.alloc (.cells #[.int .i64 J, .slice A xs.length cap, (.map none)] 96)).alloc (.cells #[.int .i64 x] 2)) from (below_box _ _).alloc (by simp) _)
  have HR := Lib.hid (hr.below HB0.out)
  clear hr
  go_enter Try.func121, Try.ntmps121
  go_wp2_with fail
  (with_reducible refine (airwaysThat_any w.heap.size (w.heap.size + 1) xs.length cap J x A xs _ rfl hn ⟨by simp, by simp, by simp, by simp⟩ HR.out).mono ?_)
  rintro e w1 ⟨v, rfl, ho, hb⟩
  have HO := Lib.hid (own_le ho (by simp <;> omega : w.heap.size ≤ _))
  have HB := Lib.hid (HB0.out.trans (hb.mono (by simp <;> omega)))
  clear ho hb
  go_wp2
  go_ret
  exact ⟨_, rfl, HO.out, HB.out⟩
/-- What AirwaysAt returns. -/
def atR (J : Int) (xs : List Aw) (x : Int) : List Int := if mineOk J xs && inB x 0 (J - 1) then atTo xs x xs.length else []
def atB (J : Int) (xs : List Aw) (x : Int) : Int := if mineOk J xs then (if inB x 0 (J - 1) then 0 else 2) else 1
theorem ret_v2 {v : Value} {b b' : Int} (h : b = b') : Ending.returned (.tuple #[v, .int .i64 b]) = .returned (.tuple #[v, .int .i64 b']) := by rw [h]
theorem atR_len (J : Int) (xs : List Aw) (x : Int) : (atR J xs x).length ≤ xs.length := by
  unfold atR; split
  · exact atTo_len _ _ _
  · simp
end Go.Proofs.Ytjooebiiceillaa
