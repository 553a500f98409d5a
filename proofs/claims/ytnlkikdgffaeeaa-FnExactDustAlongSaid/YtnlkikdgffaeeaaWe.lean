/-
  Contracts of the laws' marks on rows, for greater numbers. Conditions: those that each theorem states.
-/
import Derived.Test.YtnlkikdgffaeeaaNh
namespace Go.Proofs.Ytnlkikdgffaeeaa
open Go.RowKit
set_option linter.unusedVariables false
set_option linter.unusedSimpArgs false

theorem markInt64SB_any (B : Nat) (v : Value) (xs : List Int) (k : Int) (w : World) (hv : OwnI w B v xs) (hl : xs.length ≤ 1048576) (hk : 0 ≤ k ∧ k ≤ 100000000) :
    Calls Try.prog 29 #[v, .int .i64 k] w fun e w' => e = .returned (.int .i64 (k + xs.length)) ∧ OwnI w' B v (marks k xs.length) ∧ w.grownBy w' v.ownBlock := by
  obtain ⟨A, cap, rfl⟩ := hv.form
  have HV := Lib.hid hv
  clear hv
  go_enter Try.func29, Try.ntmps29
  go_wp2
  go_loopw [1, 5] (fun m i wr => ∃ j : Nat, j ≤ xs.length ∧ i = .int .i64 j ∧ m = .int .i64 (k + j) ∧ wr.ownsRow B 2 1 (.slice A xs.length cap) xs.length (intsV (marks k j ++ xs.drop j)) ∧ w.grownBy wr (Value.slice A xs.length cap).ownBlock) (fun m i wr => xs.length - (intOf i).toNat)
  case atStart => exact ⟨0, by omega, rfl, by simp, HV.out, World.grownBy.refl _ _⟩
  case round =>
    obtain ⟨j, hj, rfl, rfl, hown, hgr⟩ := hrel
    by_cases hlt : j < xs.length
    · obtain ⟨g, cap', e, hg, hgl⟩ := hown.form (by omega)
      injection e with e1 e2 e3
      subst e1 e3
      have HP := Lib.hid (marks_put (k := k) hlt)
      have hcd : ∃ u, wr.cell? ⟨g, j, none⟩ = some u := by
        rw [hown.cellAt j (by omega)]
        exact ⟨_, List.getElem?_eq_getElem (by simp [intsV, marks_len]; omega)⟩
      obtain ⟨u, hcd⟩ := hcd
      have hfz := hown.frozenAt j
      have HO := Lib.hid hown
      have HG := Lib.hid hgr
      clear hown hgr
      go_wp2
      go_roundw
      case rel => exact ⟨j + 1, by omega, by go_num, by go_num, by
        have h := (HO.out.stored j (.int .i64 (k + j))).1
        rwa [HP.out] at h, HG.out.trans (HO.out.stored j (.int .i64 (k + j))).2⟩
      case measure => simp [intOf]; omega
    · obtain rfl : j = xs.length := by omega
      rw [List.drop_length, List.append_nil] at hown
      have HO := Lib.hid hown
      have HG := Lib.hid hgr
      clear hown hgr
      go_wp2
      go_ret
      exact ⟨rfl, by unfold OwnI; rw [marks_len]; exact HO.out, HG.out⟩
end Go.Proofs.Ytnlkikdgffaeeaa
