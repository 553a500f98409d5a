/-
  Contracts of the names of codes of chapter 1. Conditions: none.
-/
import Derived.Test.YtbhfaaaklfnplaaBa
namespace Go.Proofs.Ytbhfaaaklfnplaa
open Go.RowKit
set_option linter.unusedVariables false

theorem inB_lits : (inB 0 0 11 = true ∧ inB 1 0 11 = true ∧ inB 2 0 11 = true ∧ inB 3 0 11 = true ∧ inB 4 0 11 = true ∧ inB 5 0 11 = true) ∧ (inB 6 0 11 = true ∧ inB 7 0 11 = true ∧ inB 8 0 11 = true ∧ inB 9 0 11 = true ∧ inB 10 0 11 = true ∧ inB 11 0 11 = true) := by decide
def codeNames : List ByteArray := [⟨#[111, 107]⟩, ⟨#[105, 110, 118, 97, 108, 105, 100]⟩, ⟨#[114, 97, 110, 103, 101]⟩, ⟨#[110, 111, 116, 45, 102, 111, 117, 110, 100]⟩, ⟨#[101, 120, 105, 115, 116, 115]⟩, ⟨#[102, 117, 108, 108]⟩, ⟨#[115, 116, 97, 116, 101]⟩, ⟨#[111, 114, 100, 101, 114]⟩, ⟨#[115, 121, 110, 116, 97, 120]⟩, ⟨#[102, 111, 114, 109, 97, 116]⟩, ⟨#[99, 104, 101, 99, 107, 115, 117, 109]⟩, ⟨#[116, 114, 117, 110, 99, 97, 116, 101, 100]⟩]
/-- What CodeName returns. -/
def codeNm (c : Int) : ByteArray := if 0 ≤ c ∧ c ≤ 11 then codeNames.getD c.toNat ⟨#[]⟩ else ⟨#[]⟩

set_option maxHeartbeats 4000000 in
theorem sCodeName_any (c : Int) (w : World) :
    Calls Try.prog 10 #[.int .i64 c] w fun e w' => e = .returned (.string (codeNm c)) ∧ Grown w w' := by
  by_cases h : 0 ≤ c ∧ c ≤ 11
  · rcases (show c = 0 ∨ c = 1 ∨ c = 2 ∨ c = 3 ∨ c = 4 ∨ c = 5 ∨ c = 6 ∨ c = 7 ∨ c = 8 ∨ c = 9 ∨ c = 10 ∨ c = 11 by omega) with rfl | rfl | rfl | rfl | rfl | rfl | rfl | rfl | rfl | rfl | rfl | rfl
    all_goals
      clear h
      have hi := inB_lits
      go_enter Try.func10, Try.ntmps10
      go_wp2_with (go_at_call 27; refine (l00In_any _ _ _ _).mono ?_; rintro e w' ⟨rfl, rfl⟩)
      go_ret
      exact ⟨rfl, by go_grown⟩
  · have hi := inB_false h
    have HE := Lib.hid (show codeNm c = ⟨#[]⟩ by unfold codeNm; rw [if_neg h])
    clear h
    go_enter Try.func10, Try.ntmps10
    go_wp2_with (go_at_call 27; refine (l00In_any _ _ _ _).mono ?_; rintro e w' ⟨rfl, rfl⟩)
    go_ret
    exact ⟨(by rw [HE.out] : Ending.returned (Value.string ⟨#[]⟩) = .returned (.string (codeNm c))), by go_grown⟩

set_option maxHeartbeats 4000000 in
theorem iCodeName_any (c : Int) (w : World) :
    Calls Try.prog 11 #[.int .i64 c] w fun e w' => e = .returned (.string (codeNm c)) ∧ Grown w w' := by
  by_cases h : 0 ≤ c ∧ c ≤ 11
  · rcases (show c = 0 ∨ c = 1 ∨ c = 2 ∨ c = 3 ∨ c = 4 ∨ c = 5 ∨ c = 6 ∨ c = 7 ∨ c = 8 ∨ c = 9 ∨ c = 10 ∨ c = 11 by omega) with rfl | rfl | rfl | rfl | rfl | rfl | rfl | rfl | rfl | rfl | rfl | rfl
    all_goals
      clear h
      have hi := inB_lits
      go_enter Try.func11, Try.ntmps11
      go_wp2_with (go_at_call 28; refine (within64_one _ _ _ _).mono ?_; rintro e w' ⟨rfl, rfl⟩)
      go_ret
      exact ⟨rfl, by go_grown⟩
  · have hi := inB_false h
    have HE := Lib.hid (show codeNm c = ⟨#[]⟩ by unfold codeNm; rw [if_neg h])
    clear h
    go_enter Try.func11, Try.ntmps11
    go_wp2_with (go_at_call 28; refine (within64_one _ _ _ _).mono ?_; rintro e w' ⟨rfl, rfl⟩)
    go_ret
    exact ⟨(by rw [HE.out] : Ending.returned (Value.string ⟨#[]⟩) = .returned (.string (codeNm c))), by go_grown⟩

end Go.Proofs.Ytbhfaaaklfnplaa
