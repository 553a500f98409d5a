/-
  Contract of namedText: a name, a blank and a list. Conditions: those that each theorem states.
-/
import Derived.Test.YthbofhlfggkolaaDoorSc
import Derived.Test.YthbofhlfggkolaaDoorRg
namespace Go.Proofs.YthbofhlfggkolaaDoor
open Go.RowKit
set_option linter.unusedVariables false
set_option linter.unusedSimpArgs false

theorem str_add {x y : ByteArray} (h : x.size + y.size ≤ 100000) : Op.stringOp .add x y = pure (.string (x ++ y)) := by
  unfold Op.stringOp
  simp only []
  rw [if_neg (by simp [IntKind.max, IntKind.bits, IntKind.signed]; omega)]
set_option maxHeartbeats 1000000 in
theorem namedText_any (s : ByteArray) (v : Value) (xs : List Int) (w : World) (hs : s.size ≤ 10) (hv : Row .i64 w v xs) (hf : fitsL xs = true) (h0 : xs ≠ []) (hP : Pow w) (hcp : ∀ A n c, v = .slice A n c → n ≤ c) :
    Calls Tryd.prog 35 #[.string s, v] w fun e w' => e = .returned (.string (s ++ ⟨#[32]⟩ ++ ⟨(commas xs).toArray⟩)) ∧ Below w.heap.size w w' := by
  obtain ⟨hr, hn⟩ := fitsL_iff.1 hf
  have hl := commas_len xs (fun y hy => by have := hr y hy; omega)
  have HL := Lib.hid (show listT xs = commas xs by unfold listT; rw [hf, if_neg h0]; rfl)
  obtain ⟨A, cap, rfl⟩ := hv.form
  have HI := Lib.hid (fun W (h : Below w.heap.size w W) => iListText_any _ xs W (hv.below h) (by omega) (hP.below h) hcp)
  rw [HL.out] at HI
  obtain ⟨L, hL⟩ : ∃ L, commas xs = L := ⟨_, rfl⟩
  rw [hL] at hl HI ⊢
  clear hL hr hf h0 hv hP hcp HL
  have hl2 : (⟨L.toArray⟩ : ByteArray).size ≤ 2000 := by show L.toArray.size ≤ 2000; simp; omega
  have hs2 : (s ++ (⟨#[32]⟩ : ByteArray)).size ≤ 11 := by rw [ByteArray.size_append]; show s.size + 1 ≤ 11; omega
  have e1 := str_add (x := s) (y := ⟨#[32]⟩) (by show s.size + 1 ≤ 100000; omega)
  have e2 := str_add (x := s ++ ⟨#[32]⟩) (y := ⟨L.toArray⟩) (by omega)
  have e3 : binOp .add 9 (.string s) (.string ⟨#[32]⟩) = pure (.string (s ++ ⟨#[32]⟩)) := (binOp_string_add _ _ _).trans e1
  have e4 : binOp .add 9 (.string (s ++ ⟨#[32]⟩)) (.string ⟨L.toArray⟩) = pure (.string (s ++ ⟨#[32]⟩ ++ ⟨L.toArray⟩)) := (binOp_string_add _ _ _).trans e2
  go_enter Tryd.func35, Tryd.ntmps35
  go_wp2_with fail
  (with_reducible refine (HI.out _ (Below.refl _ _)).mono ?_)
  rintro e w2 ⟨he, hd2⟩
  obtain rfl : e = .returned (.string ⟨L.toArray⟩) := he
  go_wp2
  go_ret
  exact ⟨rfl, hd2⟩
end Go.Proofs.YthbofhlfggkolaaDoor
