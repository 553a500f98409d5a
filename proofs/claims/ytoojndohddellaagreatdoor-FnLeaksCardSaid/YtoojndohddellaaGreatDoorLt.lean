/-
  Contracts of the text of a Duct; the model's and the program's. Conditions: those that each theorem states.
-/
import Derived.Test.YtoojndohddellaaGreatDoorFn
import Derived.Test.YtoojndohddellaaGreatDoorLa
namespace Go.Proofs.YtoojndohddellaaGreatDoor
open Go.RowKit
set_option linter.unusedVariables false
set_option linter.unusedSimpArgs false

/-- What DuctText returns. -/
def ctT (s : ByteArray) (l j lo : Int) : ByteArray := if duOk s l j lo then s ++ ⟨#[32]⟩ ++ ⟨(commas [l, j, lo]).toArray⟩ else ⟨#[]⟩
theorem isNm_size {s : ByteArray} (h : isNm s = true) : s.size ≤ 10 := by
  simp only [isNm, Bool.and_eq_true, decide_eq_true_eq] at h
  exact h.1.1.2
theorem ct_in {s : ByteArray} {l j lo : Int} (hok : duOk s l j lo = true) : fitsL [l, j, lo] = true := by
  rw [fitsL_iff]
  obtain ⟨_, ⟨b1, b2⟩, ⟨b3, b4⟩, b5, b6⟩ := duOk_bd hok
  refine ⟨fun y hy => ?_, by simp⟩
  simp only [List.mem_cons, List.not_mem_nil, or_false] at hy
  rcases hy with rfl | rfl | rfl <;> omega
theorem ctLt {w : World} {b : Nat} {s : ByteArray} {l j lo : Int} (h : DuAt w b s l j lo) : b < w.heap.size := World.block_lt_of_cell? _ _ h.1
theorem ctkeepT {w w' : World} {b : Nat} {s : ByteArray} {l j lo : Int} (h : DuAt w b s l j lo) (hb : Below w.heap.size w w') : DuAt w' b s l j lo := h.below hb (ctLt h)
set_option maxHeartbeats 2000000 in
theorem iDuctText_any (s : ByteArray) (l j lo : Int) (w : World) (hs : s.size ≤ maxLen)  (hP : Pow w) :
    Calls Tryz.prog 11 #[.agg #[.string s, .int .i64 l, .int .i64 j, .int .i64 lo]] w fun e w' => e = .returned (.string (ctT s l j lo)) ∧ Below w.heap.size w w' := by
  have HP := Lib.hid hP
  clear hP
  cases hok : duOk s l j lo
  · have HE := Lib.hid (show ctT s l j lo = ⟨#[]⟩ by simp [ctT, hok])
    go_enter Tryz.func11, Tryz.ntmps11
    go_wp2_with (first
          | (go_at_call 22; (with_reducible refine (iValidDuct_any s l j lo (w.alloc (.cells #[.string s, .int .i64 l, .int .i64 j, .int .i64 lo] 25)) hs).mono ?_); rintro e w1 ⟨rfl, hd1⟩; have hb1 := hd1; obtain ⟨hc1, hf1⟩ := bcell hb1; have hz1 : w.heap.size < w1.heap.size := Nat.lt_of_lt_of_le (by first | (simp; done) | (simp; omega)) hb1.size; clear hd1))
    go_ret
    exact ⟨by rw [HE.out]; rfl, (show Below w.heap.size w w1 from (below_box _ _).trans (hb1.mono (by simp)))⟩
  · have HE := Lib.hid (show ctT s l j lo = s ++ ⟨#[32]⟩ ++ ⟨(commas [l, j, lo]).toArray⟩ by simp [ctT, hok])
    have hsz := isNm_size (duOk_bd hok).1
    have HF := Lib.hid (ct_in hok)
    have HN := Lib.hid (fun W g (hrow : Row .i64 W (.slice (some ⟨g, 0, none⟩) 3 3) [l, j, lo]) (hP : Pow W) => namedText_any s _ [l, j, lo] W hsz hrow HF.out (by simp) hP (by intro a m c e; cases e; exact Nat.le_refl _))
    obtain ⟨L, hL⟩ : ∃ L, commas [l, j, lo] = L := ⟨_, rfl⟩
    rw [hL] at HE HN
    clear hL
    go_enter Tryz.func11, Tryz.ntmps11
    go_wp2_with (first
          | (go_at_call 22; (with_reducible refine (iValidDuct_any s l j lo (w.alloc (.cells #[.string s, .int .i64 l, .int .i64 j, .int .i64 lo] 25)) hs).mono ?_); rintro e w1 ⟨rfl, hd1⟩; have hb1 := hd1; obtain ⟨hc1, hf1⟩ := bcell hb1; have hz1 : w.heap.size < w1.heap.size := Nat.lt_of_lt_of_le (by first | (simp; done) | (simp; omega)) hb1.size; clear hd1))
    have hB := (show Below w.heap.size w w1 from (below_box _ _).trans (hb1.mono (by simp)))
    have HC := Lib.hid ((duBoxed s l j lo w).below hb1 (by simp))
    have hz := ctLt HC.out
    have HP1 := Lib.hid (HP.out.below hB)
    have HR1 := Lib.hid (show Row .i64 (w1.alloc (.cells #[.int .i64 l, .int .i64 j, .int .i64 lo] 2)) (.slice (some ⟨w1.heap.size, 0, none⟩) 3 3) [l, j, lo] from row_alloc .i64 w1 [l, j, lo] 2 3)
    (with_reducible refine (HN.out _ _ HR1.out (HP1.out.below (below_box w1 (.cells #[.int .i64 l, .int .i64 j, .int .i64 lo] 2)))).mono ?_)
    rintro e w2 ⟨rfl, hd2⟩
    go_wp2
    go_ret
    exact ⟨by rw [HE.out]; rfl, (hB.alloc hB.size (.cells #[.int .i64 l, .int .i64 j, .int .i64 lo] 2)).trans (hd2.mono (hB.alloc hB.size (.cells #[.int .i64 l, .int .i64 j, .int .i64 lo] 2)).size)⟩
end Go.Proofs.YtoojndohddellaaGreatDoor
