/-
  Contracts of the text of a list of numbers of chapter 1. Conditions: those that each theorem states.
-/
import Derived.Test.YtnlkikdgffaeeaaDoorSa
import Derived.Test.YtnlkikdgffaeeaaDoorBh
import Derived.Lib.ItoaLen
namespace Go.Proofs.YtnlkikdgffaeeaaDoor
open Go.RowKit
set_option linter.unusedVariables false

/-- The numbers in decimal, separated by commas. -/
def commas : List Int → List UInt8
  | [] => []
  | [x] => Lib.itoa x
  | x :: y :: r => Lib.itoa x ++ 44 :: commas (y :: r)
theorem commas_snoc : ∀ (l : List Int) (x : Int), l ≠ [] → commas (l ++ [x]) = commas l ++ 44 :: Lib.itoa x
  | [a], x, _ => rfl
  | a :: b :: r, x, _ => by
    show Lib.itoa a ++ 44 :: commas (b :: r ++ [x]) = _
    rw [commas_snoc (b :: r) x (by simp)]
    simp [commas]
theorem commas_len : ∀ (l : List Int), (∀ y ∈ l, -9223372036854775808 ≤ y ∧ y ≤ 9223372036854775807) → (commas l).length ≤ 22 * l.length
  | [], _ => by simp [commas]
  | [x], h => by have := Lib.itoa_length_le x (h x (by simp)).1 (h x (by simp)).2; simp [commas]; omega
  | x :: y :: r, h => by
    have := Lib.itoa_length_le x (h x (by simp)).1 (h x (by simp)).2
    have ih := commas_len (y :: r) (fun z hz => h z (List.mem_cons_of_mem _ hz))
    simp [commas] at ih ⊢
    omega
theorem bytes_app (a b : List UInt8) : (⟨a.toArray⟩ : ByteArray) ++ ⟨b.toArray⟩ = ⟨(a ++ b).toArray⟩ := by
  apply ByteArray.ext
  simp
def strB (l : List UInt8) : Value := .string ⟨l.toArray⟩

set_option maxHeartbeats 1000000 in
theorem l01List_any (v : Value) (xs : List Int) (w : World) (hv : Row .i64 w v xs) (hl : xs.length ≤ 64) (h0 : xs ≠ []) (hr : ∀ y ∈ xs, -9223372036854775808 ≤ y ∧ y ≤ 9223372036854775807) :
    Calls Tryd.prog 21 #[v] w fun e w' => e = .returned (strB (commas xs)) ∧ Below w.heap.size w w' := by
  obtain ⟨A, cap, rfl⟩ := hv.form
  have HV := Lib.hid hv
  have HR := Lib.hid hr
  have hpos : 0 < xs.length := List.length_pos_iff.2 h0
  have hz : ((xs.length : Int) == 0) = false := by simp; exact h0
  clear hv hr h0
  go_enter Tryd.func21, Tryd.ntmps21
  go_wp2
  go_loopw [3, 4] (fun s i wr => ∃ k : Nat, k ≤ xs.length ∧ i = .int .i64 k ∧ s = strB (commas (xs.take k)) ∧ Below w.heap.size w wr) (fun s i wr => xs.length - (intOf i).toNat)
  case atStart => exact ⟨0, by omega, rfl, rfl, Below.refl _ _⟩
  case round =>
    obtain ⟨k, hk, rfl, rfl, hbel⟩ := hrel
    by_cases hlt : k < xs.length
    · obtain ⟨b, off, rfl, _, hc⟩ := Row.cell (HV.out.below hbel) hlt
      rw [show xs.getD k 0 = xs[k] by simp [List.getD, hlt]] at hc
      have hb := HR.out xs[k] (List.getElem_mem hlt)
      have HS := Lib.hid (show xs.take (k + 1) = xs.take k ++ [xs[k]] from List.take_succ_eq_append_getElem hlt)
      have hq1 : (commas (xs.take k)).length ≤ 1408 := by
        have := commas_len (xs.take k) (fun y hy => HR.out y (List.mem_of_mem_take hy))
        have := List.length_take_le k xs
        omega
      generalize xs[k] = z at *
      have hq2 : (Lib.itoa z).length ≤ 21 := Lib.itoa_length_le z hb.1 hb.2
      unfold strB
      by_cases hk0 : k = 0
      · subst hk0
        rw [List.take_zero]
        rw [Nat.add_zero] at hc
        obtain ⟨wo, rfl⟩ : ∃ wo : World, wo = wr := ⟨_, rfl⟩
        have HZ := Lib.hid (show commas (xs.take (0 + 1)) = Lib.itoa z by rw [HS.out]; rfl)
        rw [show commas [] = [] from rfl, show ((0 : Nat) : Int) = 0 from rfl]
        go_wp2_with (go_at_call 31; refine (l01Dec_any z _ hb.1 hb.2).mono ?_; rintro e w' ⟨rfl, hb1⟩)
        go_roundw
        case rel => exact ⟨1, by omega, rfl, by rw [HZ.out]; rw [show (⟨#[]⟩ : ByteArray) = ⟨([] : List UInt8).toArray⟩ from rfl, bytes_app]; rfl, hbel.trans (hb1.mono hbel.size)⟩
        case measure => simp [intOf]; omega
      · have t1 : (0 : Int) < (k : Int) := by omega
        obtain ⟨wo, rfl⟩ : ∃ wo : World, wo = wr := ⟨_, rfl⟩
        have HZ := Lib.hid (show commas (xs.take (k + 1)) = commas (xs.take k) ++ 44 :: Lib.itoa z by rw [HS.out, commas_snoc _ _ (fun e => by have := congrArg List.length e; rw [List.length_take, Nat.min_eq_left hk] at this; exact hk0 this)])
        generalize commas (xs.take k) = cs at *
        go_wp2_with (go_at_call 31; refine (l01Dec_any z _ hb.1 hb.2).mono ?_; rintro e w' ⟨rfl, hb1⟩)
        go_roundw
        case rel => exact ⟨k + 1, by omega, by go_num, by rw [HZ.out]; rw [show (⟨#[44]⟩ : ByteArray) = ⟨([44] : List UInt8).toArray⟩ from rfl, bytes_app, bytes_app]; simp, hbel.trans (hb1.mono hbel.size)⟩
        case measure => simp [intOf]; omega
    · obtain rfl : k = xs.length := by omega
      rw [List.take_length]
      unfold strB
      go_wp2
      go_ret
      exact ⟨rfl, hbel⟩
end Go.Proofs.YtnlkikdgffaeeaaDoor
