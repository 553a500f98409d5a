/-
  Contracts of chapter 3: resistances, the quotient; the model's and the program's. Conditions: those that each theorem states.
-/
import Derived.Test.YtddfhjolimkkmaaDc
import Derived.Test.YtddfhjolimkkmaaBd
namespace Go.Proofs.Ytddfhjolimkkmaa
open Go.RowKit
set_option linter.unusedVariables false
set_option linter.unusedSimpArgs false

theorem root_bd {se : Int} (h1 : 50 ≤ se) (h2 : se ≤ 5000) : 0 ≤ rootR (se * 10000) ∧ rootR (se * 10000) ≤ 7071 := by
  refine ⟨rootR_nonneg _, ?_⟩
  apply Int.le_of_not_gt; intro hl
  have := (le_rootR (se * 10000) 7072 (by omega)).2 (by omega)
  omega
/-- The quotient of chapter 3, with a section. -/
def rawR (l fr sh se : Int) : Int := divR (fr * (l + sh) * rootR (se * 10000) * 400000) (se * se * se)
theorem raw_bds {l fr sh se : Int} (h1 : 1 ≤ l ∧ l ≤ 10000) (h2 : 1 ≤ fr ∧ fr ≤ 1000) (h3 : 0 ≤ sh ∧ sh ≤ 1000) (h4 : 50 ≤ se ∧ se ≤ 5000) :
    ((0 ≤ rootR (se * 10000) ∧ rootR (se * 10000) ≤ 7071) ∧ (0 ≤ fr * (l + sh) ∧ fr * (l + sh) ≤ 11000000)) ∧ (0 ≤ fr * (l + sh) * rootR (se * 10000) ∧ fr * (l + sh) * rootR (se * 10000) ≤ 77781000000) ∧
    (1 ≤ se * se ∧ se * se ≤ 25000000) ∧ (1 ≤ se * se * se ∧ se * se * se ≤ 125000000000) := by
  have r := root_bd h4.1 h4.2
  have a := mul_nn (p := fr) (q := l + sh) (A := 1000) (B := 11000) (by omega) (by omega) (by omega) (by omega)
  have b := mul_nn (p := fr * (l + sh)) (q := rootR (se * 10000)) (A := 11000000) (B := 7071) (by omega) (by omega) (by omega) (by omega)
  have c := mul_nn (p := se) (q := se) (A := 5000) (B := 5000) (by omega) (by omega) (by omega) (by omega)
  have c1 : 50 * 50 ≤ se * se := Int.mul_le_mul h4.1 h4.1 (by omega) (by omega)
  have d := mul_nn (p := se * se) (q := se) (A := 25000000) (B := 5000) (by omega) (by omega) (by omega) (by omega)
  have d1 : 2500 * 50 ≤ se * se * se := Int.mul_le_mul (by omega) h4.1 (by omega) (by omega)
  omega
theorem raw_nonneg {l fr sh se : Int} (h1 : 1 ≤ l ∧ l ≤ 10000) (h2 : 1 ≤ fr ∧ fr ≤ 1000) (h3 : 0 ≤ sh ∧ sh ≤ 1000) (h4 : 50 ≤ se ∧ se ≤ 5000) : 0 ≤ rawR l fr sh se ∧ rawR l fr sh se ≤ 31112400000000000 := by
  obtain ⟨⟨r, a⟩, b, c, d⟩ := raw_bds h1 h2 h3 h4
  unfold rawR
  have hb := divR_bd (fr * (l + sh) * rootR (se * 10000) * 400000) (se * se * se)
  rw [divR_pp _ _ (by omega) (by omega)] at hb ⊢
  refine ⟨Int.ediv_nonneg (by omega) (by omega), ?_⟩
  omega
def max1 (x : Int) : Int := if x < 1 then 1 else x

theorem l03Raw_any (b : Nat) (s : ByteArray) (f t l se fr sh : Int) (se' : Int) (w : World) (hc : AwAt w b s f t l se fr sh) (h1 : 1 ≤ l ∧ l ≤ 10000) (h2 : 1 ≤ fr ∧ fr ≤ 1000) (h3 : 0 ≤ sh ∧ sh ≤ 1000) (h4 : 50 ≤ se' ∧ se' ≤ 5000) :
    Calls Try.prog 167 #[.pointer (some ⟨b, 0, none⟩), .int .i64 se'] w fun e w' => e = .returned (.int .i64 (rawR l fr sh se')) ∧ ∃ n, w' = w.drewN n := by
  have HE := Lib.hid (show rawR l fr sh se' = divR (fr * (l + sh) * rootR (se' * 10000) * 400000) (se' * se' * se') from rfl)
  obtain ⟨⟨c0, c1, c2, c3⟩, c4, c5, c6⟩ := hc
  obtain ⟨⟨⟨r1, r2⟩, a1, a2⟩, ⟨b1, b2⟩, ⟨d1, d2⟩, e1, e2⟩ := raw_bds h1 h2 h3 h4
  go_enter Try.func167, Try.ntmps167
  go_wp2
  go_quiet ((first | (go_at_call 145; exact quiet_lft (l01Root_any _ _ ⟨by omega, by omega⟩)) | (go_at_call 141; exact quiet_lft (l01Div_any _ _ _ (by omega) (by omega) (by omega) (by omega) (by omega)))))
  go_wp2
  go_ret
  exact ⟨ret_int HE.out.symm, _, rfl⟩
end Go.Proofs.Ytddfhjolimkkmaa
