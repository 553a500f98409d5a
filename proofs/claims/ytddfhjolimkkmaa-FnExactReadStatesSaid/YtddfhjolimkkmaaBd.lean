/-
  Contracts of the roots of chapter 1. Conditions: those that each theorem states.
-/
import Derived.Test.YtddfhjolimkkmaaBc
import Derived.Test.YtddfhjolimkkmaaShelf
import Derived.Laws.BitsAllLaws
namespace Go.Proofs.Ytddfhjolimkkmaa
open Go.RowKit
set_option linter.unusedVariables false

def sqrtN : Nat → Nat
  | 0 => 0
  | n + 1 => if (sqrtN n + 1) * (sqrtN n + 1) ≤ n + 1 then sqrtN n + 1 else sqrtN n
theorem sqrtN_spec (n : Nat) : sqrtN n * sqrtN n ≤ n ∧ n < (sqrtN n + 1) * (sqrtN n + 1) := by
  induction n with
  | zero => simp [sqrtN]
  | succ n ih =>
    rw [sqrtN]
    generalize sqrtN n = r at ih
    split
    · refine ⟨by assumption, ?_⟩
      have : (r + 1 + 1) * (r + 1 + 1) = (r + 1) * (r + 1) + 2 * r + 3 := by simp [Nat.add_mul, Nat.mul_add]; omega
      omega
    · omega
/-- The square root, rounded down; 0 of what is negative. -/
def rootR (n : Int) : Int := if n < 0 then 0 else sqrtN n.toNat
theorem rootR_nonneg (n : Int) : 0 ≤ rootR n := by unfold rootR; split <;> omega
theorem le_rootR (n m : Int) (hm : 1 ≤ m) : m * m ≤ n ↔ m ≤ rootR n := by
  unfold rootR
  split
  · have : 0 ≤ m * m := Int.mul_nonneg (by omega) (by omega)
    omega
  · obtain ⟨k, rfl⟩ := Int.eq_ofNat_of_zero_le (show 0 ≤ n by omega)
    obtain ⟨j, rfl⟩ := Int.eq_ofNat_of_zero_le (show 0 ≤ m by omega)
    have h := sqrtN_spec k
    simp only [Int.toNat_natCast]
    constructor
    · intro hh
      have hh' : j * j ≤ k := by exact_mod_cast hh
      have : j ≤ sqrtN k := by
        apply Nat.le_of_not_lt; intro hl
        have := Nat.mul_le_mul (show sqrtN k + 1 ≤ j from hl) (show sqrtN k + 1 ≤ j from hl)
        omega
      exact_mod_cast this
    · intro hh
      have hh' : j ≤ sqrtN k := by exact_mod_cast hh
      have := Nat.mul_le_mul hh' hh'
      exact_mod_cast (Nat.le_trans this h.1)
theorem rootR_max (n : Int) (h : n ≤ 9223372036854775807) : rootR n ≤ 3037000499 := by
  apply Int.le_of_not_gt; intro hl
  have := (le_rootR n 3037000500 (by omega)).2 (by omega)
  omega

set_option maxHeartbeats 400000 in
theorem l01Root_any (n : Int) (w : World) (hn : I64 n) :
    Calls Try.prog 145 #[.int .i64 n] w fun e w' => e = .returned (.int .i64 (rootR n)) ∧ w = w' := by
  have hr0 := rootR_nonneg n
  have hr1 := rootR_max n hn.2
  go_enter Try.func145, Try.ntmps145
  go_wp2
  go_loop [3, 4] (fun a b => ∃ l h : Int, 0 ≤ l ∧ l ≤ rootR n ∧ rootR n ≤ h ∧ h ≤ 3037000499 ∧ a = .int .i64 l ∧ b = .int .i64 h) (fun a b => (intOf b - intOf a).toNat)
  case atStart => exact ⟨0, 3037000499, by omega, hr0, hr1, by omega, rfl, rfl⟩
  case round =>
    obtain ⟨l, h, h1, h2, h3, h4, rfl, rfl⟩ := hrel
    have e1 : 1 ≤ l + h + 1 → l < h → 1 ≤ (l + h + 1) / 2 ∧ l < (l + h + 1) / 2 ∧ (l + h + 1) / 2 ≤ h := by omega
    by_cases hlt : l < h
    · obtain ⟨f1, f2, f3⟩ := e1 (by omega) hlt
      have hle := le_rootR n ((l + h + 1) / 2) f1
      have hsq := mul_bd ((l + h + 1) / 2) ((l + h + 1) / 2) 3037000499 3037000499 (by omega) (by omega) (by omega) (by omega)
      clear e1
      by_cases hm : (l + h + 1) / 2 * ((l + h + 1) / 2) ≤ n
      · have hr := hle.1 hm
        have HC := Lib.hid hle; clear hle
        go_wp2
        go_round
        case rel => exact ⟨_, _, by omega, hr, h3, h4, rfl, rfl⟩
        case measure => simp [intOf]; omega
      · have hr : rootR n < (l + h + 1) / 2 := by rcases Int.lt_or_le (rootR n) ((l + h + 1) / 2) with q | q; exact q; exact absurd (hle.2 q) hm
        have HC := Lib.hid hle; clear hle
        go_wp2
        go_round
        case rel => exact ⟨_, _, h1, h2, by omega, by omega, rfl, rfl⟩
        case measure => simp [intOf]; omega
    · have HE := Lib.hid (show rootR n = l by omega)
      clear e1
      go_wp2
      go_ret
      exact ⟨ret_int HE.out.symm, rfl⟩
theorem bitLenAux_spec : ∀ (f x : Nat), x < 2 ^ f → Lib.bitLenAux f x ≤ f ∧ x < 2 ^ Lib.bitLenAux f x
  | 0, x, h => by simp at h; subst h; simp [Lib.bitLenAux]
  | f + 1, x, h => by
    rw [Lib.bitLenAux]
    split
    · subst x; simp
    · have ih := bitLenAux_spec f (x / 2) (by rw [Nat.pow_succ] at h; omega)
      refine ⟨by omega, ?_⟩
      rw [Nat.pow_add]; omega
theorem len64_any (n : Int) (w : World) (h0 : 0 ≤ n) (h1 : n ≤ 9223372036854775807) :
    Calls Try.prog 172 #[.int .u64 n] w fun e w' => ∃ L : Nat, e = .returned (.int .i64 L) ∧ L ≤ 63 ∧ Hid (n < 2 ^ L) ∧ w = w' := by
  refine (Try.bits_Len64 n w h0 (by omega)).mono ?_
  rintro e w' ⟨rfl, rfl⟩
  have hb := bitLenAux_spec 63 n.toNat (by omega)
  have hf := Lib.bitLenAux_fuel 63 n.toNat (by omega) 64 (by omega)
  refine ⟨_, rfl, ?_, Lib.hid ?_, rfl⟩
  · unfold Lib.bitLen; rw [hf]; exact hb.1
  · unfold Lib.bitLen; rw [hf]
    obtain ⟨k, rfl⟩ := Int.eq_ofNat_of_zero_le h0
    have := hb.2
    simp only [Int.toNat_natCast] at this ⊢
    exact_mod_cast this
theorem iRootOf_any (n : Int) (w : World) (hn : I64 n) :
    Calls Try.prog 146 #[.int .i64 n] w fun e w' => e = .returned (.int .i64 (rootR n)) ∧ w = w' := by
  have hr0 := rootR_nonneg n
  have hr1 := rootR_max n hn.2
  unfold I64 at hn
  by_cases h : n < 0
  · have HE := Lib.hid (show rootR n = 0 from if_pos h)
    go_enter Try.func146, Try.ntmps146
    go_wp2
    go_ret
    exact ⟨ret_int HE.out.symm, rfl⟩
  · go_enter Try.func146, Try.ntmps146
    go_wp2_with (go_at_call 172; refine (len64_any _ _ (by omega) (by omega)).mono ?_; rintro e w' ⟨L, rfl, hL, HL, rfl⟩)
    have hL2 : 2 ^ (L / 2) ≤ 2 ^ 31 := Nat.pow_le_pow_right (by omega) (by omega)
    have hw : IntKind.u64.wrap (2 ^ (L / 2)) = ((2 ^ (L / 2) : Nat) : Int) := by
      rw [show ((2 : Int) ^ (L / 2)) = ((2 ^ (L / 2) : Nat) : Int) by simp]; generalize 2 ^ (L / 2) = P at *; exact IntWalk.u64_in _ (by omega)
    rw [hw]
    clear hw hL2
    go_loop [3, 4] (fun a b => ∃ j m : Nat, j ≤ 32 ∧ m * 2 ^ j + 2 ^ j ≤ 4294967296 ∧ Hid ((m * 2 ^ j : Nat) ≤ rootR n ∧ rootR n < (m * 2 ^ j + 2 ^ j : Nat)) ∧ a = .int .u64 (m * 2 ^ j : Nat) ∧ b = .int .u64 (2 ^ j / 2 : Nat)) (fun a b => (intOf b).toNat)
    case atStart =>
      refine ⟨L / 2 + 1, 0, by omega, by rw [Nat.zero_mul, Nat.zero_add]; exact Nat.pow_le_pow_right (n := 2) (j := 32) (by omega) (by omega), Lib.hid ⟨by simp; exact hr0, ?_⟩, by simp, by rw [Nat.pow_succ]; simp⟩
      have h4 : ((2 ^ (L / 2 + 1) : Nat) : Int) * ((2 ^ (L / 2 + 1) : Nat) : Int) = ((2 ^ (L / 2 + 1) * 2 ^ (L / 2 + 1) : Nat) : Int) := by simp
      have h5 : 2 ^ L ≤ 2 ^ (L / 2 + 1) * 2 ^ (L / 2 + 1) := by rw [← Nat.pow_add]; exact Nat.pow_le_pow_right (by omega) (by omega)
      have h6 : n < ((2 ^ L : Nat) : Int) := by have := HL.out; simpa using this
      have h7 : 0 < 2 ^ (L / 2 + 1) := Nat.pow_pos (by omega)
      rcases Int.lt_or_le (rootR n) ((0 * 2 ^ (L / 2 + 1) + 2 ^ (L / 2 + 1) : Nat) : Int) with q | q
      · exact q
      · rw [Nat.zero_mul, Nat.zero_add] at q
        have := (le_rootR n _ (by omega)).2 q
        omega
    case round =>
      obtain ⟨j, m, hj, hb32, HR, rfl, rfl⟩ := hrel
      cases j with
      | zero =>
        rw [show ((2 ^ 0 / 2 : Nat) : Int) = 0 from rfl]
        have HE := Lib.hid (show rootR n = (m : Int) by have := HR.out; simp at this; omega)
        have hm2 : (m : Int) ≤ 3037000499 := by have := HR.out; simp at this; omega
        rw [show m * 2 ^ 0 = m by simp]
        go_wp2
        go_ret
        exact ⟨ret_int HE.out.symm, rfl⟩
      | succ i =>
        rw [show ((2 ^ (i + 1) / 2 : Nat) : Int) = ((2 ^ i : Nat) : Int) by rw [Nat.pow_succ]; simp]
        have hp : 0 < 2 ^ i := Nat.pow_pos (by omega)
        have hi : 2 ^ i ≤ 2 ^ 31 := Nat.pow_le_pow_right (by omega) (by omega)
        have hor : m * 2 ^ (i + 1) ||| 2 ^ i = m * 2 ^ (i + 1) + 2 ^ i := by
          rw [Nat.mul_comm]; exact (Nat.two_pow_add_eq_or_of_lt (by rw [Nat.pow_succ]; omega) m).symm
        have hM : m * 2 ^ (i + 1) = 2 * m * 2 ^ i := by rw [Nat.pow_succ, Nat.mul_comm (2 ^ i) 2, ← Nat.mul_assoc, Nat.mul_comm m 2]
        have hM2 : (2 * m + 1) * 2 ^ i = m * 2 ^ (i + 1) + 2 ^ i := by rw [Nat.add_mul, hM]; simp
        have hp2 : 2 ^ (i + 1) = 2 ^ i + 2 ^ i := by rw [Nat.pow_succ]; omega
        have hq : ((2 ^ i / 2 : Nat) : Int) = ((2 ^ i : Nat) : Int) / 2 := by omega
        obtain ⟨r1, r2⟩ := HR.out
        clear HR
        have hb2 : m * 2 ^ (i + 1) + (2 ^ i + 2 ^ i) ≤ 4294967296 := by rw [← hp2]; exact hb32
        clear hb32
        rw [show m * 2 ^ (i + 1) + 2 ^ (i + 1) = m * 2 ^ (i + 1) + (2 ^ i + 2 ^ i) by rw [hp2]] at r2
        generalize hMM : m * 2 ^ (i + 1) = M at *
        generalize hB : 2 ^ i = B at *
        have hbit : bits BinOp.or IntKind.u64 (M : Int) (B : Int) = (M : Int) + (B : Int) := by
          rw [show (M : Int) + (B : Int) = ((M + B : Nat) : Int) by simp, ← hor]; exact u64_or_nat M B (by omega) (by omega)
        have hle := le_rootR n ((M : Int) + (B : Int)) (by omega)
        have hsq := mul_bd ((M : Int) + (B : Int)) ((M : Int) + (B : Int)) 4294967295 4294967295 (by omega) (by omega) (by omega) (by omega)
        have hsq0 : 0 ≤ ((M : Int) + (B : Int)) * ((M : Int) + (B : Int)) := Int.mul_nonneg (by omega) (by omega)
        by_cases ht : ((M : Int) + (B : Int)) * ((M : Int) + (B : Int)) ≤ n
        · have hA := hle.1 ht
          have G : (∃ j' m' : Nat, j' ≤ 32 ∧ m' * 2 ^ j' + 2 ^ j' ≤ 4294967296 ∧ Hid ((m' * 2 ^ j' : Nat) ≤ rootR n ∧ rootR n < (m' * 2 ^ j' + 2 ^ j' : Nat)) ∧ Value.int .u64 ((M : Int) + (B : Int)) = .int .u64 (m' * 2 ^ j' : Nat) ∧ Value.int .u64 ((B : Int) / 2) = .int .u64 (2 ^ j' / 2 : Nat)) :=
            ⟨i, 2 * m + 1, by omega, by rw [hB, hM2]; omega, Lib.hid (by rw [hB, hM2]; omega), by rw [hB, hM2]; simp, by rw [hB, hq]⟩
          have HG := Lib.hid G
          clear G hA hle hM2 hM hMM hq hp2 hB hor r1 r2
          go_wp2
          go_round
          case rel => exact HG.out
          case measure => simp [intOf]; omega
        · have hA : rootR n < (M : Int) + (B : Int) := by
            rcases Int.lt_or_le (rootR n) ((M : Int) + (B : Int)) with q | q
            · exact q
            · exact absurd (hle.2 q) ht
          have G : (∃ j' m' : Nat, j' ≤ 32 ∧ m' * 2 ^ j' + 2 ^ j' ≤ 4294967296 ∧ Hid ((m' * 2 ^ j' : Nat) ≤ rootR n ∧ rootR n < (m' * 2 ^ j' + 2 ^ j' : Nat)) ∧ Value.int .u64 (M : Int) = .int .u64 (m' * 2 ^ j' : Nat) ∧ Value.int .u64 ((B : Int) / 2) = .int .u64 (2 ^ j' / 2 : Nat)) :=
            ⟨i, 2 * m, by omega, by rw [hB, ← hM]; omega, Lib.hid (by rw [hB, ← hM]; omega), by rw [hB, ← hM], by rw [hB, hq]⟩
          have HG := Lib.hid G
          clear G hA hle hM2 hM hMM hq hp2 hB hor r1 r2
          go_wp2
          go_round
          case rel => exact HG.out
          case measure => simp [intOf]; omega
end Go.Proofs.Ytddfhjolimkkmaa
