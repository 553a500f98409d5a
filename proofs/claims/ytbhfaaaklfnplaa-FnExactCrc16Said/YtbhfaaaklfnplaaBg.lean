/-
  Contracts of the check values of chapter 1. Conditions: those that each theorem states.
-/
import Derived.Test.YtbhfaaaklfnplaaBe
import Derived.Laws.BitsAllLaws
import Derived.Deep.LoopGhost
namespace Go.Proofs.Ytbhfaaaklfnplaa
open Go.RowKit
set_option linter.unusedVariables false

theorem i64_xor_nat (a b : Nat) (ha : a < 9223372036854775808) (hb : b < 9223372036854775808) : bits .xor .i64 (a : Int) (b : Int) = ((a ^^^ b : Nat) : Int) := by
  have hx : a ^^^ b < 2 ^ 63 := Nat.xor_lt_two_pow (by omega) (by omega)
  show IntKind.i64.wrap ((BitVec.ofInt 64 (a : Int) ^^^ BitVec.ofInt 64 (b : Int)).toNat : Int) = _
  rw [BitVec.toNat_xor, ofInt_u64 a (by omega), ofInt_u64 b (by omega)]
  exact IntWalk.i64_in _ (by omega)
theorem i64_and_nat (a b : Nat) (ha : a < 9223372036854775808) (hb : b < 9223372036854775808) : bits .and .i64 (a : Int) (b : Int) = ((a &&& b : Nat) : Int) := by
  have hx : a &&& b < 2 ^ 63 := Nat.and_lt_two_pow _ (by omega)
  show IntKind.i64.wrap ((BitVec.ofInt 64 (a : Int) &&& BitVec.ofInt 64 (b : Int)).toNat : Int) = _
  rw [BitVec.toNat_and, ofInt_u64 a (by omega), ofInt_u64 b (by omega)]
  exact IntWalk.i64_in _ (by omega)

def crcBit (c : Nat) : Nat := if 65535 < 2 * c then ((2 * c) &&& 65535) ^^^ 4129 else 2 * c
def crcBits (c : Nat) : Nat → Nat
  | 0 => c
  | k + 1 => crcBit (crcBits c k)
def byteN (s : ByteArray) (k : Nat) : Nat := (s.data.toList.getD k 0).toNat
def crcTo (s : ByteArray) (c : Nat) : Nat → Nat
  | 0 => c
  | k + 1 => crcBits (crcTo s c k ^^^ byteN s k * 256) 8
theorem crcBit_lt {c : Nat} (h : c < 65536) : crcBit c < 65536 := by
  unfold crcBit
  split
  · exact Nat.xor_lt_two_pow (n := 16) (by have := Nat.and_le_right (n := 2 * c) (m := 65535); omega) (by omega)
  · omega
theorem crcBits_lt {c : Nat} (h : c < 65536) (k : Nat) : crcBits c k < 65536 := by
  induction k with
  | zero => exact h
  | succ k ih => exact crcBit_lt ih
theorem byteN_lt (s : ByteArray) (k : Nat) : byteN s k < 256 := (s.data.toList.getD k 0).toNat_lt
theorem crcMix_lt {c : Nat} (h : c < 65536) (s : ByteArray) (k : Nat) : c ^^^ byteN s k * 256 < 65536 :=
  Nat.xor_lt_two_pow (n := 16) h (by have := byteN_lt s k; omega)
theorem crcTo_lt {c : Nat} (h : c < 65536) (s : ByteArray) (k : Nat) : crcTo s c k < 65536 := by
  induction k with
  | zero => exact h
  | succ k ih => exact crcBits_lt (crcMix_lt ih s k) 8

set_option maxHeartbeats 400000 in
theorem l01Crc_any (s : ByteArray) (c : Nat) (w : World) (hs : s.size ≤ maxLen) (hc : c < 65536) :
    Calls Try.prog 36 #[.string s, .int .i64 c] w fun e w' => e = .returned (.int .i64 (crcTo s c s.size)) ∧ w = w' := by
  unfold maxLen at hs
  have HLT := Lib.hid (crcTo_lt hc s)
  clear hc
  go_enter Try.func36, Try.ntmps36
  go_wp2
  go_loopg [1, 5, 6] s.size (fun g a i j wx => wx = w ∧ ∃ k p : Nat, k ≤ s.size ∧ g = s.size - k ∧ Hid (crcTo s c k = p) ∧ a = .int .i64 p ∧ i = .int .i64 k)
  case atStart => exact ⟨rfl, 0, c, by omega, by omega, Lib.hid rfl, rfl, rfl⟩
  case round =>
    obtain ⟨hww, k, p, hk, rfl, HP, rfl, rfl⟩ := hrel
    obtain rfl := hww.symm
    by_cases hlt : k < s.size
    · have hbk : (s[k].toNat : Int) = (byteN s k : Int) := byteAt_eq hlt
      have hb := byteN_lt s k
      have hl : p < 65536 := by have := HLT.out k; rwa [HP.out] at this
      have HS := Lib.hid (show crcTo s c (k + 1) = crcBits (p ^^^ byteN s k * 256) 8 by rw [← HP.out]; rfl)
      obtain ⟨M, HM, hM⟩ : ∃ M : Nat, Hid (p ^^^ byteN s k * 256 = M) ∧ M < 65536 := ⟨_, Lib.hid rfl, crcMix_lt hl s k⟩
      have hx : bits BinOp.xor IntKind.i64 (p : Int) ((byteN s k : Int) * 256) = (M : Int) := by
        rw [show (byteN s k : Int) * 256 = ((byteN s k * 256 : Nat) : Int) by simp, ← HM.out]; exact i64_xor_nat _ _ (by omega) (by omega)
      go_wp2
      clear hx hbk
      go_loopg [1, 6] 8 (fun g a i wx => wx = w ∧ ∃ j q : Nat, j ≤ 8 ∧ g = 8 - j ∧ Hid (crcBits M j = q) ∧ a = .int .i64 q ∧ i = .int .i64 j)
      case atStart => exact ⟨rfl, 0, M, by omega, by omega, Lib.hid rfl, rfl, rfl⟩
      case round =>
        obtain ⟨rfl, j, q, hj, rfl, HQ, rfl, rfl⟩ := hrel
        by_cases hlj : j < 8
        · have hlj' : (j : Int) < 8 := by omega
          have hq : q < 65536 := by rw [← HQ.out]; exact crcBits_lt hM j
          have HT := Lib.hid (show crcBits M (j + 1) = crcBit q by rw [← HQ.out]; rfl)
          by_cases hbig : 65535 < 2 * q
          · obtain ⟨A, HA, hA⟩ : ∃ A : Nat, Hid (2 * q &&& 65535 = A) ∧ A < 65536 := ⟨_, Lib.hid rfl, by have := Nat.and_le_right (n := 2 * q) (m := 65535); omega⟩
            obtain ⟨X, HX⟩ : ∃ X : Nat, Hid (A ^^^ 4129 = X) := ⟨_, Lib.hid rfl⟩
            have HR := Lib.hid (show crcBit q = X by rw [← HX.out, ← HA.out]; exact if_pos hbig)
            have hand : bits BinOp.and IntKind.i64 ((q : Int) * 2) 65535 = (A : Int) := by
              rw [show (q : Int) * 2 = ((2 * q : Nat) : Int) by simp; omega, ← HA.out]; exact i64_and_nat (2 * q) 65535 (by omega) (by decide)
            have hxor : bits BinOp.xor IntKind.i64 (A : Int) 4129 = (X : Int) := by rw [← HX.out]; exact i64_xor_nat A 4129 (by omega) (by decide)
            have hbig' : (65535 : Int) < (q : Int) * 2 := by omega
            clear hbig
            go_wp2
            go_roundg (8 - (j + 1))
            case rel => exact ⟨rfl, j + 1, X, by omega, rfl, Lib.hid (by rw [HT.out, HR.out]), rfl, by go_num⟩
            case measure => omega
          · have HR := Lib.hid (show crcBit q = 2 * q from if_neg hbig)
            have hbig' : decide ((65535 : Int) < (q : Int) * 2) = false := decide_eq_false (by omega)
            have hbig2 : ¬ ((65535 : Int) < (q : Int) * 2) := by omega
            clear hbig
            go_wp2
            go_roundg (8 - (j + 1))
            case rel => exact ⟨rfl, j + 1, 2 * q, by omega, rfl, Lib.hid (by rw [HT.out, HR.out]), by go_num, by go_num⟩
            case measure => omega
        · obtain rfl : j = 8 := by omega
          rw [show ((8 : Nat) : Int) = 8 from rfl]
          go_wp2
          go_roundg (s.size - (k + 1))
          case rel => exact ⟨rfl, k + 1, q, by omega, rfl, Lib.hid (by rw [HS.out, HM.out, HQ.out]), rfl, by go_num⟩
          case measure => omega
    · have HE := Lib.hid (show crcTo s c s.size = p by rw [← HP.out, show s.size = k by omega])
      go_wp2
      go_ret
      exact ⟨ret_int (by rw [HE.out]), rfl⟩

set_option maxHeartbeats 400000 in
theorem iCrc16_yes (s : ByteArray) (c : Nat) (w : World) (hs : s.size ≤ maxLen) (hc : c < 65536) :
    Calls Try.prog 20 #[.string s, .int .i64 c] w fun e w' => e = .returned (.int .i64 (crcTo s c s.size)) ∧ w = w' := by
  unfold maxLen at hs
  have HLT := Lib.hid (crcTo_lt hc s)
  have hin : inB (c : Int) 0 65535 = true := inB_true (by omega) (by omega)
  clear hc
  go_enter Try.func20, Try.ntmps20
  go_wp2_with (go_at_call 28; refine (within64_one _ _ _ _).mono ?_; rintro e w2 ⟨rfl, rfl⟩)
  go_loopg [5, 13, 23] s.size (fun g a i j wx => wx = w ∧ ∃ k p : Nat, k ≤ s.size ∧ g = s.size - k ∧ Hid (crcTo s c k = p) ∧ a = .int .i64 p ∧ i = .int .i64 k)
  case atStart => exact ⟨rfl, 0, c, by omega, by omega, Lib.hid rfl, rfl, rfl⟩
  case round =>
    obtain ⟨hww, k, p, hk, rfl, HP, rfl, rfl⟩ := hrel
    obtain rfl := hww.symm
    by_cases hlt : k < s.size
    · have hbk : (s[k].toNat : Int) = (byteN s k : Int) := byteAt_eq hlt
      have hb := byteN_lt s k
      have hl : p < 65536 := by have := HLT.out k; rwa [HP.out] at this
      have HS := Lib.hid (show crcTo s c (k + 1) = crcBits (p ^^^ byteN s k * 256) 8 by rw [← HP.out]; rfl)
      obtain ⟨M, HM, hM⟩ : ∃ M : Nat, Hid (p ^^^ byteN s k * 256 = M) ∧ M < 65536 := ⟨_, Lib.hid rfl, crcMix_lt hl s k⟩
      have hx : bits BinOp.xor IntKind.i64 (p : Int) ((byteN s k : Int) * 256) = (M : Int) := by
        rw [show (byteN s k : Int) * 256 = ((byteN s k * 256 : Nat) : Int) by simp, ← HM.out]; exact i64_xor_nat _ _ (by omega) (by omega)
      go_wp2
      clear hx hbk
      go_loopg [5, 23] 8 (fun g a i wx => wx = w ∧ ∃ j q : Nat, j ≤ 8 ∧ g = 8 - j ∧ Hid (crcBits M j = q) ∧ a = .int .i64 q ∧ i = .int .i64 j)
      case atStart => exact ⟨rfl, 0, M, by omega, by omega, Lib.hid rfl, rfl, rfl⟩
      case round =>
        obtain ⟨rfl, j, q, hj, rfl, HQ, rfl, rfl⟩ := hrel
        by_cases hlj : j < 8
        · have hlj' : (j : Int) < 8 := by omega
          have hq : q < 65536 := by rw [← HQ.out]; exact crcBits_lt hM j
          have HT := Lib.hid (show crcBits M (j + 1) = crcBit q by rw [← HQ.out]; rfl)
          by_cases hbig : 65535 < 2 * q
          · obtain ⟨A, HA, hA⟩ : ∃ A : Nat, Hid (2 * q &&& 65535 = A) ∧ A < 65536 := ⟨_, Lib.hid rfl, by have := Nat.and_le_right (n := 2 * q) (m := 65535); omega⟩
            obtain ⟨X, HX⟩ : ∃ X : Nat, Hid (A ^^^ 4129 = X) := ⟨_, Lib.hid rfl⟩
            have HR := Lib.hid (show crcBit q = X by rw [← HX.out, ← HA.out]; exact if_pos hbig)
            have hand : bits BinOp.and IntKind.i64 ((q : Int) * 2) 65535 = (A : Int) := by
              rw [show (q : Int) * 2 = ((2 * q : Nat) : Int) by simp; omega, ← HA.out]; exact i64_and_nat (2 * q) 65535 (by omega) (by decide)
            have hxor : bits BinOp.xor IntKind.i64 (A : Int) 4129 = (X : Int) := by rw [← HX.out]; exact i64_xor_nat A 4129 (by omega) (by decide)
            have hbig' : (65535 : Int) < (q : Int) * 2 := by omega
            clear hbig
            go_wp2
            go_roundg (8 - (j + 1))
            case rel => exact ⟨rfl, j + 1, X, by omega, rfl, Lib.hid (by rw [HT.out, HR.out]), rfl, by go_num⟩
            case measure => omega
          · have HR := Lib.hid (show crcBit q = 2 * q from if_neg hbig)
            have hbig' : decide ((65535 : Int) < (q : Int) * 2) = false := decide_eq_false (by omega)
            have hbig2 : ¬ ((65535 : Int) < (q : Int) * 2) := by omega
            clear hbig
            go_wp2
            go_roundg (8 - (j + 1))
            case rel => exact ⟨rfl, j + 1, 2 * q, by omega, rfl, Lib.hid (by rw [HT.out, HR.out]), by go_num, by go_num⟩
            case measure => omega
        · obtain rfl : j = 8 := by omega
          rw [show ((8 : Nat) : Int) = 8 from rfl]
          go_wp2
          go_roundg (s.size - (k + 1))
          case rel => exact ⟨rfl, k + 1, q, by omega, rfl, Lib.hid (by rw [HS.out, HM.out, HQ.out]), rfl, by go_num⟩
          case measure => omega
    · have HE := Lib.hid (show crcTo s c s.size = p by rw [← HP.out, show s.size = k by omega])
      go_wp2
      go_ret
      exact ⟨ret_int (by rw [HE.out]), rfl⟩


/-- What Crc16 returns. -/
def crcR (s : ByteArray) (c : Int) : Int := if 0 ≤ c ∧ c ≤ 65535 then crcTo s c.toNat s.size else 0
theorem sCrc16_any (s : ByteArray) (c : Int) (w : World) (hs : s.size ≤ maxLen) :
    Calls Try.prog 19 #[.string s, .int .i64 c] w fun e w' => e = .returned (.int .i64 (crcR s c)) ∧ w = w' := by
  by_cases h : 0 ≤ c ∧ c ≤ 65535
  · obtain ⟨k, rfl⟩ := Int.eq_ofNat_of_zero_le h.1
    have hi := inB_true h.1 h.2
    have HE := Lib.hid (show crcR s (k : Int) = crcTo s k s.size from if_pos h)
    have hk : k < 65536 := by omega
    clear h
    go_enter Try.func19, Try.ntmps19
    go_wp2_with (first
      | (go_at_call 27; refine (l00In_any _ _ _ _).mono ?_; rintro e w' ⟨rfl, rfl⟩)
      | (go_at_call 36; refine (l01Crc_any s k _ hs hk).mono ?_; rintro e w' ⟨rfl, rfl⟩))
    go_ret
    exact ⟨ret_int HE.out.symm, rfl⟩
  · have hi := inB_false h
    have HE := Lib.hid (show crcR s c = 0 from if_neg h)
    clear h
    go_enter Try.func19, Try.ntmps19
    go_wp2_with (go_at_call 27; refine (l00In_any _ _ _ _).mono ?_; rintro e w' ⟨rfl, rfl⟩)
    go_ret
    exact ⟨ret_int HE.out.symm, rfl⟩
theorem iCrc16_any (s : ByteArray) (c : Int) (w : World) (hs : s.size ≤ maxLen) :
    Calls Try.prog 20 #[.string s, .int .i64 c] w fun e w' => e = .returned (.int .i64 (crcR s c)) ∧ w = w' := by
  by_cases h : 0 ≤ c ∧ c ≤ 65535
  · obtain ⟨k, rfl⟩ := Int.eq_ofNat_of_zero_le h.1
    have HE := Lib.hid (show crcR s (k : Int) = crcTo s k s.size from if_pos h)
    rw [HE.out]
    exact iCrc16_yes s k w hs (by omega)
  · have hi := inB_false h
    have HE := Lib.hid (show crcR s c = 0 from if_neg h)
    clear h
    go_enter Try.func20, Try.ntmps20
    go_wp2_with (go_at_call 28; refine (within64_one _ _ _ _).mono ?_; rintro e w' ⟨rfl, rfl⟩)
    go_ret
    exact ⟨ret_int HE.out.symm, rfl⟩
end Go.Proofs.Ytbhfaaaklfnplaa
