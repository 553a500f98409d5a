/-
  Contracts of chapter 10: how many states keep all locks; the model's and the program's. Conditions: those that each theorem states.
-/
import Derived.Test.YthbofhlfggkolaaJm
namespace Go.Proofs.Ythbofhlfggkolaa
open Go.RowKit
set_option linter.unusedVariables false
set_option linter.unusedSimpArgs false

theorem i64_and1 : ∀ n, n < 256 → ∀ i, i < 8 → bits .and .i64 (((n >>> i : Nat)) : Int) 1 = if n.testBit i = true then 1 else 0 := by decide +kernel
/-- The states of a number. -/
def stN (n d : Nat) : List Bool := (List.range d).map (fun i => n.testBit i)
theorem stN_len (n d : Nat) : (stN n d).length = d := by simp [stN]
theorem stN_snoc (n d : Nat) : stN n (d + 1) = stN n d ++ [n.testBit d] := by simp [stN, List.range_succ]
theorem stN_at {n d i : Nat} (h : i < d) : stF (stN n d) i = n.testBit i := by
  rw [stF_lt (by rw [stN_len]; exact h)]
  simp [stN]
set_option maxHeartbeats 2000000 in
set_option maxRecDepth 100000 in
theorem l10States_any (d n : Nat) (w : World) (hd : d ≤ 8) (hn : n < 256) :
    Calls Try.prog 68 #[.int .i64 (d : Int), .int .i64 (n : Int)] w fun e w' => ∃ v, e = .returned v ∧ OwnB w' w.heap.size v (stN n d) ∧ Below w.heap.size w w' := by
  obtain ⟨i0, hi, hz0, hz1, hz2⟩ := info_parts info_bo
  go_enter Try.func68, Try.ntmps68
  go_wp2
  go_loopw [5, 6] (fun out i wr => ∃ k : Nat, k ≤ d ∧ i = .int .i64 k ∧ Hid (wr.ownsRow w.heap.size 4 1 out k (boV (stN n k))) ∧ Hid (Below w.heap.size w wr)) (fun out i wr => d - (intOf i).toNat)
  case atStart => exact ⟨0, by omega, rfl, Lib.hid (World.ownsRow_lit _ _ 0 (Nat.le_refl _) (by simp [maxLen]) rfl), Lib.hid ((Below.refl _ _).alloc (Nat.le_refl _) _)⟩
  case round =>
    obtain ⟨k, hk, rfl, HO, HB⟩ := hrel
    obtain ⟨wo, rfl⟩ : ∃ wo : World, wo = wr := ⟨_, rfl⟩
    by_cases hlt : k < d
    · have hk8 : k < 8 := by omega
      have HS := Lib.hid (show boV (stN n (k + 1)) = boV (stN n k) ++ [.bool (n.testBit k)] by rw [stN_snoc, boV_app]; rfl)
      have hbit := i64_and1 n hn k hk8
      have hde : ((n >>> k : Nat) : Int) = (n : Int) / 2 ^ k := by rw [Nat.shiftRight_eq_div_pow]; simp
      rw [hde] at hbit
      have hwo := HB.out.size
      have hll : k ≤ 1000 := by omega
      clear hde
      generalize n.testBit k = q at *
      cases q
      · replace hbit : bits .and .i64 ((n : Int) / 2 ^ k) 1 = 0 := hbit
        go_wp2_with (at_builtin; refine wpList_append_own_at _ rfl _ _ 48 rfl w.heap.size 4 i0 (.bool false) 1 1 Try.underlying48 hi hz0 hz1 hz2 rfl (by decide) _ _ _ rfl (HO.out.alloc _) ⟨wo.heap.size, 0, none⟩ 1 1 [.bool false] rfl rfl ?c1z ?c2z ?c3z ?c4z ?c5z ?_)
        case c1z => intro j u hj; match j, hj with | 0, hj => (simp at hj; subst hj; simp [Addr.add]) | j + 1, hj => (simp at hj)
        case c2z => simp [Value.oneCell']
        case c3z => unfold maxLen; omega
        case c4z => omega
        case c5z => (simp; omega)
        intro v3 w3 ho3 hg3 _ hl3
        have HO3 := Lib.hid ho3
        have HB3 := Lib.hid ((HB.out.alloc hwo _).grown hg3 (by simp; omega) (fun j hj => (HO.out.lt j hj).1))
        clear ho3 hg3 hl3
        go_wp2
        go_roundw
        case rel => exact ⟨k + 1, by omega, by go_num, Lib.hid (by rw [HS.out]; exact HO3.out), HB3⟩
        case measure => simp [intOf]; omega

      · replace hbit : bits .and .i64 ((n : Int) / 2 ^ k) 1 = 1 := hbit
        go_wp2_with (at_builtin; refine wpList_append_own_at _ rfl _ _ 48 rfl w.heap.size 4 i0 (.bool false) 1 1 Try.underlying48 hi hz0 hz1 hz2 rfl (by decide) _ _ _ rfl (HO.out.alloc _) ⟨wo.heap.size, 0, none⟩ 1 1 [.bool true] rfl rfl ?c1z ?c2z ?c3z ?c4z ?c5z ?_)
        case c1z => intro j u hj; match j, hj with | 0, hj => (simp at hj; subst hj; simp [Addr.add]) | j + 1, hj => (simp at hj)
        case c2z => simp [Value.oneCell']
        case c3z => unfold maxLen; omega
        case c4z => omega
        case c5z => (simp; omega)
        intro v3 w3 ho3 hg3 _ hl3
        have HO3 := Lib.hid ho3
        have HB3 := Lib.hid ((HB.out.alloc hwo _).grown hg3 (by simp; omega) (fun j hj => (HO.out.lt j hj).1))
        clear ho3 hg3 hl3
        go_wp2
        go_roundw
        case rel => exact ⟨k + 1, by omega, by go_num, Lib.hid (by rw [HS.out]; exact HO3.out), HB3⟩
        case measure => simp [intOf]; omega

    · obtain rfl : k = d := by omega
      go_wp2
      go_ret
      exact ⟨_, rfl, by unfold OwnB; rw [stN_len]; exact HO.out, HB.out⟩
/-- How many of the first k keep the locks. -/
def cntK (xs : List (List Int)) : Nat → Nat
  | 0 => 0
  | k + 1 => cntK xs k + if kb k.testBit xs = true then 1 else 0
theorem cntK_le (xs : List (List Int)) : ∀ k, cntK xs k ≤ k
  | 0 => Nat.le_refl _
  | k + 1 => by have := cntK_le xs k; unfold cntK; split <;> omega
/-- What CountStates returns. -/
def csA (n : Int) (xs : List (List Int)) : Int := if inB n 0 8 then (if lksOk n xs then (cntK xs (2 ^ n.toNat) : Int) else 0) else 0
def csB (n : Int) (xs : List (List Int)) : Int := if inB n 0 8 then (if lksOk n xs then 0 else 1) else 2
theorem pow2_bd : ∀ d, d ≤ 8 → 1 ≤ 2 ^ d ∧ 2 ^ d ≤ 256 := by decide
end Go.Proofs.Ythbofhlfggkolaa
