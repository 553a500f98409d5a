/-
  Contracts for the law of drops of chapter 3.  Conditions: those that each theorem states.
-/
import Derived.Test.YtkldgmgjbboiaacDn
namespace Go.Proofs.Ytkldgmgjbboiaac
open Go.RowKit
set_option linter.unusedVariables false

/-- A slice of integers that came in: nil, or a row of 'cap' cells. -/
def IsRow (k : IntKind) (w : World) (a : Option Addr) (len cap : Nat) (zs : List Int) : Prop :=
  (a = none ∧ len = 0 ∧ cap = 0 ∧ zs = []) ∨
  ∃ x, a = some x ∧ len ≤ cap ∧ cap ≤ maxLen ∧ zs.length = cap ∧ (∀ i, i < zs.length → w.cell? (x.add i) = some (.int k (zs.getD i 0))) ∧ ∀ n ∈ zs, (Lit.int k n).wf = true
/-- Bytes at hand: each place below len holds a byte. -/
def Byt (w : World) (a : Option Addr) (len : Nat) : Prop := len = 0 ∨ ∃ b off, a = some ⟨b, off, none⟩ ∧ ∀ j, j < len → ∃ n : Int, (0 ≤ n ∧ n ≤ 255) ∧ w.cell? ⟨b, off + j, none⟩ = some (.int .u8 n)
theorem Byt.below {w w' : World} {a : Option Addr} {len : Nat} (h : Byt w a len) (hb : Below w.heap.size w w') : Byt w' a len := by
  rcases h with h | ⟨b, off, rfl, h⟩
  · exact Or.inl h
  · exact Or.inr ⟨b, off, rfl, fun j hj => by
      obtain ⟨n, hn, hc⟩ := h j hj
      exact ⟨n, hn, (hb.cell (World.block_lt_of_cell? _ _ hc)).trans hc⟩⟩
theorem IsRow.byt {w : World} {a : Option Addr} {len cap : Nat} {zs : List Int} (h : IsRow .u8 w a len cap zs) : Byt w a len := by
  rcases h with ⟨_, h, _, _⟩ | ⟨x, rfl, hlc, hcm, hzl, hcell, hwf⟩
  · exact Or.inl h
  · by_cases h0 : len = 0
    · exact Or.inl h0
    · have hc0 := hcell 0 (by omega)
      obtain ⟨b, off, sp⟩ := x
      have hsp : sp = none := by simpa [Addr.add] using World.cell?_spot hc0
      subst hsp
      refine Or.inr ⟨b, off, rfl, fun j hj => ⟨zs.getD j 0, ?_, ?_⟩⟩
      · have hm : zs.getD j 0 ∈ zs := by rw [List.getD_eq_getElem?_getD, List.getElem?_eq_getElem (by omega)]; exact List.getElem_mem _
        have := hwf _ hm
        generalize zs.getD j 0 = n at *
        simp [Lit.wf, IntKind.min, IntKind.max, IntKind.signed, IntKind.bits] at this
        omega
      · have := hcell j (by omega)
        rwa [Go.WideShapes.add_plain] at this
theorem r8At_ex (a : Option Addr) (len cap k : Nat) (w : World) (hB : Byt w a len) (hl : len ≤ 1048576) (hk : k ≤ 10) :
    ∃ x : Int, (0 ≤ x ∧ x ≤ 255) ∧ Calls Try.prog 19 #[.slice a len cap, .int .i64 (k : Int), .int .i64 256] w fun e w' => e = .returned (.int .i64 x) ∧ w = w' := by
  by_cases h : k < len
  · rcases hB with h0 | ⟨b, off, rfl, hc⟩
    · omega
    · obtain ⟨n, hn, hcell⟩ := hc k h
      refine ⟨n, hn, ?_⟩
      have e1 : (k : Int) < (len : Int) := by omega
      clear hc
      go_enter Try.func19, Try.ntmps19
      go_wp2
      go_ret
      exact ⟨ret_int (by omega), rfl⟩
  · refine ⟨0, by omega, ?_⟩
    have e1 : (len : Int) ≤ (k : Int) := by omega
    clear hB
    go_enter Try.func19, Try.ntmps19
    go_wp2
    go_ret
    exact ⟨rfl, rfl⟩
theorem r8Wide_ex (a : Option Addr) (len cap k : Nat) (n : Int) (w : World) (hB : Byt w a len) (hl : len ≤ 1048576) (hk : k ≤ 9) (hn : 1 ≤ n ∧ n ≤ 100000) :
    ∃ x : Int, (0 ≤ x ∧ x < n) ∧ Calls Try.prog 10 #[.slice a len cap, .int .i64 (k : Int), .int .i64 n] w fun e w' => e = .returned (.int .i64 x) ∧ w = w' := by
  obtain ⟨x, hx, hX⟩ := r8At_ex a len cap k w hB hl (by omega)
  obtain ⟨y, hy, hY⟩ := r8At_ex a len cap (k + 1) w hB hl (by omega)
  rw [show ((k + 1 : Nat) : Int) = (k : Int) + 1 by omega] at hY
  refine ⟨(256 * x + y) % n, ⟨Int.emod_nonneg _ (by omega), Int.emod_lt_of_pos _ (by omega)⟩, ?_⟩
  have HX := hide hX
  have HY := hide hY
  clear hX hY hB
  go_enter Try.func10, Try.ntmps10
  go_wp2_with fail
  refine (unhide HX).mono ?_
  rintro e w' ⟨rfl, rfl⟩
  go_wp2_with fail
  refine (unhide HY).mono ?_
  rintro e w' ⟨rfl, rfl⟩
  go_wp2
  go_ret
  exact ⟨rfl, rfl⟩
theorem mul_nn' {p q A B : Int} (h1 : 0 ≤ p) (h2 : p ≤ A) (h3 : 0 ≤ q) (h4 : q ≤ B) : 0 ≤ p * q ∧ p * q ≤ A * B :=
  ⟨Int.mul_nonneg h1 h3, Int.mul_le_mul h2 h4 h3 (by omega)⟩
theorem drop_neg (r q : Int) : dropR r (-q) = -dropR r q := by
  unfold dropR
  have e : absR (-q) = absR q := by have := absR_cases q; have := absR_cases (-q); omega
  rw [e, Int.mul_neg, Int.neg_mul]
  by_cases h : r * q * absR q = 0
  · rw [h]; simp [divR_zero]
  · rw [divR_neg_left _ _ h]
theorem iDrop_ok (r q D : Int) (w : World) (h1 : 1 ≤ r ∧ r ≤ 1000000) (h2 : -100000 ≤ q ∧ q ≤ 100000) (hD : dropR r q = D) :
    Calls Try.prog 11 #[.int .i64 r, .int .i64 q] w fun e w' => e = .returned (.tuple #[.int .i64 D, .int .i64 0]) ∧ Below w.heap.size w w' :=
  (iDropOf_any r q w).mono fun _ _ ⟨a, n, b⟩ => ⟨a.trans (ret_two (by simp [dropA, inB_true h1.1 h1.2, inB_true h2.1 h2.2, hD]) (by simp [dropB, inB_true h1.1 h1.2, inB_true h2.1 h2.2])), b ▸ below_drewN' (Below.refl _ _) n⟩
theorem iPower_ok (r q D : Int) (w : World) (h1 : 1 ≤ r ∧ r ≤ 1000000) (h2 : 0 ≤ q ∧ q ≤ 100000) (hD : dropR r q = D) :
    Calls Try.prog 12 #[.int .i64 r, .int .i64 q] w fun e w' => e = .returned (.tuple #[.int .i64 (divR (D * q) 100), .int .i64 0]) ∧ Below w.heap.size w w' :=
  (iAirPower_any r q w).mono fun _ _ ⟨a, n, b⟩ => ⟨a.trans (ret_two (by
    have e : absR q = q := by have := absR_cases q; omega
    simp [powA, inB_true h1.1 h1.2, inB_true (show -100000 ≤ q by omega) h2.2, e, hD]) (by simp [powB, inB_true h1.1 h1.2, inB_true (show -100000 ≤ q by omega) h2.2])), b ▸ below_drewN' (Below.refl _ _) n⟩
theorem iFlow_ok (r d M : Int) (w : World) (h1 : 1 ≤ r ∧ r ≤ 1000000) (h2 : 0 ≤ d ∧ d ≤ 1000000) (hm : (overN r d : Int) = M + 1) :
    Calls Try.prog 14 #[.int .i64 r, .int .i64 d] w fun e w' => e = .returned (.tuple #[.int .i64 M, .int .i64 0]) ∧ Below w.heap.size w w' :=
  (iFlowFor_any r d w).mono fun _ _ ⟨a, b⟩ => ⟨a.trans (ret_two (by simp [ffA, inB_true h1.1 h1.2, inB_true h2.1 h2.2, hm]) (by simp [ffB, inB_true h1.1 h1.2, inB_true h2.1 h2.2])), b⟩
theorem sDiv_ok (x : Int) (w : World) (h : -1000000000000 ≤ x ∧ x ≤ 1000000000000) :
    Calls Try.prog 13 #[.int .i64 x, .int .i64 100] w fun e w' => e = .returned (.int .i64 (divR x 100)) ∧ w = w' :=
  (sDivRound_any x 100 w).mono fun _ _ ⟨a, b⟩ => ⟨a.trans (ret_int (by unfold divRound; rw [if_pos ⟨h, by omega, by omega⟩])), b⟩
end Go.Proofs.Ytkldgmgjbboiaac
