/-
  Contracts for laws that draw out of bytes: the byte at a place, two bytes; bytes that came in. Conditions: those that each theorem states.
-/
import Derived.Test.YtoojndohddellaaGreatDoorBa
namespace Go.Proofs.YtoojndohddellaaGreatDoor
open Go.RowKit
set_option linter.unusedVariables false

/-- A slice of integers that came in: nil, or a row of 'cap' cells. -/
def IsRow (k : IntKind) (w : World) (a : Option Addr) (len cap : Nat) (zs : List Int) : Prop :=
  (a = none ∧ len = 0 ∧ cap = 0 ∧ zs = []) ∨
  ∃ x, a = some x ∧ len ≤ cap ∧ cap ≤ maxLen ∧ zs.length = cap ∧ (∀ i, i < zs.length → w.cell? (x.add i) = some (.int k (zs.getD i 0))) ∧ ∀ n ∈ zs, (Lit.int k n).wf = true
/-- Bytes at hand: each place below len holds a byte. -/
def Byt (w : World) (a : Option Addr) (len : Nat) : Prop := len = 0 ∨ ∃ b off, a = some ⟨b, off, none⟩ ∧ ∀ j, j < len → ∃ n : Int, (0 ≤ n ∧ n ≤ 255) ∧ w.cell? ⟨b, off + j, none⟩ = some (.int .u8 n)
theorem Byt.below {w w' : World} {a : Option Addr} {len : Nat} (h : Byt w a len) (hb : Below w.heap.size w w') : Byt w' a len := by
  rcases h with h | ⟨b, off, rfl, h⟩
  · exact Or.inl h
  · exact Or.inr ⟨b, off, rfl, fun j hj => by
      obtain ⟨n, hn, hc⟩ := h j hj
      exact ⟨n, hn, (hb.cell (World.block_lt_of_cell? _ _ hc)).trans hc⟩⟩
theorem IsRow.byt {w : World} {a : Option Addr} {len cap : Nat} {zs : List Int} (h : IsRow .u8 w a len cap zs) : Byt w a len := by
  rcases h with ⟨_, h, _, _⟩ | ⟨x, rfl, hlc, hcm, hzl, hcell, hwf⟩
  · exact Or.inl h
  · by_cases h0 : len = 0
    · exact Or.inl h0
    · have hc0 := hcell 0 (by omega)
      obtain ⟨b, off, sp⟩ := x
      have hsp : sp = none := by simpa [Addr.add] using World.cell?_spot hc0
      subst hsp
      refine Or.inr ⟨b, off, rfl, fun j hj => ⟨zs.getD j 0, ?_, ?_⟩⟩
      · have hm : zs.getD j 0 ∈ zs := by rw [List.getD_eq_getElem?_getD, List.getElem?_eq_getElem (by omega)]; exact List.getElem_mem _
        have := hwf _ hm
        generalize zs.getD j 0 = n at *
        simp [Lit.wf, IntKind.min, IntKind.max, IntKind.signed, IntKind.bits] at this
        omega
      · have := hcell j (by omega)
        rwa [Go.WideShapes.add_plain] at this
theorem r8At_at (a : Option Addr) (len cap k : Nat) (n : Int) (w0 : World) (hB : Byt w0 a len) (hl : len ≤ 1048576) (hk : k ≤ 100) (hn : 1 < n ∧ n ≤ 1000) :
    ∃ x : Int, (0 ≤ x ∧ x < n) ∧ ∀ w, Below w0.heap.size w0 w → Calls Tryz.prog 15 #[.slice a len cap, .int .i64 (k : Int), .int .i64 n] w fun e w' => e = .returned (.int .i64 x) ∧ w = w' := by
  by_cases h : k < len
  · rcases hB with h0 | ⟨b, off, rfl, hc⟩
    · omega
    · obtain ⟨z, hz, hcell0⟩ := hc k h
      refine ⟨z % n, ⟨Int.emod_nonneg _ (by omega), Int.emod_lt_of_pos _ (by omega)⟩, fun w hb => ?_⟩
      have hcell := (hb.cell (World.block_lt_of_cell? _ _ hcell0)).trans hcell0
      have e1 : (k : Int) < (len : Int) := by omega
      clear hc hcell0 hb
      go_enter Tryz.func15, Tryz.ntmps15
      go_wp2
      go_ret
      exact ⟨rfl, rfl⟩
  · refine ⟨0, by omega, fun w hb => ?_⟩
    have e1 : (len : Int) ≤ (k : Int) := by omega
    clear hB hb
    go_enter Tryz.func15, Tryz.ntmps15
    go_wp2
    go_ret
    exact ⟨rfl, rfl⟩
theorem r8Wide_at (a : Option Addr) (len cap k : Nat) (n : Int) (w0 : World) (hB : Byt w0 a len) (hl : len ≤ 1048576) (hk : k ≤ 99) (hn : 1 ≤ n ∧ n ≤ 100000) :
    ∃ x : Int, (0 ≤ x ∧ x < n) ∧ ∀ w, Below w0.heap.size w0 w → Calls Tryz.prog 6 #[.slice a len cap, .int .i64 (k : Int), .int .i64 n] w fun e w' => e = .returned (.int .i64 x) ∧ w = w' := by
  obtain ⟨x, hx, hX⟩ := r8At_at a len cap k 256 w0 hB hl (by omega) (by omega)
  obtain ⟨y, hy, hY⟩ := r8At_at a len cap (k + 1) 256 w0 hB hl (by omega) (by omega)
  rw [show ((k + 1 : Nat) : Int) = (k : Int) + 1 by omega] at hY
  refine ⟨(256 * x + y) % n, ⟨Int.emod_nonneg _ (by omega), Int.emod_lt_of_pos _ (by omega)⟩, fun w hb => ?_⟩
  have HX := Lib.hid (hX w hb)
  have HY := Lib.hid (hY w hb)
  clear hX hY hB hb
  go_enter Tryz.func6, Tryz.ntmps6
  go_wp2_with fail
  refine (HX.out).mono ?_
  rintro e w' ⟨rfl, rfl⟩
  go_wp2_with fail
  refine (HY.out).mono ?_
  rintro e w' ⟨rfl, rfl⟩
  go_wp2
  go_ret
  exact ⟨rfl, rfl⟩
end Go.Proofs.YtoojndohddellaaGreatDoor
