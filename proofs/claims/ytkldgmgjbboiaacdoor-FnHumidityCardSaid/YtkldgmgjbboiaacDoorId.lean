/-
  Contracts for the law of humidities of chapter 2. Conditions: those that each theorem states.
-/
import Derived.Test.YtkldgmgjbboiaacDoorEc
import Derived.Test.YtkldgmgjbboiaacDoorIc
namespace Go.Proofs.YtkldgmgjbboiaacDoor
open Go.RowKit
set_option linter.unusedVariables false

/-- A slice of integers that came in: nil, or a row of 'cap' cells. -/
def IsRow (k : IntKind) (w : World) (a : Option Addr) (len cap : Nat) (zs : List Int) : Prop :=
  (a = none ∧ len = 0 ∧ cap = 0 ∧ zs = []) ∨
  ∃ x, a = some x ∧ len ≤ cap ∧ cap ≤ maxLen ∧ zs.length = cap ∧ (∀ i, i < zs.length → w.cell? (x.add i) = some (.int k (zs.getD i 0))) ∧ ∀ n ∈ zs, (Lit.int k n).wf = true
theorem IsRow.len {k : IntKind} {w : World} {a : Option Addr} {len cap : Nat} {zs : List Int} (h : IsRow k w a len cap zs) : len ≤ maxLen := by
  rcases h with ⟨_, h, _, _⟩ | ⟨x, _, h1, h2, _⟩ <;> omega
theorem IsRow.bytB {w : World} {a : Option Addr} {len cap : Nat} {zs : List Int} (h : IsRow .u8 w a len cap zs) : BytB w.heap.size w a len := by
  rcases h with ⟨_, h, _, _⟩ | ⟨x, rfl, hlc, hcm, hzl, hcell, hwf⟩
  · exact Or.inl h
  · by_cases h0 : len = 0
    · exact Or.inl h0
    · have hc0 := hcell 0 (by omega)
      obtain ⟨b, off, sp⟩ := x
      have hsp : sp = none := by simpa [Addr.add] using World.cell?_spot hc0
      subst hsp
      rw [Go.WideShapes.add_plain] at hc0
      refine Or.inr ⟨b, off, rfl, World.block_lt_of_cell? _ _ hc0, fun j hj => ⟨zs.getD j 0, ?_, ?_⟩⟩
      · have hm : zs.getD j 0 ∈ zs := by rw [List.getD_eq_getElem?_getD, List.getElem?_eq_getElem (by omega)]; exact List.getElem_mem _
        have := hwf _ hm
        generalize zs.getD j 0 = n at *
        simp [Lit.wf, IntKind.min, IntKind.max, IntKind.signed, IntKind.bits] at this
        omega
      · have := hcell j (by omega)
        rwa [Go.WideShapes.add_plain] at this
theorem BytB.mono {B B' : Nat} {w : World} {a : Option Addr} {len : Nat} (h : BytB B w a len) (hB : B ≤ B') : BytB B' w a len := by
  rcases h with h | ⟨b, off, rfl, hb, h⟩
  · exact Or.inl h
  · exact Or.inr ⟨b, off, rfl, by omega, h⟩
theorem b10_no (a : Option Addr) (len cap : Nat) (w : World) (h : len ≤ 1048576) : Calls Tryd.prog 33 #[.slice a len cap] w fun e w' => e = .returned (.bool false) ∧ w = w' := by
  have t1 : ¬ (1048576 : Int) < (len : Int) := by omega
  have t2 : decide ((1048576 : Int) < (len : Int)) = false := decide_eq_false t1
  go_enter Tryd.func33, Tryd.ntmps33
  go_wp2
  go_ret
  exact ⟨by first | rfl | simp, rfl⟩
theorem b10_yes (a : Option Addr) (len cap : Nat) (w : World) (h : 1048576 < len) (hm : len ≤ maxLen) : Calls Tryd.prog 33 #[.slice a len cap] w fun e w' => e = .returned (.bool true) ∧ w = w' := by
  unfold maxLen at hm
  have t1 : (1048576 : Int) < (len : Int) := by omega
  have t2 : decide ((1048576 : Int) < (len : Int)) = true := decide_eq_true t1
  go_enter Tryd.func33, Tryd.ntmps33
  go_wp2
  go_ret
  exact ⟨by first | rfl | simp, rfl⟩
theorem iDew_eq (t h D C : Int) (w : World) (hw : Sat w) (hD : dwA t h = D) (hC : dwB t h = C) :
    Calls Tryd.prog 35 #[.int .i64 t, .int .i64 h] w fun e w' => e = .returned (.tuple #[.int .i64 D, .int .i64 C]) ∧ Below w.heap.size w w' := hD ▸ hC ▸ iDewPoint_any t h w hw
theorem iVap_eq (t h D C : Int) (w : World) (hw : Sat w) (hD : vaA t h = D) (hC : vaB t h = C) :
    Calls Tryd.prog 36 #[.int .i64 t, .int .i64 h] w fun e w' => e = .returned (.tuple #[.int .i64 D, .int .i64 C]) ∧ Below w.heap.size w w' := hD ▸ hC ▸ iVapourOf_any t h w hw
theorem iSat_eq (t D : Int) (w : World) (hw : Sat w) (h1 : -100 ≤ t ∧ t ≤ 600) (hD : satR t = D) :
    Calls Tryd.prog 37 #[.int .i64 t] w fun e w' => e = .returned (.tuple #[.int .i64 D, .int .i64 0]) ∧ Below w.heap.size w w' :=
  (iSaturationOf_any t w hw).mono fun _ _ ⟨a, b⟩ => ⟨a.trans (ret_two (by simp [saA, inB_true h1.1 h1.2, hD]) (by simp [saB, inB_true h1.1 h1.2])), b⟩
theorem iHum_eq (d u p D C : Int) (w : World) (hw : Sat w) (hD : huA d u p = D) (hC : huB d u p = C) :
    Calls Tryd.prog 39 #[.int .i64 d, .int .i64 u, .int .i64 p] w fun e w' => e = .returned (.tuple #[.int .i64 D, .int .i64 C]) ∧ Below w.heap.size w w' := hD ▸ hC ▸ iHumidityFor_any d u p w hw
theorem sat_le (u d : Int) (h1 : -100 ≤ u) (h2 : u ≤ d) (h3 : d ≤ 600) : satR u ≤ satR d := by
  have := satR_grows (u + 100).toNat (d - u).toNat (by omega)
  rwa [show -100 + (((u + 100).toNat : Nat) : Int) = u by omega, show -100 + (((u + 100).toNat + (d - u).toNat : Nat) : Int) = d by omega] at this
theorem hum_cases (d u p : Int) : (huB d u p ≠ 0 ∧ huA d u p = 0) ∨ (huB d u p = 0 ∧ (0 ≤ huA d u p ∧ huA d u p ≤ 1000) ∧ huA d d p = 1000 ∧ huB d d p = 0) := by
  by_cases hk : (inB d (-100) 600 && inB u (-100) 600 && inB p 50000 150000) = true
  · by_cases hdu : d < u
    · left; simp [huA, huB, hk, hdu]
    · by_cases hv : humV d u p < 0
      · left; simp [huA, huB, hk, hdu, hv]
      · right
        have hk' := hk
        simp only [Bool.and_eq_true, inB_iff] at hk'
        obtain ⟨⟨hd, hu⟩, hp⟩ := hk'
        have hS := satR_lo d hd.1 hd.2
        have hle := sat_le u d hu.1 (by omega) hd.2
        have hq : 0 ≤ 665 * p * (d - u) := Int.mul_nonneg (by omega) (by omega)
        have hV : 0 ≤ humV d u p ∧ humV d u p ≤ satR d := by
          refine ⟨by omega, ?_⟩
          unfold humV
          rw [divR_pp _ _ hq (by omega)]
          have := Int.ediv_nonneg (a := 2 * (665 * p * (d - u)) + 10000000) (b := 2 * 10000000) (by omega) (by omega)
          omega
        have hk2 : (inB d (-100) 600 && inB d (-100) 600 && inB p 50000 150000) = true := by
          simp only [Bool.and_eq_true] at hk ⊢
          exact ⟨⟨hk.1.1, hk.1.1⟩, hk.2⟩
        have hz : humV d d p = satR d := by unfold humV; rw [Int.sub_self, Int.mul_zero, divR_zero]; omega
        have e1 : huA d u p = divR (1000 * humV d u p) (satR d) := by simp [huA, hk, hdu, hv]
        have e2 : huB d u p = 0 := by simp [huB, hk, hdu, hv]
        have e3 : huA d d p = divR (1000 * satR d) (satR d) := by
          unfold huA
          rw [if_pos hk2, if_neg (by omega), hz, if_neg (by omega)]
        have e4 : huB d d p = 0 := by
          unfold huB
          rw [if_pos hk2, if_neg (by omega), hz, if_neg (by omega)]
        rw [e1, e2, e3, e4, divR_pp _ _ (by omega) (by omega), divR_pp _ _ (by omega) (by omega)]
        generalize humV d u p = V at *
        generalize satR d = S at *
        refine ⟨rfl, ⟨Int.ediv_nonneg (by omega) (by omega), ?_⟩, ?_, rfl⟩
        · apply Int.le_of_lt_add_one
          rw [Int.ediv_lt_iff_lt_mul (by omega)]
          omega
        · apply Int.le_antisymm
          · apply Int.le_of_lt_add_one
            rw [Int.ediv_lt_iff_lt_mul (by omega)]
            omega
          · rw [Int.le_ediv_iff_mul_le (by omega)]
            omega
  · left
    have hk' : (inB d (-100) 600 && inB u (-100) 600 && inB p 50000 150000) = false := by simpa using hk
    simp [huA, huB, hk']
end Go.Proofs.YtkldgmgjbboiaacDoor
