/-
  Contracts of chapter 9: levels and temperatures of a mine; the model's and the program's. Conditions: those that each theorem states.
-/
import Derived.Test.YtoojndohddellabWa
import Derived.Test.YtoojndohddellabZa
import Derived.Test.YtoojndohddellabRg
namespace Go.Proofs.Ytoojndohddellab
open Go.RowKit
set_option linter.unusedVariables false
set_option linter.unusedSimpArgs false

/-- A level for each junction. -/
def lvOk (J : Int) (lv : List Int) : Bool := decide ((lv.length : Int) = J) && allR (-3000) 3000 lv
theorem lvOk_iff {J : Int} {lv : List Int} : lvOk J lv = true ↔ (lv.length : Int) = J ∧ ∀ y ∈ lv, -3000 ≤ y ∧ y ≤ 3000 := by
  simp [lvOk, allR_iff]
/-- The code of a mine and levels; of a mine, levels and temperatures. -/
def rlB (J : Int) (xs : List Aw) (lv : List Int) : Int := if mineOk J xs then (if lvOk J lv then 0 else 7) else 1
def askC (J : Int) (xs : List Aw) (lv tp : List Int) : Int := if mineOk J xs then (if lvOk J lv && flOk (-300) 600 xs.length tp then 0 else 7) else 1
theorem rlB_ok {J : Int} {xs : List Aw} {lv : List Int} (h : rlB J xs lv = 0) : mineOk J xs = true ∧ lvOk J lv = true := by
  unfold rlB at h
  cases h1 : mineOk J xs <;> cases h2 : lvOk J lv <;> simp [h1, h2] at h ⊢
theorem askC_ok {J : Int} {xs : List Aw} {lv tp : List Int} (h : askC J xs lv tp = 0) : mineOk J xs = true ∧ lvOk J lv = true ∧ flOk (-300) 600 xs.length tp = true := by
  unfold askC at h
  cases h1 : mineOk J xs <;> cases h2 : lvOk J lv <;> cases h3 : flOk (-300) 600 xs.length tp <;> simp [h1, h2, h3] at h ⊢
/-- How far an airway rises. -/
def riR (xs : List Aw) (lv : List Int) (k : Nat) : Int := lv.getD (xs.getD k Aw.none).t.toNat 0 - lv.getD (xs.getD k Aw.none).f.toNat 0
/-- The draught of an airway. -/
def draR (xs : List Aw) (lv tp : List Int) (k : Nat) : Int := colR (riR xs lv k) (tp.getD k 0)
theorem lv_bd {J : Int} {lv : List Int} (h : lvOk J lv = true) (j : Nat) : -3000 ≤ lv.getD j 0 ∧ lv.getD j 0 ≤ 3000 := by
  by_cases hj : j < lv.length
  · rw [show lv.getD j 0 = lv[j] by simp [List.getD, hj]]; exact (lvOk_iff.1 h).2 _ (List.getElem_mem hj)
  · rw [show lv.getD j 0 = 0 by simp [List.getD, hj]]; omega
theorem riR_bd {J : Int} {xs : List Aw} {lv : List Int} (h : lvOk J lv = true) (k : Nat) : -6000 ≤ riR xs lv k ∧ riR xs lv k ≤ 6000 := by
  have a := lv_bd h (xs.getD k Aw.none).t.toNat
  have b := lv_bd h (xs.getD k Aw.none).f.toNat
  unfold riR
  omega
theorem tp_bd {n : Nat} {tp : List Int} (h : flOk (-300) 600 n tp = true) {k : Nat} (hk : k < n) : -300 ≤ tp.getD k 0 ∧ tp.getD k 0 ≤ 600 := by
  obtain ⟨a, b⟩ := flOk_iff.1 h
  rw [show tp.getD k 0 = tp[k] by simp [List.getD, show k < tp.length by omega]]
  exact b _ (List.getElem_mem _)
theorem l09Temps_any (b n cap : Nat) (A : Option Addr) (v : Value) (fl : List Int) (w : World) (hA : w.cell? ⟨b, 1, none⟩ = some (.slice A n cap)) (hv : RowW .i64 w v fl) (hl : fl.length ≤ 4000000000000000000) (hn : n ≤ 1048576) :
    Calls Try.prog 39 #[.pointer (some ⟨b, 0, none⟩), v] w fun e w' => e = .returned (.bool (flOk (-300) 600 n fl)) ∧ w = w' := by
  obtain ⟨F, fcap, rfl, _⟩ := id hv
  have HV := Lib.hid hv
  clear hv
  go_enter Try.func39, Try.ntmps39
  go_wp2
  go_loop [5] (fun i => ∃ k : Nat, k ≤ fl.length ∧ Hid (∀ j (h : j < fl.length), j < k → -300 ≤ fl[j] ∧ fl[j] ≤ 600) ∧ i = .int .i64 k) (fun i => fl.length - (intOf i).toNat)
  case atStart => exact ⟨0, by omega, Lib.hid (fun j _ h => absurd h (by omega)), rfl⟩
  case round =>
    obtain ⟨k, hk, HA, rfl⟩ := hrel
    by_cases hlt : k < fl.length
    · obtain ⟨fb, fo, rfl, _, hc⟩ := RowW.cell HV.out hlt
      rw [show fl.getD k 0 = fl[k] by simp [List.getD, hlt]] at hc
      by_cases hin : -300 ≤ fl[k] ∧ fl[k] ≤ 600
      · have hi := inB_true hin.1 hin.2
        have HR := Lib.hid hin
        clear hin
        go_wp2_with (go_at_call 66; refine (l09Temp_any _ _).mono ?_; rintro e w' ⟨rfl, rfl⟩)
        go_round
        case rel => exact ⟨k + 1, by omega, Lib.hid (fun j h hj => by
          rcases Nat.lt_or_ge j k with q | q
          · exact HA.out j h q
          · obtain rfl : j = k := by omega
            exact HR.out), by go_num⟩
        case measure => simp [intOf]; omega
      · have hi := inB_false hin
        have HR := Lib.hid (show flOk (-300) 600 n fl = false by
          rw [← Bool.not_eq_true, flOk_iff]
          exact fun hh => hin (hh.2 _ (List.getElem_mem hlt)))
        clear hin
        go_wp2_with (go_at_call 66; refine (l09Temp_any _ _).mono ?_; rintro e w' ⟨rfl, rfl⟩)
        go_ret
        exact ⟨ret_bool HR.out.symm, rfl⟩
    · obtain rfl : k = fl.length := by omega
      have HR := Lib.hid (show flOk (-300) 600 n fl = decide (fl.length = n) by
        unfold flOk
        rw [allR_iff.2 (fun y hy => by obtain ⟨j, h, rfl⟩ := List.mem_iff_getElem.1 hy; exact HA.out j h h), Bool.and_true])
      by_cases he : fl.length = n
      · have t0 : (fl.length : Int) = (n : Int) := by omega
        have HR2 := Lib.hid (show flOk (-300) 600 n fl = true by rw [HR.out, decide_eq_true he])
        have t1 : ((fl.length : Int) == (n : Int)) = true := by simp [he]
        clear he
        go_wp2
        go_ret
        exact ⟨ret_bool (by rw [HR2.out]), rfl⟩
      · have t0 : ¬ (fl.length : Int) = (n : Int) := by omega
        have HR2 := Lib.hid (show flOk (-300) 600 n fl = false by rw [HR.out, decide_eq_false he])
        have t1 : ((fl.length : Int) == (n : Int)) = false := by simp; omega
        clear he
        go_wp2
        go_ret
        exact ⟨ret_bool (by rw [HR2.out]), rfl⟩
theorem areTemperatures_any (J : Int) (A : Option Addr) (n cap : Nat) (v : Value) (fl : List Int) (w : World) (hv : Row .i64 w v fl) (hl : fl.length ≤ 4000000000000000000) (hn : n ≤ 1048576) :
    Calls Try.prog 43 #[.agg #[.int .i64 J, .slice A n cap], v] w fun e w' => e = .returned (.bool (flOk (-300) 600 n fl)) ∧ Below w.heap.size w w' := by
  obtain ⟨F, fcap, rfl⟩ := hv.form
  have HB0 := Lib.hid (below_box w (.cells #[.int .i64 J, .slice A n cap] 32))
  have HV := Lib.hid (hv.below HB0.out)
  clear hv
  go_enter Try.func43, Try.ntmps43
  go_wp2_with (go_at_call 59; (with_reducible refine (hasOneEach_any J _ _ A n cap _ fl _ HV.out hl hn).mono ?_); rintro e w1 ⟨rfl, hd⟩; have HB1 := Lib.hid (HB0.out.trans (hd.mono (by simp))); clear hd)
  go_ret
  exact ⟨rfl, HB1.out⟩
end Go.Proofs.Ytoojndohddellab
