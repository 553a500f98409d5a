/-
  Contracts of chapter 12: errors.Is of nil, and of a sentinel and itself; the codes of errors. Conditions: those that each theorem states.
-/
import Derived.WalkKit
import Derived.LaidEql
import Derived.Stop.Asserts
import Derived.RowKitTokens
import Derived.Test.YthbofhlfggkolaaDoorNc
namespace Go.Proofs.YthbofhlfggkolaaDoor
open Go.RowKit Go.Extern.Stop Go.Stop Go.Extern
set_option linter.unusedVariables false
set_option linter.unusedSimpArgs false

theorem oiTypeOf (v : Value) (w : World) : (Extern.ReflectliteType.typeOf #[.iface 202 v]).run Tryd.prog w = .ok (.iface 152 (.agg #[.pointer (some ⟨10, 202, none⟩)])) w := by kernel_rfl
def cmpE : Array Value → Sem Value := Extern.ReflectliteType.method fun t => do Go.Extern.Rtype.noPackHeld "Comparable" t; pure (.bool (← typeInfo t).comparable)
theorem oiComparable (w : World) : (cmpE #[.agg #[.pointer (some ⟨10, 202, none⟩)]]).run Tryd.prog w = .ok (.bool true) w := by kernel_rfl
theorem oiMethod (v : Value) (w : World) : (Go.method 338 152 v "Comparable").run Tryd.prog w = .ok (177, v) w := by kernel_rfl
theorem oiComp : (Tryd.prog.info? 202).map (·.comparable) = some true := by kernel_rfl
theorem oiSize : (Tryd.prog.info? 204).map (·.size) = some 1 := by kernel_rfl
theorem is_same (a : Addr) (w : World) :
    Calls Tryd.prog 72 #[.iface 202 (.pointer (some a)), .iface 202 (.pointer (some a))] w fun e w' => e = .returned (.bool true) ∧ w' = w := by
  obtain ⟨i, hi, hcmp⟩ := Option.map_eq_some_iff.1 oiComp
  obtain ⟨j, hj, hjs⟩ := Option.map_eq_some_iff.1 oiSize
  have h8 := @run_callFunc_extern Tryd.prog 98 _ Extern.ReflectliteType.typeOf Tryd.func98 (by kernel_rfl) (by kernel_rfl) (by kernel_rfl) (by kernel_rfl)
  have h32 := @run_callFunc_extern Tryd.prog 177 _ cmpE Tryd.func177 (by kernel_rfl) (by kernel_rfl) (by kernel_rfl) (by kernel_rfl)
  have tT := oiTypeOf
  have cT := oiComparable
  have mR := oiMethod
  have heq := run_eql_iface_ptr_same (P := Tryd.prog) w a Tryd.underlying79 Tryd.underlying202 hi hcmp hj
  go_enter Tryd.func72, Tryd.ntmps72
  go_wp2
  refine wp_loop_rounds 1 ?_
  rw [rounds_succ]
  go_wp2
  go_ret
  exact ⟨rfl, rfl⟩
theorem is_nil (b : Addr) (w : World) :
    Calls Tryd.prog 72 #[.nilIface, .iface 202 (.pointer (some b))] w fun e w' => e = .returned (.bool false) ∧ w' = w := by
  have hn := run_eql_iface_nil_left (P := Tryd.prog) w 202 (.pointer (some b)) Tryd.underlying79
  go_enter Tryd.func72, Tryd.ntmps72
  go_wp2
  go_ret
  exact ⟨rfl, rfl⟩
/-- The two reasons: each an error of errors.New's make. -/
def ErrS (w : World) (a b : Addr) : Prop := w.cell? ⟨0, 0, none⟩ = some (.iface 202 (.pointer (some a))) ∧ w.cell? ⟨1, 0, none⟩ = some (.iface 202 (.pointer (some b)))
theorem ErrS.below {w w' : World} {a b : Addr} (h : ErrS w a b) (hb : Below w.heap.size w w') : ErrS w' a b := ⟨(hb.cell (World.block_lt_of_cell? _ _ h.1)).trans h.1, (hb.cell (World.block_lt_of_cell? _ _ h.2)).trans h.2⟩
theorem ErrS.fit {w : World} {a b : Addr} (h : ErrS w a b) : w.cell? ⟨0, 0, none⟩ = some (.iface 202 (.pointer (some a))) := h.1
theorem codeOf_nil (a b : Addr) (w : World) (h : ErrS w a b) :
    Calls Tryd.prog 46 #[.nilIface] w fun e w' => e = .returned (.int .i64 0) ∧ w = w' := by
  obtain ⟨h1, h2⟩ := h
  go_enter Tryd.func46, Tryd.ntmps46
  go_wp2_with fail
  (with_reducible refine (is_nil a w).mono ?_)
  rintro e w' ⟨rfl, rfl⟩
  go_wp2_with fail
  (with_reducible refine (is_nil b w').mono ?_)
  rintro e w' ⟨rfl, rfl⟩
  go_wp2
  go_ret
  exact ⟨rfl, rfl⟩
theorem codeOf_fit (a b : Addr) (w : World) (h : ErrS w a b) :
    Calls Tryd.prog 46 #[.iface 202 (.pointer (some a))] w fun e w' => e = .returned (.int .i64 3) ∧ w = w' := by
  obtain ⟨h1, h2⟩ := h
  go_enter Tryd.func46, Tryd.ntmps46
  go_wp2_with fail
  (with_reducible refine (is_same a w).mono ?_)
  rintro e w' ⟨rfl, rfl⟩
  go_wp2
  go_ret
  exact ⟨rfl, rfl⟩
end Go.Proofs.YthbofhlfggkolaaDoor
