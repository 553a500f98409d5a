/-
  Contracts of the laws' helpers on slices of int64 (copies, comparisons). Conditions: those that each theorem states.
-/
import Derived.Test.YtnlkikdgffaeeaaBa
import Derived.Laws.OwnMore
import Derived.Deep.AppendLies
import Derived.Deep.OwnRows
import Derived.OwnWalk
import Derived.WalkSmall
namespace Go.Proofs.Ytnlkikdgffaeeaa
open Go.RowKit
set_option linter.unusedVariables false

theorem info_i64 : (Try.prog.info? 2).map (fun i => (i.zero, i.size, i.bytes)) = some (some (.int .i64 0), 1, 8) := by kernel_rfl
theorem Row.cell {k : IntKind} {w : World} {xs : List Int} {A : Option Addr} {n cap : Nat} (h : Row k w (.slice A n cap) xs) {j : Nat} (hj : j < xs.length) :
    ∃ b off, A = some ⟨b, off, none⟩ ∧ n = xs.length ∧ w.cell? ⟨b, off + j, none⟩ = some (.int k (xs.getD j 0)) := by
  rcases h with ⟨rfl, _⟩ | ⟨b, off, c, e, hc⟩
  · simp at hj
  · injection e with e1 e2 e3
    subst e1 e2
    exact ⟨b, off, rfl, rfl, hc j hj⟩
theorem Row.below {k : IntKind} {w w' : World} {v : Value} {xs : List Int} (h : Row k w v xs) (hb : Below w.heap.size w w') : Row k w' v xs := by
  rcases h with h | ⟨b, off, c, rfl, hc⟩
  · exact Or.inl h
  · refine Or.inr ⟨b, off, c, rfl, fun j hj => ?_⟩
    have := hc j hj
    rw [hb.cell (p := ⟨b, off + j, none⟩) (World.block_lt_of_cell? (a := ⟨b, off + j, none⟩) _ this)]
    exact this
/-- As Row, but an empty slice may be any one. -/
def RowW (k : IntKind) (w : World) (v : Value) (xs : List Int) : Prop :=
  ∃ A cap, v = .slice A xs.length cap ∧ ∀ j, j < xs.length → ∃ b off, A = some ⟨b, off, none⟩ ∧ w.cell? ⟨b, off + j, none⟩ = some (.int k (xs.getD j 0))
theorem RowW.of_row {k : IntKind} {w : World} {v : Value} {xs : List Int} (h : Row k w v xs) : RowW k w v xs := by
  rcases h with ⟨rfl, rfl⟩ | ⟨b, off, c, rfl, hc⟩
  · exact ⟨none, 0, rfl, fun j hj => absurd hj (by simp)⟩
  · exact ⟨_, c, rfl, fun j hj => ⟨b, off, rfl, hc j hj⟩⟩
theorem RowW.cell {k : IntKind} {w : World} {xs : List Int} {A : Option Addr} {n cap : Nat} (h : RowW k w (.slice A n cap) xs) {j : Nat} (hj : j < xs.length) :
    ∃ b off, A = some ⟨b, off, none⟩ ∧ n = xs.length ∧ w.cell? ⟨b, off + j, none⟩ = some (.int k (xs.getD j 0)) := by
  obtain ⟨A', c', e, hc⟩ := h
  injection e with e1 e2 e3
  subst e1 e2 e3
  obtain ⟨b, off, e, h⟩ := hc j hj
  exact ⟨b, off, e, rfl, h⟩
theorem RowW.below {k : IntKind} {w w' : World} {v : Value} {xs : List Int} (h : RowW k w v xs) (hb : Below w.heap.size w w') : RowW k w' v xs := by
  obtain ⟨A, c, rfl, hc⟩ := h
  refine ⟨A, c, rfl, fun j hj => ?_⟩
  obtain ⟨b, off, e, h⟩ := hc j hj
  refine ⟨b, off, e, ?_⟩
  rw [hb.cell (p := ⟨b, off + j, none⟩) (World.block_lt_of_cell? (a := ⟨b, off + j, none⟩) _ h)]
  exact h
def intsV (l : List Int) : List Value := l.map (Value.int .i64)
theorem Row.of_own {w : World} {B g n cap : Nat} {xs : List Int} (h : w.ownsRow B 2 1 (.slice (some ⟨g, 0, none⟩) n cap) n (intsV xs)) : Row .i64 w (.slice (some ⟨g, 0, none⟩) n cap) xs := by
  have hl : n = xs.length := by have := h.1; simpa [intsV] using this.symm
  subst hl
  refine Or.inr ⟨g, 0, cap, rfl, fun j hj => ?_⟩
  rw [Nat.zero_add, h.cellAt j (by omega)]
  simp [intsV, List.getElem?_eq_getElem hj]
theorem take_set {xs : List Int} {k : Nat} (hk : k < xs.length) (z : Int) (hz : z = xs[k]) :
    (intsV (xs.take k ++ List.replicate (xs.length - k) 0)).set k (.int .i64 z) = intsV (xs.take (k + 1) ++ List.replicate (xs.length - (k + 1)) 0) := by
  subst hz
  unfold intsV
  rw [← List.map_set, List.set_append_right _ _ (by simp; omega), List.length_take, Nat.min_eq_left (by omega), Nat.sub_self]
  congr 1
  rw [show xs.length - k = (xs.length - (k + 1)) + 1 by omega, List.replicate_succ, List.set_cons_zero, List.take_succ_eq_append_getElem hk, List.append_assoc]
  rfl

set_option maxHeartbeats 1000000 in
theorem toInt64S_own (v : Value) (xs : List Int) (w : World) (hv : RowW .i64 w v xs) (hl : xs.length ≤ 1048576) :
    Calls Try.prog 26 #[v] w fun e w' => ∃ g, e = .returned (.slice (some ⟨g, 0, none⟩) xs.length xs.length) ∧ w'.ownsRow w.heap.size 2 1 (.slice (some ⟨g, 0, none⟩) xs.length xs.length) xs.length (intsV xs) ∧ Below w.heap.size w w' := by
  obtain ⟨A, cap, rfl⟩ : ∃ A cap, v = .slice A xs.length cap := by
    obtain ⟨A, c, rfl, _⟩ := hv
    exact ⟨A, c, rfl⟩
  have hmk := run_make_row' (P := Try.prog) 40 2 (.int .i64 0) 8 Try.underlying40 info_i64 rfl .i64 .i64 xs.length (by omega) (by omega)
  have HV := Lib.hid hv
  clear hv
  go_enter Try.func26, Try.ntmps26
  go_wp2
  clear hmk
  go_loopw [4] (fun i wr => ∃ k : Nat, k ≤ xs.length ∧ i = .int .i64 k ∧ wr.ownsRow w.heap.size 2 1 (.slice (some ⟨w.heap.size, 0, none⟩) xs.length xs.length) xs.length (intsV (xs.take k ++ List.replicate (xs.length - k) 0)) ∧ Below w.heap.size w wr) (fun i wr => xs.length - (intOf i).toNat)
  case atStart =>
    refine ⟨0, by omega, rfl, ?_, (Below.refl _ _).alloc (Nat.le_refl _) _⟩
    have h := World.ownsRow_lit (base := w.heap.size) (e := 2) (size := 1) w (madeCells #[.int .i64 0] xs.length) xs.length (Nat.le_refl _) (by unfold maxLen; omega) (by simp [madeCells])
    have e : (madeCells #[.int .i64 0] xs.length).toList = intsV (xs.take 0 ++ List.replicate (xs.length - 0) 0) := by
      simp [madeCells, intsV, Nat.mod_one, List.map_const']
    rw [e] at h
    exact h
  case round =>
    obtain ⟨k, hk, rfl, hown, hbel⟩ := hrel
    by_cases hlt : k < xs.length
    · obtain ⟨b, off, rfl, _, hc⟩ := RowW.cell (HV.out.below hbel) hlt
      rw [show xs.getD k 0 = xs[k] by simp [List.getD, hlt]] at hc
      have hfz := hown.frozenAt k
      have hcd : wr.cell? ⟨w.heap.size, k, none⟩ = some (.int .i64 0) := by
        rw [hown.cellAt k (by omega)]
        unfold intsV
        rw [List.getElem?_map, List.getElem?_append_right (by simp; omega), List.getElem?_replicate, if_pos (by simp; omega)]
        rfl
      have HO := Lib.hid (And.intro (hown.stored k (.int .i64 xs[k])) (take_set hlt xs[k] rfl))
      clear hown
      go_wp2
      go_roundw
      case rel => exact ⟨k + 1, by omega, by go_num, by rw [← HO.out.2]; exact HO.out.1.1, hbel.setCell (by simp) _⟩
      case measure => simp [intOf]; omega
    · obtain rfl : k = xs.length := by omega
      go_wp2
      go_ret
      refine ⟨_, rfl, (by simpa using hown), hbel⟩
theorem toInt64S_any (v : Value) (xs : List Int) (w : World) (hv : RowW .i64 w v xs) (hl : xs.length ≤ 1048576) :
    Calls Try.prog 26 #[v] w fun e w' => ∃ g, e = .returned (.slice (some ⟨g, 0, none⟩) xs.length xs.length) ∧ Row .i64 w' (.slice (some ⟨g, 0, none⟩) xs.length xs.length) xs ∧ Below w.heap.size w w' :=
  (toInt64S_own v xs w hv hl).mono fun _ _ ⟨g, e, h, hb⟩ => ⟨g, e, Row.of_own h, hb⟩

theorem Row.form {k : IntKind} {w : World} {v : Value} {xs : List Int} (hv : Row k w v xs) : ∃ A cap, v = .slice A xs.length cap := by
  rcases hv with ⟨rfl, rfl⟩ | ⟨b, off, c, rfl, _⟩
  · exact ⟨_, _, rfl⟩
  · exact ⟨_, _, rfl⟩
theorem eqInt64S_same (v v' : Value) (xs : List Int) (w : World) (hv : Row .i64 w v xs) (hv' : Row .i64 w v' xs) (hl : xs.length ≤ 4000000000000000000) :
    Calls Try.prog 28 #[v, v'] w fun e w' => e = .returned (.bool true) ∧ ∃ n, w' = w.drewN n := by
  obtain ⟨A, cap, rfl⟩ := hv.form
  obtain ⟨A', cap', rfl⟩ := hv'.form
  have HV := Lib.hid (And.intro hv hv')
  clear hv hv'
  go_enter Try.func28, Try.ntmps28
  go_wp2
  go_loopw [5] (fun i wr => ∃ k n : Nat, k ≤ xs.length ∧ i = .int .i64 k ∧ wr = w.drewN n) (fun i wr => xs.length - (intOf i).toNat)
  case atStart => exact ⟨0, 0, by omega, rfl, rfl⟩
  case round =>
    obtain ⟨k, n, hk, rfl, rfl⟩ := hrel
    by_cases hlt : k < xs.length
    · obtain ⟨b, off, rfl, _, hc⟩ := Row.cell HV.out.1 hlt
      obtain ⟨b', off', rfl, _, hc'⟩ := Row.cell HV.out.2 hlt
      generalize xs.getD k 0 = z at *
      go_wp2
      go_quiet (fail)
      go_wp2
      go_roundw
      case rel => exact ⟨k + 1, _, by omega, by go_num, rfl⟩
      case measure => simp [intOf]; omega
    · go_wp2
      go_ret
      exact ⟨rfl, n, rfl⟩

/-- Whether a list has a text. -/
def fitsL (xs : List Int) : Bool := decide (∀ y ∈ xs, -1000000000000 ≤ y ∧ y ≤ 1000000000000) && decide (xs.length ≤ 64)
theorem own_below {w w' : World} {B e size n : Nat} {v : Value} {xs : List Value} (h : w.ownsRow B e size v n xs) (hb : Below w.heap.size w w') : w'.ownsRow B e size v n xs := by
  rcases h with ⟨h1, h2 | ⟨g, cap, cur, rfl, hg, hh, r⟩⟩
  · exact ⟨h1, Or.inl h2⟩
  · refine ⟨h1, Or.inr ⟨g, cap, cur, rfl, hg, ?_, r⟩⟩
    rw [hb.block g ?_]
    · exact hh
    · rcases Nat.lt_or_ge g w.heap.size with q | q
      · exact q
      · rw [Array.getElem?_eq_none q] at hh; cases hh
end Go.Proofs.Ytnlkikdgffaeeaa
