/-
  Contracts of the model's draws of chapter 2: what is drawn lies in its range. Conditions: those that each theorem states.
-/
import Derived.Test.YtkldgmgjbboiaacDoorIa
namespace Go.Proofs.YtkldgmgjbboiaacDoor
open Go.RowKit
set_option linter.unusedVariables false

theorem SrcB.alloc {w : World} {b : Nat} {a : Option Addr} {len cap : Nat} {at' seed : Int} (h : SrcB w b a len cap at' seed) (x : Obj) : SrcB (w.alloc x) b a len cap at' seed := by
  have hl := h.cells.2.2
  unfold SrcB at h ⊢
  rw [← h]
  show (w.heap.push x)[b]? = _
  rw [Array.getElem?_push_lt hl, Array.getElem?_eq_getElem hl]
theorem Oth.alloc (b : Nat) (w : World) (x : Obj) : Oth b w (w.alloc x) := fun k hk _ => Below.heap_alloc w x k hk
set_option maxHeartbeats 1000000 in
theorem l02DrawTemperature_any (B b : Nat) (a : Option Addr) (len cap : Nat) (at' seed top : Int) (w : World) (hs : SrcB w b a len cap at' seed) (hB : B ≤ b) (hy : BytB B w a len) (hl : len ≤ 1048576) (h1 : 0 ≤ at' ∧ at' ≤ top) (ht : top ≤ 800000) (h2 : 0 ≤ seed ∧ seed ≤ 18446744073709551615) :
    Calls Tryd.prog 60 #[.pointer (some ⟨b, 0, none⟩)] w (Drew (-101) 601 B b a len cap (top + 4) w) := by
  have HS := Lib.hid hs
  have HY := Lib.hid hy
  clear hs hy
  go_enter Tryd.func60, Tryd.ntmps60
  go_wp2_with fail
  refine (one_any 10 (by omega) B b a len cap at' seed top w HS.out hB HY.out hl h1 (by omega) h2).mono ?_
  rintro e w1 ⟨v, at1, seed1, ha1, hs1, rfl, hS1, hB1, hO1⟩
  have HS1 := Lib.hid hS1
  have HB1 := Lib.hid hB1
  have HO1 := Lib.hid hO1
  have hz := hS1.cells.2.2
  clear hS1 hB1 hO1
  cases v
  · go_wp2_with fail
    refine (pick_any 450 (by omega) B b a len cap at1 seed1 (top + 2) w1 HS1.out hB (HY.out.below HB1.out) hl ha1 (by omega) hs1).mono ?_
    rintro e w2 ⟨x, at2, seed2, hx2, ha2, hs2, rfl, hS2, hB2, hO2⟩
    have HS2 := Lib.hid hS2
    have HB2 := Lib.hid hB2
    have HO2 := Lib.hid hO2
    clear hS2 hB2 hO2
    go_wp2
    go_ret
    exact ⟨_, at2, seed2, ⟨by omega, by omega⟩, ⟨ha2.1, by omega⟩, hs2, rfl, HS2.out, HB1.out.trans HB2.out, HO1.out.trans HO2.out HB1.out.size⟩
  · have HSA := Lib.hid (HS1.out.alloc (.cells #[.int .i64 (-101), .int .i64 (-100), .int .i64 0, .int .i64 50, .int .i64 600, .int .i64 601] 2))
    have HBA := Lib.hid (show Below B w (w1.alloc (.cells #[.int .i64 (-101), .int .i64 (-100), .int .i64 0, .int .i64 50, .int .i64 600, .int .i64 601] 2)) from HB1.out.alloc (Nat.le_of_lt (Nat.lt_of_le_of_lt hB hz)) _)
    have HOA := Lib.hid (show Oth b w (w1.alloc (.cells #[.int .i64 (-101), .int .i64 (-100), .int .i64 0, .int .i64 50, .int .i64 600, .int .i64 601] 2)) from HO1.out.trans (Oth.alloc b w1 _) HB1.out.size)
    have HR := Lib.hid (show ∀ j, j < ([-101, -100, 0, 50, 600, 601] : List Int).length → (w1.alloc (.cells #[.int .i64 (-101), .int .i64 (-100), .int .i64 0, .int .i64 50, .int .i64 600, .int .i64 601] 2)).cell? ⟨w1.heap.size, j, none⟩ = some (.int .i64 (([-101, -100, 0, 50, 600, 601] : List Int).getD j 0)) from fun j hj => by
      rw [World.cell?_alloc_new]
      match j, hj with
      | 0, _ | 1, _ | 2, _ | 3, _ | 4, _ | 5, _ => rfl)
    go_wp2_with fail
    refine (among_any (-101) 601 [-101, -100, 0, 50, 600, 601] _ w1.heap.size (by simp) (by simp) B b a len cap at1 seed1 (top + 2) (w1.alloc (.cells #[.int .i64 (-101), .int .i64 (-100), .int .i64 0, .int .i64 50, .int .i64 600, .int .i64 601] 2)) HSA.out hB (HY.out.below HBA.out) hl ha1 (by omega) hs1 (by omega) HR.out (by simp)).mono ?_
    rintro e w2 ⟨x, at2, seed2, hx2, ha2, hs2, rfl, hS2, hB2, hO2⟩
    have HS2 := Lib.hid hS2
    have HB2 := Lib.hid hB2
    have HO2 := Lib.hid hO2
    clear hS2 hB2 hO2
    go_wp2
    go_ret
    exact ⟨_, at2, seed2, hx2, ⟨ha2.1, by omega⟩, hs2, rfl, HS2.out, HBA.out.trans HB2.out, HOA.out.trans HO2.out HBA.out.size⟩
set_option maxHeartbeats 1000000 in
theorem l02DrawPressure_any (B b : Nat) (a : Option Addr) (len cap : Nat) (at' seed top : Int) (w : World) (hs : SrcB w b a len cap at' seed) (hB : B ≤ b) (hy : BytB B w a len) (hl : len ≤ 1048576) (h1 : 0 ≤ at' ∧ at' ≤ top) (ht : top ≤ 800000) (h2 : 0 ≤ seed ∧ seed ≤ 18446744073709551615) :
    Calls Tryd.prog 69 #[.pointer (some ⟨b, 0, none⟩)] w (Drew (49999) 150001 B b a len cap (top + 4) w) := by
  have HS := Lib.hid hs
  have HY := Lib.hid hy
  clear hs hy
  go_enter Tryd.func69, Tryd.ntmps69
  go_wp2_with fail
  refine (one_any 12 (by omega) B b a len cap at' seed top w HS.out hB HY.out hl h1 (by omega) h2).mono ?_
  rintro e w1 ⟨v, at1, seed1, ha1, hs1, rfl, hS1, hB1, hO1⟩
  have HS1 := Lib.hid hS1
  have HB1 := Lib.hid hB1
  have HO1 := Lib.hid hO1
  have hz := hS1.cells.2.2
  clear hS1 hB1 hO1
  cases v
  · go_wp2_with fail
    refine (pick_any 30000 (by omega) B b a len cap at1 seed1 (top + 2) w1 HS1.out hB (HY.out.below HB1.out) hl ha1 (by omega) hs1).mono ?_
    rintro e w2 ⟨x, at2, seed2, hx2, ha2, hs2, rfl, hS2, hB2, hO2⟩
    have HS2 := Lib.hid hS2
    have HB2 := Lib.hid hB2
    have HO2 := Lib.hid hO2
    clear hS2 hB2 hO2
    go_wp2
    go_ret
    exact ⟨_, at2, seed2, ⟨by omega, by omega⟩, ⟨ha2.1, by omega⟩, hs2, rfl, HS2.out, HB1.out.trans HB2.out, HO1.out.trans HO2.out HB1.out.size⟩
  · have HSA := Lib.hid (HS1.out.alloc (.cells #[.int .i64 49999, .int .i64 50000, .int .i64 150000, .int .i64 150001] 2))
    have HBA := Lib.hid (show Below B w (w1.alloc (.cells #[.int .i64 49999, .int .i64 50000, .int .i64 150000, .int .i64 150001] 2)) from HB1.out.alloc (Nat.le_of_lt (Nat.lt_of_le_of_lt hB hz)) _)
    have HOA := Lib.hid (show Oth b w (w1.alloc (.cells #[.int .i64 49999, .int .i64 50000, .int .i64 150000, .int .i64 150001] 2)) from HO1.out.trans (Oth.alloc b w1 _) HB1.out.size)
    have HR := Lib.hid (show ∀ j, j < ([49999, 50000, 150000, 150001] : List Int).length → (w1.alloc (.cells #[.int .i64 49999, .int .i64 50000, .int .i64 150000, .int .i64 150001] 2)).cell? ⟨w1.heap.size, j, none⟩ = some (.int .i64 (([49999, 50000, 150000, 150001] : List Int).getD j 0)) from fun j hj => by
      rw [World.cell?_alloc_new]
      match j, hj with
      | 0, _ | 1, _ | 2, _ | 3, _ => rfl)
    go_wp2_with fail
    refine (among_any (49999) 150001 [49999, 50000, 150000, 150001] _ w1.heap.size (by simp) (by simp) B b a len cap at1 seed1 (top + 2) (w1.alloc (.cells #[.int .i64 49999, .int .i64 50000, .int .i64 150000, .int .i64 150001] 2)) HSA.out hB (HY.out.below HBA.out) hl ha1 (by omega) hs1 (by omega) HR.out (by simp)).mono ?_
    rintro e w2 ⟨x, at2, seed2, hx2, ha2, hs2, rfl, hS2, hB2, hO2⟩
    have HS2 := Lib.hid hS2
    have HB2 := Lib.hid hB2
    have HO2 := Lib.hid hO2
    clear hS2 hB2 hO2
    go_wp2
    go_ret
    exact ⟨_, at2, seed2, hx2, ⟨ha2.1, by omega⟩, hs2, rfl, HS2.out, HBA.out.trans HB2.out, HOA.out.trans HO2.out HBA.out.size⟩
set_option maxHeartbeats 1000000 in
theorem l02DrawHumidity_any (B b : Nat) (a : Option Addr) (len cap : Nat) (at' seed top : Int) (w : World) (hs : SrcB w b a len cap at' seed) (hB : B ≤ b) (hy : BytB B w a len) (hl : len ≤ 1048576) (h1 : 0 ≤ at' ∧ at' ≤ top) (ht : top ≤ 800000) (h2 : 0 ≤ seed ∧ seed ≤ 18446744073709551615) :
    Calls Tryd.prog 61 #[.pointer (some ⟨b, 0, none⟩)] w (Drew (-1) 1001 B b a len cap (top + 4) w) := by
  have HS := Lib.hid hs
  have HY := Lib.hid hy
  clear hs hy
  go_enter Tryd.func61, Tryd.ntmps61
  go_wp2_with fail
  refine (one_any 10 (by omega) B b a len cap at' seed top w HS.out hB HY.out hl h1 (by omega) h2).mono ?_
  rintro e w1 ⟨v, at1, seed1, ha1, hs1, rfl, hS1, hB1, hO1⟩
  have HS1 := Lib.hid hS1
  have HB1 := Lib.hid hB1
  have HO1 := Lib.hid hO1
  have hz := hS1.cells.2.2
  clear hS1 hB1 hO1
  cases v
  · go_wp2_with fail
    refine (pick_any 1001 (by omega) B b a len cap at1 seed1 (top + 2) w1 HS1.out hB (HY.out.below HB1.out) hl ha1 (by omega) hs1).mono ?_
    rintro e w2 ⟨x, at2, seed2, hx2, ha2, hs2, rfl, hS2, hB2, hO2⟩
    have HS2 := Lib.hid hS2
    have HB2 := Lib.hid hB2
    have HO2 := Lib.hid hO2
    clear hS2 hB2 hO2
    go_wp2
    go_ret
    exact ⟨_, at2, seed2, ⟨by omega, by omega⟩, ⟨ha2.1, by omega⟩, hs2, rfl, HS2.out, HB1.out.trans HB2.out, HO1.out.trans HO2.out HB1.out.size⟩
  · have HSA := Lib.hid (HS1.out.alloc (.cells #[.int .i64 (-1), .int .i64 0, .int .i64 1000, .int .i64 1001] 2))
    have HBA := Lib.hid (show Below B w (w1.alloc (.cells #[.int .i64 (-1), .int .i64 0, .int .i64 1000, .int .i64 1001] 2)) from HB1.out.alloc (Nat.le_of_lt (Nat.lt_of_le_of_lt hB hz)) _)
    have HOA := Lib.hid (show Oth b w (w1.alloc (.cells #[.int .i64 (-1), .int .i64 0, .int .i64 1000, .int .i64 1001] 2)) from HO1.out.trans (Oth.alloc b w1 _) HB1.out.size)
    have HR := Lib.hid (show ∀ j, j < ([-1, 0, 1000, 1001] : List Int).length → (w1.alloc (.cells #[.int .i64 (-1), .int .i64 0, .int .i64 1000, .int .i64 1001] 2)).cell? ⟨w1.heap.size, j, none⟩ = some (.int .i64 (([-1, 0, 1000, 1001] : List Int).getD j 0)) from fun j hj => by
      rw [World.cell?_alloc_new]
      match j, hj with
      | 0, _ | 1, _ | 2, _ | 3, _ => rfl)
    go_wp2_with fail
    refine (among_any (-1) 1001 [-1, 0, 1000, 1001] _ w1.heap.size (by simp) (by simp) B b a len cap at1 seed1 (top + 2) (w1.alloc (.cells #[.int .i64 (-1), .int .i64 0, .int .i64 1000, .int .i64 1001] 2)) HSA.out hB (HY.out.below HBA.out) hl ha1 (by omega) hs1 (by omega) HR.out (by simp)).mono ?_
    rintro e w2 ⟨x, at2, seed2, hx2, ha2, hs2, rfl, hS2, hB2, hO2⟩
    have HS2 := Lib.hid hS2
    have HB2 := Lib.hid hB2
    have HO2 := Lib.hid hO2
    clear hS2 hB2 hO2
    go_wp2
    go_ret
    exact ⟨_, at2, seed2, hx2, ⟨ha2.1, by omega⟩, hs2, rfl, HS2.out, HBA.out.trans HB2.out, HOA.out.trans HO2.out HBA.out.size⟩
end Go.Proofs.YtkldgmgjbboiaacDoor
