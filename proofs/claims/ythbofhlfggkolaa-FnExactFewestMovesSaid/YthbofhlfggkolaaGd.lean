/-
  Contracts on mines: copies, comparisons, and whether they are valid; the laws', the model's and the program's. Conditions: those that each theorem states.
-/
import Derived.Test.YthbofhlfggkolaaGc
import Derived.Laws.Cover1
import Derived.Deep.RegionWith
namespace Go.Proofs.Ythbofhlfggkolaa
open Go.RowKit
set_option linter.unusedVariables false

set_option maxHeartbeats 1000000 in
theorem toMine_any (J : Int) (A : Option Addr) (cap : Nat) (xs : List Aw) (w : World) (hr : AwR w A xs) (hl : xs.length ≤ 1048576) :
    Calls Try.prog 12 #[.agg #[.int .i64 J, .slice A xs.length cap]] w fun e w' => ∃ g, e = .returned (.agg #[.int .i64 J, .slice (some ⟨g, 0, none⟩) xs.length xs.length]) ∧ BlkV w' g 103 (awsV xs) ∧ w.heap.size ≤ g ∧ Below w.heap.size w w' := by
  have hB0 : Below w.heap.size w (((w.alloc (.cells #[.int .i64 J, .slice A xs.length cap] 24)).alloc (.cells #[.int .i64 0, .slice none 0 0] 31)).alloc (.cells #[.int .i64 J, .slice none 0 0] 31)) := (by repeat (first | (with_reducible exact Below.refl _ _) | (with_reducible refine below_drewN' ?_ _) | (with_reducible refine Below.alloc ?_ (by simp <;> omega) _) | (with_reducible refine Below.setCell ?_ (by simp) _)))
  have HB0 := Lib.hid hB0
  have HR := Lib.hid (hr.below hB0)
  clear hr hB0
  go_enter Try.func12, Try.ntmps12
  go_wp2_with fail
  refine (toAirwayS_any A cap xs _ HR.out hl).mono ?_
  rintro e w1 ⟨g, rfl, hB, hg, hd⟩
  have HBl := Lib.hid hB
  have HG := Lib.hid hg
  have hg2 : w.heap.size + 3 ≤ g := by simpa using hg
  have hz : w.heap.size + 3 ≤ w1.heap.size := by have := hd.size; simp at this; omega
  obtain ⟨hc, hf⟩ := bcell hd
  have HB1 := Lib.hid (HB0.out.trans (hd.mono HB0.out.size))
  have hne : ¬ (w.heap.size + 1 = g) := by omega
  clear hB hg hd
  go_wp2
  refine bodyPost_ret (v := .agg #[.int .i64 J, .slice (some ⟨g, 0, none⟩) xs.length xs.length]) (by simp [results, Try.results12, go_sem, hc]) rfl ⟨g, rfl, ?_, by omega, ?_⟩
  · exact ((HBl.out.setC_far (p := ⟨w.heap.size + 1 + 1, 1, none⟩) (by show g ≠ w.heap.size + 1 + 1; omega) _).setC_far (p := ⟨w.heap.size + 1, 0, none⟩) (by show g ≠ w.heap.size + 1; omega) _).setC_far (p := ⟨w.heap.size + 1, 1, none⟩) (by show g ≠ w.heap.size + 1; omega) _
  · exact ((HB1.out.setCell (p := ⟨w.heap.size + 1 + 1, 1, none⟩) (by show w.heap.size ≤ w.heap.size + 1 + 1; omega) _).setCell (p := ⟨w.heap.size + 1, 0, none⟩) (by show w.heap.size ≤ w.heap.size + 1; omega) _).setCell (p := ⟨w.heap.size + 1, 1, none⟩) (by show w.heap.size ≤ w.heap.size + 1; omega) _
theorem eqAirway_same (s : ByteArray) (f t l se fr sh : Int) (w : World) :
    Calls Try.prog 81 #[.agg #[.string s, .int .i64 f, .int .i64 t, .int .i64 l, .int .i64 se, .int .i64 fr, .int .i64 sh], .agg #[.string s, .int .i64 f, .int .i64 t, .int .i64 l, .int .i64 se, .int .i64 fr, .int .i64 sh]] w fun e w' => e = .returned (.bool true) ∧ Below w.heap.size w w' := by
  go_enter Try.func81, Try.ntmps81
  go_wp2
  go_ret
  exact ⟨rfl, (by repeat (first | (with_reducible exact Below.refl _ _) | (with_reducible refine below_drewN' ?_ _) | (with_reducible refine Below.alloc ?_ (by simp <;> omega) _) | (with_reducible refine Below.setCell ?_ (by simp) _)))⟩
set_option maxHeartbeats 1000000 in
set_option maxRecDepth 100000 in
theorem eqAirwayS_same (A A' : Option Addr) (cap cap' : Nat) (xs : List Aw) (w : World) (hr : AwR w A xs) (hr' : AwR w A' xs) (hl : xs.length ≤ 1048576) :
    Calls Try.prog 46 #[.slice A xs.length cap, .slice A' xs.length cap'] w fun e w' => e = .returned (.bool true) ∧ Below w.heap.size w w' := by
  have HR := Lib.hid (And.intro hr hr')
  clear hr hr'
  go_enter Try.func46, Try.ntmps46
  go_wp2
  go_loopw [5] (fun i wr => ∃ k : Nat, k ≤ xs.length ∧ i = .int .i64 k ∧ Below w.heap.size w wr) (fun i wr => xs.length - (intOf i).toNat)
  case atStart => exact ⟨0, by omega, rfl, Below.refl _ _⟩
  case round =>
    obtain ⟨k, hk, rfl, hbel⟩ := hrel
    by_cases hlt : k < xs.length
    · obtain ⟨b, off, rfl, hrg⟩ := HR.out.1 k hlt
      obtain ⟨b', off', rfl, hrg'⟩ := HR.out.2 k hlt
      obtain ⟨⟨c0, c1, c2, c3⟩, c4, c5, c6⟩ := lay_row (rangeAt_below hrg hbel (rangeAt_lt hrg (by simp [Aw.cells])))
      obtain ⟨⟨d0, d1, d2, d3⟩, d4, d5, d6⟩ := lay_row (rangeAt_below hrg' hbel (rangeAt_lt hrg' (by simp [Aw.cells])))
      clear hrg hrg'
      generalize xs[k] = y at *
      obtain ⟨s, f, t, l, se, fr, sh⟩ := y
      dsimp only at c0 c1 c2 c3 c4 c5 c6 d0 d1 d2 d3 d4 d5 d6
      obtain ⟨wo, rfl⟩ : ∃ wo : World, wo = wr := ⟨_, rfl⟩
      go_wp2
      go_region_with ((go_at_call 81; refine (eqAirway_same s f t l se fr sh _).mono ?_; rintro e w1 ⟨rfl, hd⟩))
      all_goals
        go_wp2
        go_roundw
        case rel => exact ⟨k + 1, by omega, by go_num, hbel.trans ((Below.drew (Below.refl _ _)).trans (hd.mono hbel.size))⟩
        case measure => simp [intOf]; omega
    · go_wp2
      go_ret
      exact ⟨rfl, hbel⟩
end Go.Proofs.Ythbofhlfggkolaa
