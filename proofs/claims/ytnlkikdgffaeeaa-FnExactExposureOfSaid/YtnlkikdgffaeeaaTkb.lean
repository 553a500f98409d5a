/-
  Slices of Dustings: the laws' sizes, copies, comparisons. Conditions: those that each theorem states.
-/
import Derived.Test.YtnlkikdgffaeeaaTka
import Derived.Test.YtnlkikdgffaeeaaGq
import Derived.Laws.Cover1
import Derived.Deep.RegionWith
namespace Go.Proofs.Ytnlkikdgffaeeaa
open Go.RowKit
set_option linter.unusedVariables false
set_option linter.unusedSimpArgs false

/-- What is left of a size. -/
def szLTk (left : Int) (xs : List Tk) : Int := if left - xs.length < 0 then -1 else left - xs.length
theorem szLTk_le {left : Int} {xs : List Tk} (h0 : 0 ≤ left) : -1 ≤ szLTk left xs ∧ szLTk left xs ≤ left := by
  unfold szLTk
  split <;> omega
theorem szLTk_bd {left : Int} {xs : List Tk} (h0 : 0 ≤ left) (h : 0 ≤ szLTk left xs) : (xs.length : Int) ≤ left ∧ True := by
  unfold szLTk at h
  split at h
  · omega
  · exact ⟨by omega, trivial⟩
set_option maxHeartbeats 1000000 in
theorem szDustingS_any (A : Option Addr) (cap : Nat) (xs : List Tk) (left : Int) (w : World) (hr : TkR w A xs) (hl : xs.length ≤ maxLen) (h0 : 0 ≤ left ∧ left ≤ 1048576) :
    Calls Try.prog 16 #[.slice A xs.length cap, .int .i64 left] w fun e w' => e = .returned (.int .i64 (szLTk left xs)) ∧ Below w.heap.size w w' := by
  unfold maxLen at hl
  clear hr
  by_cases h : left - xs.length < 0
  · have HE := Lib.hid (show szLTk left xs = -1 by unfold szLTk; rw [if_pos h])
    go_enter Try.func16, Try.ntmps16
    go_wp2
    go_ret
    exact ⟨ret_int HE.out.symm, Below.refl _ _⟩
  · have HE := Lib.hid (show szLTk left xs = left - xs.length by unfold szLTk; rw [if_neg h])
    go_enter Try.func16, Try.ntmps16
    go_wp2
    go_ret
    exact ⟨ret_int HE.out.symm, Below.refl _ _⟩
theorem toDusting_any (aw : Int) (fr : Int) (un : Int) (du : Int) (w : World) :
    Calls Try.prog 14 #[.agg #[.int .i64 aw, .int .i64 fr, .int .i64 un, .int .i64 du]] w fun e w' => e = .returned (.agg #[.int .i64 aw, .int .i64 fr, .int .i64 un, .int .i64 du]) ∧ Below w.heap.size w w' := by
  go_enter Try.func14, Try.ntmps14
  go_wp2
  refine bodyPost_ret (v := .agg #[.int .i64 aw, .int .i64 fr, .int .i64 un, .int .i64 du]) (by simp [results, Try.results14, go_sem]) rfl ⟨rfl, ?_⟩
  exact (by repeat (first | (with_reducible exact Below.refl _ _) | (with_reducible refine below_drewN' ?_ _) | (with_reducible refine Below.drew ?_) | (with_reducible refine Below.alloc ?_ (by simp <;> omega) _) | (with_reducible refine Below.setCell ?_ (by simp) _)))
theorem eqDusting_same (aw : Int) (fr : Int) (un : Int) (du : Int) (w : World) :
    Calls Try.prog 52 #[.agg #[.int .i64 aw, .int .i64 fr, .int .i64 un, .int .i64 du], .agg #[.int .i64 aw, .int .i64 fr, .int .i64 un, .int .i64 du]] w fun e w' => e = .returned (.bool true) ∧ Below w.heap.size w w' := by
  go_enter Try.func52, Try.ntmps52
  go_wp2
  go_ret
  exact ⟨rfl, (by repeat (first | (with_reducible exact Below.refl _ _) | (with_reducible refine below_drewN' ?_ _) | (with_reducible refine Below.alloc ?_ (by simp <;> omega) _) | (with_reducible refine Below.setCell ?_ (by simp) _)))⟩
theorem info_tk : (Try.prog.info? 25).map (fun i => (i.zero, i.size, decide (i.bytes ≤ 1000))) = some (some (.agg Tk.none.cells.toArray), 4, true) := by kernel_rfl
theorem info_tk2 : ∃ i0, Try.prog.info? 25 = some i0 ∧ i0.zero = some (.agg Tk.none.cells.toArray) ∧ i0.size = 4 ∧ i0.bytes ≤ 1000 := by
  have h := info_tk
  cases hi : Try.prog.info? 25 with
  | none => rw [hi] at h; cases h
  | some i =>
    rw [hi] at h
    simp only [Option.map_some, Option.some.injEq, Prod.mk.injEq, decide_eq_true_eq] at h
    exact ⟨i, rfl, h.1, h.2.1, h.2.2⟩
set_option maxHeartbeats 1000000 in
set_option maxRecDepth 100000 in
theorem toDustingS_any (A : Option Addr) (cap : Nat) (xs : List Tk) (w : World) (hr : TkR w A xs) (hl : xs.length ≤ 1048576) :
    Calls Try.prog 18 #[.slice A xs.length cap] w fun e w' => ∃ g, e = .returned (.slice (some ⟨g, 0, none⟩) xs.length xs.length) ∧ BlkV w' g 25 (tkV xs) ∧ w.heap.size ≤ g ∧ Below w.heap.size w w' := by
  obtain ⟨i0, hi, hz0, hz1, hz2⟩ := info_tk2
  have hbb : i0.bytes * xs.length ≤ 1000 * 1048576 := Nat.mul_le_mul hz2 hl
  have hmk := fun W => run_make_rows (P := Try.prog) Try.underlying31 hi hz0 .i64 .i64 xs.length (by omega) (by omega) W
  rw [hz1] at hmk
  have HR := Lib.hid hr
  clear hr
  have HI := Lib.hid (show (Try.prog.info? 25).map (·.size) = some 4 by rw [hi]; simp [hz1])
  clear hi hz0 hz1 hz2 hbb
  go_enter Try.func18, Try.ntmps18
  go_wp2
  clear hmk
  go_loopw [4] (fun i wr => ∃ k : Nat, k ≤ xs.length ∧ i = .int .i64 k ∧ BlkV wr w.heap.size 25 (tkV (xs.take k ++ List.replicate (xs.length - k) Tk.none)) ∧ Below w.heap.size w wr) (fun i wr => xs.length - (intOf i).toNat)
  case atStart =>
    refine ⟨0, by omega, rfl, ?_, (Below.refl _ _).alloc (Nat.le_refl _) _⟩
    unfold BlkV
    rw [List.take_zero, List.nil_append, Nat.sub_zero, ← tk_made, Array.toArray_toList]
    exact heap_alloc_new w _
  case round =>
    obtain ⟨k, hk, rfl, hblk, hbel⟩ := hrel
    by_cases hlt : k < xs.length
    · obtain ⟨b, off, rfl, hrg⟩ := HR.out k hlt
      have hrg' := rangeAt_below hrg hbel (rangeAt_lt hrg (by simp [Tk.cells]))
      obtain ⟨c0, c1, c2, c3⟩ := tk_lay hrg'
      have HP := Lib.hid (tk_put xs k hlt)
      have HB := Lib.hid hblk
      have HLn := Lib.hid (show (tkV (xs.take k ++ List.replicate (xs.length - k) Tk.none)).length = xs.length * 4 by rw [tkV_len]; simp; omega)
      have hkl : k < (xs.take k ++ List.replicate (xs.length - k) Tk.none).length := by rw [List.length_append, List.length_take, List.length_replicate]; omega
      have HN := Lib.hid (show (xs.take k ++ List.replicate (xs.length - k) Tk.none)[k]'hkl = Tk.none by rw [List.getElem_append_right (by rw [List.length_take]; omega)]; simp)
      clear hrg hrg' hblk
      generalize xs[k] = y at *
      obtain ⟨aw, fr, un, du⟩ := y
      dsimp only at c0 c1 c2 c3
      obtain ⟨wo, rfl⟩ : ∃ wo : World, wo = wr := ⟨_, rfl⟩
      go_wp2_with fail
      (with_reducible refine (toDusting_any aw fr un du _).mono ?_)
      rintro e w1 ⟨rfl, hd⟩
      have HB1 := Lib.hid (HB.out.below hd HB.out.lt)
      obtain ⟨⟨d0, d1, d2, d3⟩, ⟨f0, f1, f2, f3⟩⟩ := BlkV.tkcells HB1.out k hkl
      rw [HN.out] at d0 d1 d2 d3
      dsimp only [Tk.none] at d0 d1 d2 d3
      go_wp2
      go_roundw
      case rel => exact ⟨k + 1, by omega, by go_num, by rw [← HP.out]; exact BlkV.tkset HB1.out (k * 4) ⟨aw, fr, un, du⟩ (by rw [HLn.out]; omega), below_tkset (hbel.trans (hd.mono hbel.size)) (Nat.le_refl _) (k * 4) ⟨aw, fr, un, du⟩⟩
      case measure => simp [intOf]; omega
    · obtain rfl : k = xs.length := by omega
      go_wp2
      go_ret
      exact ⟨_, rfl, by simpa using hblk, Nat.le_refl _, hbel⟩
set_option maxHeartbeats 1000000 in
set_option maxRecDepth 100000 in
theorem eqDustingS_same (A A' : Option Addr) (cap cap' : Nat) (xs : List Tk) (w : World) (hr : TkR w A xs) (hr' : TkR w A' xs) (hl : xs.length ≤ 1048576) :
    Calls Try.prog 20 #[.slice A xs.length cap, .slice A' xs.length cap'] w fun e w' => e = .returned (.bool true) ∧ Below w.heap.size w w' := by
  have HR := Lib.hid (And.intro hr hr')
  clear hr hr'
  go_enter Try.func20, Try.ntmps20
  go_wp2
  go_loopw [5] (fun i wr => ∃ k : Nat, k ≤ xs.length ∧ i = .int .i64 k ∧ Below w.heap.size w wr) (fun i wr => xs.length - (intOf i).toNat)
  case atStart => exact ⟨0, by omega, rfl, Below.refl _ _⟩
  case round =>
    obtain ⟨k, hk, rfl, hbel⟩ := hrel
    by_cases hlt : k < xs.length
    · obtain ⟨b, off, rfl, hrg⟩ := HR.out.1 k hlt
      obtain ⟨b', off', rfl, hrg'⟩ := HR.out.2 k hlt
      obtain ⟨c0, c1, c2, c3⟩ := tk_lay (rangeAt_below hrg hbel (rangeAt_lt hrg (by simp [Tk.cells])))
      obtain ⟨d0, d1, d2, d3⟩ := tk_lay (rangeAt_below hrg' hbel (rangeAt_lt hrg' (by simp [Tk.cells])))
      clear hrg hrg'
      generalize xs[k] = y at *
      obtain ⟨aw, fr, un, du⟩ := y
      dsimp only at c0 c1 c2 c3 d0 d1 d2 d3
      obtain ⟨wo, rfl⟩ : ∃ wo : World, wo = wr := ⟨_, rfl⟩
      go_wp2
      go_region_with ((go_at_call 52; refine (eqDusting_same aw fr un du _).mono ?_; rintro e w1 ⟨rfl, hd⟩))
      all_goals
        go_wp2
        go_roundw
        case rel => exact ⟨k + 1, by omega, by go_num, hbel.trans ((Below.drew (Below.refl _ _)).trans (hd.mono hbel.size))⟩
        case measure => simp [intOf]; omega
    · go_wp2
      go_ret
      exact ⟨rfl, hbel⟩
end Go.Proofs.Ytnlkikdgffaeeaa
