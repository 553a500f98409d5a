/-
  Slices of Doors: the laws' sizes, copies, comparisons. Conditions: those that each theorem states.
-/
import Derived.Test.YtddfhjolimkkmaaJa
import Derived.Test.YtddfhjolimkkmaaGc
import Derived.Laws.Cover1
import Derived.Deep.RegionWith
namespace Go.Proofs.Ytddfhjolimkkmaa
open Go.RowKit
set_option linter.unusedVariables false
set_option linter.unusedSimpArgs false

/-- What is left of a size behind texts. -/
def szGoDo (left : Int) : List Do → Int
  | [] => left
  | a :: r => if left - a.s.size < 0 then -1 else szGoDo (left - a.s.size) r
def szLDo (left : Int) (xs : List Do) : Int := if left - xs.length < 0 then -1 else szGoDo (left - xs.length) xs
theorem szGoDo_le : ∀ (xs : List Do) (left : Int), 0 ≤ left → -1 ≤ szGoDo left xs ∧ szGoDo left xs ≤ left
  | [], left, h => ⟨by simp only [szGoDo]; omega, Int.le_refl _⟩
  | a :: r, left, h => by
    simp only [szGoDo]
    split
    · omega
    · have := szGoDo_le r (left - a.s.size) (by omega); omega
theorem szLDo_le {left : Int} {xs : List Do} (h0 : 0 ≤ left) : -1 ≤ szLDo left xs ∧ szLDo left xs ≤ left := by
  unfold szLDo
  split
  · omega
  · have := szGoDo_le xs (left - xs.length) (by omega); omega
theorem szLDo_bd {left : Int} {xs : List Do} (h0 : 0 ≤ left) (h : 0 ≤ szLDo left xs) : (xs.length : Int) ≤ left ∧ ∀ a ∈ xs, (a.s.size : Int) ≤ left := by
  unfold szLDo at h
  split at h
  · omega
  · rename_i hl
    refine ⟨by omega, ?_⟩
    have key : ∀ (xs : List Do) (left : Int), 0 ≤ left → 0 ≤ szGoDo left xs → ∀ a ∈ xs, (a.s.size : Int) ≤ left := by
      intro xs
      induction xs with
      | nil => intro _ _ _ a ha; cases ha
      | cons x r ih =>
        intro left h0 h a ha
        simp only [szGoDo] at h
        split at h
        · omega
        · rcases List.mem_cons.1 ha with rfl | ha
          · omega
          · have := ih _ (by omega) h a ha; omega
    intro a ha
    have := key xs _ (by omega) h a ha
    omega
theorem szDoor_any (s : ByteArray) (a : Int) (op : Int) (sh : Int) (left : Int) (w : World) (hm : s.size ≤ maxLen) (h0 : 0 ≤ left ∧ left ≤ 1048576) :
    Calls Try.prog 17 #[.agg #[.string s, .int .i64 a, .int .i64 op, .int .i64 sh], .int .i64 left] w fun e w' => e = .returned (.int .i64 (if left - s.size < 0 then -1 else left - s.size)) ∧ Below w.heap.size w w' := by
  unfold maxLen at hm
  by_cases h : left - s.size < 0
  · rw [if_pos h]
    go_enter Try.func17, Try.ntmps17
    go_wp2
    go_ret
    exact ⟨rfl, below_box _ _⟩
  · rw [if_neg h]
    go_enter Try.func17, Try.ntmps17
    go_wp2
    go_ret
    exact ⟨rfl, below_box _ _⟩
theorem toDoor_any (s : ByteArray) (a : Int) (op : Int) (sh : Int) (w : World) :
    Calls Try.prog 19 #[.agg #[.string s, .int .i64 a, .int .i64 op, .int .i64 sh]] w fun e w' => e = .returned (.agg #[.string s, .int .i64 a, .int .i64 op, .int .i64 sh]) ∧ Below w.heap.size w w' := by
  go_enter Try.func19, Try.ntmps19
  go_wp2
  refine bodyPost_ret (v := .agg #[.string s, .int .i64 a, .int .i64 op, .int .i64 sh]) (by simp [results, Try.results19, go_sem]) rfl ⟨rfl, ?_⟩
  exact (by repeat (first | (with_reducible exact Below.refl _ _) | (with_reducible refine below_drewN' ?_ _) | (with_reducible refine Below.drew ?_) | (with_reducible refine Below.alloc ?_ (by simp <;> omega) _) | (with_reducible refine Below.setCell ?_ (by simp) _)))
theorem eqDoor_same (s : ByteArray) (a : Int) (op : Int) (sh : Int) (w : World) :
    Calls Try.prog 80 #[.agg #[.string s, .int .i64 a, .int .i64 op, .int .i64 sh], .agg #[.string s, .int .i64 a, .int .i64 op, .int .i64 sh]] w fun e w' => e = .returned (.bool true) ∧ Below w.heap.size w w' := by
  go_enter Try.func80, Try.ntmps80
  go_wp2
  go_ret
  exact ⟨rfl, (by repeat (first | (with_reducible exact Below.refl _ _) | (with_reducible refine below_drewN' ?_ _) | (with_reducible refine Below.alloc ?_ (by simp <;> omega) _) | (with_reducible refine Below.setCell ?_ (by simp) _)))⟩
theorem szDoor_small (s : ByteArray) (a : Int) (op : Int) (sh : Int) (w : World) (hs : s.size ≤ 1048576) :
    Calls Try.prog 17 #[.agg #[.string s, .int .i64 a, .int .i64 op, .int .i64 sh], .int .i64 1048576] w fun e w' => e = .returned (.int .i64 (1048576 - s.size)) ∧ Below w.heap.size w w' := by
  have h := szDoor_any s a op sh 1048576 w (by unfold maxLen; omega) (by omega)
  rwa [if_neg (by omega)] at h
theorem szDoor_big (s : ByteArray) (a : Int) (op : Int) (sh : Int) (w : World) (hs : 1048576 < s.size) (hm : s.size ≤ maxLen) :
    Calls Try.prog 17 #[.agg #[.string s, .int .i64 a, .int .i64 op, .int .i64 sh], .int .i64 1048576] w fun e w' => e = .returned (.int .i64 (-1)) ∧ Below w.heap.size w w' := by
  have h := szDoor_any s a op sh 1048576 w hm (by omega)
  rwa [if_pos (by omega)] at h
set_option maxHeartbeats 1000000 in
set_option maxRecDepth 100000 in
theorem szDoorS_any (A : Option Addr) (cap : Nat) (xs : List Do) (left : Int) (w : World) (hr : DoR w A xs) (hs : ∀ a ∈ xs, a.s.size ≤ maxLen) (hl : xs.length ≤ maxLen) (h0 : 0 ≤ left ∧ left ≤ 1048576) :
    Calls Try.prog 22 #[.slice A xs.length cap, .int .i64 left] w fun e w' => e = .returned (.int .i64 (szLDo left xs)) ∧ Below w.heap.size w w' := by
  unfold maxLen at hl
  by_cases h : left - xs.length < 0
  · have HE := Lib.hid (show szLDo left xs = -1 by unfold szLDo; rw [if_pos h])
    clear hr hs
    go_enter Try.func22, Try.ntmps22
    go_wp2
    go_ret
    exact ⟨ret_int HE.out.symm, Below.refl _ _⟩
  · have HE := Lib.hid (show szLDo left xs = szGoDo (left - xs.length) xs by unfold szLDo; rw [if_neg h])
    have HR := Lib.hid hr
    have HS := Lib.hid hs
    clear hr hs
    go_enter Try.func22, Try.ntmps22
    go_wp2
    go_loopw [1, 5] (fun t i wr => ∃ (k : Nat) (x : Int), k ≤ xs.length ∧ i = .int .i64 k ∧ t = .int .i64 x ∧ 0 ≤ x ∧ x ≤ 1048576 ∧ Hid (szGoDo x (xs.drop k) = szLDo left xs) ∧ Below w.heap.size w wr) (fun t i wr => xs.length - (intOf i).toNat)
    case atStart => exact ⟨0, _, by omega, rfl, rfl, by omega, by omega, Lib.hid (by rw [HE.out, List.drop_zero]), Below.refl _ _⟩
    case round =>
      obtain ⟨k, x, hk, rfl, rfl, hx0, hx1, HX, hbel⟩ := hrel
      by_cases hlt : k < xs.length
      · obtain ⟨b, off, rfl, hrg⟩ := HR.out k hlt
        have hrg' := rangeAt_below hrg hbel (rangeAt_lt hrg (by simp [Do.cells]))
        obtain ⟨c0, c1, c2, c3⟩ := do_lay hrg'
        have hsz := HS.out xs[k] (List.getElem_mem hlt)
        have HZ := Lib.hid (show szGoDo x (xs.drop k) = if x - xs[k].s.size < 0 then -1 else szGoDo (x - xs[k].s.size) (xs.drop (k + 1)) by rw [List.drop_eq_getElem_cons hlt]; rfl)
        clear hrg hrg'
        generalize xs[k] = y at *
        obtain ⟨s, a, op, sh⟩ := y
        dsimp only at hsz HZ c0 c1 c2 c3
        obtain ⟨wo, rfl⟩ : ∃ wo : World, wo = wr := ⟨_, rfl⟩
        by_cases hn : x - s.size < 0
        · have HF := Lib.hid (show szLDo left xs = -1 by rw [← HX.out, HZ.out, if_pos hn])
          go_wp2_with (go_at_call 17; (with_reducible refine (szDoor_any s a op sh x _ hsz ⟨hx0, hx1⟩).mono ?_); rw [if_pos hn]; rintro e w1 ⟨rfl, hd⟩)
          go_ret
          exact ⟨ret_int HF.out.symm, hbel.trans (hd.mono hbel.size)⟩
        · have HF := Lib.hid (show szGoDo (x - s.size) (xs.drop (k + 1)) = szLDo left xs by rw [← HX.out, HZ.out, if_neg hn])
          go_wp2_with (go_at_call 17; (with_reducible refine (szDoor_any s a op sh x _ hsz ⟨hx0, hx1⟩).mono ?_); rw [if_neg hn]; rintro e w1 ⟨rfl, hd⟩)
          go_roundw
          case rel => exact ⟨k + 1, _, by omega, by go_num, rfl, by omega, by omega, HF, hbel.trans (hd.mono hbel.size)⟩
          case measure => simp [intOf]; omega
      · obtain rfl : k = xs.length := by omega
        have HF := Lib.hid (show x = szLDo left xs by rw [← HX.out, List.drop_length]; rfl)
        go_wp2
        go_ret
        exact ⟨ret_int HF.out, hbel⟩
theorem info_do : (Try.prog.info? 26).map (fun i => (i.zero, i.size, decide (i.bytes ≤ 1000))) = some (some (.agg Do.none.cells.toArray), 4, true) := by kernel_rfl
theorem info_do2 : ∃ i0, Try.prog.info? 26 = some i0 ∧ i0.zero = some (.agg Do.none.cells.toArray) ∧ i0.size = 4 ∧ i0.bytes ≤ 1000 := by
  have h := info_do
  cases hi : Try.prog.info? 26 with
  | none => rw [hi] at h; cases h
  | some i =>
    rw [hi] at h
    simp only [Option.map_some, Option.some.injEq, Prod.mk.injEq, decide_eq_true_eq] at h
    exact ⟨i, rfl, h.1, h.2.1, h.2.2⟩
set_option maxHeartbeats 1000000 in
set_option maxRecDepth 100000 in
theorem toDoorS_any (A : Option Addr) (cap : Nat) (xs : List Do) (w : World) (hr : DoR w A xs) (hl : xs.length ≤ 1048576) :
    Calls Try.prog 25 #[.slice A xs.length cap] w fun e w' => ∃ g, e = .returned (.slice (some ⟨g, 0, none⟩) xs.length xs.length) ∧ BlkV w' g 26 (doV xs) ∧ w.heap.size ≤ g ∧ Below w.heap.size w w' := by
  obtain ⟨i0, hi, hz0, hz1, hz2⟩ := info_do2
  have hbb : i0.bytes * xs.length ≤ 1000 * 1048576 := Nat.mul_le_mul hz2 hl
  have hmk := fun W => run_make_rows (P := Try.prog) Try.underlying40 hi hz0 .i64 .i64 xs.length (by omega) (by omega) W
  rw [hz1] at hmk
  have HR := Lib.hid hr
  clear hr
  have HI := Lib.hid (show (Try.prog.info? 26).map (·.size) = some 4 by rw [hi]; simp [hz1])
  clear hi hz0 hz1 hz2 hbb
  go_enter Try.func25, Try.ntmps25
  go_wp2
  clear hmk
  go_loopw [4] (fun i wr => ∃ k : Nat, k ≤ xs.length ∧ i = .int .i64 k ∧ BlkV wr w.heap.size 26 (doV (xs.take k ++ List.replicate (xs.length - k) Do.none)) ∧ Below w.heap.size w wr) (fun i wr => xs.length - (intOf i).toNat)
  case atStart =>
    refine ⟨0, by omega, rfl, ?_, (Below.refl _ _).alloc (Nat.le_refl _) _⟩
    unfold BlkV
    rw [List.take_zero, List.nil_append, Nat.sub_zero, ← do_made, Array.toArray_toList]
    exact heap_alloc_new w _
  case round =>
    obtain ⟨k, hk, rfl, hblk, hbel⟩ := hrel
    by_cases hlt : k < xs.length
    · obtain ⟨b, off, rfl, hrg⟩ := HR.out k hlt
      have hrg' := rangeAt_below hrg hbel (rangeAt_lt hrg (by simp [Do.cells]))
      obtain ⟨c0, c1, c2, c3⟩ := do_lay hrg'
      have HP := Lib.hid (do_put xs k hlt)
      have HB := Lib.hid hblk
      have HLn := Lib.hid (show (doV (xs.take k ++ List.replicate (xs.length - k) Do.none)).length = xs.length * 4 by rw [doV_len]; simp; omega)
      have hkl : k < (xs.take k ++ List.replicate (xs.length - k) Do.none).length := by rw [List.length_append, List.length_take, List.length_replicate]; omega
      have HN := Lib.hid (show (xs.take k ++ List.replicate (xs.length - k) Do.none)[k]'hkl = Do.none by rw [List.getElem_append_right (by rw [List.length_take]; omega)]; simp)
      clear hrg hrg' hblk
      generalize xs[k] = y at *
      obtain ⟨s, a, op, sh⟩ := y
      dsimp only at c0 c1 c2 c3
      obtain ⟨wo, rfl⟩ : ∃ wo : World, wo = wr := ⟨_, rfl⟩
      go_wp2_with fail
      (with_reducible refine (toDoor_any s a op sh _).mono ?_)
      rintro e w1 ⟨rfl, hd⟩
      have HB1 := Lib.hid (HB.out.below hd HB.out.lt)
      obtain ⟨⟨d0, d1, d2, d3⟩, ⟨f0, f1, f2, f3⟩⟩ := BlkV.docells HB1.out k hkl
      rw [HN.out] at d0 d1 d2 d3
      dsimp only [Do.none] at d0 d1 d2 d3
      go_wp2
      go_roundw
      case rel => exact ⟨k + 1, by omega, by go_num, by rw [← HP.out]; exact BlkV.doset HB1.out (k * 4) ⟨s, a, op, sh⟩ (by rw [HLn.out]; omega), below_doset (hbel.trans (hd.mono hbel.size)) (Nat.le_refl _) (k * 4) ⟨s, a, op, sh⟩⟩
      case measure => simp [intOf]; omega
    · obtain rfl : k = xs.length := by omega
      go_wp2
      go_ret
      exact ⟨_, rfl, by simpa using hblk, Nat.le_refl _, hbel⟩
set_option maxHeartbeats 1000000 in
set_option maxRecDepth 100000 in
theorem eqDoorS_same (A A' : Option Addr) (cap cap' : Nat) (xs : List Do) (w : World) (hr : DoR w A xs) (hr' : DoR w A' xs) (hl : xs.length ≤ 1048576) :
    Calls Try.prog 28 #[.slice A xs.length cap, .slice A' xs.length cap'] w fun e w' => e = .returned (.bool true) ∧ Below w.heap.size w w' := by
  have HR := Lib.hid (And.intro hr hr')
  clear hr hr'
  go_enter Try.func28, Try.ntmps28
  go_wp2
  go_loopw [5] (fun i wr => ∃ k : Nat, k ≤ xs.length ∧ i = .int .i64 k ∧ Below w.heap.size w wr) (fun i wr => xs.length - (intOf i).toNat)
  case atStart => exact ⟨0, by omega, rfl, Below.refl _ _⟩
  case round =>
    obtain ⟨k, hk, rfl, hbel⟩ := hrel
    by_cases hlt : k < xs.length
    · obtain ⟨b, off, rfl, hrg⟩ := HR.out.1 k hlt
      obtain ⟨b', off', rfl, hrg'⟩ := HR.out.2 k hlt
      obtain ⟨c0, c1, c2, c3⟩ := do_lay (rangeAt_below hrg hbel (rangeAt_lt hrg (by simp [Do.cells])))
      obtain ⟨d0, d1, d2, d3⟩ := do_lay (rangeAt_below hrg' hbel (rangeAt_lt hrg' (by simp [Do.cells])))
      clear hrg hrg'
      generalize xs[k] = y at *
      obtain ⟨s, a, op, sh⟩ := y
      dsimp only at c0 c1 c2 c3 d0 d1 d2 d3
      obtain ⟨wo, rfl⟩ : ∃ wo : World, wo = wr := ⟨_, rfl⟩
      go_wp2
      go_region_with ((go_at_call 80; refine (eqDoor_same s a op sh _).mono ?_; rintro e w1 ⟨rfl, hd⟩))
      all_goals
        go_wp2
        go_roundw
        case rel => exact ⟨k + 1, by omega, by go_num, hbel.trans ((Below.drew (Below.refl _ _)).trans (hd.mono hbel.size))⟩
        case measure => simp [intOf]; omega
    · go_wp2
      go_ret
      exact ⟨rfl, hbel⟩
end Go.Proofs.Ytddfhjolimkkmaa
