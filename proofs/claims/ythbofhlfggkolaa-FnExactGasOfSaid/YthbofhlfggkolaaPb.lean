/-
  Slices of Sources: the laws' sizes, copies, comparisons. Conditions: those that each theorem states.
-/
import Derived.Test.YthbofhlfggkolaaPa
import Derived.Test.YthbofhlfggkolaaGc
import Derived.Laws.Cover1
import Derived.Deep.RegionWith
namespace Go.Proofs.Ythbofhlfggkolaa
open Go.RowKit
set_option linter.unusedVariables false
set_option linter.unusedSimpArgs false

/-- What is left of a size behind texts. -/
def szGoSo (left : Int) : List So → Int
  | [] => left
  | a :: r => if left - a.s.size < 0 then -1 else szGoSo (left - a.s.size) r
def szLSo (left : Int) (xs : List So) : Int := if left - xs.length < 0 then -1 else szGoSo (left - xs.length) xs
theorem szGoSo_le : ∀ (xs : List So) (left : Int), 0 ≤ left → -1 ≤ szGoSo left xs ∧ szGoSo left xs ≤ left
  | [], left, h => ⟨by simp only [szGoSo]; omega, Int.le_refl _⟩
  | a :: r, left, h => by
    simp only [szGoSo]
    split
    · omega
    · have := szGoSo_le r (left - a.s.size) (by omega); omega
theorem szLSo_le {left : Int} {xs : List So} (h0 : 0 ≤ left) : -1 ≤ szLSo left xs ∧ szLSo left xs ≤ left := by
  unfold szLSo
  split
  · omega
  · have := szGoSo_le xs (left - xs.length) (by omega); omega
theorem szLSo_bd {left : Int} {xs : List So} (h0 : 0 ≤ left) (h : 0 ≤ szLSo left xs) : (xs.length : Int) ≤ left ∧ ∀ a ∈ xs, (a.s.size : Int) ≤ left := by
  unfold szLSo at h
  split at h
  · omega
  · rename_i hl
    refine ⟨by omega, ?_⟩
    have key : ∀ (xs : List So) (left : Int), 0 ≤ left → 0 ≤ szGoSo left xs → ∀ a ∈ xs, (a.s.size : Int) ≤ left := by
      intro xs
      induction xs with
      | nil => intro _ _ _ a ha; cases ha
      | cons x r ih =>
        intro left h0 h a ha
        simp only [szGoSo] at h
        split at h
        · omega
        · rcases List.mem_cons.1 ha with rfl | ha
          · omega
          · have := ih _ (by omega) h a ha; omega
    intro a ha
    have := key xs _ (by omega) h a ha
    omega
theorem szSource_any (s : ByteArray) (a : Int) (r : Int) (left : Int) (w : World) (hm : s.size ≤ maxLen) (h0 : 0 ≤ left ∧ left ≤ 1048576) :
    Calls Try.prog 39 #[.agg #[.string s, .int .i64 a, .int .i64 r], .int .i64 left] w fun e w' => e = .returned (.int .i64 (if left - s.size < 0 then -1 else left - s.size)) ∧ Below w.heap.size w w' := by
  unfold maxLen at hm
  by_cases h : left - s.size < 0
  · rw [if_pos h]
    go_enter Try.func39, Try.ntmps39
    go_wp2
    go_ret
    exact ⟨rfl, below_box _ _⟩
  · rw [if_neg h]
    go_enter Try.func39, Try.ntmps39
    go_wp2
    go_ret
    exact ⟨rfl, below_box _ _⟩
theorem toSource_any (s : ByteArray) (a : Int) (r : Int) (w : World) :
    Calls Try.prog 43 #[.agg #[.string s, .int .i64 a, .int .i64 r]] w fun e w' => e = .returned (.agg #[.string s, .int .i64 a, .int .i64 r]) ∧ Below w.heap.size w w' := by
  go_enter Try.func43, Try.ntmps43
  go_wp2
  refine bodyPost_ret (v := .agg #[.string s, .int .i64 a, .int .i64 r]) (by simp [results, Try.results43, go_sem]) rfl ⟨rfl, ?_⟩
  exact (by repeat (first | (with_reducible exact Below.refl _ _) | (with_reducible refine below_drewN' ?_ _) | (with_reducible refine Below.drew ?_) | (with_reducible refine Below.alloc ?_ (by simp <;> omega) _) | (with_reducible refine Below.setCell ?_ (by simp) _)))
theorem eqSource_same (s : ByteArray) (a : Int) (r : Int) (w : World) :
    Calls Try.prog 47 #[.agg #[.string s, .int .i64 a, .int .i64 r], .agg #[.string s, .int .i64 a, .int .i64 r]] w fun e w' => e = .returned (.bool true) ∧ Below w.heap.size w w' := by
  go_enter Try.func47, Try.ntmps47
  go_wp2
  go_ret
  exact ⟨rfl, (by repeat (first | (with_reducible exact Below.refl _ _) | (with_reducible refine below_drewN' ?_ _) | (with_reducible refine Below.alloc ?_ (by simp <;> omega) _) | (with_reducible refine Below.setCell ?_ (by simp) _)))⟩
theorem szSource_small (s : ByteArray) (a : Int) (r : Int) (w : World) (hs : s.size ≤ 1048576) :
    Calls Try.prog 39 #[.agg #[.string s, .int .i64 a, .int .i64 r], .int .i64 1048576] w fun e w' => e = .returned (.int .i64 (1048576 - s.size)) ∧ Below w.heap.size w w' := by
  have h := szSource_any s a r 1048576 w (by unfold maxLen; omega) (by omega)
  rwa [if_neg (by omega)] at h
theorem szSource_big (s : ByteArray) (a : Int) (r : Int) (w : World) (hs : 1048576 < s.size) (hm : s.size ≤ maxLen) :
    Calls Try.prog 39 #[.agg #[.string s, .int .i64 a, .int .i64 r], .int .i64 1048576] w fun e w' => e = .returned (.int .i64 (-1)) ∧ Below w.heap.size w w' := by
  have h := szSource_any s a r 1048576 w hm (by omega)
  rwa [if_pos (by omega)] at h
set_option maxHeartbeats 1000000 in
set_option maxRecDepth 100000 in
theorem szSourceS_any (A : Option Addr) (cap : Nat) (xs : List So) (left : Int) (w : World) (hr : SoR w A xs) (hs : ∀ a ∈ xs, a.s.size ≤ maxLen) (hl : xs.length ≤ maxLen) (h0 : 0 ≤ left ∧ left ≤ 1048576) :
    Calls Try.prog 10 #[.slice A xs.length cap, .int .i64 left] w fun e w' => e = .returned (.int .i64 (szLSo left xs)) ∧ Below w.heap.size w w' := by
  unfold maxLen at hl
  by_cases h : left - xs.length < 0
  · have HE := Lib.hid (show szLSo left xs = -1 by unfold szLSo; rw [if_pos h])
    clear hr hs
    go_enter Try.func10, Try.ntmps10
    go_wp2
    go_ret
    exact ⟨ret_int HE.out.symm, Below.refl _ _⟩
  · have HE := Lib.hid (show szLSo left xs = szGoSo (left - xs.length) xs by unfold szLSo; rw [if_neg h])
    have HR := Lib.hid hr
    have HS := Lib.hid hs
    clear hr hs
    go_enter Try.func10, Try.ntmps10
    go_wp2
    go_loopw [1, 5] (fun t i wr => ∃ (k : Nat) (x : Int), k ≤ xs.length ∧ i = .int .i64 k ∧ t = .int .i64 x ∧ 0 ≤ x ∧ x ≤ 1048576 ∧ Hid (szGoSo x (xs.drop k) = szLSo left xs) ∧ Below w.heap.size w wr) (fun t i wr => xs.length - (intOf i).toNat)
    case atStart => exact ⟨0, _, by omega, rfl, rfl, by omega, by omega, Lib.hid (by rw [HE.out, List.drop_zero]), Below.refl _ _⟩
    case round =>
      obtain ⟨k, x, hk, rfl, rfl, hx0, hx1, HX, hbel⟩ := hrel
      by_cases hlt : k < xs.length
      · obtain ⟨b, off, rfl, hrg⟩ := HR.out k hlt
        have hrg' := rangeAt_below hrg hbel (rangeAt_lt hrg (by simp [So.cells]))
        obtain ⟨c0, c1, c2⟩ := so_lay hrg'
        have hsz := HS.out xs[k] (List.getElem_mem hlt)
        have HZ := Lib.hid (show szGoSo x (xs.drop k) = if x - xs[k].s.size < 0 then -1 else szGoSo (x - xs[k].s.size) (xs.drop (k + 1)) by rw [List.drop_eq_getElem_cons hlt]; rfl)
        clear hrg hrg'
        generalize xs[k] = y at *
        obtain ⟨s, a, r⟩ := y
        dsimp only at hsz HZ c0 c1 c2
        obtain ⟨wo, rfl⟩ : ∃ wo : World, wo = wr := ⟨_, rfl⟩
        by_cases hn : x - s.size < 0
        · have HF := Lib.hid (show szLSo left xs = -1 by rw [← HX.out, HZ.out, if_pos hn])
          go_wp2_with (go_at_call 39; (with_reducible refine (szSource_any s a r x _ hsz ⟨hx0, hx1⟩).mono ?_); rw [if_pos hn]; rintro e w1 ⟨rfl, hd⟩)
          go_ret
          exact ⟨ret_int HF.out.symm, hbel.trans (hd.mono hbel.size)⟩
        · have HF := Lib.hid (show szGoSo (x - s.size) (xs.drop (k + 1)) = szLSo left xs by rw [← HX.out, HZ.out, if_neg hn])
          go_wp2_with (go_at_call 39; (with_reducible refine (szSource_any s a r x _ hsz ⟨hx0, hx1⟩).mono ?_); rw [if_neg hn]; rintro e w1 ⟨rfl, hd⟩)
          go_roundw
          case rel => exact ⟨k + 1, _, by omega, by go_num, rfl, by omega, by omega, HF, hbel.trans (hd.mono hbel.size)⟩
          case measure => simp [intOf]; omega
      · obtain rfl : k = xs.length := by omega
        have HF := Lib.hid (show x = szLSo left xs by rw [← HX.out, List.drop_length]; rfl)
        go_wp2
        go_ret
        exact ⟨ret_int HF.out, hbel⟩
theorem info_so : (Try.prog.info? 67).map (fun i => (i.zero, i.size, decide (i.bytes ≤ 1000))) = some (some (.agg So.none.cells.toArray), 3, true) := by kernel_rfl
theorem info_so2 : ∃ i0, Try.prog.info? 67 = some i0 ∧ i0.zero = some (.agg So.none.cells.toArray) ∧ i0.size = 3 ∧ i0.bytes ≤ 1000 := by
  have h := info_so
  cases hi : Try.prog.info? 67 with
  | none => rw [hi] at h; cases h
  | some i =>
    rw [hi] at h
    simp only [Option.map_some, Option.some.injEq, Prod.mk.injEq, decide_eq_true_eq] at h
    exact ⟨i, rfl, h.1, h.2.1, h.2.2⟩
set_option maxHeartbeats 1000000 in
set_option maxRecDepth 100000 in
theorem toSourceS_any (A : Option Addr) (cap : Nat) (xs : List So) (w : World) (hr : SoR w A xs) (hl : xs.length ≤ 1048576) :
    Calls Try.prog 13 #[.slice A xs.length cap] w fun e w' => ∃ g, e = .returned (.slice (some ⟨g, 0, none⟩) xs.length xs.length) ∧ BlkV w' g 67 (soV xs) ∧ w.heap.size ≤ g ∧ Below w.heap.size w w' := by
  obtain ⟨i0, hi, hz0, hz1, hz2⟩ := info_so2
  have hbb : i0.bytes * xs.length ≤ 1000 * 1048576 := Nat.mul_le_mul hz2 hl
  have hmk := fun W => run_make_rows (P := Try.prog) Try.underlying33 hi hz0 .i64 .i64 xs.length (by omega) (by omega) W
  rw [hz1] at hmk
  have HR := Lib.hid hr
  clear hr
  have HI := Lib.hid (show (Try.prog.info? 67).map (·.size) = some 3 by rw [hi]; simp [hz1])
  clear hi hz0 hz1 hz2 hbb
  go_enter Try.func13, Try.ntmps13
  go_wp2
  clear hmk
  go_loopw [4] (fun i wr => ∃ k : Nat, k ≤ xs.length ∧ i = .int .i64 k ∧ BlkV wr w.heap.size 67 (soV (xs.take k ++ List.replicate (xs.length - k) So.none)) ∧ Below w.heap.size w wr) (fun i wr => xs.length - (intOf i).toNat)
  case atStart =>
    refine ⟨0, by omega, rfl, ?_, (Below.refl _ _).alloc (Nat.le_refl _) _⟩
    unfold BlkV
    rw [List.take_zero, List.nil_append, Nat.sub_zero, ← so_made, Array.toArray_toList]
    exact heap_alloc_new w _
  case round =>
    obtain ⟨k, hk, rfl, hblk, hbel⟩ := hrel
    by_cases hlt : k < xs.length
    · obtain ⟨b, off, rfl, hrg⟩ := HR.out k hlt
      have hrg' := rangeAt_below hrg hbel (rangeAt_lt hrg (by simp [So.cells]))
      obtain ⟨c0, c1, c2⟩ := so_lay hrg'
      have HP := Lib.hid (so_put xs k hlt)
      have HB := Lib.hid hblk
      have HLn := Lib.hid (show (soV (xs.take k ++ List.replicate (xs.length - k) So.none)).length = xs.length * 3 by rw [soV_len]; simp; omega)
      have hkl : k < (xs.take k ++ List.replicate (xs.length - k) So.none).length := by rw [List.length_append, List.length_take, List.length_replicate]; omega
      have HN := Lib.hid (show (xs.take k ++ List.replicate (xs.length - k) So.none)[k]'hkl = So.none by rw [List.getElem_append_right (by rw [List.length_take]; omega)]; simp)
      clear hrg hrg' hblk
      generalize xs[k] = y at *
      obtain ⟨s, a, r⟩ := y
      dsimp only at c0 c1 c2
      obtain ⟨wo, rfl⟩ : ∃ wo : World, wo = wr := ⟨_, rfl⟩
      go_wp2_with fail
      (with_reducible refine (toSource_any s a r _).mono ?_)
      rintro e w1 ⟨rfl, hd⟩
      have HB1 := Lib.hid (HB.out.below hd HB.out.lt)
      obtain ⟨⟨d0, d1, d2⟩, ⟨f0, f1, f2⟩⟩ := BlkV.socells HB1.out k hkl
      rw [HN.out] at d0 d1 d2
      dsimp only [So.none] at d0 d1 d2
      go_wp2
      go_roundw
      case rel => exact ⟨k + 1, by omega, by go_num, by rw [← HP.out]; exact BlkV.soset HB1.out (k * 3) ⟨s, a, r⟩ (by rw [HLn.out]; omega), below_soset (hbel.trans (hd.mono hbel.size)) (Nat.le_refl _) (k * 3) ⟨s, a, r⟩⟩
      case measure => simp [intOf]; omega
    · obtain rfl : k = xs.length := by omega
      go_wp2
      go_ret
      exact ⟨_, rfl, by simpa using hblk, Nat.le_refl _, hbel⟩
set_option maxHeartbeats 1000000 in
set_option maxRecDepth 100000 in
theorem eqSourceS_same (A A' : Option Addr) (cap cap' : Nat) (xs : List So) (w : World) (hr : SoR w A xs) (hr' : SoR w A' xs) (hl : xs.length ≤ 1048576) :
    Calls Try.prog 16 #[.slice A xs.length cap, .slice A' xs.length cap'] w fun e w' => e = .returned (.bool true) ∧ Below w.heap.size w w' := by
  have HR := Lib.hid (And.intro hr hr')
  clear hr hr'
  go_enter Try.func16, Try.ntmps16
  go_wp2
  go_loopw [5] (fun i wr => ∃ k : Nat, k ≤ xs.length ∧ i = .int .i64 k ∧ Below w.heap.size w wr) (fun i wr => xs.length - (intOf i).toNat)
  case atStart => exact ⟨0, by omega, rfl, Below.refl _ _⟩
  case round =>
    obtain ⟨k, hk, rfl, hbel⟩ := hrel
    by_cases hlt : k < xs.length
    · obtain ⟨b, off, rfl, hrg⟩ := HR.out.1 k hlt
      obtain ⟨b', off', rfl, hrg'⟩ := HR.out.2 k hlt
      obtain ⟨c0, c1, c2⟩ := so_lay (rangeAt_below hrg hbel (rangeAt_lt hrg (by simp [So.cells])))
      obtain ⟨d0, d1, d2⟩ := so_lay (rangeAt_below hrg' hbel (rangeAt_lt hrg' (by simp [So.cells])))
      clear hrg hrg'
      generalize xs[k] = y at *
      obtain ⟨s, a, r⟩ := y
      dsimp only at c0 c1 c2 d0 d1 d2
      obtain ⟨wo, rfl⟩ : ∃ wo : World, wo = wr := ⟨_, rfl⟩
      go_wp2
      go_region_with ((go_at_call 47; refine (eqSource_same s a r _).mono ?_; rintro e w1 ⟨rfl, hd⟩))
      all_goals
        go_wp2
        go_roundw
        case rel => exact ⟨k + 1, by omega, by go_num, hbel.trans ((Below.drew (Below.refl _ _)).trans (hd.mono hbel.size))⟩
        case measure => simp [intOf]; omega
    · go_wp2
      go_ret
      exact ⟨rfl, hbel⟩
end Go.Proofs.Ythbofhlfggkolaa
