/-
  Contracts of chapter 14: tasks that make dust, dust at a minute; the model's and the program's. Conditions: those that each theorem states.
-/
import Derived.Test.YtnlkikdgffaeeaaDoorTka
import Derived.Test.YtnlkikdgffaeeaaDoorSpa
import Derived.Test.YtnlkikdgffaeeaaDoorQd
import Derived.Test.YtnlkikdgffaeeaaDoorQi
import Derived.Test.YtnlkikdgffaeeaaDoorQk
import Derived.Test.YtnlkikdgffaeeaaDoorRg
namespace Go.Proofs.YtnlkikdgffaeeaaDoor
open Go.RowKit
set_option linter.unusedVariables false
set_option linter.unusedSimpArgs false

def alK (p : Nat → Bool) (n : Nat) : Bool := (List.range n).all p
theorem alK_iff {p : Nat → Bool} {n : Nat} : alK p n = true ↔ ∀ k, k < n → p k = true := by
  unfold alK
  rw [List.all_eq_true]
  exact ⟨fun h k hk => h k (List.mem_range.2 hk), fun h k hk => h k (List.mem_range.1 hk)⟩
theorem alK_bad {p : Nat → Bool} {n k : Nat} (hk : k < n) (h : p k = false) : alK p n = false := by
  rw [← Bool.not_eq_true, alK_iff]
  exact fun hh => by rw [hh k hk] at h; cases h
/-- A part of a shift in an airway; a task. -/
def snOk (aw fr un : Int) : Bool := inB aw 0 23 && (inB fr 0 1439 && inB un (fr + 1) 1440)
def tkOk (aw fr un du : Int) : Bool := snOk aw fr un && inB du 0 1000000
theorem snOk_bd {aw fr un : Int} (h : snOk aw fr un = true) : (0 ≤ aw ∧ aw ≤ 23) ∧ (0 ≤ fr ∧ fr ≤ 1439) ∧ (fr + 1 ≤ un ∧ un ≤ 1440) := by
  simp only [snOk, Bool.and_eq_true, inB_iff] at h
  exact h
theorem tkOk_bd {aw fr un du : Int} (h : tkOk aw fr un du = true) : ((0 ≤ aw ∧ aw ≤ 23) ∧ (0 ≤ fr ∧ fr ≤ 1439) ∧ (fr + 1 ≤ un ∧ un ≤ 1440)) ∧ 0 ≤ du ∧ du ≤ 1000000 := by
  simp only [tkOk, Bool.and_eq_true, inB_iff] at h
  exact ⟨snOk_bd h.1, h.2⟩
def Tk.ok (x : Tk) : Bool := tkOk x.aw x.fr x.un x.du
def tkG (ts : List Tk) (i : Nat) : Tk := ts.getD i Tk.none
theorem tkG_lt {ts : List Tk} {k : Nat} (h : k < ts.length) : tkG ts k = ts[k] := by simp [tkG, List.getD, h]
/-- Valid tasks. -/
def tsOk (ts : List Tk) : Bool := alK (fun i => (tkG ts i).ok) ts.length && decide (ts.length ≤ 12)
theorem tsOk_iff {ts : List Tk} : tsOk ts = true ↔ (∀ i, i < ts.length → (tkG ts i).ok = true) ∧ ts.length ≤ 12 := by
  simp only [tsOk, Bool.and_eq_true, decide_eq_true_eq, alK_iff]
/-- The dust of one task, of all tasks, in an airway at a minute. -/
def daF (ts : List Tk) (a m : Int) (i : Nat) : Int := if (tkG ts i).aw = a ∧ (tkG ts i).fr ≤ m ∧ m < (tkG ts i).un then (tkG ts i).du else 0
def daS (ts : List Tk) (a m : Int) : Int := sumK (daF ts a m) ts.length
theorem daF_bd {ts : List Tk} (h : tsOk ts = true) (a m : Int) : ∀ k, k < ts.length → 0 ≤ daF ts a m k ∧ daF ts a m k ≤ 1000000 := fun k hk => by
  have h1 := (tsOk_iff.1 h).1 k hk
  have h2 := tkOk_bd (show tkOk (tkG ts k).aw (tkG ts k).fr (tkG ts k).un (tkG ts k).du = true from h1)
  unfold daF
  split <;> omega
theorem daK_bd {ts : List Tk} (h : tsOk ts = true) (a m : Int) {k : Nat} (hk : k ≤ ts.length) : 0 ≤ sumK (daF ts a m) k ∧ sumK (daF ts a m) k ≤ 12000000 := by
  have h1 := sumK_bd (daF_bd h a m) k hk
  have h2 := (tsOk_iff.1 h).2
  omega
theorem daS_bd {ts : List Tk} (h : tsOk ts = true) (a m : Int) : 0 ≤ daS ts a m ∧ daS ts a m ≤ 12000000 := daK_bd h a m (Nat.le_refl _)
/-- What DustAt returns. -/
def datA (ts : List Tk) (a m : Int) : Int := if tsOk ts then (if inB a 0 23 && inB m 0 1439 then daS ts a m else 0) else 0
def datB (ts : List Tk) (a m : Int) : Int := if tsOk ts then (if inB a 0 23 && inB m 0 1439 then 0 else 2) else 1
/-- The cells of a task in a block. -/
def TkAt (w : World) (b o : Nat) (aw fr un du : Int) : Prop :=
  w.cell? ⟨b, o, none⟩ = some (.int .i64 aw) ∧ w.cell? ⟨b, o + 1, none⟩ = some (.int .i64 fr) ∧ w.cell? ⟨b, o + 2, none⟩ = some (.int .i64 un) ∧ w.cell? ⟨b, o + 3, none⟩ = some (.int .i64 du)
theorem TkAt.lt {w : World} {b o : Nat} {aw fr un du : Int} (h : TkAt w b o aw fr un du) : b < w.heap.size := World.block_lt_of_cell? (a := ⟨b, o, none⟩) _ h.1
theorem TkAt.below {B : Nat} {w w' : World} {b o : Nat} {aw fr un du : Int} (h : TkAt w b o aw fr un du) (hb : Below B w w') (hB : b < B) : TkAt w' b o aw fr un du :=
  ⟨(hb.cell (p := ⟨b, o, none⟩) hB).trans h.1, (hb.cell (p := ⟨b, o + 1, none⟩) hB).trans h.2.1, (hb.cell (p := ⟨b, o + 2, none⟩) hB).trans h.2.2.1, (hb.cell (p := ⟨b, o + 3, none⟩) hB).trans h.2.2.2⟩
theorem l14Airway_any (n : Int) (w : World) : Calls Tryd.prog 18 #[.int .i64 n] w fun e w' => e = .returned (.bool (inB n 0 23)) ∧ w = w' := by
  go_enter Tryd.func18, Tryd.ntmps18
  go_wp2_with (go_at_call 30; (with_reducible refine (l00In_any _ _ _ _).mono ?_); rintro e w' ⟨rfl, rfl⟩)
  go_ret
  exact ⟨rfl, rfl⟩
theorem l14Minutes_any (f u : Int) (w : World) : Calls Tryd.prog 19 #[.int .i64 f, .int .i64 u] w fun e w' => e = .returned (.bool (inB f 0 1439 && inB u (f + 1) 1440)) ∧ w = w' := by
  by_cases h : 0 ≤ f ∧ f ≤ 1439
  · have i := inB_true h.1 h.2
    go_enter Tryd.func19, Tryd.ntmps19
    go_wp2_with (go_at_call 30; (with_reducible refine (l00In_any _ _ _ _).mono ?_); rintro e w' ⟨rfl, rfl⟩)
    go_ret
    exact ⟨by rw [i]; rfl, rfl⟩
  · have i := inB_false h
    go_enter Tryd.func19, Tryd.ntmps19
    go_wp2_with (go_at_call 30; (with_reducible refine (l00In_any _ _ _ _).mono ?_); rintro e w' ⟨rfl, rfl⟩)
    go_ret
    exact ⟨by rw [i]; rfl, rfl⟩
set_option maxHeartbeats 1000000 in
theorem l14One_below (b o : Nat) (aw fr un du : Int) (w : World) (hc : TkAt w b o aw fr un du) :
    Calls Tryd.prog 11 #[.pointer (some ⟨b, o, none⟩)] w fun e w' => e = .returned (.bool (tkOk aw fr un du)) ∧ Below w.heap.size w w' := by
  obtain ⟨c0, c1, c2, c3⟩ := hc
  cases j0 : inB aw 0 23
  · skip
    have HE := Lib.hid (show tkOk aw fr un du = false by simp only [tkOk, snOk, j0, Bool.and_false, Bool.false_and, Bool.true_and, Bool.and_true])
    go_enter Tryd.func11, Tryd.ntmps11
    go_wp2_with fail
    refine wp_region_held (S := fun w' => w'.cell? ⟨b, o, none⟩ = some (.int .i64 aw) ∧ w'.cell? ⟨b, o + 1, none⟩ = some (.int .i64 fr) ∧ w'.cell? ⟨b, o + 2, none⟩ = some (.int .i64 un) ∧ w'.cell? ⟨b, o + 3, none⟩ = some (.int .i64 du) ∧ Below w.heap.size w w') (by kernel_rfl) ?_
    try (change wpAnyH _ _ _ _ _ _ _ _ (World.drew _))
    have hS0 := (show w.drew.cell? ⟨b, o, none⟩ = some (.int .i64 aw) ∧ w.drew.cell? ⟨b, o + 1, none⟩ = some (.int .i64 fr) ∧ w.drew.cell? ⟨b, o + 2, none⟩ = some (.int .i64 un) ∧ w.drew.cell? ⟨b, o + 3, none⟩ = some (.int .i64 du) ∧ Below w.heap.size w w.drew from ⟨c0, c1, c2, c3, Below.drew (Below.refl _ _)⟩)
    refine gTake 0 (v := ?_) rfl (by kernel_rfl) (by kernel_rfl) (by kernel_rfl) (fun _ _ _ h => h) (by kernel_rfl) ?_ hS0 ?_
    rotate_left
    · (intro W hW; clear hW; go_simp; try with_reducible rfl)
    refine gTake 1 (v := ?_) rfl (by kernel_rfl) (by kernel_rfl) (by kernel_rfl) (fun _ _ _ h => h) (by kernel_rfl) ?_ hS0 ?_
    rotate_left
    · (intro W hW; clear hW; go_simp; try with_reducible rfl)
    refine gTake 2 (v := ?_) rfl (by kernel_rfl) (by kernel_rfl) (by kernel_rfl) (fun _ _ _ h => h) (by kernel_rfl) ?_ hS0 ?_
    rotate_left
    · (intro W hW; clear hW; go_simp; try with_reducible rfl)
    refine gTake 3 (v := ?_) rfl (by kernel_rfl) (by kernel_rfl) (by kernel_rfl) (fun _ _ _ h => h) (by kernel_rfl) ?_ hS0 ?_
    rotate_left
    · (intro W hW; have q0 := hW.1; have q1 := hW.2.1; have q2 := hW.2.2.1; have q3 := hW.2.2.2.1; clear hW; go_simp; try with_reducible rfl)
    refine gOne 4 rfl (by kernel_rfl) (by kernel_rfl) (fun K hK => ?_)
    go_simp
    go_at_call 18
    (with_reducible refine (l14Airway_any _ _).mono ?_)
    rintro e w' ⟨rfl, rfl⟩
    try go_simp
    have hS1 := hS0
    refine hK _ _ hS1 ?_
    clear hK K
    refine gTake 5 (v := ?_) rfl (by kernel_rfl) (by kernel_rfl) (by kernel_rfl) (fun _ _ _ h => h) (by kernel_rfl) ?_ hS1 ?_
    rotate_left
    · (intro W hW; clear hW; go_simp; try with_reducible rfl)
    refine gSkip 6 rfl (by kernel_rfl) (by kernel_rfl) (by kernel_rfl) (fun _ _ _ h => h) (by kernel_rfl) hS1 ?_
    refine gSkip 7 rfl (by kernel_rfl) (by kernel_rfl) (by kernel_rfl) (fun _ _ _ h => h) (by kernel_rfl) hS1 ?_
    refine gSkip 8 rfl (by kernel_rfl) (by kernel_rfl) (by kernel_rfl) (fun _ _ _ h => h) (by kernel_rfl) hS1 ?_
    refine gSkip 9 rfl (by kernel_rfl) (by kernel_rfl) (by kernel_rfl) (fun _ _ _ h => h) (by kernel_rfl) hS1 ?_
    refine gSkip 10 rfl (by kernel_rfl) (by kernel_rfl) (by kernel_rfl) (fun _ _ _ h => h) (by kernel_rfl) hS1 ?_
    refine gSkip 11 rfl (by kernel_rfl) (by kernel_rfl) (by kernel_rfl) (fun _ _ _ h => h) (by kernel_rfl) hS1 ?_
    refine gSkip 12 rfl (by kernel_rfl) (by kernel_rfl) (by kernel_rfl) (fun _ _ _ h => h) (by kernel_rfl) hS1 ?_
    refine gSkip 13 rfl (by kernel_rfl) (by kernel_rfl) (by kernel_rfl) (fun _ _ _ h => h) (by kernel_rfl) hS1 ?_
    refine gSkip 14 rfl (by kernel_rfl) (by kernel_rfl) (by kernel_rfl) (fun _ _ _ h => h) (by kernel_rfl) hS1 ?_
    refine gTake 15 (v := ?_) rfl (by kernel_rfl) (by kernel_rfl) (by kernel_rfl) (fun _ _ _ h => h) (by kernel_rfl) ?_ hS1 ?_
    rotate_left
    · (intro W hW; clear hW; go_simp; try with_reducible rfl)
    refine gTake 16 (v := ?_) rfl (by kernel_rfl) (by kernel_rfl) (by kernel_rfl) (fun _ _ _ h => h) (by kernel_rfl) ?_ hS1 ?_
    rotate_left
    · (intro W hW; clear hW; go_simp; try with_reducible rfl)
    refine gSkip 17 rfl (by kernel_rfl) (by kernel_rfl) (by kernel_rfl) (fun _ _ _ h => h) (by kernel_rfl) hS1 ?_
    refine gSkip 18 rfl (by kernel_rfl) (by kernel_rfl) (by kernel_rfl) (fun _ _ _ h => h) (by kernel_rfl) hS1 ?_
    refine gSkip 19 rfl (by kernel_rfl) (by kernel_rfl) (by kernel_rfl) (fun _ _ _ h => h) (by kernel_rfl) hS1 ?_
    refine gSkip 20 rfl (by kernel_rfl) (by kernel_rfl) (by kernel_rfl) (fun _ _ _ h => h) (by kernel_rfl) hS1 ?_
    refine gSkip 21 rfl (by kernel_rfl) (by kernel_rfl) (by kernel_rfl) (fun _ _ _ h => h) (by kernel_rfl) hS1 ?_
    refine gTake 22 (v := ?_) rfl (by kernel_rfl) (by kernel_rfl) (by kernel_rfl) (fun _ _ _ h => h) (by kernel_rfl) ?_ hS1 ?_
    rotate_left
    · (intro W hW; clear hW; go_simp; try with_reducible rfl)
    refine gTake 23 (v := ?_) rfl (by kernel_rfl) (by kernel_rfl) (by kernel_rfl) (fun _ _ _ h => h) (by kernel_rfl) ?_ hS1 ?_
    rotate_left
    · (intro W hW; clear hW; go_simp; try with_reducible rfl)
    refine wpAnyH_done (by kernel_rfl) ?_ _
    go_simp
    go_wp2
    go_ret
    exact ⟨ret_bool (by first | exact HE.out.symm | (simp only [j0]; exact HE.out.symm)), hS1.2.2.2.2⟩
  · cases j1 : (inB fr 0 1439 && inB un (fr + 1) 1440)
    · skip
      have HE := Lib.hid (show tkOk aw fr un du = false by simp only [tkOk, snOk, j0, j1, Bool.and_false, Bool.false_and, Bool.true_and, Bool.and_true])
      go_enter Tryd.func11, Tryd.ntmps11
      go_wp2_with fail
      refine wp_region_held (S := fun w' => w'.cell? ⟨b, o, none⟩ = some (.int .i64 aw) ∧ w'.cell? ⟨b, o + 1, none⟩ = some (.int .i64 fr) ∧ w'.cell? ⟨b, o + 2, none⟩ = some (.int .i64 un) ∧ w'.cell? ⟨b, o + 3, none⟩ = some (.int .i64 du) ∧ Below w.heap.size w w') (by kernel_rfl) ?_
      try (change wpAnyH _ _ _ _ _ _ _ _ (World.drew _))
      have hS0 := (show w.drew.cell? ⟨b, o, none⟩ = some (.int .i64 aw) ∧ w.drew.cell? ⟨b, o + 1, none⟩ = some (.int .i64 fr) ∧ w.drew.cell? ⟨b, o + 2, none⟩ = some (.int .i64 un) ∧ w.drew.cell? ⟨b, o + 3, none⟩ = some (.int .i64 du) ∧ Below w.heap.size w w.drew from ⟨c0, c1, c2, c3, Below.drew (Below.refl _ _)⟩)
      refine gTake 0 (v := ?_) rfl (by kernel_rfl) (by kernel_rfl) (by kernel_rfl) (fun _ _ _ h => h) (by kernel_rfl) ?_ hS0 ?_
      rotate_left
      · (intro W hW; clear hW; go_simp; try with_reducible rfl)
      refine gTake 1 (v := ?_) rfl (by kernel_rfl) (by kernel_rfl) (by kernel_rfl) (fun _ _ _ h => h) (by kernel_rfl) ?_ hS0 ?_
      rotate_left
      · (intro W hW; clear hW; go_simp; try with_reducible rfl)
      refine gTake 2 (v := ?_) rfl (by kernel_rfl) (by kernel_rfl) (by kernel_rfl) (fun _ _ _ h => h) (by kernel_rfl) ?_ hS0 ?_
      rotate_left
      · (intro W hW; clear hW; go_simp; try with_reducible rfl)
      refine gTake 3 (v := ?_) rfl (by kernel_rfl) (by kernel_rfl) (by kernel_rfl) (fun _ _ _ h => h) (by kernel_rfl) ?_ hS0 ?_
      rotate_left
      · (intro W hW; have q0 := hW.1; have q1 := hW.2.1; have q2 := hW.2.2.1; have q3 := hW.2.2.2.1; clear hW; go_simp; try with_reducible rfl)
      refine gOne 4 rfl (by kernel_rfl) (by kernel_rfl) (fun K hK => ?_)
      go_simp
      go_at_call 18
      (with_reducible refine (l14Airway_any _ _).mono ?_)
      rintro e w' ⟨rfl, rfl⟩
      try go_simp
      have hS1 := hS0
      refine hK _ _ hS1 ?_
      clear hK K
      refine gTake 5 (v := ?_) rfl (by kernel_rfl) (by kernel_rfl) (by kernel_rfl) (fun _ _ _ h => h) (by kernel_rfl) ?_ hS1 ?_
      rotate_left
      · (intro W hW; clear hW; go_simp; try with_reducible rfl)
      refine gTake 6 (v := ?_) rfl (by kernel_rfl) (by kernel_rfl) (by kernel_rfl) (fun _ _ _ h => h) (by kernel_rfl) ?_ hS1 ?_
      rotate_left
      · (intro W hW; clear hW; go_simp; try with_reducible rfl)
      refine gTake 7 (v := ?_) rfl (by kernel_rfl) (by kernel_rfl) (by kernel_rfl) (fun _ _ _ h => h) (by kernel_rfl) ?_ hS1 ?_
      rotate_left
      · (intro W hW; clear hW; go_simp; try with_reducible rfl)
      refine gTake 8 (v := ?_) rfl (by kernel_rfl) (by kernel_rfl) (by kernel_rfl) (fun _ _ _ h => h) (by kernel_rfl) ?_ hS1 ?_
      rotate_left
      · (intro W hW; clear hW; go_simp; try with_reducible rfl)
      refine gTake 9 (v := ?_) rfl (by kernel_rfl) (by kernel_rfl) (by kernel_rfl) (fun _ _ _ h => h) (by kernel_rfl) ?_ hS1 ?_
      rotate_left
      · (intro W hW; have q0 := hW.1; have q1 := hW.2.1; have q2 := hW.2.2.1; have q3 := hW.2.2.2.1; clear hW; go_simp; try with_reducible rfl)
      refine gTake 10 (v := ?_) rfl (by kernel_rfl) (by kernel_rfl) (by kernel_rfl) (fun _ _ _ h => h) (by kernel_rfl) ?_ hS1 ?_
      rotate_left
      · (intro W hW; clear hW; go_simp; try with_reducible rfl)
      refine gTake 11 (v := ?_) rfl (by kernel_rfl) (by kernel_rfl) (by kernel_rfl) (fun _ _ _ h => h) (by kernel_rfl) ?_ hS1 ?_
      rotate_left
      · (intro W hW; clear hW; go_simp; try with_reducible rfl)
      refine gTake 12 (v := ?_) rfl (by kernel_rfl) (by kernel_rfl) (by kernel_rfl) (fun _ _ _ h => h) (by kernel_rfl) ?_ hS1 ?_
      rotate_left
      · (intro W hW; clear hW; go_simp; try with_reducible rfl)
      refine gTake 13 (v := ?_) rfl (by kernel_rfl) (by kernel_rfl) (by kernel_rfl) (fun _ _ _ h => h) (by kernel_rfl) ?_ hS1 ?_
      rotate_left
      · (intro W hW; have q0 := hW.1; have q1 := hW.2.1; have q2 := hW.2.2.1; have q3 := hW.2.2.2.1; clear hW; go_simp; try with_reducible rfl)
      refine gOne 14 rfl (by kernel_rfl) (by kernel_rfl) (fun K hK => ?_)
      go_simp
      go_at_call 19
      (with_reducible refine (l14Minutes_any _ _ _).mono ?_)
      rintro e w' ⟨rfl, rfl⟩
      try go_simp
      have hS2 := hS1
      refine hK _ _ hS2 ?_
      clear hK K
      refine gTake 15 (v := ?_) rfl (by kernel_rfl) (by kernel_rfl) (by kernel_rfl) (fun _ _ _ h => h) (by kernel_rfl) ?_ hS2 ?_
      rotate_left
      · (intro W hW; clear hW; go_simp; try with_reducible rfl)
      refine gTake 16 (v := ?_) rfl (by kernel_rfl) (by kernel_rfl) (by kernel_rfl) (fun _ _ _ h => h) (by kernel_rfl) ?_ hS2 ?_
      rotate_left
      · (intro W hW; clear hW; go_simp; try with_reducible rfl)
      refine gSkip 17 rfl (by kernel_rfl) (by kernel_rfl) (by kernel_rfl) (fun _ _ _ h => h) (by kernel_rfl) hS2 ?_
      refine gSkip 18 rfl (by kernel_rfl) (by kernel_rfl) (by kernel_rfl) (fun _ _ _ h => h) (by kernel_rfl) hS2 ?_
      refine gSkip 19 rfl (by kernel_rfl) (by kernel_rfl) (by kernel_rfl) (fun _ _ _ h => h) (by kernel_rfl) hS2 ?_
      refine gSkip 20 rfl (by kernel_rfl) (by kernel_rfl) (by kernel_rfl) (fun _ _ _ h => h) (by kernel_rfl) hS2 ?_
      refine gSkip 21 rfl (by kernel_rfl) (by kernel_rfl) (by kernel_rfl) (fun _ _ _ h => h) (by kernel_rfl) hS2 ?_
      refine gTake 22 (v := ?_) rfl (by kernel_rfl) (by kernel_rfl) (by kernel_rfl) (fun _ _ _ h => h) (by kernel_rfl) ?_ hS2 ?_
      rotate_left
      · (intro W hW; clear hW; go_simp; try with_reducible rfl)
      refine gTake 23 (v := ?_) rfl (by kernel_rfl) (by kernel_rfl) (by kernel_rfl) (fun _ _ _ h => h) (by kernel_rfl) ?_ hS2 ?_
      rotate_left
      · (intro W hW; clear hW; go_simp; try with_reducible rfl)
      refine wpAnyH_done (by kernel_rfl) ?_ _
      go_simp
      go_wp2
      go_ret
      exact ⟨ret_bool (by first | exact HE.out.symm | (simp only [j0, j1]; exact HE.out.symm)), hS2.2.2.2.2⟩
    · cases j2 : inB du 0 1000000
      · skip
        have HE := Lib.hid (show tkOk aw fr un du = false by simp only [tkOk, snOk, j0, j1, j2, Bool.and_false, Bool.false_and, Bool.true_and, Bool.and_true])
        go_enter Tryd.func11, Tryd.ntmps11
        go_wp2_with fail
        refine wp_region_held (S := fun w' => w'.cell? ⟨b, o, none⟩ = some (.int .i64 aw) ∧ w'.cell? ⟨b, o + 1, none⟩ = some (.int .i64 fr) ∧ w'.cell? ⟨b, o + 2, none⟩ = some (.int .i64 un) ∧ w'.cell? ⟨b, o + 3, none⟩ = some (.int .i64 du) ∧ Below w.heap.size w w') (by kernel_rfl) ?_
        try (change wpAnyH _ _ _ _ _ _ _ _ (World.drew _))
        have hS0 := (show w.drew.cell? ⟨b, o, none⟩ = some (.int .i64 aw) ∧ w.drew.cell? ⟨b, o + 1, none⟩ = some (.int .i64 fr) ∧ w.drew.cell? ⟨b, o + 2, none⟩ = some (.int .i64 un) ∧ w.drew.cell? ⟨b, o + 3, none⟩ = some (.int .i64 du) ∧ Below w.heap.size w w.drew from ⟨c0, c1, c2, c3, Below.drew (Below.refl _ _)⟩)
        refine gTake 0 (v := ?_) rfl (by kernel_rfl) (by kernel_rfl) (by kernel_rfl) (fun _ _ _ h => h) (by kernel_rfl) ?_ hS0 ?_
        rotate_left
        · (intro W hW; clear hW; go_simp; try with_reducible rfl)
        refine gTake 1 (v := ?_) rfl (by kernel_rfl) (by kernel_rfl) (by kernel_rfl) (fun _ _ _ h => h) (by kernel_rfl) ?_ hS0 ?_
        rotate_left
        · (intro W hW; clear hW; go_simp; try with_reducible rfl)
        refine gTake 2 (v := ?_) rfl (by kernel_rfl) (by kernel_rfl) (by kernel_rfl) (fun _ _ _ h => h) (by kernel_rfl) ?_ hS0 ?_
        rotate_left
        · (intro W hW; clear hW; go_simp; try with_reducible rfl)
        refine gTake 3 (v := ?_) rfl (by kernel_rfl) (by kernel_rfl) (by kernel_rfl) (fun _ _ _ h => h) (by kernel_rfl) ?_ hS0 ?_
        rotate_left
        · (intro W hW; have q0 := hW.1; have q1 := hW.2.1; have q2 := hW.2.2.1; have q3 := hW.2.2.2.1; clear hW; go_simp; try with_reducible rfl)
        refine gOne 4 rfl (by kernel_rfl) (by kernel_rfl) (fun K hK => ?_)
        go_simp
        go_at_call 18
        (with_reducible refine (l14Airway_any _ _).mono ?_)
        rintro e w' ⟨rfl, rfl⟩
        try go_simp
        have hS1 := hS0
        refine hK _ _ hS1 ?_
        clear hK K
        refine gTake 5 (v := ?_) rfl (by kernel_rfl) (by kernel_rfl) (by kernel_rfl) (fun _ _ _ h => h) (by kernel_rfl) ?_ hS1 ?_
        rotate_left
        · (intro W hW; clear hW; go_simp; try with_reducible rfl)
        refine gTake 6 (v := ?_) rfl (by kernel_rfl) (by kernel_rfl) (by kernel_rfl) (fun _ _ _ h => h) (by kernel_rfl) ?_ hS1 ?_
        rotate_left
        · (intro W hW; clear hW; go_simp; try with_reducible rfl)
        refine gTake 7 (v := ?_) rfl (by kernel_rfl) (by kernel_rfl) (by kernel_rfl) (fun _ _ _ h => h) (by kernel_rfl) ?_ hS1 ?_
        rotate_left
        · (intro W hW; clear hW; go_simp; try with_reducible rfl)
        refine gTake 8 (v := ?_) rfl (by kernel_rfl) (by kernel_rfl) (by kernel_rfl) (fun _ _ _ h => h) (by kernel_rfl) ?_ hS1 ?_
        rotate_left
        · (intro W hW; clear hW; go_simp; try with_reducible rfl)
        refine gTake 9 (v := ?_) rfl (by kernel_rfl) (by kernel_rfl) (by kernel_rfl) (fun _ _ _ h => h) (by kernel_rfl) ?_ hS1 ?_
        rotate_left
        · (intro W hW; have q0 := hW.1; have q1 := hW.2.1; have q2 := hW.2.2.1; have q3 := hW.2.2.2.1; clear hW; go_simp; try with_reducible rfl)
        refine gTake 10 (v := ?_) rfl (by kernel_rfl) (by kernel_rfl) (by kernel_rfl) (fun _ _ _ h => h) (by kernel_rfl) ?_ hS1 ?_
        rotate_left
        · (intro W hW; clear hW; go_simp; try with_reducible rfl)
        refine gTake 11 (v := ?_) rfl (by kernel_rfl) (by kernel_rfl) (by kernel_rfl) (fun _ _ _ h => h) (by kernel_rfl) ?_ hS1 ?_
        rotate_left
        · (intro W hW; clear hW; go_simp; try with_reducible rfl)
        refine gTake 12 (v := ?_) rfl (by kernel_rfl) (by kernel_rfl) (by kernel_rfl) (fun _ _ _ h => h) (by kernel_rfl) ?_ hS1 ?_
        rotate_left
        · (intro W hW; clear hW; go_simp; try with_reducible rfl)
        refine gTake 13 (v := ?_) rfl (by kernel_rfl) (by kernel_rfl) (by kernel_rfl) (fun _ _ _ h => h) (by kernel_rfl) ?_ hS1 ?_
        rotate_left
        · (intro W hW; have q0 := hW.1; have q1 := hW.2.1; have q2 := hW.2.2.1; have q3 := hW.2.2.2.1; clear hW; go_simp; try with_reducible rfl)
        refine gOne 14 rfl (by kernel_rfl) (by kernel_rfl) (fun K hK => ?_)
        go_simp
        go_at_call 19
        (with_reducible refine (l14Minutes_any _ _ _).mono ?_)
        rintro e w' ⟨rfl, rfl⟩
        try go_simp
        have hS2 := hS1
        refine hK _ _ hS2 ?_
        clear hK K
        refine gTake 15 (v := ?_) rfl (by kernel_rfl) (by kernel_rfl) (by kernel_rfl) (fun _ _ _ h => h) (by kernel_rfl) ?_ hS2 ?_
        rotate_left
        · (intro W hW; clear hW; go_simp; try with_reducible rfl)
        refine gTake 16 (v := ?_) rfl (by kernel_rfl) (by kernel_rfl) (by kernel_rfl) (fun _ _ _ h => h) (by kernel_rfl) ?_ hS2 ?_
        rotate_left
        · (intro W hW; clear hW; go_simp; try with_reducible rfl)
        refine gTake 17 (v := ?_) rfl (by kernel_rfl) (by kernel_rfl) (by kernel_rfl) (fun _ _ _ h => h) (by kernel_rfl) ?_ hS2 ?_
        rotate_left
        · (intro W hW; clear hW; go_simp; try with_reducible rfl)
        refine gTake 18 (v := ?_) rfl (by kernel_rfl) (by kernel_rfl) (by kernel_rfl) (fun _ _ _ h => h) (by kernel_rfl) ?_ hS2 ?_
        rotate_left
        · (intro W hW; clear hW; go_simp; try with_reducible rfl)
        refine gTake 19 (v := ?_) rfl (by kernel_rfl) (by kernel_rfl) (by kernel_rfl) (fun _ _ _ h => h) (by kernel_rfl) ?_ hS2 ?_
        rotate_left
        · (intro W hW; clear hW; go_simp; try with_reducible rfl)
        refine gTake 20 (v := ?_) rfl (by kernel_rfl) (by kernel_rfl) (by kernel_rfl) (fun _ _ _ h => h) (by kernel_rfl) ?_ hS2 ?_
        rotate_left
        · (intro W hW; have q0 := hW.1; have q1 := hW.2.1; have q2 := hW.2.2.1; have q3 := hW.2.2.2.1; clear hW; go_simp; try with_reducible rfl)
        refine gOne 21 rfl (by kernel_rfl) (by kernel_rfl) (fun K hK => ?_)
        go_simp
        go_at_call 20
        (with_reducible refine (l14Dust_any _ _).mono ?_)
        rintro e w' ⟨rfl, rfl⟩
        try go_simp
        have hS3 := hS2
        refine hK _ _ hS3 ?_
        clear hK K
        refine gTake 22 (v := ?_) rfl (by kernel_rfl) (by kernel_rfl) (by kernel_rfl) (fun _ _ _ h => h) (by kernel_rfl) ?_ hS3 ?_
        rotate_left
        · (intro W hW; clear hW; go_simp; try with_reducible rfl)
        refine gTake 23 (v := ?_) rfl (by kernel_rfl) (by kernel_rfl) (by kernel_rfl) (fun _ _ _ h => h) (by kernel_rfl) ?_ hS3 ?_
        rotate_left
        · (intro W hW; clear hW; go_simp; try with_reducible rfl)
        refine wpAnyH_done (by kernel_rfl) ?_ _
        go_simp
        go_wp2
        go_ret
        exact ⟨ret_bool (by first | exact HE.out.symm | (simp only [j0, j1, j2]; exact HE.out.symm)), hS3.2.2.2.2⟩
      · skip
        have HE := Lib.hid (show tkOk aw fr un du = true by simp only [tkOk, snOk, j0, j1, j2, Bool.and_false, Bool.false_and, Bool.true_and, Bool.and_true])
        go_enter Tryd.func11, Tryd.ntmps11
        go_wp2_with fail
        refine wp_region_held (S := fun w' => w'.cell? ⟨b, o, none⟩ = some (.int .i64 aw) ∧ w'.cell? ⟨b, o + 1, none⟩ = some (.int .i64 fr) ∧ w'.cell? ⟨b, o + 2, none⟩ = some (.int .i64 un) ∧ w'.cell? ⟨b, o + 3, none⟩ = some (.int .i64 du) ∧ Below w.heap.size w w') (by kernel_rfl) ?_
        try (change wpAnyH _ _ _ _ _ _ _ _ (World.drew _))
        have hS0 := (show w.drew.cell? ⟨b, o, none⟩ = some (.int .i64 aw) ∧ w.drew.cell? ⟨b, o + 1, none⟩ = some (.int .i64 fr) ∧ w.drew.cell? ⟨b, o + 2, none⟩ = some (.int .i64 un) ∧ w.drew.cell? ⟨b, o + 3, none⟩ = some (.int .i64 du) ∧ Below w.heap.size w w.drew from ⟨c0, c1, c2, c3, Below.drew (Below.refl _ _)⟩)
        refine gTake 0 (v := ?_) rfl (by kernel_rfl) (by kernel_rfl) (by kernel_rfl) (fun _ _ _ h => h) (by kernel_rfl) ?_ hS0 ?_
        rotate_left
        · (intro W hW; clear hW; go_simp; try with_reducible rfl)
        refine gTake 1 (v := ?_) rfl (by kernel_rfl) (by kernel_rfl) (by kernel_rfl) (fun _ _ _ h => h) (by kernel_rfl) ?_ hS0 ?_
        rotate_left
        · (intro W hW; clear hW; go_simp; try with_reducible rfl)
        refine gTake 2 (v := ?_) rfl (by kernel_rfl) (by kernel_rfl) (by kernel_rfl) (fun _ _ _ h => h) (by kernel_rfl) ?_ hS0 ?_
        rotate_left
        · (intro W hW; clear hW; go_simp; try with_reducible rfl)
        refine gTake 3 (v := ?_) rfl (by kernel_rfl) (by kernel_rfl) (by kernel_rfl) (fun _ _ _ h => h) (by kernel_rfl) ?_ hS0 ?_
        rotate_left
        · (intro W hW; have q0 := hW.1; have q1 := hW.2.1; have q2 := hW.2.2.1; have q3 := hW.2.2.2.1; clear hW; go_simp; try with_reducible rfl)
        refine gOne 4 rfl (by kernel_rfl) (by kernel_rfl) (fun K hK => ?_)
        go_simp
        go_at_call 18
        (with_reducible refine (l14Airway_any _ _).mono ?_)
        rintro e w' ⟨rfl, rfl⟩
        try go_simp
        have hS1 := hS0
        refine hK _ _ hS1 ?_
        clear hK K
        refine gTake 5 (v := ?_) rfl (by kernel_rfl) (by kernel_rfl) (by kernel_rfl) (fun _ _ _ h => h) (by kernel_rfl) ?_ hS1 ?_
        rotate_left
        · (intro W hW; clear hW; go_simp; try with_reducible rfl)
        refine gTake 6 (v := ?_) rfl (by kernel_rfl) (by kernel_rfl) (by kernel_rfl) (fun _ _ _ h => h) (by kernel_rfl) ?_ hS1 ?_
        rotate_left
        · (intro W hW; clear hW; go_simp; try with_reducible rfl)
        refine gTake 7 (v := ?_) rfl (by kernel_rfl) (by kernel_rfl) (by kernel_rfl) (fun _ _ _ h => h) (by kernel_rfl) ?_ hS1 ?_
        rotate_left
        · (intro W hW; clear hW; go_simp; try with_reducible rfl)
        refine gTake 8 (v := ?_) rfl (by kernel_rfl) (by kernel_rfl) (by kernel_rfl) (fun _ _ _ h => h) (by kernel_rfl) ?_ hS1 ?_
        rotate_left
        · (intro W hW; clear hW; go_simp; try with_reducible rfl)
        refine gTake 9 (v := ?_) rfl (by kernel_rfl) (by kernel_rfl) (by kernel_rfl) (fun _ _ _ h => h) (by kernel_rfl) ?_ hS1 ?_
        rotate_left
        · (intro W hW; have q0 := hW.1; have q1 := hW.2.1; have q2 := hW.2.2.1; have q3 := hW.2.2.2.1; clear hW; go_simp; try with_reducible rfl)
        refine gTake 10 (v := ?_) rfl (by kernel_rfl) (by kernel_rfl) (by kernel_rfl) (fun _ _ _ h => h) (by kernel_rfl) ?_ hS1 ?_
        rotate_left
        · (intro W hW; clear hW; go_simp; try with_reducible rfl)
        refine gTake 11 (v := ?_) rfl (by kernel_rfl) (by kernel_rfl) (by kernel_rfl) (fun _ _ _ h => h) (by kernel_rfl) ?_ hS1 ?_
        rotate_left
        · (intro W hW; clear hW; go_simp; try with_reducible rfl)
        refine gTake 12 (v := ?_) rfl (by kernel_rfl) (by kernel_rfl) (by kernel_rfl) (fun _ _ _ h => h) (by kernel_rfl) ?_ hS1 ?_
        rotate_left
        · (intro W hW; clear hW; go_simp; try with_reducible rfl)
        refine gTake 13 (v := ?_) rfl (by kernel_rfl) (by kernel_rfl) (by kernel_rfl) (fun _ _ _ h => h) (by kernel_rfl) ?_ hS1 ?_
        rotate_left
        · (intro W hW; have q0 := hW.1; have q1 := hW.2.1; have q2 := hW.2.2.1; have q3 := hW.2.2.2.1; clear hW; go_simp; try with_reducible rfl)
        refine gOne 14 rfl (by kernel_rfl) (by kernel_rfl) (fun K hK => ?_)
        go_simp
        go_at_call 19
        (with_reducible refine (l14Minutes_any _ _ _).mono ?_)
        rintro e w' ⟨rfl, rfl⟩
        try go_simp
        have hS2 := hS1
        refine hK _ _ hS2 ?_
        clear hK K
        refine gTake 15 (v := ?_) rfl (by kernel_rfl) (by kernel_rfl) (by kernel_rfl) (fun _ _ _ h => h) (by kernel_rfl) ?_ hS2 ?_
        rotate_left
        · (intro W hW; clear hW; go_simp; try with_reducible rfl)
        refine gTake 16 (v := ?_) rfl (by kernel_rfl) (by kernel_rfl) (by kernel_rfl) (fun _ _ _ h => h) (by kernel_rfl) ?_ hS2 ?_
        rotate_left
        · (intro W hW; clear hW; go_simp; try with_reducible rfl)
        refine gTake 17 (v := ?_) rfl (by kernel_rfl) (by kernel_rfl) (by kernel_rfl) (fun _ _ _ h => h) (by kernel_rfl) ?_ hS2 ?_
        rotate_left
        · (intro W hW; clear hW; go_simp; try with_reducible rfl)
        refine gTake 18 (v := ?_) rfl (by kernel_rfl) (by kernel_rfl) (by kernel_rfl) (fun _ _ _ h => h) (by kernel_rfl) ?_ hS2 ?_
        rotate_left
        · (intro W hW; clear hW; go_simp; try with_reducible rfl)
        refine gTake 19 (v := ?_) rfl (by kernel_rfl) (by kernel_rfl) (by kernel_rfl) (fun _ _ _ h => h) (by kernel_rfl) ?_ hS2 ?_
        rotate_left
        · (intro W hW; clear hW; go_simp; try with_reducible rfl)
        refine gTake 20 (v := ?_) rfl (by kernel_rfl) (by kernel_rfl) (by kernel_rfl) (fun _ _ _ h => h) (by kernel_rfl) ?_ hS2 ?_
        rotate_left
        · (intro W hW; have q0 := hW.1; have q1 := hW.2.1; have q2 := hW.2.2.1; have q3 := hW.2.2.2.1; clear hW; go_simp; try with_reducible rfl)
        refine gOne 21 rfl (by kernel_rfl) (by kernel_rfl) (fun K hK => ?_)
        go_simp
        go_at_call 20
        (with_reducible refine (l14Dust_any _ _).mono ?_)
        rintro e w' ⟨rfl, rfl⟩
        try go_simp
        have hS3 := hS2
        refine hK _ _ hS3 ?_
        clear hK K
        refine gTake 22 (v := ?_) rfl (by kernel_rfl) (by kernel_rfl) (by kernel_rfl) (fun _ _ _ h => h) (by kernel_rfl) ?_ hS3 ?_
        rotate_left
        · (intro W hW; clear hW; go_simp; try with_reducible rfl)
        refine gTake 23 (v := ?_) rfl (by kernel_rfl) (by kernel_rfl) (by kernel_rfl) (fun _ _ _ h => h) (by kernel_rfl) ?_ hS3 ?_
        rotate_left
        · (intro W hW; clear hW; go_simp; try with_reducible rfl)
        refine wpAnyH_done (by kernel_rfl) ?_ _
        go_simp
        go_wp2
        go_ret
        exact ⟨ret_bool (by first | exact HE.out.symm | (simp only [j0, j1, j2]; exact HE.out.symm)), hS3.2.2.2.2⟩
theorem spanOf_any (aw fr un du : Int) (w : World) :
    Calls Tryd.prog 22 #[.agg #[.int .i64 aw, .int .i64 fr, .int .i64 un, .int .i64 du]] w fun e w' => e = .returned (.agg #[.int .i64 aw, .int .i64 fr, .int .i64 un]) ∧ Below w.heap.size w w' := by
  go_enter Tryd.func22, Tryd.ntmps22
  go_wp2
  refine bodyPost_ret (v := .agg #[.int .i64 aw, .int .i64 fr, .int .i64 un]) (by simp [results, Tryd.results22, go_sem]) rfl ⟨rfl, ?_⟩
  exact (by repeat (first | (with_reducible exact Below.refl _ _) | (with_reducible refine below_drewN' ?_ _) | (with_reducible refine Below.drew ?_) | (with_reducible refine Below.alloc ?_ (by simp <;> omega) _) | (with_reducible refine Below.setCell ?_ (by simp) _)))
set_option maxHeartbeats 1000000 in
theorem snValid_any (aw fr un : Int) (w : World) :
    Calls Tryd.prog 23 #[.agg #[.int .i64 aw, .int .i64 fr, .int .i64 un]] w fun e w' => e = .returned (.bool (snOk aw fr un)) ∧ Below w.heap.size w w' := by
  cases j0 : inB aw 0 23
  · skip
    have HE := Lib.hid (show snOk aw fr un = false by simp only [snOk, j0, Bool.and_false, Bool.false_and, Bool.true_and, Bool.and_true])
    go_enter Tryd.func23, Tryd.ntmps23
    go_wp2_with fail
    (with_reducible refine (areIdx_c24 aw (w.alloc (.cells #[.int .i64 aw, .int .i64 fr, .int .i64 un] 43)) _ _ (by simp)).mono ?_)
    rintro e w1 ⟨rfl, hd⟩
    have HB1 := Lib.hid (show Below w.heap.size w w1 from (below_box _ _).trans (hd.mono (by simp)))
    have hz : w.heap.size < w1.heap.size := Nat.lt_of_lt_of_le (by simp) hd.size
    have k1 : w1.cell? ⟨w.heap.size, 1, none⟩ = some (.int .i64 fr) := (hd.cell (by simp)).trans (by simp)
    have k2 : w1.cell? ⟨w.heap.size, 2, none⟩ = some (.int .i64 un) := (hd.cell (by simp)).trans (by simp)
    have hn1 : ¬ (w.heap.size = w1.heap.size) := by omega
    clear hd
    rw [j0]
    go_wp2
    go_ret
    exact ⟨ret_bool (by first | exact HE.out.symm | (simp only [j0]; exact HE.out.symm)), HB1.out⟩
  · cases j1 : inB fr 0 1439
    · skip
      have HE := Lib.hid (show snOk aw fr un = false by simp only [snOk, j0, j1, Bool.and_false, Bool.false_and, Bool.true_and, Bool.and_true])
      go_enter Tryd.func23, Tryd.ntmps23
      go_wp2_with fail
      (with_reducible refine (areIdx_c24 aw (w.alloc (.cells #[.int .i64 aw, .int .i64 fr, .int .i64 un] 43)) _ _ (by simp)).mono ?_)
      rintro e w1 ⟨rfl, hd⟩
      have HB1 := Lib.hid (show Below w.heap.size w w1 from (below_box _ _).trans (hd.mono (by simp)))
      have hz : w.heap.size < w1.heap.size := Nat.lt_of_lt_of_le (by simp) hd.size
      have k1 : w1.cell? ⟨w.heap.size, 1, none⟩ = some (.int .i64 fr) := (hd.cell (by simp)).trans (by simp)
      have k2 : w1.cell? ⟨w.heap.size, 2, none⟩ = some (.int .i64 un) := (hd.cell (by simp)).trans (by simp)
      have hn1 : ¬ (w.heap.size = w1.heap.size) := by omega
      clear hd
      rw [j0]
      go_wp2_with fail
      (with_reducible refine (areIdx_c1440 fr w1 _ _ (by simp)).mono ?_)
      rintro e w2 ⟨rfl, hd⟩
      have HB2 := Lib.hid (HB1.out.trans (hd.mono HB1.out.size))
      have m1 := (hd.cell (World.block_lt_of_cell? _ _ k1)).trans k1
      have m2 := (hd.cell (World.block_lt_of_cell? _ _ k2)).trans k2
      have hz2 : w.heap.size < w2.heap.size := Nat.lt_of_lt_of_le hz hd.size
      have hn2 : ¬ (w.heap.size = w2.heap.size) := by omega
      clear hd
      rw [j1]
      go_wp2
      go_ret
      exact ⟨ret_bool (by first | exact HE.out.symm | (simp only [j0, j1]; exact HE.out.symm)), HB2.out⟩
    · cases j2 : inB un (fr + 1) 1440
      · skip
        have HE := Lib.hid (show snOk aw fr un = false by simp only [snOk, j0, j1, j2, Bool.and_false, Bool.false_and, Bool.true_and, Bool.and_true])
        go_enter Tryd.func23, Tryd.ntmps23
        go_wp2_with fail
        (with_reducible refine (areIdx_c24 aw (w.alloc (.cells #[.int .i64 aw, .int .i64 fr, .int .i64 un] 43)) _ _ (by simp)).mono ?_)
        rintro e w1 ⟨rfl, hd⟩
        have HB1 := Lib.hid (show Below w.heap.size w w1 from (below_box _ _).trans (hd.mono (by simp)))
        have hz : w.heap.size < w1.heap.size := Nat.lt_of_lt_of_le (by simp) hd.size
        have k1 : w1.cell? ⟨w.heap.size, 1, none⟩ = some (.int .i64 fr) := (hd.cell (by simp)).trans (by simp)
        have k2 : w1.cell? ⟨w.heap.size, 2, none⟩ = some (.int .i64 un) := (hd.cell (by simp)).trans (by simp)
        have hn1 : ¬ (w.heap.size = w1.heap.size) := by omega
        clear hd
        rw [j0]
        go_wp2_with fail
        (with_reducible refine (areIdx_c1440 fr w1 _ _ (by simp)).mono ?_)
        rintro e w2 ⟨rfl, hd⟩
        have HB2 := Lib.hid (HB1.out.trans (hd.mono HB1.out.size))
        have m1 := (hd.cell (World.block_lt_of_cell? _ _ k1)).trans k1
        have m2 := (hd.cell (World.block_lt_of_cell? _ _ k2)).trans k2
        have hz2 : w.heap.size < w2.heap.size := Nat.lt_of_lt_of_le hz hd.size
        have hn2 : ¬ (w.heap.size = w2.heap.size) := by omega
        clear hd
        rw [j1]
        obtain ⟨fr1, fr2⟩ := inB_iff.1 j1
        go_wp2_with fail
        (with_reducible refine (within64_oneB _ _ un w2 _ _ (by simp)).mono ?_)
        rintro e w3 ⟨rfl, hd⟩
        have HB3 := Lib.hid (HB2.out.trans (hd.mono HB2.out.size))
        clear hd
        go_wp2
        go_ret
        exact ⟨ret_bool (by first | exact HE.out.symm | (simp only [j0, j1, j2]; exact HE.out.symm)), HB3.out⟩
      · skip
        have HE := Lib.hid (show snOk aw fr un = true by simp only [snOk, j0, j1, j2, Bool.and_false, Bool.false_and, Bool.true_and, Bool.and_true])
        go_enter Tryd.func23, Tryd.ntmps23
        go_wp2_with fail
        (with_reducible refine (areIdx_c24 aw (w.alloc (.cells #[.int .i64 aw, .int .i64 fr, .int .i64 un] 43)) _ _ (by simp)).mono ?_)
        rintro e w1 ⟨rfl, hd⟩
        have HB1 := Lib.hid (show Below w.heap.size w w1 from (below_box _ _).trans (hd.mono (by simp)))
        have hz : w.heap.size < w1.heap.size := Nat.lt_of_lt_of_le (by simp) hd.size
        have k1 : w1.cell? ⟨w.heap.size, 1, none⟩ = some (.int .i64 fr) := (hd.cell (by simp)).trans (by simp)
        have k2 : w1.cell? ⟨w.heap.size, 2, none⟩ = some (.int .i64 un) := (hd.cell (by simp)).trans (by simp)
        have hn1 : ¬ (w.heap.size = w1.heap.size) := by omega
        clear hd
        rw [j0]
        go_wp2_with fail
        (with_reducible refine (areIdx_c1440 fr w1 _ _ (by simp)).mono ?_)
        rintro e w2 ⟨rfl, hd⟩
        have HB2 := Lib.hid (HB1.out.trans (hd.mono HB1.out.size))
        have m1 := (hd.cell (World.block_lt_of_cell? _ _ k1)).trans k1
        have m2 := (hd.cell (World.block_lt_of_cell? _ _ k2)).trans k2
        have hz2 : w.heap.size < w2.heap.size := Nat.lt_of_lt_of_le hz hd.size
        have hn2 : ¬ (w.heap.size = w2.heap.size) := by omega
        clear hd
        rw [j1]
        obtain ⟨fr1, fr2⟩ := inB_iff.1 j1
        go_wp2_with fail
        (with_reducible refine (within64_oneB _ _ un w2 _ _ (by simp)).mono ?_)
        rintro e w3 ⟨rfl, hd⟩
        have HB3 := Lib.hid (HB2.out.trans (hd.mono HB2.out.size))
        clear hd
        go_wp2
        go_ret
        exact ⟨ret_bool (by first | exact HE.out.symm | (simp only [j0, j1, j2]; exact HE.out.symm)), HB3.out⟩
set_option maxHeartbeats 1000000 in
theorem iValidDusting_any (aw fr un du : Int) (w : World) :
    Calls Tryd.prog 13 #[.agg #[.int .i64 aw, .int .i64 fr, .int .i64 un, .int .i64 du]] w fun e w' => e = .returned (.bool (tkOk aw fr un du)) ∧ Below w.heap.size w w' := by
  cases j0 : snOk aw fr un
  · skip
    have HE := Lib.hid (show tkOk aw fr un du = false by simp only [tkOk, j0, Bool.and_false, Bool.false_and, Bool.true_and, Bool.and_true])
    go_enter Tryd.func13, Tryd.ntmps13
    go_wp2_with fail
    (with_reducible refine (spanOf_any aw fr un du _).mono ?_)
    rintro e w1 ⟨rfl, hd⟩
    have HB1 := Lib.hid (show Below w.heap.size w w1 from (below_box _ _).trans (hd.mono (by simp)))
    have hz : w.heap.size < w1.heap.size := Nat.lt_of_lt_of_le (by simp) hd.size
    have k3 : w1.cell? ⟨w.heap.size, 3, none⟩ = some (.int .i64 du) := (hd.cell (by simp)).trans (by simp)
    clear hd
    go_wp2_with fail
    (with_reducible refine (snValid_any aw fr un w1).mono ?_)
    rintro e w2 ⟨rfl, hd⟩
    rw [j0]
    have HB2 := Lib.hid (HB1.out.trans (hd.mono HB1.out.size))
    have m3 := (hd.cell (World.block_lt_of_cell? _ _ k3)).trans k3
    have hz2 : w.heap.size < w2.heap.size := Nat.lt_of_lt_of_le hz hd.size
    have hn2 : ¬ (w.heap.size = w2.heap.size) := by omega
    clear hd
    go_wp2
    go_ret
    exact ⟨ret_bool (by first | exact HE.out.symm | (simp only [j0]; exact HE.out.symm)), HB2.out⟩
  · cases j1 : inB du 0 1000000
    · skip
      have HE := Lib.hid (show tkOk aw fr un du = false by simp only [tkOk, j0, j1, Bool.and_false, Bool.false_and, Bool.true_and, Bool.and_true])
      go_enter Tryd.func13, Tryd.ntmps13
      go_wp2_with fail
      (with_reducible refine (spanOf_any aw fr un du _).mono ?_)
      rintro e w1 ⟨rfl, hd⟩
      have HB1 := Lib.hid (show Below w.heap.size w w1 from (below_box _ _).trans (hd.mono (by simp)))
      have hz : w.heap.size < w1.heap.size := Nat.lt_of_lt_of_le (by simp) hd.size
      have k3 : w1.cell? ⟨w.heap.size, 3, none⟩ = some (.int .i64 du) := (hd.cell (by simp)).trans (by simp)
      clear hd
      go_wp2_with fail
      (with_reducible refine (snValid_any aw fr un w1).mono ?_)
      rintro e w2 ⟨rfl, hd⟩
      rw [j0]
      have HB2 := Lib.hid (HB1.out.trans (hd.mono HB1.out.size))
      have m3 := (hd.cell (World.block_lt_of_cell? _ _ k3)).trans k3
      have hz2 : w.heap.size < w2.heap.size := Nat.lt_of_lt_of_le hz hd.size
      have hn2 : ¬ (w.heap.size = w2.heap.size) := by omega
      clear hd
      go_wp2_with fail
      (with_reducible refine (areDusts_oneB du w2 _ _ (by simp)).mono ?_)
      rintro e w3 ⟨rfl, hd⟩
      have HB3 := Lib.hid (HB2.out.trans (hd.mono HB2.out.size))
      clear hd
      go_wp2
      go_ret
      exact ⟨ret_bool (by first | exact HE.out.symm | (simp only [j0, j1]; exact HE.out.symm)), HB3.out⟩
    · skip
      have HE := Lib.hid (show tkOk aw fr un du = true by simp only [tkOk, j0, j1, Bool.and_false, Bool.false_and, Bool.true_and, Bool.and_true])
      go_enter Tryd.func13, Tryd.ntmps13
      go_wp2_with fail
      (with_reducible refine (spanOf_any aw fr un du _).mono ?_)
      rintro e w1 ⟨rfl, hd⟩
      have HB1 := Lib.hid (show Below w.heap.size w w1 from (below_box _ _).trans (hd.mono (by simp)))
      have hz : w.heap.size < w1.heap.size := Nat.lt_of_lt_of_le (by simp) hd.size
      have k3 : w1.cell? ⟨w.heap.size, 3, none⟩ = some (.int .i64 du) := (hd.cell (by simp)).trans (by simp)
      clear hd
      go_wp2_with fail
      (with_reducible refine (snValid_any aw fr un w1).mono ?_)
      rintro e w2 ⟨rfl, hd⟩
      rw [j0]
      have HB2 := Lib.hid (HB1.out.trans (hd.mono HB1.out.size))
      have m3 := (hd.cell (World.block_lt_of_cell? _ _ k3)).trans k3
      have hz2 : w.heap.size < w2.heap.size := Nat.lt_of_lt_of_le hz hd.size
      have hn2 : ¬ (w.heap.size = w2.heap.size) := by omega
      clear hd
      go_wp2_with fail
      (with_reducible refine (areDusts_oneB du w2 _ _ (by simp)).mono ?_)
      rintro e w3 ⟨rfl, hd⟩
      have HB3 := Lib.hid (HB2.out.trans (hd.mono HB2.out.size))
      clear hd
      go_wp2
      go_ret
      exact ⟨ret_bool (by first | exact HE.out.symm | (simp only [j0, j1]; exact HE.out.symm)), HB3.out⟩
end Go.Proofs.YtnlkikdgffaeeaaDoor
