/-
  Contracts of chapter 10: whether a door is valid; the model's and the program's. Conditions: those that each theorem states.
-/
import Derived.Test.YtddfhjolimkkmaaDa
import Derived.Test.YtddfhjolimkkmaaRg
namespace Go.Proofs.Ytddfhjolimkkmaa
open Go.RowKit
set_option linter.unusedVariables false
set_option linter.unusedSimpArgs false

/-- A valid door. -/
def doOk (s : ByteArray) (a op sh : Int) : Bool := isNm s && (inB a 0 23 && (inB sh 1 1000000 && inB op 1 sh))
theorem doOk_bd {s : ByteArray} {a op sh : Int} (h : doOk s a op sh = true) : isNm s = true ∧ (0 ≤ a ∧ a ≤ 23) ∧ (1 ≤ sh ∧ sh ≤ 1000000) ∧ (1 ≤ op ∧ op ≤ sh) := by
  simp only [doOk, Bool.and_eq_true, inB_iff] at h
  exact ⟨h.1, h.2.1, h.2.2.1, h.2.2.2⟩
/-- The cells of a door in a block. -/
def DoAt (w : World) (b o : Nat) (s : ByteArray) (a op sh : Int) : Prop :=
  w.cell? ⟨b, o, none⟩ = some (.string s) ∧ w.cell? ⟨b, o + 1, none⟩ = some (.int .i64 a) ∧ w.cell? ⟨b, o + 2, none⟩ = some (.int .i64 op) ∧ w.cell? ⟨b, o + 3, none⟩ = some (.int .i64 sh)
theorem doAt_mk {w : World} {b o : Nat} {s : ByteArray} {a op sh : Int} (h0 : w.cell? ⟨b, o, none⟩ = some (.string s)) (h1 : w.cell? ⟨b, o + 1, none⟩ = some (.int .i64 a)) (h2 : w.cell? ⟨b, o + 2, none⟩ = some (.int .i64 op)) (h3 : w.cell? ⟨b, o + 3, none⟩ = some (.int .i64 sh)) : DoAt w b o s a op sh := ⟨h0, h1, h2, h3⟩
theorem DoAt.lt {w : World} {b o : Nat} {s : ByteArray} {a op sh : Int} (h : DoAt w b o s a op sh) : b < w.heap.size := World.block_lt_of_cell? (a := ⟨b, o, none⟩) _ h.1
theorem DoAt.below {B : Nat} {w w' : World} {b o : Nat} {s : ByteArray} {a op sh : Int} (h : DoAt w b o s a op sh) (hb : Below B w w') (hB : b < B) : DoAt w' b o s a op sh :=
  ⟨(hb.cell (p := ⟨b, o, none⟩) hB).trans h.1, (hb.cell (p := ⟨b, o + 1, none⟩) hB).trans h.2.1, (hb.cell (p := ⟨b, o + 2, none⟩) hB).trans h.2.2.1, (hb.cell (p := ⟨b, o + 3, none⟩) hB).trans h.2.2.2⟩
theorem doBoxed (s : ByteArray) (a op sh : Int) (w : World) : DoAt (w.alloc (.cells #[.string s, .int .i64 a, .int .i64 op, .int .i64 sh] 26)) w.heap.size 0 s a op sh := by unfold DoAt; simp
/-- The cells of a door at the head of a block. -/
def DaAt (w : World) (b : Nat) (s : ByteArray) (a op sh : Int) : Prop :=
  w.cell? ⟨b, 0, none⟩ = some (.string s) ∧ w.cell? ⟨b, 1, none⟩ = some (.int .i64 a) ∧ w.cell? ⟨b, 2, none⟩ = some (.int .i64 op) ∧ w.cell? ⟨b, 3, none⟩ = some (.int .i64 sh)
theorem DaAt.lt {w : World} {b : Nat} {s : ByteArray} {a op sh : Int} (h : DaAt w b s a op sh) : b < w.heap.size := World.block_lt_of_cell? (a := ⟨b, 0, none⟩) _ h.1
theorem DaAt.below {B : Nat} {w w' : World} {b : Nat} {s : ByteArray} {a op sh : Int} (h : DaAt w b s a op sh) (hb : Below B w w') (hB : b < B) : DaAt w' b s a op sh :=
  ⟨(hb.cell (p := ⟨b, 0, none⟩) hB).trans h.1, (hb.cell (p := ⟨b, 1, none⟩) hB).trans h.2.1, (hb.cell (p := ⟨b, 2, none⟩) hB).trans h.2.2.1, (hb.cell (p := ⟨b, 3, none⟩) hB).trans h.2.2.2⟩
theorem daBoxed (s : ByteArray) (a op sh : Int) (w : World) : DaAt (w.alloc (.cells #[.string s, .int .i64 a, .int .i64 op, .int .i64 sh] 26)) w.heap.size s a op sh := by unfold DaAt; simp
theorem DaAt.at {w : World} {b : Nat} {s : ByteArray} {a op sh : Int} (h : DaAt w b s a op sh) : DoAt w b 0 s a op sh := ⟨h.1, h.2.1, h.2.2.1, h.2.2.2⟩
set_option maxHeartbeats 1000000 in
theorem l10One_below (b o : Nat) (s : ByteArray) (a op sh : Int) (w : World) (hs : s.size ≤ maxLen) (hc : DoAt w b o s a op sh) :
    Calls Try.prog 71 #[.pointer (some ⟨b, o, none⟩)] w fun e w' => e = .returned (.bool (doOk s a op sh)) ∧ Below w.heap.size w w' := by
  obtain ⟨c0, c1, c2, c3⟩ := hc
  cases hn : isNm s
  · skip
    have HE := Lib.hid (show doOk s a op sh = false by simp [doOk, hn])
    go_enter Try.func71, Try.ntmps71
    go_wp2_with fail
    refine wp_region_held (S := fun w' => w'.cell? ⟨b, o, none⟩ = some (.string s) ∧ w'.cell? ⟨b, o + 1, none⟩ = some (.int .i64 a) ∧ w'.cell? ⟨b, o + 2, none⟩ = some (.int .i64 op) ∧ w'.cell? ⟨b, o + 3, none⟩ = some (.int .i64 sh) ∧ Below w.heap.size w w') (by kernel_rfl) ?_
    try (change wpAnyH _ _ _ _ _ _ _ _ (World.drew _))
    have hS0 := (show w.drew.cell? ⟨b, o, none⟩ = some (.string s) ∧ w.drew.cell? ⟨b, o + 1, none⟩ = some (.int .i64 a) ∧ w.drew.cell? ⟨b, o + 2, none⟩ = some (.int .i64 op) ∧ w.drew.cell? ⟨b, o + 3, none⟩ = some (.int .i64 sh) ∧ Below w.heap.size w w.drew from ⟨c0, c1, c2, c3, Below.drew (Below.refl _ _)⟩)
    refine gTake 0 (v := ?_) rfl (by kernel_rfl) (by kernel_rfl) (by kernel_rfl) (fun _ _ _ h => h) (by kernel_rfl) ?_ hS0 ?_
    rotate_left
    · (intro W hW; clear hW; go_simp; try with_reducible rfl)
    refine gTake 1 (v := ?_) rfl (by kernel_rfl) (by kernel_rfl) (by kernel_rfl) (fun _ _ _ h => h) (by kernel_rfl) ?_ hS0 ?_
    rotate_left
    · (intro W hW; clear hW; go_simp; try with_reducible rfl)
    refine gTake 2 (v := ?_) rfl (by kernel_rfl) (by kernel_rfl) (by kernel_rfl) (fun _ _ _ h => h) (by kernel_rfl) ?_ hS0 ?_
    rotate_left
    · (intro W hW; clear hW; go_simp; try with_reducible rfl)
    refine gTake 3 (v := ?_) rfl (by kernel_rfl) (by kernel_rfl) (by kernel_rfl) (fun _ _ _ h => h) (by kernel_rfl) ?_ hS0 ?_
    rotate_left
    · (intro W hW; have q0 := hW.1; have q1 := hW.2.1; have q2 := hW.2.2.1; have q3 := hW.2.2.2.1; clear hW; go_simp; try with_reducible rfl)
    refine gOne 4 rfl (by kernel_rfl) (by kernel_rfl) (fun K hK => ?_)
    go_simp
    go_at_call 127
    (with_reducible refine (l01Name_any s _ hs).mono ?_)
    rintro e w' ⟨rfl, rfl⟩
    try go_simp
    have hS1 := hS0
    refine hK _ _ hS1 ?_
    clear hK K
    refine gTake 5 (v := ?_) rfl (by kernel_rfl) (by kernel_rfl) (by kernel_rfl) (fun _ _ _ h => h) (by kernel_rfl) ?_ hS1 ?_
    rotate_left
    · (intro W hW; clear hW; go_simp; try with_reducible rfl)
    refine gSkip 6 rfl (by kernel_rfl) (by kernel_rfl) (by kernel_rfl) (fun _ _ _ h => h) (by kernel_rfl) hS1 ?_
    refine gSkip 7 rfl (by kernel_rfl) (by kernel_rfl) (by kernel_rfl) (fun _ _ _ h => h) (by kernel_rfl) hS1 ?_
    refine gSkip 8 rfl (by kernel_rfl) (by kernel_rfl) (by kernel_rfl) (fun _ _ _ h => h) (by kernel_rfl) hS1 ?_
    refine gSkip 9 rfl (by kernel_rfl) (by kernel_rfl) (by kernel_rfl) (fun _ _ _ h => h) (by kernel_rfl) hS1 ?_
    refine gSkip 10 rfl (by kernel_rfl) (by kernel_rfl) (by kernel_rfl) (fun _ _ _ h => h) (by kernel_rfl) hS1 ?_
    refine gTake 11 (v := ?_) rfl (by kernel_rfl) (by kernel_rfl) (by kernel_rfl) (fun _ _ _ h => h) (by kernel_rfl) ?_ hS1 ?_
    rotate_left
    · (intro W hW; clear hW; go_simp; try with_reducible rfl)
    refine gTake 12 (v := ?_) rfl (by kernel_rfl) (by kernel_rfl) (by kernel_rfl) (fun _ _ _ h => h) (by kernel_rfl) ?_ hS1 ?_
    rotate_left
    · (intro W hW; clear hW; go_simp; try with_reducible rfl)
    refine gSkip 13 rfl (by kernel_rfl) (by kernel_rfl) (by kernel_rfl) (fun _ _ _ h => h) (by kernel_rfl) hS1 ?_
    refine gSkip 14 rfl (by kernel_rfl) (by kernel_rfl) (by kernel_rfl) (fun _ _ _ h => h) (by kernel_rfl) hS1 ?_
    refine gSkip 15 rfl (by kernel_rfl) (by kernel_rfl) (by kernel_rfl) (fun _ _ _ h => h) (by kernel_rfl) hS1 ?_
    refine gSkip 16 rfl (by kernel_rfl) (by kernel_rfl) (by kernel_rfl) (fun _ _ _ h => h) (by kernel_rfl) hS1 ?_
    refine gSkip 17 rfl (by kernel_rfl) (by kernel_rfl) (by kernel_rfl) (fun _ _ _ h => h) (by kernel_rfl) hS1 ?_
    refine gTake 18 (v := ?_) rfl (by kernel_rfl) (by kernel_rfl) (by kernel_rfl) (fun _ _ _ h => h) (by kernel_rfl) ?_ hS1 ?_
    rotate_left
    · (intro W hW; clear hW; go_simp; try with_reducible rfl)
    refine gTake 19 (v := ?_) rfl (by kernel_rfl) (by kernel_rfl) (by kernel_rfl) (fun _ _ _ h => h) (by kernel_rfl) ?_ hS1 ?_
    rotate_left
    · (intro W hW; clear hW; go_simp; try with_reducible rfl)
    refine gSkip 20 rfl (by kernel_rfl) (by kernel_rfl) (by kernel_rfl) (fun _ _ _ h => h) (by kernel_rfl) hS1 ?_
    refine gSkip 21 rfl (by kernel_rfl) (by kernel_rfl) (by kernel_rfl) (fun _ _ _ h => h) (by kernel_rfl) hS1 ?_
    refine gSkip 22 rfl (by kernel_rfl) (by kernel_rfl) (by kernel_rfl) (fun _ _ _ h => h) (by kernel_rfl) hS1 ?_
    refine gSkip 23 rfl (by kernel_rfl) (by kernel_rfl) (by kernel_rfl) (fun _ _ _ h => h) (by kernel_rfl) hS1 ?_
    refine gSkip 24 rfl (by kernel_rfl) (by kernel_rfl) (by kernel_rfl) (fun _ _ _ h => h) (by kernel_rfl) hS1 ?_
    refine gSkip 25 rfl (by kernel_rfl) (by kernel_rfl) (by kernel_rfl) (fun _ _ _ h => h) (by kernel_rfl) hS1 ?_
    refine gSkip 26 rfl (by kernel_rfl) (by kernel_rfl) (by kernel_rfl) (fun _ _ _ h => h) (by kernel_rfl) hS1 ?_
    refine gSkip 27 rfl (by kernel_rfl) (by kernel_rfl) (by kernel_rfl) (fun _ _ _ h => h) (by kernel_rfl) hS1 ?_
    refine gSkip 28 rfl (by kernel_rfl) (by kernel_rfl) (by kernel_rfl) (fun _ _ _ h => h) (by kernel_rfl) hS1 ?_
    refine gTake 29 (v := ?_) rfl (by kernel_rfl) (by kernel_rfl) (by kernel_rfl) (fun _ _ _ h => h) (by kernel_rfl) ?_ hS1 ?_
    rotate_left
    · (intro W hW; clear hW; go_simp; try with_reducible rfl)
    refine gTake 30 (v := ?_) rfl (by kernel_rfl) (by kernel_rfl) (by kernel_rfl) (fun _ _ _ h => h) (by kernel_rfl) ?_ hS1 ?_
    rotate_left
    · (intro W hW; clear hW; go_simp; try with_reducible rfl)
    refine wpAnyH_done (by kernel_rfl) ?_ _
    go_simp
    go_wp2
    go_ret
    exact ⟨ret_bool (by first | exact HE.out.symm | (simp only [hn]; exact HE.out.symm)), hS1.2.2.2.2⟩
  · cases j1 : inB a 0 23
    · skip
      have HE := Lib.hid (show doOk s a op sh = false by simp [doOk, j1])
      go_enter Try.func71, Try.ntmps71
      go_wp2_with fail
      refine wp_region_held (S := fun w' => w'.cell? ⟨b, o, none⟩ = some (.string s) ∧ w'.cell? ⟨b, o + 1, none⟩ = some (.int .i64 a) ∧ w'.cell? ⟨b, o + 2, none⟩ = some (.int .i64 op) ∧ w'.cell? ⟨b, o + 3, none⟩ = some (.int .i64 sh) ∧ Below w.heap.size w w') (by kernel_rfl) ?_
      try (change wpAnyH _ _ _ _ _ _ _ _ (World.drew _))
      have hS0 := (show w.drew.cell? ⟨b, o, none⟩ = some (.string s) ∧ w.drew.cell? ⟨b, o + 1, none⟩ = some (.int .i64 a) ∧ w.drew.cell? ⟨b, o + 2, none⟩ = some (.int .i64 op) ∧ w.drew.cell? ⟨b, o + 3, none⟩ = some (.int .i64 sh) ∧ Below w.heap.size w w.drew from ⟨c0, c1, c2, c3, Below.drew (Below.refl _ _)⟩)
      refine gTake 0 (v := ?_) rfl (by kernel_rfl) (by kernel_rfl) (by kernel_rfl) (fun _ _ _ h => h) (by kernel_rfl) ?_ hS0 ?_
      rotate_left
      · (intro W hW; clear hW; go_simp; try with_reducible rfl)
      refine gTake 1 (v := ?_) rfl (by kernel_rfl) (by kernel_rfl) (by kernel_rfl) (fun _ _ _ h => h) (by kernel_rfl) ?_ hS0 ?_
      rotate_left
      · (intro W hW; clear hW; go_simp; try with_reducible rfl)
      refine gTake 2 (v := ?_) rfl (by kernel_rfl) (by kernel_rfl) (by kernel_rfl) (fun _ _ _ h => h) (by kernel_rfl) ?_ hS0 ?_
      rotate_left
      · (intro W hW; clear hW; go_simp; try with_reducible rfl)
      refine gTake 3 (v := ?_) rfl (by kernel_rfl) (by kernel_rfl) (by kernel_rfl) (fun _ _ _ h => h) (by kernel_rfl) ?_ hS0 ?_
      rotate_left
      · (intro W hW; have q0 := hW.1; have q1 := hW.2.1; have q2 := hW.2.2.1; have q3 := hW.2.2.2.1; clear hW; go_simp; try with_reducible rfl)
      refine gOne 4 rfl (by kernel_rfl) (by kernel_rfl) (fun K hK => ?_)
      go_simp
      go_at_call 127
      (with_reducible refine (l01Name_any s _ hs).mono ?_)
      rintro e w' ⟨rfl, rfl⟩
      try go_simp
      have hS1 := hS0
      refine hK _ _ hS1 ?_
      clear hK K
      refine gTake 5 (v := ?_) rfl (by kernel_rfl) (by kernel_rfl) (by kernel_rfl) (fun _ _ _ h => h) (by kernel_rfl) ?_ hS1 ?_
      rotate_left
      · (intro W hW; clear hW; go_simp; try with_reducible rfl)
      refine gTake 6 (v := ?_) rfl (by kernel_rfl) (by kernel_rfl) (by kernel_rfl) (fun _ _ _ h => h) (by kernel_rfl) ?_ hS1 ?_
      rotate_left
      · (intro W hW; clear hW; go_simp; try with_reducible rfl)
      refine gTake 7 (v := ?_) rfl (by kernel_rfl) (by kernel_rfl) (by kernel_rfl) (fun _ _ _ h => h) (by kernel_rfl) ?_ hS1 ?_
      rotate_left
      · (intro W hW; clear hW; go_simp; try with_reducible rfl)
      refine gTake 8 (v := ?_) rfl (by kernel_rfl) (by kernel_rfl) (by kernel_rfl) (fun _ _ _ h => h) (by kernel_rfl) ?_ hS1 ?_
      rotate_left
      · (intro W hW; clear hW; go_simp; try with_reducible rfl)
      refine gTake 9 (v := ?_) rfl (by kernel_rfl) (by kernel_rfl) (by kernel_rfl) (fun _ _ _ h => h) (by kernel_rfl) ?_ hS1 ?_
      rotate_left
      · (intro W hW; have q0 := hW.1; have q1 := hW.2.1; have q2 := hW.2.2.1; have q3 := hW.2.2.2.1; clear hW; go_simp; try with_reducible rfl)
      refine gOne 10 rfl (by kernel_rfl) (by kernel_rfl) (fun K hK => ?_)
      go_simp
      go_at_call 88
      (with_reducible refine (l00In_any _ _ _ _).mono ?_)
      rintro e w' ⟨rfl, rfl⟩
      try go_simp
      have hS2 := hS1
      refine hK _ _ hS2 ?_
      clear hK K
      refine gTake 11 (v := ?_) rfl (by kernel_rfl) (by kernel_rfl) (by kernel_rfl) (fun _ _ _ h => h) (by kernel_rfl) ?_ hS2 ?_
      rotate_left
      · (intro W hW; clear hW; go_simp; try with_reducible rfl)
      refine gTake 12 (v := ?_) rfl (by kernel_rfl) (by kernel_rfl) (by kernel_rfl) (fun _ _ _ h => h) (by kernel_rfl) ?_ hS2 ?_
      rotate_left
      · (intro W hW; clear hW; go_simp; try with_reducible rfl)
      refine gSkip 13 rfl (by kernel_rfl) (by kernel_rfl) (by kernel_rfl) (fun _ _ _ h => h) (by kernel_rfl) hS2 ?_
      refine gSkip 14 rfl (by kernel_rfl) (by kernel_rfl) (by kernel_rfl) (fun _ _ _ h => h) (by kernel_rfl) hS2 ?_
      refine gSkip 15 rfl (by kernel_rfl) (by kernel_rfl) (by kernel_rfl) (fun _ _ _ h => h) (by kernel_rfl) hS2 ?_
      refine gSkip 16 rfl (by kernel_rfl) (by kernel_rfl) (by kernel_rfl) (fun _ _ _ h => h) (by kernel_rfl) hS2 ?_
      refine gSkip 17 rfl (by kernel_rfl) (by kernel_rfl) (by kernel_rfl) (fun _ _ _ h => h) (by kernel_rfl) hS2 ?_
      refine gTake 18 (v := ?_) rfl (by kernel_rfl) (by kernel_rfl) (by kernel_rfl) (fun _ _ _ h => h) (by kernel_rfl) ?_ hS2 ?_
      rotate_left
      · (intro W hW; clear hW; go_simp; try with_reducible rfl)
      refine gTake 19 (v := ?_) rfl (by kernel_rfl) (by kernel_rfl) (by kernel_rfl) (fun _ _ _ h => h) (by kernel_rfl) ?_ hS2 ?_
      rotate_left
      · (intro W hW; clear hW; go_simp; try with_reducible rfl)
      refine gSkip 20 rfl (by kernel_rfl) (by kernel_rfl) (by kernel_rfl) (fun _ _ _ h => h) (by kernel_rfl) hS2 ?_
      refine gSkip 21 rfl (by kernel_rfl) (by kernel_rfl) (by kernel_rfl) (fun _ _ _ h => h) (by kernel_rfl) hS2 ?_
      refine gSkip 22 rfl (by kernel_rfl) (by kernel_rfl) (by kernel_rfl) (fun _ _ _ h => h) (by kernel_rfl) hS2 ?_
      refine gSkip 23 rfl (by kernel_rfl) (by kernel_rfl) (by kernel_rfl) (fun _ _ _ h => h) (by kernel_rfl) hS2 ?_
      refine gSkip 24 rfl (by kernel_rfl) (by kernel_rfl) (by kernel_rfl) (fun _ _ _ h => h) (by kernel_rfl) hS2 ?_
      refine gSkip 25 rfl (by kernel_rfl) (by kernel_rfl) (by kernel_rfl) (fun _ _ _ h => h) (by kernel_rfl) hS2 ?_
      refine gSkip 26 rfl (by kernel_rfl) (by kernel_rfl) (by kernel_rfl) (fun _ _ _ h => h) (by kernel_rfl) hS2 ?_
      refine gSkip 27 rfl (by kernel_rfl) (by kernel_rfl) (by kernel_rfl) (fun _ _ _ h => h) (by kernel_rfl) hS2 ?_
      refine gSkip 28 rfl (by kernel_rfl) (by kernel_rfl) (by kernel_rfl) (fun _ _ _ h => h) (by kernel_rfl) hS2 ?_
      refine gTake 29 (v := ?_) rfl (by kernel_rfl) (by kernel_rfl) (by kernel_rfl) (fun _ _ _ h => h) (by kernel_rfl) ?_ hS2 ?_
      rotate_left
      · (intro W hW; clear hW; go_simp; try with_reducible rfl)
      refine gTake 30 (v := ?_) rfl (by kernel_rfl) (by kernel_rfl) (by kernel_rfl) (fun _ _ _ h => h) (by kernel_rfl) ?_ hS2 ?_
      rotate_left
      · (intro W hW; clear hW; go_simp; try with_reducible rfl)
      refine wpAnyH_done (by kernel_rfl) ?_ _
      go_simp
      go_wp2
      go_ret
      exact ⟨ret_bool (by first | exact HE.out.symm | (simp only [j1]; exact HE.out.symm)), hS2.2.2.2.2⟩
    · cases j2 : inB sh 1 1000000
      · skip
        have HE := Lib.hid (show doOk s a op sh = false by simp [doOk, j2])
        go_enter Try.func71, Try.ntmps71
        go_wp2_with fail
        refine wp_region_held (S := fun w' => w'.cell? ⟨b, o, none⟩ = some (.string s) ∧ w'.cell? ⟨b, o + 1, none⟩ = some (.int .i64 a) ∧ w'.cell? ⟨b, o + 2, none⟩ = some (.int .i64 op) ∧ w'.cell? ⟨b, o + 3, none⟩ = some (.int .i64 sh) ∧ Below w.heap.size w w') (by kernel_rfl) ?_
        try (change wpAnyH _ _ _ _ _ _ _ _ (World.drew _))
        have hS0 := (show w.drew.cell? ⟨b, o, none⟩ = some (.string s) ∧ w.drew.cell? ⟨b, o + 1, none⟩ = some (.int .i64 a) ∧ w.drew.cell? ⟨b, o + 2, none⟩ = some (.int .i64 op) ∧ w.drew.cell? ⟨b, o + 3, none⟩ = some (.int .i64 sh) ∧ Below w.heap.size w w.drew from ⟨c0, c1, c2, c3, Below.drew (Below.refl _ _)⟩)
        refine gTake 0 (v := ?_) rfl (by kernel_rfl) (by kernel_rfl) (by kernel_rfl) (fun _ _ _ h => h) (by kernel_rfl) ?_ hS0 ?_
        rotate_left
        · (intro W hW; clear hW; go_simp; try with_reducible rfl)
        refine gTake 1 (v := ?_) rfl (by kernel_rfl) (by kernel_rfl) (by kernel_rfl) (fun _ _ _ h => h) (by kernel_rfl) ?_ hS0 ?_
        rotate_left
        · (intro W hW; clear hW; go_simp; try with_reducible rfl)
        refine gTake 2 (v := ?_) rfl (by kernel_rfl) (by kernel_rfl) (by kernel_rfl) (fun _ _ _ h => h) (by kernel_rfl) ?_ hS0 ?_
        rotate_left
        · (intro W hW; clear hW; go_simp; try with_reducible rfl)
        refine gTake 3 (v := ?_) rfl (by kernel_rfl) (by kernel_rfl) (by kernel_rfl) (fun _ _ _ h => h) (by kernel_rfl) ?_ hS0 ?_
        rotate_left
        · (intro W hW; have q0 := hW.1; have q1 := hW.2.1; have q2 := hW.2.2.1; have q3 := hW.2.2.2.1; clear hW; go_simp; try with_reducible rfl)
        refine gOne 4 rfl (by kernel_rfl) (by kernel_rfl) (fun K hK => ?_)
        go_simp
        go_at_call 127
        (with_reducible refine (l01Name_any s _ hs).mono ?_)
        rintro e w' ⟨rfl, rfl⟩
        try go_simp
        have hS1 := hS0
        refine hK _ _ hS1 ?_
        clear hK K
        refine gTake 5 (v := ?_) rfl (by kernel_rfl) (by kernel_rfl) (by kernel_rfl) (fun _ _ _ h => h) (by kernel_rfl) ?_ hS1 ?_
        rotate_left
        · (intro W hW; clear hW; go_simp; try with_reducible rfl)
        refine gTake 6 (v := ?_) rfl (by kernel_rfl) (by kernel_rfl) (by kernel_rfl) (fun _ _ _ h => h) (by kernel_rfl) ?_ hS1 ?_
        rotate_left
        · (intro W hW; clear hW; go_simp; try with_reducible rfl)
        refine gTake 7 (v := ?_) rfl (by kernel_rfl) (by kernel_rfl) (by kernel_rfl) (fun _ _ _ h => h) (by kernel_rfl) ?_ hS1 ?_
        rotate_left
        · (intro W hW; clear hW; go_simp; try with_reducible rfl)
        refine gTake 8 (v := ?_) rfl (by kernel_rfl) (by kernel_rfl) (by kernel_rfl) (fun _ _ _ h => h) (by kernel_rfl) ?_ hS1 ?_
        rotate_left
        · (intro W hW; clear hW; go_simp; try with_reducible rfl)
        refine gTake 9 (v := ?_) rfl (by kernel_rfl) (by kernel_rfl) (by kernel_rfl) (fun _ _ _ h => h) (by kernel_rfl) ?_ hS1 ?_
        rotate_left
        · (intro W hW; have q0 := hW.1; have q1 := hW.2.1; have q2 := hW.2.2.1; have q3 := hW.2.2.2.1; clear hW; go_simp; try with_reducible rfl)
        refine gOne 10 rfl (by kernel_rfl) (by kernel_rfl) (fun K hK => ?_)
        go_simp
        go_at_call 88
        (with_reducible refine (l00In_any _ _ _ _).mono ?_)
        rintro e w' ⟨rfl, rfl⟩
        try go_simp
        have hS2 := hS1
        refine hK _ _ hS2 ?_
        clear hK K
        refine gTake 11 (v := ?_) rfl (by kernel_rfl) (by kernel_rfl) (by kernel_rfl) (fun _ _ _ h => h) (by kernel_rfl) ?_ hS2 ?_
        rotate_left
        · (intro W hW; clear hW; go_simp; try with_reducible rfl)
        refine gTake 12 (v := ?_) rfl (by kernel_rfl) (by kernel_rfl) (by kernel_rfl) (fun _ _ _ h => h) (by kernel_rfl) ?_ hS2 ?_
        rotate_left
        · (intro W hW; clear hW; go_simp; try with_reducible rfl)
        refine gTake 13 (v := ?_) rfl (by kernel_rfl) (by kernel_rfl) (by kernel_rfl) (fun _ _ _ h => h) (by kernel_rfl) ?_ hS2 ?_
        rotate_left
        · (intro W hW; clear hW; go_simp; try with_reducible rfl)
        refine gTake 14 (v := ?_) rfl (by kernel_rfl) (by kernel_rfl) (by kernel_rfl) (fun _ _ _ h => h) (by kernel_rfl) ?_ hS2 ?_
        rotate_left
        · (intro W hW; clear hW; go_simp; try with_reducible rfl)
        refine gTake 15 (v := ?_) rfl (by kernel_rfl) (by kernel_rfl) (by kernel_rfl) (fun _ _ _ h => h) (by kernel_rfl) ?_ hS2 ?_
        rotate_left
        · (intro W hW; clear hW; go_simp; try with_reducible rfl)
        refine gTake 16 (v := ?_) rfl (by kernel_rfl) (by kernel_rfl) (by kernel_rfl) (fun _ _ _ h => h) (by kernel_rfl) ?_ hS2 ?_
        rotate_left
        · (intro W hW; have q0 := hW.1; have q1 := hW.2.1; have q2 := hW.2.2.1; have q3 := hW.2.2.2.1; clear hW; go_simp; try with_reducible rfl)
        refine gOne 17 rfl (by kernel_rfl) (by kernel_rfl) (fun K hK => ?_)
        go_simp
        go_at_call 87
        (with_reducible refine (l03Res_any _ _).mono ?_)
        rintro e w' ⟨rfl, rfl⟩
        try go_simp
        have hS3 := hS2
        refine hK _ _ hS3 ?_
        clear hK K
        refine gTake 18 (v := ?_) rfl (by kernel_rfl) (by kernel_rfl) (by kernel_rfl) (fun _ _ _ h => h) (by kernel_rfl) ?_ hS3 ?_
        rotate_left
        · (intro W hW; clear hW; go_simp; try with_reducible rfl)
        refine gTake 19 (v := ?_) rfl (by kernel_rfl) (by kernel_rfl) (by kernel_rfl) (fun _ _ _ h => h) (by kernel_rfl) ?_ hS3 ?_
        rotate_left
        · (intro W hW; clear hW; go_simp; try with_reducible rfl)
        refine gSkip 20 rfl (by kernel_rfl) (by kernel_rfl) (by kernel_rfl) (fun _ _ _ h => h) (by kernel_rfl) hS3 ?_
        refine gSkip 21 rfl (by kernel_rfl) (by kernel_rfl) (by kernel_rfl) (fun _ _ _ h => h) (by kernel_rfl) hS3 ?_
        refine gSkip 22 rfl (by kernel_rfl) (by kernel_rfl) (by kernel_rfl) (fun _ _ _ h => h) (by kernel_rfl) hS3 ?_
        refine gSkip 23 rfl (by kernel_rfl) (by kernel_rfl) (by kernel_rfl) (fun _ _ _ h => h) (by kernel_rfl) hS3 ?_
        refine gSkip 24 rfl (by kernel_rfl) (by kernel_rfl) (by kernel_rfl) (fun _ _ _ h => h) (by kernel_rfl) hS3 ?_
        refine gSkip 25 rfl (by kernel_rfl) (by kernel_rfl) (by kernel_rfl) (fun _ _ _ h => h) (by kernel_rfl) hS3 ?_
        refine gSkip 26 rfl (by kernel_rfl) (by kernel_rfl) (by kernel_rfl) (fun _ _ _ h => h) (by kernel_rfl) hS3 ?_
        refine gSkip 27 rfl (by kernel_rfl) (by kernel_rfl) (by kernel_rfl) (fun _ _ _ h => h) (by kernel_rfl) hS3 ?_
        refine gSkip 28 rfl (by kernel_rfl) (by kernel_rfl) (by kernel_rfl) (fun _ _ _ h => h) (by kernel_rfl) hS3 ?_
        refine gTake 29 (v := ?_) rfl (by kernel_rfl) (by kernel_rfl) (by kernel_rfl) (fun _ _ _ h => h) (by kernel_rfl) ?_ hS3 ?_
        rotate_left
        · (intro W hW; clear hW; go_simp; try with_reducible rfl)
        refine gTake 30 (v := ?_) rfl (by kernel_rfl) (by kernel_rfl) (by kernel_rfl) (fun _ _ _ h => h) (by kernel_rfl) ?_ hS3 ?_
        rotate_left
        · (intro W hW; clear hW; go_simp; try with_reducible rfl)
        refine wpAnyH_done (by kernel_rfl) ?_ _
        go_simp
        go_wp2
        go_ret
        exact ⟨ret_bool (by first | exact HE.out.symm | (simp only [j2]; exact HE.out.symm)), hS3.2.2.2.2⟩
      · cases j3 : inB op 1 sh
        · skip
          have HE := Lib.hid (show doOk s a op sh = false by simp [doOk, j3])
          go_enter Try.func71, Try.ntmps71
          go_wp2_with fail
          refine wp_region_held (S := fun w' => w'.cell? ⟨b, o, none⟩ = some (.string s) ∧ w'.cell? ⟨b, o + 1, none⟩ = some (.int .i64 a) ∧ w'.cell? ⟨b, o + 2, none⟩ = some (.int .i64 op) ∧ w'.cell? ⟨b, o + 3, none⟩ = some (.int .i64 sh) ∧ Below w.heap.size w w') (by kernel_rfl) ?_
          try (change wpAnyH _ _ _ _ _ _ _ _ (World.drew _))
          have hS0 := (show w.drew.cell? ⟨b, o, none⟩ = some (.string s) ∧ w.drew.cell? ⟨b, o + 1, none⟩ = some (.int .i64 a) ∧ w.drew.cell? ⟨b, o + 2, none⟩ = some (.int .i64 op) ∧ w.drew.cell? ⟨b, o + 3, none⟩ = some (.int .i64 sh) ∧ Below w.heap.size w w.drew from ⟨c0, c1, c2, c3, Below.drew (Below.refl _ _)⟩)
          refine gTake 0 (v := ?_) rfl (by kernel_rfl) (by kernel_rfl) (by kernel_rfl) (fun _ _ _ h => h) (by kernel_rfl) ?_ hS0 ?_
          rotate_left
          · (intro W hW; clear hW; go_simp; try with_reducible rfl)
          refine gTake 1 (v := ?_) rfl (by kernel_rfl) (by kernel_rfl) (by kernel_rfl) (fun _ _ _ h => h) (by kernel_rfl) ?_ hS0 ?_
          rotate_left
          · (intro W hW; clear hW; go_simp; try with_reducible rfl)
          refine gTake 2 (v := ?_) rfl (by kernel_rfl) (by kernel_rfl) (by kernel_rfl) (fun _ _ _ h => h) (by kernel_rfl) ?_ hS0 ?_
          rotate_left
          · (intro W hW; clear hW; go_simp; try with_reducible rfl)
          refine gTake 3 (v := ?_) rfl (by kernel_rfl) (by kernel_rfl) (by kernel_rfl) (fun _ _ _ h => h) (by kernel_rfl) ?_ hS0 ?_
          rotate_left
          · (intro W hW; have q0 := hW.1; have q1 := hW.2.1; have q2 := hW.2.2.1; have q3 := hW.2.2.2.1; clear hW; go_simp; try with_reducible rfl)
          refine gOne 4 rfl (by kernel_rfl) (by kernel_rfl) (fun K hK => ?_)
          go_simp
          go_at_call 127
          (with_reducible refine (l01Name_any s _ hs).mono ?_)
          rintro e w' ⟨rfl, rfl⟩
          try go_simp
          have hS1 := hS0
          refine hK _ _ hS1 ?_
          clear hK K
          refine gTake 5 (v := ?_) rfl (by kernel_rfl) (by kernel_rfl) (by kernel_rfl) (fun _ _ _ h => h) (by kernel_rfl) ?_ hS1 ?_
          rotate_left
          · (intro W hW; clear hW; go_simp; try with_reducible rfl)
          refine gTake 6 (v := ?_) rfl (by kernel_rfl) (by kernel_rfl) (by kernel_rfl) (fun _ _ _ h => h) (by kernel_rfl) ?_ hS1 ?_
          rotate_left
          · (intro W hW; clear hW; go_simp; try with_reducible rfl)
          refine gTake 7 (v := ?_) rfl (by kernel_rfl) (by kernel_rfl) (by kernel_rfl) (fun _ _ _ h => h) (by kernel_rfl) ?_ hS1 ?_
          rotate_left
          · (intro W hW; clear hW; go_simp; try with_reducible rfl)
          refine gTake 8 (v := ?_) rfl (by kernel_rfl) (by kernel_rfl) (by kernel_rfl) (fun _ _ _ h => h) (by kernel_rfl) ?_ hS1 ?_
          rotate_left
          · (intro W hW; clear hW; go_simp; try with_reducible rfl)
          refine gTake 9 (v := ?_) rfl (by kernel_rfl) (by kernel_rfl) (by kernel_rfl) (fun _ _ _ h => h) (by kernel_rfl) ?_ hS1 ?_
          rotate_left
          · (intro W hW; have q0 := hW.1; have q1 := hW.2.1; have q2 := hW.2.2.1; have q3 := hW.2.2.2.1; clear hW; go_simp; try with_reducible rfl)
          refine gOne 10 rfl (by kernel_rfl) (by kernel_rfl) (fun K hK => ?_)
          go_simp
          go_at_call 88
          (with_reducible refine (l00In_any _ _ _ _).mono ?_)
          rintro e w' ⟨rfl, rfl⟩
          try go_simp
          have hS2 := hS1
          refine hK _ _ hS2 ?_
          clear hK K
          refine gTake 11 (v := ?_) rfl (by kernel_rfl) (by kernel_rfl) (by kernel_rfl) (fun _ _ _ h => h) (by kernel_rfl) ?_ hS2 ?_
          rotate_left
          · (intro W hW; clear hW; go_simp; try with_reducible rfl)
          refine gTake 12 (v := ?_) rfl (by kernel_rfl) (by kernel_rfl) (by kernel_rfl) (fun _ _ _ h => h) (by kernel_rfl) ?_ hS2 ?_
          rotate_left
          · (intro W hW; clear hW; go_simp; try with_reducible rfl)
          refine gTake 13 (v := ?_) rfl (by kernel_rfl) (by kernel_rfl) (by kernel_rfl) (fun _ _ _ h => h) (by kernel_rfl) ?_ hS2 ?_
          rotate_left
          · (intro W hW; clear hW; go_simp; try with_reducible rfl)
          refine gTake 14 (v := ?_) rfl (by kernel_rfl) (by kernel_rfl) (by kernel_rfl) (fun _ _ _ h => h) (by kernel_rfl) ?_ hS2 ?_
          rotate_left
          · (intro W hW; clear hW; go_simp; try with_reducible rfl)
          refine gTake 15 (v := ?_) rfl (by kernel_rfl) (by kernel_rfl) (by kernel_rfl) (fun _ _ _ h => h) (by kernel_rfl) ?_ hS2 ?_
          rotate_left
          · (intro W hW; clear hW; go_simp; try with_reducible rfl)
          refine gTake 16 (v := ?_) rfl (by kernel_rfl) (by kernel_rfl) (by kernel_rfl) (fun _ _ _ h => h) (by kernel_rfl) ?_ hS2 ?_
          rotate_left
          · (intro W hW; have q0 := hW.1; have q1 := hW.2.1; have q2 := hW.2.2.1; have q3 := hW.2.2.2.1; clear hW; go_simp; try with_reducible rfl)
          refine gOne 17 rfl (by kernel_rfl) (by kernel_rfl) (fun K hK => ?_)
          go_simp
          go_at_call 87
          (with_reducible refine (l03Res_any _ _).mono ?_)
          rintro e w' ⟨rfl, rfl⟩
          try go_simp
          have hS3 := hS2
          refine hK _ _ hS3 ?_
          clear hK K
          refine gTake 18 (v := ?_) rfl (by kernel_rfl) (by kernel_rfl) (by kernel_rfl) (fun _ _ _ h => h) (by kernel_rfl) ?_ hS3 ?_
          rotate_left
          · (intro W hW; clear hW; go_simp; try with_reducible rfl)
          refine gTake 19 (v := ?_) rfl (by kernel_rfl) (by kernel_rfl) (by kernel_rfl) (fun _ _ _ h => h) (by kernel_rfl) ?_ hS3 ?_
          rotate_left
          · (intro W hW; clear hW; go_simp; try with_reducible rfl)
          refine gTake 20 (v := ?_) rfl (by kernel_rfl) (by kernel_rfl) (by kernel_rfl) (fun _ _ _ h => h) (by kernel_rfl) ?_ hS3 ?_
          rotate_left
          · (intro W hW; clear hW; go_simp; try with_reducible rfl)
          refine gTake 21 (v := ?_) rfl (by kernel_rfl) (by kernel_rfl) (by kernel_rfl) (fun _ _ _ h => h) (by kernel_rfl) ?_ hS3 ?_
          rotate_left
          · (intro W hW; clear hW; go_simp; try with_reducible rfl)
          refine gTake 22 (v := ?_) rfl (by kernel_rfl) (by kernel_rfl) (by kernel_rfl) (fun _ _ _ h => h) (by kernel_rfl) ?_ hS3 ?_
          rotate_left
          · (intro W hW; clear hW; go_simp; try with_reducible rfl)
          refine gTake 23 (v := ?_) rfl (by kernel_rfl) (by kernel_rfl) (by kernel_rfl) (fun _ _ _ h => h) (by kernel_rfl) ?_ hS3 ?_
          rotate_left
          · (intro W hW; have q0 := hW.1; have q1 := hW.2.1; have q2 := hW.2.2.1; have q3 := hW.2.2.2.1; clear hW; go_simp; try with_reducible rfl)
          refine gTake 24 (v := ?_) rfl (by kernel_rfl) (by kernel_rfl) (by kernel_rfl) (fun _ _ _ h => h) (by kernel_rfl) ?_ hS3 ?_
          rotate_left
          · (intro W hW; clear hW; go_simp; try with_reducible rfl)
          refine gTake 25 (v := ?_) rfl (by kernel_rfl) (by kernel_rfl) (by kernel_rfl) (fun _ _ _ h => h) (by kernel_rfl) ?_ hS3 ?_
          rotate_left
          · (intro W hW; clear hW; go_simp; try with_reducible rfl)
          refine gTake 26 (v := ?_) rfl (by kernel_rfl) (by kernel_rfl) (by kernel_rfl) (fun _ _ _ h => h) (by kernel_rfl) ?_ hS3 ?_
          rotate_left
          · (intro W hW; clear hW; go_simp; try with_reducible rfl)
          refine gTake 27 (v := ?_) rfl (by kernel_rfl) (by kernel_rfl) (by kernel_rfl) (fun _ _ _ h => h) (by kernel_rfl) ?_ hS3 ?_
          rotate_left
          · (intro W hW; have q0 := hW.1; have q1 := hW.2.1; have q2 := hW.2.2.1; have q3 := hW.2.2.2.1; clear hW; go_simp; try with_reducible rfl)
          refine gOne 28 rfl (by kernel_rfl) (by kernel_rfl) (fun K hK => ?_)
          go_simp
          go_at_call 88
          (with_reducible refine (l00In_any _ _ _ _).mono ?_)
          rintro e w' ⟨rfl, rfl⟩
          try go_simp
          have hS4 := hS3
          refine hK _ _ hS4 ?_
          clear hK K
          refine gTake 29 (v := ?_) rfl (by kernel_rfl) (by kernel_rfl) (by kernel_rfl) (fun _ _ _ h => h) (by kernel_rfl) ?_ hS4 ?_
          rotate_left
          · (intro W hW; clear hW; go_simp; try with_reducible rfl)
          refine gTake 30 (v := ?_) rfl (by kernel_rfl) (by kernel_rfl) (by kernel_rfl) (fun _ _ _ h => h) (by kernel_rfl) ?_ hS4 ?_
          rotate_left
          · (intro W hW; clear hW; go_simp; try with_reducible rfl)
          refine wpAnyH_done (by kernel_rfl) ?_ _
          go_simp
          go_wp2
          go_ret
          exact ⟨ret_bool (by first | exact HE.out.symm | (simp only [j3]; exact HE.out.symm)), hS4.2.2.2.2⟩
        · skip
          have HE := Lib.hid (show doOk s a op sh = true by simp [doOk, hn, j1, j2, j3])
          go_enter Try.func71, Try.ntmps71
          go_wp2_with fail
          refine wp_region_held (S := fun w' => w'.cell? ⟨b, o, none⟩ = some (.string s) ∧ w'.cell? ⟨b, o + 1, none⟩ = some (.int .i64 a) ∧ w'.cell? ⟨b, o + 2, none⟩ = some (.int .i64 op) ∧ w'.cell? ⟨b, o + 3, none⟩ = some (.int .i64 sh) ∧ Below w.heap.size w w') (by kernel_rfl) ?_
          try (change wpAnyH _ _ _ _ _ _ _ _ (World.drew _))
          have hS0 := (show w.drew.cell? ⟨b, o, none⟩ = some (.string s) ∧ w.drew.cell? ⟨b, o + 1, none⟩ = some (.int .i64 a) ∧ w.drew.cell? ⟨b, o + 2, none⟩ = some (.int .i64 op) ∧ w.drew.cell? ⟨b, o + 3, none⟩ = some (.int .i64 sh) ∧ Below w.heap.size w w.drew from ⟨c0, c1, c2, c3, Below.drew (Below.refl _ _)⟩)
          refine gTake 0 (v := ?_) rfl (by kernel_rfl) (by kernel_rfl) (by kernel_rfl) (fun _ _ _ h => h) (by kernel_rfl) ?_ hS0 ?_
          rotate_left
          · (intro W hW; clear hW; go_simp; try with_reducible rfl)
          refine gTake 1 (v := ?_) rfl (by kernel_rfl) (by kernel_rfl) (by kernel_rfl) (fun _ _ _ h => h) (by kernel_rfl) ?_ hS0 ?_
          rotate_left
          · (intro W hW; clear hW; go_simp; try with_reducible rfl)
          refine gTake 2 (v := ?_) rfl (by kernel_rfl) (by kernel_rfl) (by kernel_rfl) (fun _ _ _ h => h) (by kernel_rfl) ?_ hS0 ?_
          rotate_left
          · (intro W hW; clear hW; go_simp; try with_reducible rfl)
          refine gTake 3 (v := ?_) rfl (by kernel_rfl) (by kernel_rfl) (by kernel_rfl) (fun _ _ _ h => h) (by kernel_rfl) ?_ hS0 ?_
          rotate_left
          · (intro W hW; have q0 := hW.1; have q1 := hW.2.1; have q2 := hW.2.2.1; have q3 := hW.2.2.2.1; clear hW; go_simp; try with_reducible rfl)
          refine gOne 4 rfl (by kernel_rfl) (by kernel_rfl) (fun K hK => ?_)
          go_simp
          go_at_call 127
          (with_reducible refine (l01Name_any s _ hs).mono ?_)
          rintro e w' ⟨rfl, rfl⟩
          try go_simp
          have hS1 := hS0
          refine hK _ _ hS1 ?_
          clear hK K
          refine gTake 5 (v := ?_) rfl (by kernel_rfl) (by kernel_rfl) (by kernel_rfl) (fun _ _ _ h => h) (by kernel_rfl) ?_ hS1 ?_
          rotate_left
          · (intro W hW; clear hW; go_simp; try with_reducible rfl)
          refine gTake 6 (v := ?_) rfl (by kernel_rfl) (by kernel_rfl) (by kernel_rfl) (fun _ _ _ h => h) (by kernel_rfl) ?_ hS1 ?_
          rotate_left
          · (intro W hW; clear hW; go_simp; try with_reducible rfl)
          refine gTake 7 (v := ?_) rfl (by kernel_rfl) (by kernel_rfl) (by kernel_rfl) (fun _ _ _ h => h) (by kernel_rfl) ?_ hS1 ?_
          rotate_left
          · (intro W hW; clear hW; go_simp; try with_reducible rfl)
          refine gTake 8 (v := ?_) rfl (by kernel_rfl) (by kernel_rfl) (by kernel_rfl) (fun _ _ _ h => h) (by kernel_rfl) ?_ hS1 ?_
          rotate_left
          · (intro W hW; clear hW; go_simp; try with_reducible rfl)
          refine gTake 9 (v := ?_) rfl (by kernel_rfl) (by kernel_rfl) (by kernel_rfl) (fun _ _ _ h => h) (by kernel_rfl) ?_ hS1 ?_
          rotate_left
          · (intro W hW; have q0 := hW.1; have q1 := hW.2.1; have q2 := hW.2.2.1; have q3 := hW.2.2.2.1; clear hW; go_simp; try with_reducible rfl)
          refine gOne 10 rfl (by kernel_rfl) (by kernel_rfl) (fun K hK => ?_)
          go_simp
          go_at_call 88
          (with_reducible refine (l00In_any _ _ _ _).mono ?_)
          rintro e w' ⟨rfl, rfl⟩
          try go_simp
          have hS2 := hS1
          refine hK _ _ hS2 ?_
          clear hK K
          refine gTake 11 (v := ?_) rfl (by kernel_rfl) (by kernel_rfl) (by kernel_rfl) (fun _ _ _ h => h) (by kernel_rfl) ?_ hS2 ?_
          rotate_left
          · (intro W hW; clear hW; go_simp; try with_reducible rfl)
          refine gTake 12 (v := ?_) rfl (by kernel_rfl) (by kernel_rfl) (by kernel_rfl) (fun _ _ _ h => h) (by kernel_rfl) ?_ hS2 ?_
          rotate_left
          · (intro W hW; clear hW; go_simp; try with_reducible rfl)
          refine gTake 13 (v := ?_) rfl (by kernel_rfl) (by kernel_rfl) (by kernel_rfl) (fun _ _ _ h => h) (by kernel_rfl) ?_ hS2 ?_
          rotate_left
          · (intro W hW; clear hW; go_simp; try with_reducible rfl)
          refine gTake 14 (v := ?_) rfl (by kernel_rfl) (by kernel_rfl) (by kernel_rfl) (fun _ _ _ h => h) (by kernel_rfl) ?_ hS2 ?_
          rotate_left
          · (intro W hW; clear hW; go_simp; try with_reducible rfl)
          refine gTake 15 (v := ?_) rfl (by kernel_rfl) (by kernel_rfl) (by kernel_rfl) (fun _ _ _ h => h) (by kernel_rfl) ?_ hS2 ?_
          rotate_left
          · (intro W hW; clear hW; go_simp; try with_reducible rfl)
          refine gTake 16 (v := ?_) rfl (by kernel_rfl) (by kernel_rfl) (by kernel_rfl) (fun _ _ _ h => h) (by kernel_rfl) ?_ hS2 ?_
          rotate_left
          · (intro W hW; have q0 := hW.1; have q1 := hW.2.1; have q2 := hW.2.2.1; have q3 := hW.2.2.2.1; clear hW; go_simp; try with_reducible rfl)
          refine gOne 17 rfl (by kernel_rfl) (by kernel_rfl) (fun K hK => ?_)
          go_simp
          go_at_call 87
          (with_reducible refine (l03Res_any _ _).mono ?_)
          rintro e w' ⟨rfl, rfl⟩
          try go_simp
          have hS3 := hS2
          refine hK _ _ hS3 ?_
          clear hK K
          refine gTake 18 (v := ?_) rfl (by kernel_rfl) (by kernel_rfl) (by kernel_rfl) (fun _ _ _ h => h) (by kernel_rfl) ?_ hS3 ?_
          rotate_left
          · (intro W hW; clear hW; go_simp; try with_reducible rfl)
          refine gTake 19 (v := ?_) rfl (by kernel_rfl) (by kernel_rfl) (by kernel_rfl) (fun _ _ _ h => h) (by kernel_rfl) ?_ hS3 ?_
          rotate_left
          · (intro W hW; clear hW; go_simp; try with_reducible rfl)
          refine gTake 20 (v := ?_) rfl (by kernel_rfl) (by kernel_rfl) (by kernel_rfl) (fun _ _ _ h => h) (by kernel_rfl) ?_ hS3 ?_
          rotate_left
          · (intro W hW; clear hW; go_simp; try with_reducible rfl)
          refine gTake 21 (v := ?_) rfl (by kernel_rfl) (by kernel_rfl) (by kernel_rfl) (fun _ _ _ h => h) (by kernel_rfl) ?_ hS3 ?_
          rotate_left
          · (intro W hW; clear hW; go_simp; try with_reducible rfl)
          refine gTake 22 (v := ?_) rfl (by kernel_rfl) (by kernel_rfl) (by kernel_rfl) (fun _ _ _ h => h) (by kernel_rfl) ?_ hS3 ?_
          rotate_left
          · (intro W hW; clear hW; go_simp; try with_reducible rfl)
          refine gTake 23 (v := ?_) rfl (by kernel_rfl) (by kernel_rfl) (by kernel_rfl) (fun _ _ _ h => h) (by kernel_rfl) ?_ hS3 ?_
          rotate_left
          · (intro W hW; have q0 := hW.1; have q1 := hW.2.1; have q2 := hW.2.2.1; have q3 := hW.2.2.2.1; clear hW; go_simp; try with_reducible rfl)
          refine gTake 24 (v := ?_) rfl (by kernel_rfl) (by kernel_rfl) (by kernel_rfl) (fun _ _ _ h => h) (by kernel_rfl) ?_ hS3 ?_
          rotate_left
          · (intro W hW; clear hW; go_simp; try with_reducible rfl)
          refine gTake 25 (v := ?_) rfl (by kernel_rfl) (by kernel_rfl) (by kernel_rfl) (fun _ _ _ h => h) (by kernel_rfl) ?_ hS3 ?_
          rotate_left
          · (intro W hW; clear hW; go_simp; try with_reducible rfl)
          refine gTake 26 (v := ?_) rfl (by kernel_rfl) (by kernel_rfl) (by kernel_rfl) (fun _ _ _ h => h) (by kernel_rfl) ?_ hS3 ?_
          rotate_left
          · (intro W hW; clear hW; go_simp; try with_reducible rfl)
          refine gTake 27 (v := ?_) rfl (by kernel_rfl) (by kernel_rfl) (by kernel_rfl) (fun _ _ _ h => h) (by kernel_rfl) ?_ hS3 ?_
          rotate_left
          · (intro W hW; have q0 := hW.1; have q1 := hW.2.1; have q2 := hW.2.2.1; have q3 := hW.2.2.2.1; clear hW; go_simp; try with_reducible rfl)
          refine gOne 28 rfl (by kernel_rfl) (by kernel_rfl) (fun K hK => ?_)
          go_simp
          go_at_call 88
          (with_reducible refine (l00In_any _ _ _ _).mono ?_)
          rintro e w' ⟨rfl, rfl⟩
          try go_simp
          have hS4 := hS3
          refine hK _ _ hS4 ?_
          clear hK K
          refine gTake 29 (v := ?_) rfl (by kernel_rfl) (by kernel_rfl) (by kernel_rfl) (fun _ _ _ h => h) (by kernel_rfl) ?_ hS4 ?_
          rotate_left
          · (intro W hW; clear hW; go_simp; try with_reducible rfl)
          refine gTake 30 (v := ?_) rfl (by kernel_rfl) (by kernel_rfl) (by kernel_rfl) (fun _ _ _ h => h) (by kernel_rfl) ?_ hS4 ?_
          rotate_left
          · (intro W hW; clear hW; go_simp; try with_reducible rfl)
          refine wpAnyH_done (by kernel_rfl) ?_ _
          go_simp
          go_wp2
          go_ret
          exact ⟨ret_bool (by first | exact HE.out.symm | (simp only [hn, j1, j2, j3]; exact HE.out.symm)), hS4.2.2.2.2⟩
set_option maxHeartbeats 1000000 in
theorem iValidDoor_any (s : ByteArray) (a op sh : Int) (w : World) (hs : s.size ≤ maxLen) :
    Calls Try.prog 20 #[.agg #[.string s, .int .i64 a, .int .i64 op, .int .i64 sh]] w fun e w' => e = .returned (.bool (doOk s a op sh)) ∧ Below w.heap.size w w' := by
  cases hn : isNm s
  · skip
    have HE := Lib.hid (show doOk s a op sh = false by simp [doOk, hn])
    go_enter Try.func20, Try.ntmps20
    go_wp2_with fail
    (with_reducible refine (iIsName_any s _ hs).mono ?_)
    rintro e w1 ⟨rfl, hd⟩
    have HB1 := Lib.hid (show Below w.heap.size w w1 from (below_box _ _).trans (hd.mono (by simp)))
    have hz : w.heap.size < w1.heap.size := Nat.lt_of_lt_of_le (by simp) hd.size
    have k1 : w1.cell? ⟨w.heap.size, 1, none⟩ = some (.int .i64 a) := (hd.cell (by simp)).trans (by simp)
    have k2 : w1.cell? ⟨w.heap.size, 2, none⟩ = some (.int .i64 op) := (hd.cell (by simp)).trans (by simp)
    have k3 : w1.cell? ⟨w.heap.size, 3, none⟩ = some (.int .i64 sh) := (hd.cell (by simp)).trans (by simp)
    have hn1 : ¬ (w.heap.size = w1.heap.size) := by omega
    clear hd
    go_wp2
    go_ret
    exact ⟨ret_bool (by first | exact HE.out.symm | (simp only [hn]; exact HE.out.symm)), HB1.out⟩
  · by_cases h1 : 0 ≤ a ∧ a ≤ 23
    · have j1 := inB_true h1.1 h1.2
      by_cases h2 : 1 ≤ op ∧ op ≤ 1000000
      · have j2 := inB_true h2.1 h2.2
        by_cases h3 : op ≤ sh ∧ sh ≤ 1000000
        · have j3 := inB_true h3.1 h3.2
          have j4 : inB sh 1 1000000 = true := inB_true (by omega) h3.2
          have j5 : inB op 1 sh = true := inB_true h2.1 h3.1
          have HE := Lib.hid (show doOk s a op sh = true by simp [doOk, hn, j1, j2, j3, j4, j5])
          go_enter Try.func20, Try.ntmps20
          go_wp2_with fail
          (with_reducible refine (iIsName_any s _ hs).mono ?_)
          rintro e w1 ⟨rfl, hd⟩
          have HB1 := Lib.hid (show Below w.heap.size w w1 from (below_box _ _).trans (hd.mono (by simp)))
          have hz : w.heap.size < w1.heap.size := Nat.lt_of_lt_of_le (by simp) hd.size
          have k1 : w1.cell? ⟨w.heap.size, 1, none⟩ = some (.int .i64 a) := (hd.cell (by simp)).trans (by simp)
          have k2 : w1.cell? ⟨w.heap.size, 2, none⟩ = some (.int .i64 op) := (hd.cell (by simp)).trans (by simp)
          have k3 : w1.cell? ⟨w.heap.size, 3, none⟩ = some (.int .i64 sh) := (hd.cell (by simp)).trans (by simp)
          have hn1 : ¬ (w.heap.size = w1.heap.size) := by omega
          clear hd
          go_wp2_with fail
          (with_reducible refine (within64_one _ _ _ _ _ _ (by simp)).mono ?_)
          rintro e w' ⟨rfl, rfl⟩
          go_wp2_with fail
          (with_reducible refine (isResistance_any _ _).mono ?_)
          rintro e w2 ⟨rfl, hd⟩
          have HB2 := Lib.hid (show Below w.heap.size w w2 from (HB1.out.alloc HB1.out.size (.cells #[.int .i64 a] 2)).trans (hd.mono (HB1.out.alloc HB1.out.size (.cells #[.int .i64 a] 2)).size))
          have hz2 : w.heap.size < w2.heap.size := Nat.lt_of_lt_of_le (by simp; omega) hd.size
          have m2 : w2.cell? ⟨w.heap.size, 2, none⟩ = some (.int .i64 op) := (hd.cell (by simp; omega)).trans ((World.cell?_alloc_old _ _ _ hn1).trans k2)
          have m3 : w2.cell? ⟨w.heap.size, 3, none⟩ = some (.int .i64 sh) := (hd.cell (by simp; omega)).trans ((World.cell?_alloc_old _ _ _ hn1).trans k3)
          have hn2 : ¬ (w.heap.size = w2.heap.size) := by omega
          clear hd
          go_wp2_with fail
          (with_reducible refine (within64_one _ _ _ _ _ _ (by simp)).mono ?_)
          rintro e w' ⟨rfl, rfl⟩
          go_wp2
          go_ret
          exact ⟨ret_bool (by first | exact HE.out.symm | (simp only [hn, j1, j2, j3, j4, j5]; exact HE.out.symm)), (HB2.out.alloc HB2.out.size (.cells #[.int .i64 sh] 2))⟩
        · have j3 := inB_false h3
          have j6 : (inB sh 1 1000000 && inB op 1 sh) = false := by
            cases q1 : inB sh 1 1000000
            · rfl
            · have := inB_iff.1 q1
              exact inB_false (fun q => h3 ⟨q.2, this.2⟩)
          have HE := Lib.hid (show doOk s a op sh = false by simp [doOk, j6])
          go_enter Try.func20, Try.ntmps20
          go_wp2_with fail
          (with_reducible refine (iIsName_any s _ hs).mono ?_)
          rintro e w1 ⟨rfl, hd⟩
          have HB1 := Lib.hid (show Below w.heap.size w w1 from (below_box _ _).trans (hd.mono (by simp)))
          have hz : w.heap.size < w1.heap.size := Nat.lt_of_lt_of_le (by simp) hd.size
          have k1 : w1.cell? ⟨w.heap.size, 1, none⟩ = some (.int .i64 a) := (hd.cell (by simp)).trans (by simp)
          have k2 : w1.cell? ⟨w.heap.size, 2, none⟩ = some (.int .i64 op) := (hd.cell (by simp)).trans (by simp)
          have k3 : w1.cell? ⟨w.heap.size, 3, none⟩ = some (.int .i64 sh) := (hd.cell (by simp)).trans (by simp)
          have hn1 : ¬ (w.heap.size = w1.heap.size) := by omega
          clear hd
          go_wp2_with fail
          (with_reducible refine (within64_one _ _ _ _ _ _ (by simp)).mono ?_)
          rintro e w' ⟨rfl, rfl⟩
          go_wp2_with fail
          (with_reducible refine (isResistance_any _ _).mono ?_)
          rintro e w2 ⟨rfl, hd⟩
          have HB2 := Lib.hid (show Below w.heap.size w w2 from (HB1.out.alloc HB1.out.size (.cells #[.int .i64 a] 2)).trans (hd.mono (HB1.out.alloc HB1.out.size (.cells #[.int .i64 a] 2)).size))
          have hz2 : w.heap.size < w2.heap.size := Nat.lt_of_lt_of_le (by simp; omega) hd.size
          have m2 : w2.cell? ⟨w.heap.size, 2, none⟩ = some (.int .i64 op) := (hd.cell (by simp; omega)).trans ((World.cell?_alloc_old _ _ _ hn1).trans k2)
          have m3 : w2.cell? ⟨w.heap.size, 3, none⟩ = some (.int .i64 sh) := (hd.cell (by simp; omega)).trans ((World.cell?_alloc_old _ _ _ hn1).trans k3)
          have hn2 : ¬ (w.heap.size = w2.heap.size) := by omega
          clear hd
          go_wp2_with fail
          (with_reducible refine (within64_one _ _ _ _ _ _ (by simp)).mono ?_)
          rintro e w' ⟨rfl, rfl⟩
          go_wp2
          go_ret
          exact ⟨ret_bool (by first | exact HE.out.symm | (simp only [j6]; exact HE.out.symm)), (HB2.out.alloc HB2.out.size (.cells #[.int .i64 sh] 2))⟩
      · have j2 := inB_false h2
        have j6 : (inB sh 1 1000000 && inB op 1 sh) = false := by
          cases q1 : inB sh 1 1000000
          · rfl
          · have := inB_iff.1 q1
            exact inB_false (fun q => h2 ⟨q.1, by omega⟩)
        have HE := Lib.hid (show doOk s a op sh = false by simp [doOk, j6])
        go_enter Try.func20, Try.ntmps20
        go_wp2_with fail
        (with_reducible refine (iIsName_any s _ hs).mono ?_)
        rintro e w1 ⟨rfl, hd⟩
        have HB1 := Lib.hid (show Below w.heap.size w w1 from (below_box _ _).trans (hd.mono (by simp)))
        have hz : w.heap.size < w1.heap.size := Nat.lt_of_lt_of_le (by simp) hd.size
        have k1 : w1.cell? ⟨w.heap.size, 1, none⟩ = some (.int .i64 a) := (hd.cell (by simp)).trans (by simp)
        have k2 : w1.cell? ⟨w.heap.size, 2, none⟩ = some (.int .i64 op) := (hd.cell (by simp)).trans (by simp)
        have k3 : w1.cell? ⟨w.heap.size, 3, none⟩ = some (.int .i64 sh) := (hd.cell (by simp)).trans (by simp)
        have hn1 : ¬ (w.heap.size = w1.heap.size) := by omega
        clear hd
        go_wp2_with fail
        (with_reducible refine (within64_one _ _ _ _ _ _ (by simp)).mono ?_)
        rintro e w' ⟨rfl, rfl⟩
        go_wp2_with fail
        (with_reducible refine (isResistance_any _ _).mono ?_)
        rintro e w2 ⟨rfl, hd⟩
        have HB2 := Lib.hid (show Below w.heap.size w w2 from (HB1.out.alloc HB1.out.size (.cells #[.int .i64 a] 2)).trans (hd.mono (HB1.out.alloc HB1.out.size (.cells #[.int .i64 a] 2)).size))
        have hz2 : w.heap.size < w2.heap.size := Nat.lt_of_lt_of_le (by simp; omega) hd.size
        have m2 : w2.cell? ⟨w.heap.size, 2, none⟩ = some (.int .i64 op) := (hd.cell (by simp; omega)).trans ((World.cell?_alloc_old _ _ _ hn1).trans k2)
        have m3 : w2.cell? ⟨w.heap.size, 3, none⟩ = some (.int .i64 sh) := (hd.cell (by simp; omega)).trans ((World.cell?_alloc_old _ _ _ hn1).trans k3)
        have hn2 : ¬ (w.heap.size = w2.heap.size) := by omega
        clear hd
        go_wp2
        go_ret
        exact ⟨ret_bool (by first | exact HE.out.symm | (simp only [j6]; exact HE.out.symm)), HB2.out⟩
    · have j1 := inB_false h1
      have HE := Lib.hid (show doOk s a op sh = false by simp [doOk, j1])
      go_enter Try.func20, Try.ntmps20
      go_wp2_with fail
      (with_reducible refine (iIsName_any s _ hs).mono ?_)
      rintro e w1 ⟨rfl, hd⟩
      have HB1 := Lib.hid (show Below w.heap.size w w1 from (below_box _ _).trans (hd.mono (by simp)))
      have hz : w.heap.size < w1.heap.size := Nat.lt_of_lt_of_le (by simp) hd.size
      have k1 : w1.cell? ⟨w.heap.size, 1, none⟩ = some (.int .i64 a) := (hd.cell (by simp)).trans (by simp)
      have k2 : w1.cell? ⟨w.heap.size, 2, none⟩ = some (.int .i64 op) := (hd.cell (by simp)).trans (by simp)
      have k3 : w1.cell? ⟨w.heap.size, 3, none⟩ = some (.int .i64 sh) := (hd.cell (by simp)).trans (by simp)
      have hn1 : ¬ (w.heap.size = w1.heap.size) := by omega
      clear hd
      go_wp2_with fail
      (with_reducible refine (within64_one _ _ _ _ _ _ (by simp)).mono ?_)
      rintro e w' ⟨rfl, rfl⟩
      go_wp2
      go_ret
      exact ⟨ret_bool (by first | exact HE.out.symm | (simp only [j1]; exact HE.out.symm)), (HB1.out.alloc HB1.out.size (.cells #[.int .i64 a] 2))⟩
theorem sValidDoor_any (s : ByteArray) (a op sh : Int) (w : World) (hs : s.size ≤ maxLen) :
    Calls Try.prog 18 #[.agg #[.string s, .int .i64 a, .int .i64 op, .int .i64 sh]] w fun e w' => e = .returned (.bool (doOk s a op sh)) ∧ Below w.heap.size w w' := by
  go_enter Try.func18, Try.ntmps18
  go_wp2_with (go_at_call 71; refine (l10One_below w.heap.size 0 s a op sh _ hs (doBoxed s a op sh w)).mono ?_; rintro e w' ⟨rfl, hd⟩)
  go_ret
  exact ⟨rfl, (below_one _ _).trans (hd.mono (by simp))⟩
end Go.Proofs.Ytddfhjolimkkmaa
