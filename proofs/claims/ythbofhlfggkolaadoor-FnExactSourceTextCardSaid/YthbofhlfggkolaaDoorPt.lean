/-
  Contracts of the text of a Source; the model's and the program's. Conditions: those that each theorem states.
-/
import Derived.Test.YthbofhlfggkolaaDoorFn
import Derived.Test.YthbofhlfggkolaaDoorPe
namespace Go.Proofs.YthbofhlfggkolaaDoor
open Go.RowKit
set_option linter.unusedVariables false
set_option linter.unusedSimpArgs false

/-- What SourceText returns. -/
def gtT (s : ByteArray) (a r : Int) : ByteArray := if soOk s a r then s ++ ⟨#[32]⟩ ++ ⟨(commas [a, r]).toArray⟩ else ⟨#[]⟩
theorem isNm_size {s : ByteArray} (h : isNm s = true) : s.size ≤ 10 := by
  simp only [isNm, Bool.and_eq_true, decide_eq_true_eq] at h
  exact h.1.1.2
theorem gt_in {s : ByteArray} {a r : Int} (hok : soOk s a r = true) : fitsL [a, r] = true := by
  rw [fitsL_iff]
  obtain ⟨_, ⟨b1, b2⟩, b3, b4⟩ := soOk_bd hok
  refine ⟨fun y hy => ?_, by simp⟩
  simp only [List.mem_cons, List.not_mem_nil, or_false] at hy
  rcases hy with rfl | rfl <;> omega
theorem gtLt {w : World} {b : Nat} {s : ByteArray} {a r : Int} (h : SaAt w b s a r) : b < w.heap.size := World.block_lt_of_cell? _ _ h.1
theorem gtkeepT {w w' : World} {b : Nat} {s : ByteArray} {a r : Int} (h : SaAt w b s a r) (hb : Below w.heap.size w w') : SaAt w' b s a r := h.below hb (gtLt h)
set_option maxHeartbeats 2000000 in
theorem l13Text_any (b : Nat) (s : ByteArray) (a r : Int) (w : World) (hok : soOk s a r = true) (hc : SaAt w b s a r) :
    Calls Tryd.prog 33 #[.pointer (some ⟨b, 0, none⟩)] w fun e w' => e = .returned (.string (s ++ ⟨#[32]⟩ ++ ⟨(commas [a, r]).toArray⟩)) ∧ Below w.heap.size w w' := by
  have hs := isNm_size (soOk_bd hok).1
  have hfi := gt_in hok
  obtain ⟨hr, -⟩ := fitsL_iff.1 hfi
  have hl := commas_len [a, r] (fun y hy => by have := hr y hy; omega)
  have HL := Lib.hid (fun v W (hrow : Row .i64 W v [a, r]) => l01List_any v [a, r] W hrow (by simp) (by simp) (fun y hy => by have := hr y hy; omega))
  obtain ⟨L, hL⟩ : ∃ L, commas [a, r] = L := ⟨_, rfl⟩
  rw [hL] at hl HL ⊢
  clear hL hr hfi
  have hl2 : (⟨L.toArray⟩ : ByteArray).size ≤ 2000 := by
    have : L.length ≤ 2000 := by simp at hl; omega
    show L.toArray.size ≤ 2000; simpa using this
  have hs2 : (s ++ (⟨#[32]⟩ : ByteArray)).size ≤ 11 := by rw [ByteArray.size_append]; show s.size + 1 ≤ 11; omega
  have e1 := str_add (x := s) (y := ⟨#[32]⟩) (by show s.size + 1 ≤ 100000; omega)
  have e2 := str_add (x := s ++ ⟨#[32]⟩) (y := ⟨L.toArray⟩) (by omega)
  have e3 : binOp .add 9 (.string s) (.string ⟨#[32]⟩) = pure (.string (s ++ ⟨#[32]⟩)) := (binOp_string_add _ _ _).trans e1
  have e4 : binOp .add 9 (.string (s ++ ⟨#[32]⟩)) (.string ⟨L.toArray⟩) = pure (.string (s ++ ⟨#[32]⟩ ++ ⟨L.toArray⟩)) := (binOp_string_add _ _ _).trans e2
  have HR1 := Lib.hid (show Row .i64 (w.alloc (.cells #[.int .i64 a, .int .i64 r] 2)).drew (.slice (some ⟨w.heap.size, 0, none⟩) 2 2) [a, r] from row_alloc .i64 w [a, r] 2 2)
  have HC := Lib.hid hc
  have hz := gtLt hc
  obtain ⟨c0, c1, c2⟩ := hc
  go_enter Tryd.func33, Tryd.ntmps33
  go_wp2_with fail
  refine wp_region_held (S := fun w' => w'.cell? ⟨b, 0, none⟩ = some (.string s) ∧ w'.cell? ⟨b, 1, none⟩ = some (.int .i64 a) ∧ w'.cell? ⟨b, 2, none⟩ = some (.int .i64 r) ∧ Below w.heap.size w w') (by kernel_rfl) ?_
  try (change wpAnyH _ _ _ _ _ _ _ _ (World.drew _))
  have hS0 := (show w.drew.cell? ⟨b, 0, none⟩ = some (.string s) ∧ w.drew.cell? ⟨b, 1, none⟩ = some (.int .i64 a) ∧ w.drew.cell? ⟨b, 2, none⟩ = some (.int .i64 r) ∧ Below w.heap.size w w.drew from ⟨c0, c1, c2, Below.drew (Below.refl _ _)⟩)
  refine gTake 0 (v := ?_) rfl (by kernel_rfl) (by kernel_rfl) (by kernel_rfl) (fun _ _ _ h => h) (by kernel_rfl) ?_ hS0 ?_
  rotate_left
  · (intro W hW; clear hW; go_simp; try with_reducible rfl)
  refine gTake 1 (v := ?_) rfl (by kernel_rfl) (by kernel_rfl) (by kernel_rfl) (fun _ _ _ h => h) (by kernel_rfl) ?_ hS0 ?_
  rotate_left
  · (intro W hW; clear hW; go_simp; try with_reducible rfl)
  refine gTake 2 (v := ?_) rfl (by kernel_rfl) (by kernel_rfl) (by kernel_rfl) (fun _ _ _ h => h) (by kernel_rfl) ?_ hS0 ?_
  rotate_left
  · (intro W hW; clear hW; go_simp; try with_reducible rfl)
  refine gTake 3 (v := ?_) rfl (by kernel_rfl) (by kernel_rfl) (by kernel_rfl) (fun _ _ _ h => h) (by kernel_rfl) ?_ hS0 ?_
  rotate_left
  · (intro W hW; have q0 := hW.1; have q1 := hW.2.1; have q2 := hW.2.2.1; clear hW; go_simp; try with_reducible rfl)
  refine gTake 4 (v := ?_) rfl (by kernel_rfl) (by kernel_rfl) (by kernel_rfl) (fun _ _ _ h => h) (by kernel_rfl) ?_ hS0 ?_
  rotate_left
  · (intro W hW; clear hW; go_simp; try with_reducible rfl)
  refine gTake 5 (v := ?_) rfl (by kernel_rfl) (by kernel_rfl) (by kernel_rfl) (fun _ _ _ h => h) (by kernel_rfl) ?_ hS0 ?_
  rotate_left
  · (intro W hW; clear hW; go_simp; try with_reducible rfl)
  refine gTake 6 (v := ?_) rfl (by kernel_rfl) (by kernel_rfl) (by kernel_rfl) (fun _ _ _ h => h) (by kernel_rfl) ?_ hS0 ?_
  rotate_left
  · (intro W hW; clear hW; go_simp; try with_reducible rfl)
  refine gTake 7 (v := ?_) rfl (by kernel_rfl) (by kernel_rfl) (by kernel_rfl) (fun _ _ _ h => h) (by kernel_rfl) ?_ hS0 ?_
  rotate_left
  · (intro W hW; clear hW; go_simp; try with_reducible rfl)
  refine gTake 8 (v := ?_) rfl (by kernel_rfl) (by kernel_rfl) (by kernel_rfl) (fun _ _ _ h => h) (by kernel_rfl) ?_ hS0 ?_
  rotate_left
  · (intro W hW; have q0 := hW.1; have q1 := hW.2.1; have q2 := hW.2.2.1; clear hW; go_simp; try with_reducible rfl)
  refine gTake 9 (v := ?_) rfl (by kernel_rfl) (by kernel_rfl) (by kernel_rfl) (fun _ _ _ h => h) (by kernel_rfl) ?_ hS0 ?_
  rotate_left
  · (intro W hW; clear hW; go_simp; try with_reducible rfl)
  refine gTake 10 (v := ?_) rfl (by kernel_rfl) (by kernel_rfl) (by kernel_rfl) (fun _ _ _ h => h) (by kernel_rfl) ?_ hS0 ?_
  rotate_left
  · (intro W hW; clear hW; go_simp; try with_reducible rfl)
  refine gTake 11 (v := ?_) rfl (by kernel_rfl) (by kernel_rfl) (by kernel_rfl) (fun _ _ _ h => h) (by kernel_rfl) ?_ hS0 ?_
  rotate_left
  · (intro W hW; clear hW; go_simp; try with_reducible rfl)
  refine gTake 12 (v := ?_) rfl (by kernel_rfl) (by kernel_rfl) (by kernel_rfl) (fun _ _ _ h => h) (by kernel_rfl) ?_ hS0 ?_
  rotate_left
  · (intro W hW; have q0 := hW.1; have q1 := hW.2.1; have q2 := hW.2.2.1; clear hW; go_simp; try with_reducible rfl)
  refine gOne 13 rfl (by kernel_rfl) (by kernel_rfl) (fun K hK => ?_)
  go_simp
  skip
  have hS1 := (show (w.alloc (.cells #[.int .i64 a, .int .i64 r] 2)).drew.cell? ⟨b, 0, none⟩ = some (.string s) ∧ (w.alloc (.cells #[.int .i64 a, .int .i64 r] 2)).drew.cell? ⟨b, 1, none⟩ = some (.int .i64 a) ∧ (w.alloc (.cells #[.int .i64 a, .int .i64 r] 2)).drew.cell? ⟨b, 2, none⟩ = some (.int .i64 r) ∧ Below w.heap.size w (w.alloc (.cells #[.int .i64 a, .int .i64 r] 2)).drew from by have qq := HC.out.below (Below.drew (below_box w (.cells #[.int .i64 a, .int .i64 r] 2))) hz; exact ⟨qq.1, qq.2.1, qq.2.2, (Below.drew (below_box w (.cells #[.int .i64 a, .int .i64 r] 2)))⟩)
  refine hK _ _ hS1 ?_
  clear hK K
  refine gOne 14 rfl (by kernel_rfl) (by kernel_rfl) (fun K hK => ?_)
  go_simp
  go_at_call 57
  (with_reducible refine (HL.out _ _ HR1.out).mono ?_)
  rintro e w2 ⟨he, hd2⟩
  obtain rfl : e = .returned (.string ⟨L.toArray⟩) := he
  try go_simp
  have hS2 := (show w2.cell? ⟨b, 0, none⟩ = some (.string s) ∧ w2.cell? ⟨b, 1, none⟩ = some (.int .i64 a) ∧ w2.cell? ⟨b, 2, none⟩ = some (.int .i64 r) ∧ Below w.heap.size w w2 from by have qq := SaAt.below (show SaAt _ b s a r from ⟨hS1.1, hS1.2.1, hS1.2.2.1⟩) hd2 (Nat.lt_of_lt_of_le hz hS1.2.2.2.size); exact ⟨qq.1, qq.2.1, qq.2.2, hS1.2.2.2.trans (hd2.mono hS1.2.2.2.size)⟩)
  refine hK _ _ hS2 ?_
  clear hK K
  refine gTake 15 (v := ?_) rfl (by kernel_rfl) (by kernel_rfl) (by kernel_rfl) (fun _ _ _ h => h) (by kernel_rfl) ?_ hS2 ?_
  rotate_left
  · (intro W hW; clear hW; go_simp; try with_reducible rfl)
  refine gTake 16 (v := ?_) rfl (by kernel_rfl) (by kernel_rfl) (by kernel_rfl) (fun _ _ _ h => h) (by kernel_rfl) ?_ hS2 ?_
  rotate_left
  · (intro W hW; clear hW; go_simp; try with_reducible rfl)
  refine wpAnyH_done (by kernel_rfl) ?_ _
  go_simp
  go_wp2
  go_ret
  exact ⟨rfl, hS2.2.2.2⟩
theorem sSourceText_any (s : ByteArray) (a r : Int) (w : World) (hs : s.size ≤ maxLen)  :
    Calls Tryd.prog 9 #[.agg #[.string s, .int .i64 a, .int .i64 r]] w fun e w' => e = .returned (.string (gtT s a r)) ∧ Below w.heap.size w w' := by
  cases hok : soOk s a r
  · have HE := Lib.hid (show gtT s a r = ⟨#[]⟩ by simp [gtT, hok])
    go_enter Tryd.func9, Tryd.ntmps9
    go_wp2_with (first
          | (go_at_call 32; (with_reducible refine (l13One_below w.heap.size 0 s a r (w.alloc (.cells #[.string s, .int .i64 a, .int .i64 r] 26)) hs (saBoxed s a r w).at).mono ?_); rintro e w1 ⟨rfl, hd1⟩; have hb1 := hd1; obtain ⟨hc1, hf1⟩ := bcell hb1; have hz1 : w.heap.size < w1.heap.size := Nat.lt_of_lt_of_le (by first | (simp; done) | (simp; omega)) hb1.size; clear hd1))
    go_ret
    exact ⟨by rw [HE.out]; rfl, (show Below w.heap.size w w1 from (below_box _ _).trans (hb1.mono (by simp)))⟩
  · have HE := Lib.hid (show gtT s a r = s ++ ⟨#[32]⟩ ++ ⟨(commas [a, r]).toArray⟩ by simp [gtT, hok])
    have HOK := Lib.hid hok
    go_enter Tryd.func9, Tryd.ntmps9
    go_wp2_with (first
          | (go_at_call 32; (with_reducible refine (l13One_below w.heap.size 0 s a r (w.alloc (.cells #[.string s, .int .i64 a, .int .i64 r] 26)) hs (saBoxed s a r w).at).mono ?_); rintro e w1 ⟨rfl, hd1⟩; have hb1 := hd1; obtain ⟨hc1, hf1⟩ := bcell hb1; have hz1 : w.heap.size < w1.heap.size := Nat.lt_of_lt_of_le (by first | (simp; done) | (simp; omega)) hb1.size; clear hd1)
          | (go_at_call 33; (with_reducible refine (l13Text_any w.heap.size s a r w1 HOK.out ((saBoxed s a r w).below hb1 (by simp))).mono ?_); rintro e w2 ⟨rfl, hd2⟩; have hb2 := hb1.trans (hd2.mono hb1.size); obtain ⟨hc2, hf2⟩ := bcell hb2; have hz2 : w.heap.size < w2.heap.size := Nat.lt_of_lt_of_le (by first | (simp; done) | (simp; omega)) hb2.size; clear hd2))
    go_ret
    exact ⟨by rw [HE.out]; rfl, (show Below w.heap.size w w2 from (below_box _ _).trans (hb2.mono (by simp)))⟩
set_option maxHeartbeats 2000000 in
theorem iSourceText_any (s : ByteArray) (a r : Int) (w : World) (hs : s.size ≤ maxLen)  (hP : Pow w) :
    Calls Tryd.prog 11 #[.agg #[.string s, .int .i64 a, .int .i64 r]] w fun e w' => e = .returned (.string (gtT s a r)) ∧ Below w.heap.size w w' := by
  have HP := Lib.hid hP
  clear hP
  cases hok : soOk s a r
  · have HE := Lib.hid (show gtT s a r = ⟨#[]⟩ by simp [gtT, hok])
    go_enter Tryd.func11, Tryd.ntmps11
    go_wp2_with (first
          | (go_at_call 34; (with_reducible refine (soValid_any s a r (w.alloc (.cells #[.string s, .int .i64 a, .int .i64 r] 26)) hs).mono ?_); rintro e w1 ⟨rfl, hd1⟩; have hb1 := hd1; obtain ⟨hc1, hf1⟩ := bcell hb1; have hz1 : w.heap.size < w1.heap.size := Nat.lt_of_lt_of_le (by first | (simp; done) | (simp; omega)) hb1.size; clear hd1))
    go_ret
    exact ⟨by rw [HE.out]; rfl, (show Below w.heap.size w w1 from (below_box _ _).trans (hb1.mono (by simp)))⟩
  · have HE := Lib.hid (show gtT s a r = s ++ ⟨#[32]⟩ ++ ⟨(commas [a, r]).toArray⟩ by simp [gtT, hok])
    have hsz := isNm_size (soOk_bd hok).1
    have HF := Lib.hid (gt_in hok)
    have HN := Lib.hid (fun W g (hrow : Row .i64 W (.slice (some ⟨g, 0, none⟩) 2 2) [a, r]) (hP : Pow W) => namedText_any s _ [a, r] W hsz hrow HF.out (by simp) hP (by intro a m c e; cases e; exact Nat.le_refl _))
    obtain ⟨L, hL⟩ : ∃ L, commas [a, r] = L := ⟨_, rfl⟩
    rw [hL] at HE HN
    clear hL
    go_enter Tryd.func11, Tryd.ntmps11
    go_wp2_with (first
          | (go_at_call 34; (with_reducible refine (soValid_any s a r (w.alloc (.cells #[.string s, .int .i64 a, .int .i64 r] 26)) hs).mono ?_); rintro e w1 ⟨rfl, hd1⟩; have hb1 := hd1; obtain ⟨hc1, hf1⟩ := bcell hb1; have hz1 : w.heap.size < w1.heap.size := Nat.lt_of_lt_of_le (by first | (simp; done) | (simp; omega)) hb1.size; clear hd1))
    have hB := (show Below w.heap.size w w1 from (below_box _ _).trans (hb1.mono (by simp)))
    have HC := Lib.hid ((saBoxed s a r w).below hb1 (by simp))
    have hz := gtLt HC.out
    have HP1 := Lib.hid (HP.out.below hB)
    have HR1 := Lib.hid (show Row .i64 (w1.alloc (.cells #[.int .i64 a, .int .i64 r] 2)) (.slice (some ⟨w1.heap.size, 0, none⟩) 2 2) [a, r] from row_alloc .i64 w1 [a, r] 2 2)
    (with_reducible refine (HN.out _ _ HR1.out (HP1.out.below (below_box w1 (.cells #[.int .i64 a, .int .i64 r] 2)))).mono ?_)
    rintro e w2 ⟨rfl, hd2⟩
    go_wp2
    go_ret
    exact ⟨by rw [HE.out]; rfl, (hB.alloc hB.size (.cells #[.int .i64 a, .int .i64 r] 2)).trans (hd2.mono (hB.alloc hB.size (.cells #[.int .i64 a, .int .i64 r] 2)).size)⟩
end Go.Proofs.YthbofhlfggkolaaDoor
