/-
  Contracts of the text of a Dusting; the model's and the program's. Conditions: those that each theorem states.
-/
import Derived.Test.YtnlkikdgffaeeaaDoorSc
import Derived.Test.YtnlkikdgffaeeaaDoorQe
import Derived.Test.YtnlkikdgffaeeaaDoorRg
namespace Go.Proofs.YtnlkikdgffaeeaaDoor
open Go.RowKit
set_option linter.unusedVariables false
set_option linter.unusedSimpArgs false

/-- What DustingText returns. -/
def tkT (aw fr un du : Int) : List UInt8 := if tkOk aw fr un du then commas [aw, fr, un, du] else []
theorem tk_in {aw fr un du : Int} (hok : tkOk aw fr un du = true) : fitsL [aw, fr, un, du] = true := by
  rw [fitsL_iff]
  obtain ⟨⟨⟨b1, b2⟩, ⟨b3, b4⟩, b5, b6⟩, b7, b8⟩ := tkOk_bd hok
  refine ⟨fun y hy => ?_, by simp⟩
  simp only [List.mem_cons, List.not_mem_nil, or_false] at hy
  rcases hy with rfl | rfl | rfl | rfl <;> omega
theorem tkkeepT {w w' : World} {b : Nat} {aw fr un du : Int} (h : w.cell? ⟨b, 0, none⟩ = some (.int .i64 aw) ∧ w.cell? ⟨b, 1, none⟩ = some (.int .i64 fr) ∧ w.cell? ⟨b, 2, none⟩ = some (.int .i64 un) ∧ w.cell? ⟨b, 3, none⟩ = some (.int .i64 du)) (hb : Below w.heap.size w w') : w'.cell? ⟨b, 0, none⟩ = some (.int .i64 aw) ∧ w'.cell? ⟨b, 1, none⟩ = some (.int .i64 fr) ∧ w'.cell? ⟨b, 2, none⟩ = some (.int .i64 un) ∧ w'.cell? ⟨b, 3, none⟩ = some (.int .i64 du) := ⟨cellK h.1 hb, cellK h.2.1 hb, cellK h.2.2.1 hb, cellK h.2.2.2 hb⟩
set_option maxHeartbeats 2000000 in
theorem l14Text_any (b : Nat) (aw fr un du : Int) (w : World) (hok : tkOk aw fr un du = true) (hc : w.cell? ⟨b, 0, none⟩ = some (.int .i64 aw) ∧ w.cell? ⟨b, 1, none⟩ = some (.int .i64 fr) ∧ w.cell? ⟨b, 2, none⟩ = some (.int .i64 un) ∧ w.cell? ⟨b, 3, none⟩ = some (.int .i64 du)) :
    Calls Tryd.prog 12 #[.pointer (some ⟨b, 0, none⟩)] w fun e w' => e = .returned (.string ⟨(commas [aw, fr, un, du]).toArray⟩) ∧ Below w.heap.size w w' := by
  have hfi := tk_in hok
  obtain ⟨hr, -⟩ := fitsL_iff.1 hfi
  have HL := Lib.hid (fun v W (hrow : Row .i64 W v [aw, fr, un, du]) => l01List_any v [aw, fr, un, du] W hrow (by simp) (by simp) (fun y hy => by have := hr y hy; omega))
  obtain ⟨L, hL⟩ : ∃ L, commas [aw, fr, un, du] = L := ⟨_, rfl⟩
  rw [hL] at HL ⊢
  clear hL hr hfi
  have HR1 := Lib.hid (show Row .i64 (w.alloc (.cells #[.int .i64 aw, .int .i64 fr, .int .i64 un, .int .i64 du] 2)).drew (.slice (some ⟨w.heap.size, 0, none⟩) 4 4) [aw, fr, un, du] from row_alloc .i64 w [aw, fr, un, du] 2 4)
  obtain ⟨c0, c1, c2, c3⟩ := hc
  go_enter Tryd.func12, Tryd.ntmps12
  go_wp2_with fail
  refine wp_region_held (S := fun w' => w'.cell? ⟨b, 0, none⟩ = some (.int .i64 aw) ∧ w'.cell? ⟨b, 1, none⟩ = some (.int .i64 fr) ∧ w'.cell? ⟨b, 2, none⟩ = some (.int .i64 un) ∧ w'.cell? ⟨b, 3, none⟩ = some (.int .i64 du) ∧ Below w.heap.size w w') (by kernel_rfl) ?_
  try (change wpAnyH _ _ _ _ _ _ _ _ (World.drew _))
  have hS0 := (show w.drew.cell? ⟨b, 0, none⟩ = some (.int .i64 aw) ∧ w.drew.cell? ⟨b, 1, none⟩ = some (.int .i64 fr) ∧ w.drew.cell? ⟨b, 2, none⟩ = some (.int .i64 un) ∧ w.drew.cell? ⟨b, 3, none⟩ = some (.int .i64 du) ∧ Below w.heap.size w w.drew from ⟨c0, c1, c2, c3, Below.drew (Below.refl _ _)⟩)
  refine gTake 0 (v := ?_) rfl (by kernel_rfl) (by kernel_rfl) (by kernel_rfl) (fun _ _ _ h => h) (by kernel_rfl) ?_ hS0 ?_
  rotate_left
  · (intro W hW; clear hW; go_simp; try with_reducible rfl)
  refine gTake 1 (v := ?_) rfl (by kernel_rfl) (by kernel_rfl) (by kernel_rfl) (fun _ _ _ h => h) (by kernel_rfl) ?_ hS0 ?_
  rotate_left
  · (intro W hW; clear hW; go_simp; try with_reducible rfl)
  refine gTake 2 (v := ?_) rfl (by kernel_rfl) (by kernel_rfl) (by kernel_rfl) (fun _ _ _ h => h) (by kernel_rfl) ?_ hS0 ?_
  rotate_left
  · (intro W hW; clear hW; go_simp; try with_reducible rfl)
  refine gTake 3 (v := ?_) rfl (by kernel_rfl) (by kernel_rfl) (by kernel_rfl) (fun _ _ _ h => h) (by kernel_rfl) ?_ hS0 ?_
  rotate_left
  · (intro W hW; have q0 := hW.1; have q1 := hW.2.1; have q2 := hW.2.2.1; have q3 := hW.2.2.2.1; clear hW; go_simp; try with_reducible rfl)
  refine gTake 4 (v := ?_) rfl (by kernel_rfl) (by kernel_rfl) (by kernel_rfl) (fun _ _ _ h => h) (by kernel_rfl) ?_ hS0 ?_
  rotate_left
  · (intro W hW; clear hW; go_simp; try with_reducible rfl)
  refine gTake 5 (v := ?_) rfl (by kernel_rfl) (by kernel_rfl) (by kernel_rfl) (fun _ _ _ h => h) (by kernel_rfl) ?_ hS0 ?_
  rotate_left
  · (intro W hW; clear hW; go_simp; try with_reducible rfl)
  refine gTake 6 (v := ?_) rfl (by kernel_rfl) (by kernel_rfl) (by kernel_rfl) (fun _ _ _ h => h) (by kernel_rfl) ?_ hS0 ?_
  rotate_left
  · (intro W hW; clear hW; go_simp; try with_reducible rfl)
  refine gTake 7 (v := ?_) rfl (by kernel_rfl) (by kernel_rfl) (by kernel_rfl) (fun _ _ _ h => h) (by kernel_rfl) ?_ hS0 ?_
  rotate_left
  · (intro W hW; have q0 := hW.1; have q1 := hW.2.1; have q2 := hW.2.2.1; have q3 := hW.2.2.2.1; clear hW; go_simp; try with_reducible rfl)
  refine gTake 8 (v := ?_) rfl (by kernel_rfl) (by kernel_rfl) (by kernel_rfl) (fun _ _ _ h => h) (by kernel_rfl) ?_ hS0 ?_
  rotate_left
  · (intro W hW; clear hW; go_simp; try with_reducible rfl)
  refine gTake 9 (v := ?_) rfl (by kernel_rfl) (by kernel_rfl) (by kernel_rfl) (fun _ _ _ h => h) (by kernel_rfl) ?_ hS0 ?_
  rotate_left
  · (intro W hW; clear hW; go_simp; try with_reducible rfl)
  refine gTake 10 (v := ?_) rfl (by kernel_rfl) (by kernel_rfl) (by kernel_rfl) (fun _ _ _ h => h) (by kernel_rfl) ?_ hS0 ?_
  rotate_left
  · (intro W hW; clear hW; go_simp; try with_reducible rfl)
  refine gTake 11 (v := ?_) rfl (by kernel_rfl) (by kernel_rfl) (by kernel_rfl) (fun _ _ _ h => h) (by kernel_rfl) ?_ hS0 ?_
  rotate_left
  · (intro W hW; have q0 := hW.1; have q1 := hW.2.1; have q2 := hW.2.2.1; have q3 := hW.2.2.2.1; clear hW; go_simp; try with_reducible rfl)
  refine gTake 12 (v := ?_) rfl (by kernel_rfl) (by kernel_rfl) (by kernel_rfl) (fun _ _ _ h => h) (by kernel_rfl) ?_ hS0 ?_
  rotate_left
  · (intro W hW; clear hW; go_simp; try with_reducible rfl)
  refine gTake 13 (v := ?_) rfl (by kernel_rfl) (by kernel_rfl) (by kernel_rfl) (fun _ _ _ h => h) (by kernel_rfl) ?_ hS0 ?_
  rotate_left
  · (intro W hW; clear hW; go_simp; try with_reducible rfl)
  refine gTake 14 (v := ?_) rfl (by kernel_rfl) (by kernel_rfl) (by kernel_rfl) (fun _ _ _ h => h) (by kernel_rfl) ?_ hS0 ?_
  rotate_left
  · (intro W hW; clear hW; go_simp; try with_reducible rfl)
  refine gTake 15 (v := ?_) rfl (by kernel_rfl) (by kernel_rfl) (by kernel_rfl) (fun _ _ _ h => h) (by kernel_rfl) ?_ hS0 ?_
  rotate_left
  · (intro W hW; have q0 := hW.1; have q1 := hW.2.1; have q2 := hW.2.2.1; have q3 := hW.2.2.2.1; clear hW; go_simp; try with_reducible rfl)
  refine gOne 16 rfl (by kernel_rfl) (by kernel_rfl) (fun K hK => ?_)
  go_simp
  skip
  have hS1 := (show (w.alloc (.cells #[.int .i64 aw, .int .i64 fr, .int .i64 un, .int .i64 du] 2)).drew.cell? ⟨b, 0, none⟩ = some (.int .i64 aw) ∧ (w.alloc (.cells #[.int .i64 aw, .int .i64 fr, .int .i64 un, .int .i64 du] 2)).drew.cell? ⟨b, 1, none⟩ = some (.int .i64 fr) ∧ (w.alloc (.cells #[.int .i64 aw, .int .i64 fr, .int .i64 un, .int .i64 du] 2)).drew.cell? ⟨b, 2, none⟩ = some (.int .i64 un) ∧ (w.alloc (.cells #[.int .i64 aw, .int .i64 fr, .int .i64 un, .int .i64 du] 2)).drew.cell? ⟨b, 3, none⟩ = some (.int .i64 du) ∧ Below w.heap.size w (w.alloc (.cells #[.int .i64 aw, .int .i64 fr, .int .i64 un, .int .i64 du] 2)).drew from by have q := tkkeepT (show w.cell? ⟨b, 0, none⟩ = some (.int .i64 aw) ∧ w.cell? ⟨b, 1, none⟩ = some (.int .i64 fr) ∧ w.cell? ⟨b, 2, none⟩ = some (.int .i64 un) ∧ w.cell? ⟨b, 3, none⟩ = some (.int .i64 du) from ⟨c0, c1, c2, c3⟩) (Below.drew (below_box w (.cells #[.int .i64 aw, .int .i64 fr, .int .i64 un, .int .i64 du] 2))); exact ⟨q.1, q.2.1, q.2.2.1, q.2.2.2, Below.drew (below_box w (.cells #[.int .i64 aw, .int .i64 fr, .int .i64 un, .int .i64 du] 2))⟩)
  refine hK _ _ hS1 ?_
  clear hK K
  refine gOne 17 rfl (by kernel_rfl) (by kernel_rfl) (fun K hK => ?_)
  go_simp
  go_at_call 21
  (with_reducible refine (HL.out _ _ HR1.out).mono ?_)
  rintro e w2 ⟨he, hd2⟩
  obtain rfl : e = .returned (.string ⟨L.toArray⟩) := he
  try go_simp
  have hS2 := (show w2.cell? ⟨b, 0, none⟩ = some (.int .i64 aw) ∧ w2.cell? ⟨b, 1, none⟩ = some (.int .i64 fr) ∧ w2.cell? ⟨b, 2, none⟩ = some (.int .i64 un) ∧ w2.cell? ⟨b, 3, none⟩ = some (.int .i64 du) ∧ Below w.heap.size w w2 from by have q := tkkeepT (show (w.alloc (.cells #[.int .i64 aw, .int .i64 fr, .int .i64 un, .int .i64 du] 2)).drew.cell? ⟨b, 0, none⟩ = some (.int .i64 aw) ∧ (w.alloc (.cells #[.int .i64 aw, .int .i64 fr, .int .i64 un, .int .i64 du] 2)).drew.cell? ⟨b, 1, none⟩ = some (.int .i64 fr) ∧ (w.alloc (.cells #[.int .i64 aw, .int .i64 fr, .int .i64 un, .int .i64 du] 2)).drew.cell? ⟨b, 2, none⟩ = some (.int .i64 un) ∧ (w.alloc (.cells #[.int .i64 aw, .int .i64 fr, .int .i64 un, .int .i64 du] 2)).drew.cell? ⟨b, 3, none⟩ = some (.int .i64 du) from ⟨hS1.1, hS1.2.1, hS1.2.2.1, hS1.2.2.2.1⟩) hd2; exact ⟨q.1, q.2.1, q.2.2.1, q.2.2.2, hS1.2.2.2.2.trans (hd2.mono hS1.2.2.2.2.size)⟩)
  refine hK _ _ hS2 ?_
  clear hK K
  refine gTake 18 (v := ?_) rfl (by kernel_rfl) (by kernel_rfl) (by kernel_rfl) (fun _ _ _ h => h) (by kernel_rfl) ?_ hS2 ?_
  rotate_left
  · (intro W hW; clear hW; go_simp; try with_reducible rfl)
  refine wpAnyH_done (by kernel_rfl) ?_ _
  go_simp
  go_wp2
  go_ret
  exact ⟨rfl, hS2.2.2.2.2⟩
set_option maxHeartbeats 1000000 in
theorem sDustingText_any (aw fr un du : Int) (w : World) :
    Calls Tryd.prog 5 #[.agg #[.int .i64 aw, .int .i64 fr, .int .i64 un, .int .i64 du]] w fun e w' => e = .returned (.string ⟨(tkT aw fr un du).toArray⟩) ∧ Below w.heap.size w w' := by
  skip
  skip
  cases hok : tkOk aw fr un du
  · have HE := Lib.hid (show tkT aw fr un du = [] by simp [tkT, hok])
    go_enter Tryd.func5, Tryd.ntmps5
    go_wp2_with fail
    (with_reducible refine (l14One_below w.heap.size 0 aw fr un du (w.alloc (.cells #[.int .i64 aw, .int .i64 fr, .int .i64 un, .int .i64 du] 25)) (by unfold TkAt; simp)).mono ?_)
    rintro e w1 ⟨rfl, hd⟩
    rw [hok]
    have HB1 := Lib.hid (show Below w.heap.size w w1 from (below_box _ _).trans (hd.mono (by simp)))
    have k0 : w1.cell? ⟨w.heap.size, 0, none⟩ = some (.int .i64 aw) := (hd.cell (by simp)).trans (by simp)
    have k1 : w1.cell? ⟨w.heap.size, 1, none⟩ = some (.int .i64 fr) := (hd.cell (by simp)).trans (by simp)
    have k2 : w1.cell? ⟨w.heap.size, 2, none⟩ = some (.int .i64 un) := (hd.cell (by simp)).trans (by simp)
    have k3 : w1.cell? ⟨w.heap.size, 3, none⟩ = some (.int .i64 du) := (hd.cell (by simp)).trans (by simp)
    clear hd
    go_wp2
    go_ret
    exact ⟨by rw [HE.out]; rfl, HB1.out⟩
  · have HE := Lib.hid (show tkT aw fr un du = commas [aw, fr, un, du] by simp [tkT, hok])
    have HOK := Lib.hid hok
    have HX := Lib.hid (fun (W : World) (h : W.cell? ⟨w.heap.size, 0, none⟩ = some (.int .i64 aw) ∧ W.cell? ⟨w.heap.size, 1, none⟩ = some (.int .i64 fr) ∧ W.cell? ⟨w.heap.size, 2, none⟩ = some (.int .i64 un) ∧ W.cell? ⟨w.heap.size, 3, none⟩ = some (.int .i64 du)) => l14Text_any w.heap.size aw fr un du W hok h)
    rw [← HE.out] at HX
    generalize tkT aw fr un du = L at *
    clear HE
    go_enter Tryd.func5, Tryd.ntmps5
    go_wp2_with fail
    (with_reducible refine (l14One_below w.heap.size 0 aw fr un du (w.alloc (.cells #[.int .i64 aw, .int .i64 fr, .int .i64 un, .int .i64 du] 25)) (by unfold TkAt; simp)).mono ?_)
    rintro e w1 ⟨rfl, hd⟩
    rw [hok]
    have HB1 := Lib.hid (show Below w.heap.size w w1 from (below_box _ _).trans (hd.mono (by simp)))
    have k0 : w1.cell? ⟨w.heap.size, 0, none⟩ = some (.int .i64 aw) := (hd.cell (by simp)).trans (by simp)
    have k1 : w1.cell? ⟨w.heap.size, 1, none⟩ = some (.int .i64 fr) := (hd.cell (by simp)).trans (by simp)
    have k2 : w1.cell? ⟨w.heap.size, 2, none⟩ = some (.int .i64 un) := (hd.cell (by simp)).trans (by simp)
    have k3 : w1.cell? ⟨w.heap.size, 3, none⟩ = some (.int .i64 du) := (hd.cell (by simp)).trans (by simp)
    clear hd
    go_wp2_with fail
    (with_reducible refine (HX.out w1 ⟨k0, k1, k2, k3⟩).mono ?_)
    rintro e w2 ⟨he, hd⟩
    obtain rfl : e = .returned (.string ⟨L.toArray⟩) := he
    have HB2 := Lib.hid (HB1.out.trans (hd.mono HB1.out.size))
    clear hd
    go_wp2
    go_ret
    exact ⟨rfl, HB2.out⟩
set_option maxHeartbeats 1000000 in
theorem iDustingText_any (aw fr un du : Int) (w : World) (hP : Pow w) :
    Calls Tryd.prog 7 #[.agg #[.int .i64 aw, .int .i64 fr, .int .i64 un, .int .i64 du]] w fun e w' => e = .returned (.string ⟨(tkT aw fr un du).toArray⟩) ∧ Below w.heap.size w w' := by
  have HP := Lib.hid hP
  clear hP
  cases hok : tkOk aw fr un du
  · have HE := Lib.hid (show tkT aw fr un du = [] by simp [tkT, hok])
    go_enter Tryd.func7, Tryd.ntmps7
    go_wp2_with fail
    (with_reducible refine (iValidDusting_any aw fr un du _).mono ?_)
    rintro e w1 ⟨rfl, hd⟩
    rw [hok]
    have HB1 := Lib.hid (show Below w.heap.size w w1 from (below_box _ _).trans (hd.mono (by simp)))
    have k0 : w1.cell? ⟨w.heap.size, 0, none⟩ = some (.int .i64 aw) := (hd.cell (by simp)).trans (by simp)
    have k1 : w1.cell? ⟨w.heap.size, 1, none⟩ = some (.int .i64 fr) := (hd.cell (by simp)).trans (by simp)
    have k2 : w1.cell? ⟨w.heap.size, 2, none⟩ = some (.int .i64 un) := (hd.cell (by simp)).trans (by simp)
    have k3 : w1.cell? ⟨w.heap.size, 3, none⟩ = some (.int .i64 du) := (hd.cell (by simp)).trans (by simp)
    clear hd
    go_wp2
    go_ret
    exact ⟨by rw [HE.out]; rfl, HB1.out⟩
  · have HE := Lib.hid (show tkT aw fr un du = commas [aw, fr, un, du] by simp [tkT, hok])
    have HOK := Lib.hid hok
    have HL := Lib.hid (show listT [aw, fr, un, du] = tkT aw fr un du by unfold listT; rw [if_pos (tk_in hok), if_neg (by simp), HE.out])
    have HI := Lib.hid (fun (W : World) (h : Below w.heap.size w W) => iListText_any (.slice (some ⟨W.heap.size, 0, none⟩) 4 4) [aw, fr, un, du] (W.alloc (.cells #[.int .i64 aw, .int .i64 fr, .int .i64 un, .int .i64 du] 2)) (row_alloc .i64 W [aw, fr, un, du] 2 4) (by simp) (HP.out.below (h.alloc h.size _)) (fun A n c e => by injection e with e1 e2 e3; omega))
    rw [HL.out] at HI
    generalize tkT aw fr un du = L at *
    clear HL HE
    go_enter Tryd.func7, Tryd.ntmps7
    go_wp2_with fail
    (with_reducible refine (iValidDusting_any aw fr un du _).mono ?_)
    rintro e w1 ⟨rfl, hd⟩
    rw [hok]
    have HB1 := Lib.hid (show Below w.heap.size w w1 from (below_box _ _).trans (hd.mono (by simp)))
    have k0 : w1.cell? ⟨w.heap.size, 0, none⟩ = some (.int .i64 aw) := (hd.cell (by simp)).trans (by simp)
    have k1 : w1.cell? ⟨w.heap.size, 1, none⟩ = some (.int .i64 fr) := (hd.cell (by simp)).trans (by simp)
    have k2 : w1.cell? ⟨w.heap.size, 2, none⟩ = some (.int .i64 un) := (hd.cell (by simp)).trans (by simp)
    have k3 : w1.cell? ⟨w.heap.size, 3, none⟩ = some (.int .i64 du) := (hd.cell (by simp)).trans (by simp)
    clear hd
    go_wp2_with fail
    (with_reducible refine (HI.out w1 HB1.out).mono ?_)
    rintro e w2 ⟨he, hd⟩
    obtain rfl : e = .returned (.string ⟨L.toArray⟩) := he
    have HB2 := Lib.hid (HB1.out.trans ((below_box _ _).trans (hd.mono (by simp)) |>.mono HB1.out.size))
    clear hd
    go_wp2
    go_ret
    exact ⟨rfl, HB2.out⟩
end Go.Proofs.YtnlkikdgffaeeaaDoor
