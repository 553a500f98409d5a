/-
  Contracts of ReadAirway: the model's and the program's; the laws' comparison of an airway with itself. Conditions: those that each theorem states.
-/
import Derived.Test.YtkbgfajkcdjjiabDoorNm
namespace Go.Proofs.YtkbgfajkcdjjiabDoor
open Go.RowKit
set_option linter.unusedVariables false
set_option linter.unusedSimpArgs false

theorem at_world {Q : World → Prop} {W : World} (R : World → Prop) (hR : R W) (h : ∀ W, R W → Q W) : Q W := h W hR
theorem tower7 {w : World} {b : Nat} {v0 v1 v2 v3 v4 v5 v6 : Value} (o : Obj) (hb : b < w.heap.size) (h : ∀ j : Nat, j < 7 → (w.cell? ⟨b, j, none⟩).isSome = true) : ((((((((w.setCell ⟨b, 0, none⟩ v0).setCell ⟨b, 1, none⟩ v1).setCell ⟨b, 2, none⟩ v2).setCell ⟨b, 3, none⟩ v3).setCell ⟨b, 4, none⟩ v4).setCell ⟨b, 5, none⟩ v5).setCell ⟨b, 6, none⟩ v6).alloc o).cell? ⟨b, 0, none⟩ = some v0 ∧ ((((((((w.setCell ⟨b, 0, none⟩ v0).setCell ⟨b, 1, none⟩ v1).setCell ⟨b, 2, none⟩ v2).setCell ⟨b, 3, none⟩ v3).setCell ⟨b, 4, none⟩ v4).setCell ⟨b, 5, none⟩ v5).setCell ⟨b, 6, none⟩ v6).alloc o).cell? ⟨b, 1, none⟩ = some v1 ∧ ((((((((w.setCell ⟨b, 0, none⟩ v0).setCell ⟨b, 1, none⟩ v1).setCell ⟨b, 2, none⟩ v2).setCell ⟨b, 3, none⟩ v3).setCell ⟨b, 4, none⟩ v4).setCell ⟨b, 5, none⟩ v5).setCell ⟨b, 6, none⟩ v6).alloc o).cell? ⟨b, 2, none⟩ = some v2 ∧ ((((((((w.setCell ⟨b, 0, none⟩ v0).setCell ⟨b, 1, none⟩ v1).setCell ⟨b, 2, none⟩ v2).setCell ⟨b, 3, none⟩ v3).setCell ⟨b, 4, none⟩ v4).setCell ⟨b, 5, none⟩ v5).setCell ⟨b, 6, none⟩ v6).alloc o).cell? ⟨b, 3, none⟩ = some v3 ∧ ((((((((w.setCell ⟨b, 0, none⟩ v0).setCell ⟨b, 1, none⟩ v1).setCell ⟨b, 2, none⟩ v2).setCell ⟨b, 3, none⟩ v3).setCell ⟨b, 4, none⟩ v4).setCell ⟨b, 5, none⟩ v5).setCell ⟨b, 6, none⟩ v6).alloc o).cell? ⟨b, 4, none⟩ = some v4 ∧ ((((((((w.setCell ⟨b, 0, none⟩ v0).setCell ⟨b, 1, none⟩ v1).setCell ⟨b, 2, none⟩ v2).setCell ⟨b, 3, none⟩ v3).setCell ⟨b, 4, none⟩ v4).setCell ⟨b, 5, none⟩ v5).setCell ⟨b, 6, none⟩ v6).alloc o).cell? ⟨b, 5, none⟩ = some v5 ∧ ((((((((w.setCell ⟨b, 0, none⟩ v0).setCell ⟨b, 1, none⟩ v1).setCell ⟨b, 2, none⟩ v2).setCell ⟨b, 3, none⟩ v3).setCell ⟨b, 4, none⟩ v4).setCell ⟨b, 5, none⟩ v5).setCell ⟨b, 6, none⟩ v6).alloc o).cell? ⟨b, 6, none⟩ = some v6 := by
  have h0 := h 0 (by omega)
  have h1 := h 1 (by omega)
  have h2 := h 2 (by omega)
  have h3 := h 3 (by omega)
  have h4 := h 4 (by omega)
  have h5 := h 5 (by omega)
  have h6 := h 6 (by omega)
  have hbt : b < (((((((w.setCell ⟨b, 0, none⟩ v0).setCell ⟨b, 1, none⟩ v1).setCell ⟨b, 2, none⟩ v2).setCell ⟨b, 3, none⟩ v3).setCell ⟨b, 4, none⟩ v4).setCell ⟨b, 5, none⟩ v5).setCell ⟨b, 6, none⟩ v6).heap.size := by simpa using hb
  refine ⟨?_, ?_, ?_, ?_, ?_, ?_, ?_⟩ <;> rw [World.cell?_alloc_past _ _ _ hbt] <;> first | (simp [go_sem, h0, h1, h2, h3, h4, h5, h6]; done) | (simp [World.cell?_setCell_other, World.cell?_setCell_same', h0, h1, h2, h3, h4, h5, h6]; done)
theorem name_ne {s : ByteArray} (h : isNm s = true) : (s.toList == (⟨#[]⟩ : ByteArray).toList) = false := by
  have h1 : 1 ≤ s.size := by
    unfold isNm at h
    simp only [Bool.and_eq_true, decide_eq_true_eq] at h
    exact h.1.1.1
  rw [ByteArray.toList_eq, ByteArray.toList_eq]
  refine beq_false_of_ne fun e => ?_
  have h2 : s.data.toList.length = s.size := by simp
  rw [e] at h2
  simp at h2
  omega
theorem alc7 {X : World} {b : Nat} {x0 x1 x2 x3 x4 x5 x6 : Value} {t : TypeId} (h : X.heap.size = b) : (X.alloc (.cells #[x0, x1, x2, x3, x4, x5, x6] t)).cell? ⟨b, 0, none⟩ = some x0 ∧ (X.alloc (.cells #[x0, x1, x2, x3, x4, x5, x6] t)).cell? ⟨b, 1, none⟩ = some x1 ∧ (X.alloc (.cells #[x0, x1, x2, x3, x4, x5, x6] t)).cell? ⟨b, 2, none⟩ = some x2 ∧ (X.alloc (.cells #[x0, x1, x2, x3, x4, x5, x6] t)).cell? ⟨b, 3, none⟩ = some x3 ∧ (X.alloc (.cells #[x0, x1, x2, x3, x4, x5, x6] t)).cell? ⟨b, 4, none⟩ = some x4 ∧ (X.alloc (.cells #[x0, x1, x2, x3, x4, x5, x6] t)).cell? ⟨b, 5, none⟩ = some x5 ∧ (X.alloc (.cells #[x0, x1, x2, x3, x4, x5, x6] t)).cell? ⟨b, 6, none⟩ = some x6 := by
  subst h
  exact ⟨by simp, by simp, by simp, by simp, by simp, by simp, by simp⟩
theorem sReadAirway_any (s : ByteArray) (w : World) (hs : s.size ≤ 1048576) : Calls Tryd.prog 34 #[.string s] w fun e w' => e = .returned (.tuple #[.agg #[.string (awS s.data.toList), .int .i64 (awV s.data.toList 0), .int .i64 (awV s.data.toList 1), .int .i64 (awV s.data.toList 2), .int .i64 (awV s.data.toList 3), .int .i64 (awV s.data.toList 4), .int .i64 (awV s.data.toList 5)], .bool (awRd s.data.toList)]) ∧ Below w.heap.size w w' := by
  have HS := Lib.hid (fun W => sL03Read_any s W hs)
  clear hs
  obtain ⟨r, hr⟩ : ∃ r, awRd s.data.toList = r := ⟨_, rfl⟩
  obtain ⟨u, hu⟩ : ∃ u, awV s.data.toList = u := ⟨_, rfl⟩
  obtain ⟨x, hx⟩ : ∃ x, awS s.data.toList = x := ⟨_, rfl⟩
  rw [hr, hu, hx] at HS ⊢
  clear hr hu hx
  go_enter Tryd.func34, Tryd.ntmps34
  go_wp2_with fail
  refine (HS.out _).mono ?_
  rintro e w1 ⟨rfl, hb⟩
  have HB := Lib.hid (show Below w.heap.size w w1 from (below_box _ _).trans (hb.mono (by simp)))
  obtain ⟨hc, hf⟩ := bcell hb
  have hz : w.heap.size < w1.heap.size := Nat.lt_of_lt_of_le (by simp) hb.size
  clear hb
  go_wp2
  refine bodyPost_ret (v := .tuple #[.agg #[.string x, .int .i64 (u 0), .int .i64 (u 1), .int .i64 (u 2), .int .i64 (u 3), .int .i64 (u 4), .int .i64 (u 5)], .bool r]) (by simp [results, Tryd.results34, go_sem, hc]) rfl ⟨rfl, ?_⟩
  exact (by repeat (first | (with_reducible exact HB.out) | (with_reducible refine below_drewN' ?_ _) | (with_reducible refine Below.drew ?_) | (with_reducible refine Below.alloc ?_ (by first | omega | (simp <;> omega)) _) | (with_reducible refine Below.setCell ?_ (by simp) _)))
theorem eqAw_same (s : ByteArray) (f t l se fr sh : Int) (w : World) :
    Calls Tryd.prog 36 #[.agg #[.string s, .int .i64 f, .int .i64 t, .int .i64 l, .int .i64 se, .int .i64 fr, .int .i64 sh], .agg #[.string s, .int .i64 f, .int .i64 t, .int .i64 l, .int .i64 se, .int .i64 fr, .int .i64 sh]] w fun e w' => e = .returned (.bool true) ∧ Below w.heap.size w w' := by
  go_enter Tryd.func36, Tryd.ntmps36
  go_wp2
  go_ret
  exact ⟨rfl, (by repeat (first | (with_reducible exact Below.refl _ _) | (with_reducible refine below_drewN' ?_ _) | (with_reducible refine Below.alloc ?_ (by simp <;> omega) _) | (with_reducible refine Below.setCell ?_ (by simp) _)))⟩
set_option maxHeartbeats 2000000 in
theorem iReadAirway_any (s : ByteArray) (w : World) (hs : s.size ≤ 1048576) (hP : Pow w) (hE : ErrV w) (hM : MaxV w) : Calls Tryd.prog 35 #[.string s] w fun e w' => e = .returned (.tuple #[.agg #[.string (awS s.data.toList), .int .i64 (awV s.data.toList 0), .int .i64 (awV s.data.toList 1), .int .i64 (awV s.data.toList 2), .int .i64 (awV s.data.toList 3), .int .i64 (awV s.data.toList 4), .int .i64 (awV s.data.toList 5)], .bool (awRd s.data.toList)]) ∧ Below w.heap.size w w' := by
  have HS := Lib.hid (fun W (h : Below w.heap.size w W) => airwayIn_any s W hs (hP.below h) (hE.below h) (hM.below h))
  clear hs hP hE hM
  rcases aw_cases s.data.toList with ⟨hr, hS, hv, -⟩ | ⟨f, t, l, se, fr, sh, -, -, hok, hr, hS, h0, h1, h2, h3, h4, h5⟩
  · rw [hr, hS, hv 0, hv 1, hv 2, hv 3, hv 4, hv 5]
    rw [hS, hv 0, hv 1, hv 2, hv 3, hv 4, hv 5] at HS
    clear hr hS hv
    go_enter Tryd.func35, Tryd.ntmps35
    go_wp2_with fail
    refine (HS.out _ (below_box _ _)).mono ?_
    rintro e w1 ⟨rfl, hb⟩
    have HB := Lib.hid (show Below w.heap.size w w1 from (below_box _ _).trans (hb.mono (by simp)))
    obtain ⟨hc, hf⟩ := bcell hb
    have hz : w.heap.size < w1.heap.size := Nat.lt_of_lt_of_le (by simp) hb.size
    have hn1 : ¬ (w.heap.size = w1.heap.size) := by omega
    have hn2 : ¬ (w1.heap.size = w.heap.size) := by omega
    clear hb
    go_wp2_with fail
    refine wp_region_held (S := fun w' => w'.cell? ⟨w1.heap.size, 0, none⟩ = some (.string ⟨#[]⟩) ∧ w'.cell? ⟨w1.heap.size, 1, none⟩ = some (.int .i64 0) ∧ w'.cell? ⟨w1.heap.size, 2, none⟩ = some (.int .i64 0) ∧ w'.cell? ⟨w1.heap.size, 3, none⟩ = some (.int .i64 0) ∧ w'.cell? ⟨w1.heap.size, 4, none⟩ = some (.int .i64 0) ∧ w'.cell? ⟨w1.heap.size, 5, none⟩ = some (.int .i64 0) ∧ w'.cell? ⟨w1.heap.size, 6, none⟩ = some (.int .i64 0)) (by kernel_rfl) ?_
    try (change wpAnyH _ _ _ _ _ _ _ _ (World.drew _))
    have hS0 := (show (w1.alloc (.cells #[.string ⟨#[]⟩, .int .i64 0, .int .i64 0, .int .i64 0, .int .i64 0, .int .i64 0, .int .i64 0] 53)).drew.cell? ⟨w1.heap.size, 0, none⟩ = some (.string ⟨#[]⟩) ∧ (w1.alloc (.cells #[.string ⟨#[]⟩, .int .i64 0, .int .i64 0, .int .i64 0, .int .i64 0, .int .i64 0, .int .i64 0] 53)).drew.cell? ⟨w1.heap.size, 1, none⟩ = some (.int .i64 0) ∧ (w1.alloc (.cells #[.string ⟨#[]⟩, .int .i64 0, .int .i64 0, .int .i64 0, .int .i64 0, .int .i64 0, .int .i64 0] 53)).drew.cell? ⟨w1.heap.size, 2, none⟩ = some (.int .i64 0) ∧ (w1.alloc (.cells #[.string ⟨#[]⟩, .int .i64 0, .int .i64 0, .int .i64 0, .int .i64 0, .int .i64 0, .int .i64 0] 53)).drew.cell? ⟨w1.heap.size, 3, none⟩ = some (.int .i64 0) ∧ (w1.alloc (.cells #[.string ⟨#[]⟩, .int .i64 0, .int .i64 0, .int .i64 0, .int .i64 0, .int .i64 0, .int .i64 0] 53)).drew.cell? ⟨w1.heap.size, 4, none⟩ = some (.int .i64 0) ∧ (w1.alloc (.cells #[.string ⟨#[]⟩, .int .i64 0, .int .i64 0, .int .i64 0, .int .i64 0, .int .i64 0, .int .i64 0] 53)).drew.cell? ⟨w1.heap.size, 5, none⟩ = some (.int .i64 0) ∧ (w1.alloc (.cells #[.string ⟨#[]⟩, .int .i64 0, .int .i64 0, .int .i64 0, .int .i64 0, .int .i64 0, .int .i64 0] 53)).drew.cell? ⟨w1.heap.size, 6, none⟩ = some (.int .i64 0) from ⟨by simp, by simp, by simp, by simp, by simp, by simp, by simp⟩)
    refine gTake 0 (v := ?_) rfl (by kernel_rfl) (by kernel_rfl) (by kernel_rfl) (fun _ _ _ h => h) (by kernel_rfl) ?_ hS0 ?_
    rotate_left
    · (intro W hW; have q0 := hW.1; have q1 := hW.2.1; have q2 := hW.2.2.1; have q3 := hW.2.2.2.1; have q4 := hW.2.2.2.2.1; have q5 := hW.2.2.2.2.2.1; have q6 := hW.2.2.2.2.2.2; clear hW; go_simp; try with_reducible rfl)
    refine gTake 1 (v := ?_) rfl (by kernel_rfl) (by kernel_rfl) (by kernel_rfl) (fun _ _ _ h => h) (by kernel_rfl) ?_ hS0 ?_
    rotate_left
    · (intro W hW; have q0 := hW.1; have q1 := hW.2.1; have q2 := hW.2.2.1; have q3 := hW.2.2.2.1; have q4 := hW.2.2.2.2.1; have q5 := hW.2.2.2.2.2.1; have q6 := hW.2.2.2.2.2.2; clear hW; go_simp; try with_reducible rfl)
    refine gTake 2 (v := ?_) rfl (by kernel_rfl) (by kernel_rfl) (by kernel_rfl) (fun _ _ _ h => h) (by kernel_rfl) ?_ hS0 ?_
    rotate_left
    · (intro W hW; clear hW; go_simp; try with_reducible rfl)
    refine gTake 3 (v := ?_) rfl (by kernel_rfl) (by kernel_rfl) (by kernel_rfl) (fun _ _ _ h => h) (by kernel_rfl) ?_ hS0 ?_
    rotate_left
    · (intro W hW; clear hW; go_simp; try with_reducible rfl)
    refine gOne 4 rfl (by kernel_rfl) (by kernel_rfl) (fun K hK => ?_)
    go_simp
    skip
    refine viaS (hK _ _) ?_ (fun hS1 => ?_)
    · exact ⟨by simp [hn1, hn2]; exact (alc7 (by simp)).1, by simp [hn1, hn2]; exact (alc7 (by simp)).2.1, by simp [hn1, hn2]; exact (alc7 (by simp)).2.2.1, by simp [hn1, hn2]; exact (alc7 (by simp)).2.2.2.1, by simp [hn1, hn2]; exact (alc7 (by simp)).2.2.2.2.1, by simp [hn1, hn2]; exact (alc7 (by simp)).2.2.2.2.2.1, by simp [hn1, hn2]; exact (alc7 (by simp)).2.2.2.2.2.2⟩
    clear hK K
    refine gTake 5 (v := ?_) rfl (by kernel_rfl) (by kernel_rfl) (by kernel_rfl) (fun _ _ _ h => h) (by kernel_rfl) ?_ hS1 ?_
    rotate_left
    · (intro W hW; clear hW; go_simp; try with_reducible rfl)
    refine wpAnyH_done (by kernel_rfl) ?_ _
    go_simp
    apply_assumption
    have hcs : ∀ j : Nat, j < 7 → (w1.cell? ⟨w.heap.size, j, none⟩).isSome = true := fun j hj => by
      rw [hc _ _ (by simp)]
      rcases j with _ | _ | _ | _ | _ | _ | _ | j <;> first | (simp; done) | omega
    refine at_world (Q := fun W' => Code.wp _ Code.ret _ _ W') (fun W' => W'.cell? ⟨w.heap.size, 0, none⟩ = some (.string ⟨#[]⟩) ∧ W'.cell? ⟨w.heap.size, 1, none⟩ = some (.int .i64 0) ∧ W'.cell? ⟨w.heap.size, 2, none⟩ = some (.int .i64 0) ∧ W'.cell? ⟨w.heap.size, 3, none⟩ = some (.int .i64 0) ∧ W'.cell? ⟨w.heap.size, 4, none⟩ = some (.int .i64 0) ∧ W'.cell? ⟨w.heap.size, 5, none⟩ = some (.int .i64 0) ∧ W'.cell? ⟨w.heap.size, 6, none⟩ = some (.int .i64 0) ∧ Below w.heap.size w W') ?_ ?_
    · exact ⟨by simp; exact (tower7 _ hz hcs).1, by simp; exact (tower7 _ hz hcs).2.1, by simp; exact (tower7 _ hz hcs).2.2.1, by simp; exact (tower7 _ hz hcs).2.2.2.1, by simp; exact (tower7 _ hz hcs).2.2.2.2.1, by simp; exact (tower7 _ hz hcs).2.2.2.2.2.1, by simp; exact (tower7 _ hz hcs).2.2.2.2.2.2, (by repeat (first | (with_reducible exact HB.out) | (with_reducible refine below_drewN' ?_ _) | (with_reducible refine Below.drew ?_) | (with_reducible refine Below.alloc ?_ (by first | omega | (simp <;> omega)) _) | (with_reducible refine Below.setCell ?_ (by simp) _)))⟩
    rintro W' ⟨r0, r1, r2, r3, r4, r5, r6, hB⟩
    go_wp2
    refine bodyPost_ret (v := .tuple #[.agg #[.string ⟨#[]⟩, .int .i64 0, .int .i64 0, .int .i64 0, .int .i64 0, .int .i64 0, .int .i64 0], .bool false]) (by simp [results, Tryd.results35, go_sem, r0, r1, r2, r3, r4, r5, r6]) rfl ⟨rfl, hB⟩
  · rw [hr, hS, h0, h1, h2, h3, h4, h5]
    rw [hS, h0, h1, h2, h3, h4, h5] at HS
    have hq1 : ((cutA s.data.toList).toList == (⟨#[]⟩ : ByteArray).toList) = false := name_ne (awOk_bd hok).1.1
    have hq2 : ((cutA s.data.toList).toList == []) = false := by have h := hq1; rw [show (⟨#[]⟩ : ByteArray).toList = [] by rw [ByteArray.toList_eq]] at h; exact h
    have hq3 : ¬ (cutA s.data.toList).toList = [] := by intro h; rw [h] at hq2; cases hq2
    clear hr hS h0 h1 h2 h3 h4 h5 hok
    generalize cutA s.data.toList = x at *
    go_enter Tryd.func35, Tryd.ntmps35
    go_wp2_with fail
    refine (HS.out _ (below_box _ _)).mono ?_
    rintro e w1 ⟨rfl, hb⟩
    have HB := Lib.hid (show Below w.heap.size w w1 from (below_box _ _).trans (hb.mono (by simp)))
    obtain ⟨hc, hf⟩ := bcell hb
    have hz : w.heap.size < w1.heap.size := Nat.lt_of_lt_of_le (by simp) hb.size
    have hn1 : ¬ (w.heap.size = w1.heap.size) := by omega
    have hn2 : ¬ (w1.heap.size = w.heap.size) := by omega
    clear hb
    go_wp2_with fail
    refine wp_region_held (S := fun w' => w'.cell? ⟨w1.heap.size, 0, none⟩ = some (.string x) ∧ w'.cell? ⟨w1.heap.size, 1, none⟩ = some (.int .i64 f) ∧ w'.cell? ⟨w1.heap.size, 2, none⟩ = some (.int .i64 t) ∧ w'.cell? ⟨w1.heap.size, 3, none⟩ = some (.int .i64 l) ∧ w'.cell? ⟨w1.heap.size, 4, none⟩ = some (.int .i64 se) ∧ w'.cell? ⟨w1.heap.size, 5, none⟩ = some (.int .i64 fr) ∧ w'.cell? ⟨w1.heap.size, 6, none⟩ = some (.int .i64 sh)) (by kernel_rfl) ?_
    try (change wpAnyH _ _ _ _ _ _ _ _ (World.drew _))
    have hS0 := (show (w1.alloc (.cells #[.string x, .int .i64 f, .int .i64 t, .int .i64 l, .int .i64 se, .int .i64 fr, .int .i64 sh] 53)).drew.cell? ⟨w1.heap.size, 0, none⟩ = some (.string x) ∧ (w1.alloc (.cells #[.string x, .int .i64 f, .int .i64 t, .int .i64 l, .int .i64 se, .int .i64 fr, .int .i64 sh] 53)).drew.cell? ⟨w1.heap.size, 1, none⟩ = some (.int .i64 f) ∧ (w1.alloc (.cells #[.string x, .int .i64 f, .int .i64 t, .int .i64 l, .int .i64 se, .int .i64 fr, .int .i64 sh] 53)).drew.cell? ⟨w1.heap.size, 2, none⟩ = some (.int .i64 t) ∧ (w1.alloc (.cells #[.string x, .int .i64 f, .int .i64 t, .int .i64 l, .int .i64 se, .int .i64 fr, .int .i64 sh] 53)).drew.cell? ⟨w1.heap.size, 3, none⟩ = some (.int .i64 l) ∧ (w1.alloc (.cells #[.string x, .int .i64 f, .int .i64 t, .int .i64 l, .int .i64 se, .int .i64 fr, .int .i64 sh] 53)).drew.cell? ⟨w1.heap.size, 4, none⟩ = some (.int .i64 se) ∧ (w1.alloc (.cells #[.string x, .int .i64 f, .int .i64 t, .int .i64 l, .int .i64 se, .int .i64 fr, .int .i64 sh] 53)).drew.cell? ⟨w1.heap.size, 5, none⟩ = some (.int .i64 fr) ∧ (w1.alloc (.cells #[.string x, .int .i64 f, .int .i64 t, .int .i64 l, .int .i64 se, .int .i64 fr, .int .i64 sh] 53)).drew.cell? ⟨w1.heap.size, 6, none⟩ = some (.int .i64 sh) from ⟨by simp, by simp, by simp, by simp, by simp, by simp, by simp⟩)
    refine gTake 0 (v := ?_) rfl (by kernel_rfl) (by kernel_rfl) (by kernel_rfl) (fun _ _ _ h => h) (by kernel_rfl) ?_ hS0 ?_
    rotate_left
    · (intro W hW; have q0 := hW.1; have q1 := hW.2.1; have q2 := hW.2.2.1; have q3 := hW.2.2.2.1; have q4 := hW.2.2.2.2.1; have q5 := hW.2.2.2.2.2.1; have q6 := hW.2.2.2.2.2.2; clear hW; go_simp; try with_reducible rfl)
    refine gTake 1 (v := ?_) rfl (by kernel_rfl) (by kernel_rfl) (by kernel_rfl) (fun _ _ _ h => h) (by kernel_rfl) ?_ hS0 ?_
    rotate_left
    · (intro W hW; have q0 := hW.1; have q1 := hW.2.1; have q2 := hW.2.2.1; have q3 := hW.2.2.2.1; have q4 := hW.2.2.2.2.1; have q5 := hW.2.2.2.2.2.1; have q6 := hW.2.2.2.2.2.2; clear hW; go_simp; try with_reducible rfl)
    refine gTake 2 (v := ?_) rfl (by kernel_rfl) (by kernel_rfl) (by kernel_rfl) (fun _ _ _ h => h) (by kernel_rfl) ?_ hS0 ?_
    rotate_left
    · (intro W hW; clear hW; go_simp; try with_reducible rfl)
    refine gTake 3 (v := ?_) rfl (by kernel_rfl) (by kernel_rfl) (by kernel_rfl) (fun _ _ _ h => h) (by kernel_rfl) ?_ hS0 ?_
    rotate_left
    · (intro W hW; clear hW; go_simp; try with_reducible rfl)
    refine gOne 4 rfl (by kernel_rfl) (by kernel_rfl) (fun K hK => ?_)
    go_simp
    skip
    refine viaS (hK _ _) ?_ (fun hS1 => ?_)
    · exact ⟨by simp [hn1, hn2]; exact (alc7 (by simp)).1, by simp [hn1, hn2]; exact (alc7 (by simp)).2.1, by simp [hn1, hn2]; exact (alc7 (by simp)).2.2.1, by simp [hn1, hn2]; exact (alc7 (by simp)).2.2.2.1, by simp [hn1, hn2]; exact (alc7 (by simp)).2.2.2.2.1, by simp [hn1, hn2]; exact (alc7 (by simp)).2.2.2.2.2.1, by simp [hn1, hn2]; exact (alc7 (by simp)).2.2.2.2.2.2⟩
    clear hK K
    refine gTake 5 (v := ?_) rfl (by kernel_rfl) (by kernel_rfl) (by kernel_rfl) (fun _ _ _ h => h) (by kernel_rfl) ?_ hS1 ?_
    rotate_left
    · (intro W hW; clear hW; go_simp; try with_reducible rfl)
    refine wpAnyH_done (by kernel_rfl) ?_ _
    go_simp
    apply_assumption
    have hcs : ∀ j : Nat, j < 7 → (w1.cell? ⟨w.heap.size, j, none⟩).isSome = true := fun j hj => by
      rw [hc _ _ (by simp)]
      rcases j with _ | _ | _ | _ | _ | _ | _ | j <;> first | (simp; done) | omega
    refine at_world (Q := fun W' => Code.wp _ Code.ret _ _ W') (fun W' => W'.cell? ⟨w.heap.size, 0, none⟩ = some (.string x) ∧ W'.cell? ⟨w.heap.size, 1, none⟩ = some (.int .i64 f) ∧ W'.cell? ⟨w.heap.size, 2, none⟩ = some (.int .i64 t) ∧ W'.cell? ⟨w.heap.size, 3, none⟩ = some (.int .i64 l) ∧ W'.cell? ⟨w.heap.size, 4, none⟩ = some (.int .i64 se) ∧ W'.cell? ⟨w.heap.size, 5, none⟩ = some (.int .i64 fr) ∧ W'.cell? ⟨w.heap.size, 6, none⟩ = some (.int .i64 sh) ∧ Below w.heap.size w W') ?_ ?_
    · exact ⟨by simp; exact (tower7 _ hz hcs).1, by simp; exact (tower7 _ hz hcs).2.1, by simp; exact (tower7 _ hz hcs).2.2.1, by simp; exact (tower7 _ hz hcs).2.2.2.1, by simp; exact (tower7 _ hz hcs).2.2.2.2.1, by simp; exact (tower7 _ hz hcs).2.2.2.2.2.1, by simp; exact (tower7 _ hz hcs).2.2.2.2.2.2, (by repeat (first | (with_reducible exact HB.out) | (with_reducible refine below_drewN' ?_ _) | (with_reducible refine Below.drew ?_) | (with_reducible refine Below.alloc ?_ (by first | omega | (simp <;> omega)) _) | (with_reducible refine Below.setCell ?_ (by simp) _)))⟩
    rintro W' ⟨r0, r1, r2, r3, r4, r5, r6, hB⟩
    go_wp2
    refine bodyPost_ret (v := .tuple #[.agg #[.string x, .int .i64 f, .int .i64 t, .int .i64 l, .int .i64 se, .int .i64 fr, .int .i64 sh], .bool true]) (by simp [results, Tryd.results35, go_sem, r0, r1, r2, r3, r4, r5, r6]) rfl ⟨rfl, hB⟩
end Go.Proofs.YtkbgfajkcdjjiabDoor
