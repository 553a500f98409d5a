/-
  Contracts of ReadAir: the model's and the program's; the laws' comparison of air. Conditions: those that each theorem states.
-/
import Derived.Test.YtkbgfajkcdjjiabDoorNj
namespace Go.Proofs.YtkbgfajkcdjjiabDoor
open Go.RowKit
set_option linter.unusedVariables false
set_option linter.unusedSimpArgs false

theorem sReadAir_any (s : ByteArray) (w : World) (hs : s.size ≤ 1048576) : Calls Tryd.prog 31 #[.string s] w fun e w' => e = .returned (.tuple #[.agg #[.int .i64 (airV s.data.toList 0), .int .i64 (airV s.data.toList 1), .int .i64 (airV s.data.toList 2)], .bool (airRd s.data.toList)]) ∧ Below w.heap.size w w' := by
  have HS := Lib.hid (fun W => sL02Read_any s W hs)
  clear hs
  obtain ⟨r, hr⟩ : ∃ r, airRd s.data.toList = r := ⟨_, rfl⟩
  obtain ⟨u, hu⟩ : ∃ u, airV s.data.toList = u := ⟨_, rfl⟩
  rw [hr, hu] at HS ⊢
  clear hr hu
  go_enter Tryd.func31, Tryd.ntmps31
  go_wp2_with fail
  refine (HS.out _).mono ?_
  rintro e w1 ⟨rfl, hb⟩
  have HB := Lib.hid (show Below w.heap.size w w1 from (below_box _ _).trans (hb.mono (by simp)))
  obtain ⟨hc, hf⟩ := bcell hb
  have hz : w.heap.size < w1.heap.size := Nat.lt_of_lt_of_le (by simp) hb.size
  clear hb
  go_wp2
  refine bodyPost_ret (v := .tuple #[.agg #[.int .i64 (u 0), .int .i64 (u 1), .int .i64 (u 2)], .bool r]) (by simp [results, Tryd.results31, go_sem, hc]) rfl ⟨rfl, ?_⟩
  exact (by repeat (first | (with_reducible exact HB.out) | (with_reducible refine below_drewN' ?_ _) | (with_reducible refine Below.drew ?_) | (with_reducible refine Below.alloc ?_ (by simp <;> omega) _) | (with_reducible refine Below.setCell ?_ (by simp) _)))
theorem eqAir_same (t p h : Int) (w : World) :
    Calls Tryd.prog 33 #[.agg #[.int .i64 t, .int .i64 p, .int .i64 h], .agg #[.int .i64 t, .int .i64 p, .int .i64 h]] w fun e w' => e = .returned (.bool true) ∧ Below w.heap.size w w' := by
  go_enter Tryd.func33, Tryd.ntmps33
  go_wp2
  go_ret
  exact ⟨rfl, (by repeat (first | (with_reducible exact Below.refl _ _) | (with_reducible refine below_drewN' ?_ _) | (with_reducible refine Below.alloc ?_ (by simp <;> omega) _) | (with_reducible refine Below.setCell ?_ (by simp) _)))⟩
set_option maxHeartbeats 1000000 in
theorem iReadAir_any (s : ByteArray) (w : World) (hs : s.size ≤ 1048576) (hP : Pow w) (hE : ErrV w) (hM : MaxV w) : Calls Tryd.prog 32 #[.string s] w fun e w' => e = .returned (.tuple #[.agg #[.int .i64 (airV s.data.toList 0), .int .i64 (airV s.data.toList 1), .int .i64 (airV s.data.toList 2)], .bool (airRd s.data.toList)]) ∧ Below w.heap.size w w' := by
  have HS := Lib.hid (fun W (h : Below w.heap.size w W) => airIn_any s W hs (hP.below h) (hE.below h) (hM.below h))
  clear hs hP hE hM
  rcases air_cases s.data.toList with ⟨hr, hv, -⟩ | ⟨t, p, h, -, -, hok, hr, h0, h1, h2⟩
  · rw [hr, hv 0, hv 1, hv 2]
    rw [hv 0, hv 1, hv 2] at HS
    clear hr hv
    go_enter Tryd.func32, Tryd.ntmps32
    go_wp2_with fail
    refine (HS.out _ (below_box _ _)).mono ?_
    rintro e w1 ⟨rfl, hb⟩
    have HB := Lib.hid (show Below w.heap.size w w1 from (below_box _ _).trans (hb.mono (by simp)))
    obtain ⟨hc, hf⟩ := bcell hb
    have hz : w.heap.size < w1.heap.size := Nat.lt_of_lt_of_le (by simp) hb.size
    have hn1 : ¬ (w.heap.size = w1.heap.size) := by omega
    have hn2 : ¬ (w1.heap.size = w.heap.size) := by omega
    clear hb
    go_wp2_with fail
    refine wp_region_held (S := fun w' => w'.cell? ⟨w1.heap.size, 0, none⟩ = some (.int .i64 0) ∧ w'.cell? ⟨w1.heap.size, 1, none⟩ = some (.int .i64 0) ∧ w'.cell? ⟨w1.heap.size, 2, none⟩ = some (.int .i64 0)) (by kernel_rfl) ?_
    try (change wpAnyH _ _ _ _ _ _ _ _ (World.drew _))
    have hS0 := (show (w1.alloc (.cells #[.int .i64 0, .int .i64 0, .int .i64 0] 48)).drew.cell? ⟨w1.heap.size, 0, none⟩ = some (.int .i64 0) ∧ (w1.alloc (.cells #[.int .i64 0, .int .i64 0, .int .i64 0] 48)).drew.cell? ⟨w1.heap.size, 1, none⟩ = some (.int .i64 0) ∧ (w1.alloc (.cells #[.int .i64 0, .int .i64 0, .int .i64 0] 48)).drew.cell? ⟨w1.heap.size, 2, none⟩ = some (.int .i64 0) from ⟨by simp, by simp, by simp⟩)
    refine gTake 0 (v := ?_) rfl (by kernel_rfl) (by kernel_rfl) (by kernel_rfl) (fun _ _ _ h => h) (by kernel_rfl) ?_ hS0 ?_
    rotate_left
    · (intro W hW; have q0 := hW.1; have q1 := hW.2.1; have q2 := hW.2.2; clear hW; go_simp; try with_reducible rfl)
    refine gTake 1 (v := ?_) rfl (by kernel_rfl) (by kernel_rfl) (by kernel_rfl) (fun _ _ _ h => h) (by kernel_rfl) ?_ hS0 ?_
    rotate_left
    · (intro W hW; have q0 := hW.1; have q1 := hW.2.1; have q2 := hW.2.2; clear hW; go_simp; try with_reducible rfl)
    refine gTake 2 (v := ?_) rfl (by kernel_rfl) (by kernel_rfl) (by kernel_rfl) (fun _ _ _ h => h) (by kernel_rfl) ?_ hS0 ?_
    rotate_left
    · (intro W hW; clear hW; go_simp; try with_reducible rfl)
    refine gTake 3 (v := ?_) rfl (by kernel_rfl) (by kernel_rfl) (by kernel_rfl) (fun _ _ _ h => h) (by kernel_rfl) ?_ hS0 ?_
    rotate_left
    · (intro W hW; clear hW; go_simp; try with_reducible rfl)
    refine gOne 4 rfl (by kernel_rfl) (by kernel_rfl) (fun K hK => ?_)
    go_simp
    skip
    refine viaS (hK _ _) ?_ (fun hS1 => ?_)
    · exact ⟨by simp [hn1, hn2]; exact (alc3 (by simp)).1, by simp [hn1, hn2]; exact (alc3 (by simp)).2.1, by simp [hn1, hn2]; exact (alc3 (by simp)).2.2⟩
    clear hK K
    refine gTake 5 (v := ?_) rfl (by kernel_rfl) (by kernel_rfl) (by kernel_rfl) (fun _ _ _ h => h) (by kernel_rfl) ?_ hS1 ?_
    rotate_left
    · (intro W hW; clear hW; go_simp; try with_reducible rfl)
    refine wpAnyH_done (by kernel_rfl) ?_ _
    go_simp
    go_wp2
    refine bodyPost_ret (v := .tuple #[.agg #[.int .i64 0, .int .i64 0, .int .i64 0], .bool false]) (by simp [results, Tryd.results32, go_sem, hc, hz, hn1, hn2]) rfl ⟨rfl, ?_⟩
    exact (by repeat (first | (with_reducible exact HB.out) | (with_reducible refine below_drewN' ?_ _) | (with_reducible refine Below.drew ?_) | (with_reducible refine Below.alloc ?_ (by simp <;> omega) _) | (with_reducible refine Below.setCell ?_ (by simp) _)))
  · rw [hr, h0, h1, h2]
    rw [h0, h1, h2] at HS
    have hp := (airOk_iff.1 hok).1.2.1
    have hp0 : (p == 0) = false := by simp; omega
    clear hr h0 h1 h2 hok
    by_cases ht : t = 0
    · subst ht
      go_enter Tryd.func32, Tryd.ntmps32
      go_wp2_with fail
      refine (HS.out _ (below_box _ _)).mono ?_
      rintro e w1 ⟨rfl, hb⟩
      have HB := Lib.hid (show Below w.heap.size w w1 from (below_box _ _).trans (hb.mono (by simp)))
      obtain ⟨hc, hf⟩ := bcell hb
      have hz : w.heap.size < w1.heap.size := Nat.lt_of_lt_of_le (by simp) hb.size
      have hn1 : ¬ (w.heap.size = w1.heap.size) := by omega
      have hn2 : ¬ (w1.heap.size = w.heap.size) := by omega
      clear hb
      go_wp2_with fail
      refine wp_region_held (S := fun w' => w'.cell? ⟨w1.heap.size, 0, none⟩ = some (.int .i64 0) ∧ w'.cell? ⟨w1.heap.size, 1, none⟩ = some (.int .i64 p) ∧ w'.cell? ⟨w1.heap.size, 2, none⟩ = some (.int .i64 h)) (by kernel_rfl) ?_
      try (change wpAnyH _ _ _ _ _ _ _ _ (World.drew _))
      have hS0 := (show (w1.alloc (.cells #[.int .i64 0, .int .i64 p, .int .i64 h] 48)).drew.cell? ⟨w1.heap.size, 0, none⟩ = some (.int .i64 0) ∧ (w1.alloc (.cells #[.int .i64 0, .int .i64 p, .int .i64 h] 48)).drew.cell? ⟨w1.heap.size, 1, none⟩ = some (.int .i64 p) ∧ (w1.alloc (.cells #[.int .i64 0, .int .i64 p, .int .i64 h] 48)).drew.cell? ⟨w1.heap.size, 2, none⟩ = some (.int .i64 h) from ⟨by simp, by simp, by simp⟩)
      refine gTake 0 (v := ?_) rfl (by kernel_rfl) (by kernel_rfl) (by kernel_rfl) (fun _ _ _ h => h) (by kernel_rfl) ?_ hS0 ?_
      rotate_left
      · (intro W hW; have q0 := hW.1; have q1 := hW.2.1; have q2 := hW.2.2; clear hW; go_simp; try with_reducible rfl)
      refine gTake 1 (v := ?_) rfl (by kernel_rfl) (by kernel_rfl) (by kernel_rfl) (fun _ _ _ h => h) (by kernel_rfl) ?_ hS0 ?_
      rotate_left
      · (intro W hW; have q0 := hW.1; have q1 := hW.2.1; have q2 := hW.2.2; clear hW; go_simp; try with_reducible rfl)
      refine gTake 2 (v := ?_) rfl (by kernel_rfl) (by kernel_rfl) (by kernel_rfl) (fun _ _ _ h => h) (by kernel_rfl) ?_ hS0 ?_
      rotate_left
      · (intro W hW; clear hW; go_simp; try with_reducible rfl)
      refine gTake 3 (v := ?_) rfl (by kernel_rfl) (by kernel_rfl) (by kernel_rfl) (fun _ _ _ h => h) (by kernel_rfl) ?_ hS0 ?_
      rotate_left
      · (intro W hW; clear hW; go_simp; try with_reducible rfl)
      refine gOne 4 rfl (by kernel_rfl) (by kernel_rfl) (fun K hK => ?_)
      go_simp
      skip
      refine viaS (hK _ _) ?_ (fun hS1 => ?_)
      · exact ⟨by simp [hn1, hn2]; exact (alc3 (by simp)).1, by simp [hn1, hn2]; exact (alc3 (by simp)).2.1, by simp [hn1, hn2]; exact (alc3 (by simp)).2.2⟩
      clear hK K
      refine gTake 5 (v := ?_) rfl (by kernel_rfl) (by kernel_rfl) (by kernel_rfl) (fun _ _ _ h => h) (by kernel_rfl) ?_ hS1 ?_
      rotate_left
      · (intro W hW; clear hW; go_simp; try with_reducible rfl)
      refine wpAnyH_done (by kernel_rfl) ?_ _
      go_simp
      go_wp2
      refine bodyPost_ret (v := .tuple #[.agg #[.int .i64 0, .int .i64 p, .int .i64 h], .bool true]) (by simp [results, Tryd.results32, go_sem, hc, hz, hn1, hn2]) rfl ⟨rfl, ?_⟩
      exact (by repeat (first | (with_reducible exact HB.out) | (with_reducible refine below_drewN' ?_ _) | (with_reducible refine Below.drew ?_) | (with_reducible refine Below.alloc ?_ (by simp <;> omega) _) | (with_reducible refine Below.setCell ?_ (by simp) _)))
    · have ht0 : (t == 0) = false := by simp; omega
      go_enter Tryd.func32, Tryd.ntmps32
      go_wp2_with fail
      refine (HS.out _ (below_box _ _)).mono ?_
      rintro e w1 ⟨rfl, hb⟩
      have HB := Lib.hid (show Below w.heap.size w w1 from (below_box _ _).trans (hb.mono (by simp)))
      obtain ⟨hc, hf⟩ := bcell hb
      have hz : w.heap.size < w1.heap.size := Nat.lt_of_lt_of_le (by simp) hb.size
      have hn1 : ¬ (w.heap.size = w1.heap.size) := by omega
      have hn2 : ¬ (w1.heap.size = w.heap.size) := by omega
      clear hb
      go_wp2_with fail
      refine wp_region_held (S := fun w' => w'.cell? ⟨w1.heap.size, 0, none⟩ = some (.int .i64 t) ∧ w'.cell? ⟨w1.heap.size, 1, none⟩ = some (.int .i64 p) ∧ w'.cell? ⟨w1.heap.size, 2, none⟩ = some (.int .i64 h)) (by kernel_rfl) ?_
      try (change wpAnyH _ _ _ _ _ _ _ _ (World.drew _))
      have hS0 := (show (w1.alloc (.cells #[.int .i64 t, .int .i64 p, .int .i64 h] 48)).drew.cell? ⟨w1.heap.size, 0, none⟩ = some (.int .i64 t) ∧ (w1.alloc (.cells #[.int .i64 t, .int .i64 p, .int .i64 h] 48)).drew.cell? ⟨w1.heap.size, 1, none⟩ = some (.int .i64 p) ∧ (w1.alloc (.cells #[.int .i64 t, .int .i64 p, .int .i64 h] 48)).drew.cell? ⟨w1.heap.size, 2, none⟩ = some (.int .i64 h) from ⟨by simp, by simp, by simp⟩)
      refine gTake 0 (v := ?_) rfl (by kernel_rfl) (by kernel_rfl) (by kernel_rfl) (fun _ _ _ h => h) (by kernel_rfl) ?_ hS0 ?_
      rotate_left
      · (intro W hW; have q0 := hW.1; have q1 := hW.2.1; have q2 := hW.2.2; clear hW; go_simp; try with_reducible rfl)
      refine gTake 1 (v := ?_) rfl (by kernel_rfl) (by kernel_rfl) (by kernel_rfl) (fun _ _ _ h => h) (by kernel_rfl) ?_ hS0 ?_
      rotate_left
      · (intro W hW; have q0 := hW.1; have q1 := hW.2.1; have q2 := hW.2.2; clear hW; go_simp; try with_reducible rfl)
      refine gTake 2 (v := ?_) rfl (by kernel_rfl) (by kernel_rfl) (by kernel_rfl) (fun _ _ _ h => h) (by kernel_rfl) ?_ hS0 ?_
      rotate_left
      · (intro W hW; clear hW; go_simp; try with_reducible rfl)
      refine gTake 3 (v := ?_) rfl (by kernel_rfl) (by kernel_rfl) (by kernel_rfl) (fun _ _ _ h => h) (by kernel_rfl) ?_ hS0 ?_
      rotate_left
      · (intro W hW; clear hW; go_simp; try with_reducible rfl)
      refine gOne 4 rfl (by kernel_rfl) (by kernel_rfl) (fun K hK => ?_)
      go_simp
      skip
      refine viaS (hK _ _) ?_ (fun hS1 => ?_)
      · exact ⟨by simp [hn1, hn2]; exact (alc3 (by simp)).1, by simp [hn1, hn2]; exact (alc3 (by simp)).2.1, by simp [hn1, hn2]; exact (alc3 (by simp)).2.2⟩
      clear hK K
      refine gTake 5 (v := ?_) rfl (by kernel_rfl) (by kernel_rfl) (by kernel_rfl) (fun _ _ _ h => h) (by kernel_rfl) ?_ hS1 ?_
      rotate_left
      · (intro W hW; clear hW; go_simp; try with_reducible rfl)
      refine wpAnyH_done (by kernel_rfl) ?_ _
      go_simp
      go_wp2
      refine bodyPost_ret (v := .tuple #[.agg #[.int .i64 t, .int .i64 p, .int .i64 h], .bool true]) (by simp [results, Tryd.results32, go_sem, hc, hz, hn1, hn2]) rfl ⟨rfl, ?_⟩
      exact (by repeat (first | (with_reducible exact HB.out) | (with_reducible refine below_drewN' ?_ _) | (with_reducible refine Below.drew ?_) | (with_reducible refine Below.alloc ?_ (by simp <;> omega) _) | (with_reducible refine Below.setCell ?_ (by simp) _)))
end Go.Proofs.YtkbgfajkcdjjiabDoor
