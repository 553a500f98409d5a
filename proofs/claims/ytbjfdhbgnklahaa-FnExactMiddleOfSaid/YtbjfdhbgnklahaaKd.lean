/-
  Contracts of chapter 5: bounds and middles of surveys, resistances that fit; the model's and the program's; the laws' surveys. Conditions: those that each theorem states.
-/
import Derived.Test.YtbjfdhbgnklahaaKc
namespace Go.Proofs.Ytbjfdhbgnklahaa
open Go.RowKit
set_option linter.unusedVariables false
set_option linter.unusedSimpArgs false

def mx1 (x : Int) : Int := if x < 1 then 1 else x
theorem l00Max_one (x : Int) (w : World) : Calls Try.prog 47 #[.int .i64 1, .int .i64 x] w fun e w' => e = .returned (.int .i64 (mx1 x)) ∧ w = w' := l00Max_any 1 x w
theorem l00Min_c (x : Int) (w : World) : Calls Try.prog 46 #[.int .i64 1000000, .int .i64 (mx1 x)] w fun e w' => e = .returned (.int .i64 (clampR x)) ∧ w = w' :=
  (l00Min_any 1000000 (mx1 x) w).mono fun _ _ ⟨h, e⟩ => ⟨h.trans (ret_int (clamp_eq x)), e⟩
set_option maxHeartbeats 1000000 in
theorem l05Bounds_below (b : Nat) (s : ByteArray) (d de q qe : Int) (w : World) (hok : suOk s d de q qe = true) (hc : SuAt w b s d de q qe) :
    Calls Try.prog 43 #[.pointer (some ⟨b, 0, none⟩)] w fun e w' => e = .returned (.tuple #[.int .i64 (loR d de q qe), .int .i64 (hiR d de q qe)]) ∧ Below w.heap.size w w' := by
  obtain ⟨c0, c1, c2, c3, c4⟩ := hc
  obtain ⟨-, ⟨h1, h2⟩, h3, h4⟩ := suOk_bd hok
  obtain ⟨⟨m1, m2⟩, ⟨m3, m4⟩, -⟩ := su_sq h3 h4
  obtain ⟨p1, p2⟩ := posR_bd h1 h2
  have x1 := quot_bd (a := posR (d - de) * 10000000000) (b := (q + qe) * (q + qe)) (by omega) (by omega)
  have x2 := quot_bd (a := (d + de) * 10000000000 + (q - qe) * (q - qe) - 1) (b := (q - qe) * (q - qe)) (by omega) (by omega)
  have HE := Lib.hid (And.intro (show clampR (posR (d - de) * 10000000000 / ((q + qe) * (q + qe))) = loR d de q qe from rfl) (show clampR (((d + de) * 10000000000 + (q - qe) * (q - qe) - 1) / ((q - qe) * (q - qe))) = hiR d de q qe from rfl))
  have hpos : (if d - de < 0 then 0 else d - de) = posR (d - de) := rfl
  have hw0 : IntKind.i64.wrap (d - de) = d - de := IntWalk.i64_in _ (by omega)
  have hw1 : IntKind.i64.wrap (q + qe) = q + qe := IntWalk.i64_in _ (by omega)
  have hw2 : IntKind.i64.wrap (q - qe) = q - qe := IntWalk.i64_in _ (by omega)
  have hw3 : IntKind.i64.wrap (d + de) = d + de := IntWalk.i64_in _ (by omega)
  clear hok
  go_enter Try.func43, Try.ntmps43
  go_wp2_with fail
  refine wp_region_held (S := fun w' => w'.cell? ⟨b, 0, none⟩ = some (.string s) ∧ w'.cell? ⟨b, 1, none⟩ = some (.int .i64 d) ∧ w'.cell? ⟨b, 2, none⟩ = some (.int .i64 de) ∧ w'.cell? ⟨b, 3, none⟩ = some (.int .i64 q) ∧ w'.cell? ⟨b, 4, none⟩ = some (.int .i64 qe) ∧ Below w.heap.size w w') (by kernel_rfl) ?_
  try (change wpAnyH _ _ _ _ _ _ _ _ (World.drew _))
  have hS0 := (show w.drew.cell? ⟨b, 0, none⟩ = some (.string s) ∧ w.drew.cell? ⟨b, 1, none⟩ = some (.int .i64 d) ∧ w.drew.cell? ⟨b, 2, none⟩ = some (.int .i64 de) ∧ w.drew.cell? ⟨b, 3, none⟩ = some (.int .i64 q) ∧ w.drew.cell? ⟨b, 4, none⟩ = some (.int .i64 qe) ∧ Below w.heap.size w w.drew from ⟨c0, c1, c2, c3, c4, (Below.drew (Below.refl _ _))⟩)
  refine gTake 0 (v := ?_) rfl (by kernel_rfl) (by kernel_rfl) (by kernel_rfl) (fun _ _ _ h => h) (by kernel_rfl) ?_ hS0 ?_
  rotate_left
  · (intro W hW; clear hW; go_simp; try with_reducible rfl)
  refine gTake 1 (v := ?_) rfl (by kernel_rfl) (by kernel_rfl) (by kernel_rfl) (fun _ _ _ h => h) (by kernel_rfl) ?_ hS0 ?_
  rotate_left
  · (intro W hW; clear hW; go_simp; try with_reducible rfl)
  refine gTake 2 (v := ?_) rfl (by kernel_rfl) (by kernel_rfl) (by kernel_rfl) (fun _ _ _ h => h) (by kernel_rfl) ?_ hS0 ?_
  rotate_left
  · (intro W hW; clear hW; go_simp; try with_reducible rfl)
  refine gTake 3 (v := ?_) rfl (by kernel_rfl) (by kernel_rfl) (by kernel_rfl) (fun _ _ _ h => h) (by kernel_rfl) ?_ hS0 ?_
  rotate_left
  · (intro W hW; have q0 := hW.1; have q1 := hW.2.1; have q2 := hW.2.2.1; have q3 := hW.2.2.2.1; have q4 := hW.2.2.2.2.1; clear hW; go_simp; try with_reducible rfl)
  refine gTake 4 (v := ?_) rfl (by kernel_rfl) (by kernel_rfl) (by kernel_rfl) (fun _ _ _ h => h) (by kernel_rfl) ?_ hS0 ?_
  rotate_left
  · (intro W hW; clear hW; go_simp; try with_reducible rfl)
  refine gTake 5 (v := ?_) rfl (by kernel_rfl) (by kernel_rfl) (by kernel_rfl) (fun _ _ _ h => h) (by kernel_rfl) ?_ hS0 ?_
  rotate_left
  · (intro W hW; clear hW; go_simp; try with_reducible rfl)
  refine gTake 6 (v := ?_) rfl (by kernel_rfl) (by kernel_rfl) (by kernel_rfl) (fun _ _ _ h => h) (by kernel_rfl) ?_ hS0 ?_
  rotate_left
  · (intro W hW; clear hW; go_simp; try with_reducible rfl)
  refine gTake 7 (v := ?_) rfl (by kernel_rfl) (by kernel_rfl) (by kernel_rfl) (fun _ _ _ h => h) (by kernel_rfl) ?_ hS0 ?_
  rotate_left
  · (intro W hW; have q0 := hW.1; have q1 := hW.2.1; have q2 := hW.2.2.1; have q3 := hW.2.2.2.1; have q4 := hW.2.2.2.2.1; clear hW; go_simp; try with_reducible rfl)
  refine gTake 8 (v := ?_) rfl (by kernel_rfl) (by kernel_rfl) (by kernel_rfl) (fun _ _ _ h => h) (by kernel_rfl) ?_ hS0 ?_
  rotate_left
  · (intro W hW; clear hW; go_simp; try with_reducible rfl)
  refine gOne 9 rfl (by kernel_rfl) (by kernel_rfl) (fun K hK => ?_)
  go_simp
  go_at_call 47
  (with_reducible refine (l00Max_any _ _ _).mono ?_)
  rintro e w' ⟨rfl, rfl⟩
  try go_simp
  have hS1 := hS0
  refine hK _ _ hS1 ?_
  clear hK K
  refine gTake 10 (v := ?_) rfl (by kernel_rfl) (by kernel_rfl) (by kernel_rfl) (fun _ _ _ h => h) (by kernel_rfl) ?_ hS1 ?_
  rotate_left
  · (intro W hW; clear hW; go_simp; try with_reducible rfl)
  refine wpAnyH_done (by kernel_rfl) ?_ _
  go_simp
  clear hpos
  generalize posR (d - de) = p at *
  go_wp2_with fail
  refine wp_region_held (S := fun w' => w'.cell? ⟨b, 0, none⟩ = some (.string s) ∧ w'.cell? ⟨b, 1, none⟩ = some (.int .i64 d) ∧ w'.cell? ⟨b, 2, none⟩ = some (.int .i64 de) ∧ w'.cell? ⟨b, 3, none⟩ = some (.int .i64 q) ∧ w'.cell? ⟨b, 4, none⟩ = some (.int .i64 qe) ∧ Below w.heap.size w w') (by kernel_rfl) ?_
  try (change wpAnyH _ _ _ _ _ _ _ _ (World.drew _))
  have hS0 := (show w.drew.drew.cell? ⟨b, 0, none⟩ = some (.string s) ∧ w.drew.drew.cell? ⟨b, 1, none⟩ = some (.int .i64 d) ∧ w.drew.drew.cell? ⟨b, 2, none⟩ = some (.int .i64 de) ∧ w.drew.drew.cell? ⟨b, 3, none⟩ = some (.int .i64 q) ∧ w.drew.drew.cell? ⟨b, 4, none⟩ = some (.int .i64 qe) ∧ Below w.heap.size w w.drew.drew from ⟨c0, c1, c2, c3, c4, (Below.drew (Below.drew (Below.refl _ _)))⟩)
  refine gTake 0 (v := ?_) rfl (by kernel_rfl) (by kernel_rfl) (by kernel_rfl) (fun _ _ _ h => h) (by kernel_rfl) ?_ hS0 ?_
  rotate_left
  · (intro W hW; clear hW; go_simp; try with_reducible rfl)
  refine gTake 1 (v := ?_) rfl (by kernel_rfl) (by kernel_rfl) (by kernel_rfl) (fun _ _ _ h => h) (by kernel_rfl) ?_ hS0 ?_
  rotate_left
  · (intro W hW; clear hW; go_simp; try with_reducible rfl)
  refine gTake 2 (v := ?_) rfl (by kernel_rfl) (by kernel_rfl) (by kernel_rfl) (fun _ _ _ h => h) (by kernel_rfl) ?_ hS0 ?_
  rotate_left
  · (intro W hW; clear hW; go_simp; try with_reducible rfl)
  refine gTake 3 (v := ?_) rfl (by kernel_rfl) (by kernel_rfl) (by kernel_rfl) (fun _ _ _ h => h) (by kernel_rfl) ?_ hS0 ?_
  rotate_left
  · (intro W hW; have q0 := hW.1; have q1 := hW.2.1; have q2 := hW.2.2.1; have q3 := hW.2.2.2.1; have q4 := hW.2.2.2.2.1; clear hW; go_simp; try with_reducible rfl)
  refine gTake 4 (v := ?_) rfl (by kernel_rfl) (by kernel_rfl) (by kernel_rfl) (fun _ _ _ h => h) (by kernel_rfl) ?_ hS0 ?_
  rotate_left
  · (intro W hW; clear hW; go_simp; try with_reducible rfl)
  refine gTake 5 (v := ?_) rfl (by kernel_rfl) (by kernel_rfl) (by kernel_rfl) (fun _ _ _ h => h) (by kernel_rfl) ?_ hS0 ?_
  rotate_left
  · (intro W hW; clear hW; go_simp; try with_reducible rfl)
  refine gTake 6 (v := ?_) rfl (by kernel_rfl) (by kernel_rfl) (by kernel_rfl) (fun _ _ _ h => h) (by kernel_rfl) ?_ hS0 ?_
  rotate_left
  · (intro W hW; clear hW; go_simp; try with_reducible rfl)
  refine gTake 7 (v := ?_) rfl (by kernel_rfl) (by kernel_rfl) (by kernel_rfl) (fun _ _ _ h => h) (by kernel_rfl) ?_ hS0 ?_
  rotate_left
  · (intro W hW; have q0 := hW.1; have q1 := hW.2.1; have q2 := hW.2.2.1; have q3 := hW.2.2.2.1; have q4 := hW.2.2.2.2.1; clear hW; go_simp; try with_reducible rfl)
  refine gTake 8 (v := ?_) rfl (by kernel_rfl) (by kernel_rfl) (by kernel_rfl) (fun _ _ _ h => h) (by kernel_rfl) ?_ hS0 ?_
  rotate_left
  · (intro W hW; clear hW; go_simp; try with_reducible rfl)
  refine gTake 9 (v := ?_) rfl (by kernel_rfl) (by kernel_rfl) (by kernel_rfl) (fun _ _ _ h => h) (by kernel_rfl) ?_ hS0 ?_
  rotate_left
  · (intro W hW; clear hW; go_simp; try with_reducible rfl)
  refine wpAnyH_done (by kernel_rfl) ?_ _
  go_simp
  go_wp2_with fail
  refine wp_region_held (S := fun w' => w'.cell? ⟨b, 0, none⟩ = some (.string s) ∧ w'.cell? ⟨b, 1, none⟩ = some (.int .i64 d) ∧ w'.cell? ⟨b, 2, none⟩ = some (.int .i64 de) ∧ w'.cell? ⟨b, 3, none⟩ = some (.int .i64 q) ∧ w'.cell? ⟨b, 4, none⟩ = some (.int .i64 qe) ∧ Below w.heap.size w w') (by kernel_rfl) ?_
  try (change wpAnyH _ _ _ _ _ _ _ _ (World.drew _))
  have hS0 := (show w.drew.drew.drew.cell? ⟨b, 0, none⟩ = some (.string s) ∧ w.drew.drew.drew.cell? ⟨b, 1, none⟩ = some (.int .i64 d) ∧ w.drew.drew.drew.cell? ⟨b, 2, none⟩ = some (.int .i64 de) ∧ w.drew.drew.drew.cell? ⟨b, 3, none⟩ = some (.int .i64 q) ∧ w.drew.drew.drew.cell? ⟨b, 4, none⟩ = some (.int .i64 qe) ∧ Below w.heap.size w w.drew.drew.drew from ⟨c0, c1, c2, c3, c4, (Below.drew (Below.drew (Below.drew (Below.refl _ _))))⟩)
  refine gTake 0 (v := ?_) rfl (by kernel_rfl) (by kernel_rfl) (by kernel_rfl) (fun _ _ _ h => h) (by kernel_rfl) ?_ hS0 ?_
  rotate_left
  · (intro W hW; clear hW; go_simp; try with_reducible rfl)
  refine gTake 1 (v := ?_) rfl (by kernel_rfl) (by kernel_rfl) (by kernel_rfl) (fun _ _ _ h => h) (by kernel_rfl) ?_ hS0 ?_
  rotate_left
  · (intro W hW; clear hW; go_simp; try with_reducible rfl)
  refine gTake 2 (v := ?_) rfl (by kernel_rfl) (by kernel_rfl) (by kernel_rfl) (fun _ _ _ h => h) (by kernel_rfl) ?_ hS0 ?_
  rotate_left
  · (intro W hW; clear hW; go_simp; try with_reducible rfl)
  refine gTake 3 (v := ?_) rfl (by kernel_rfl) (by kernel_rfl) (by kernel_rfl) (fun _ _ _ h => h) (by kernel_rfl) ?_ hS0 ?_
  rotate_left
  · (intro W hW; have q0 := hW.1; have q1 := hW.2.1; have q2 := hW.2.2.1; have q3 := hW.2.2.2.1; have q4 := hW.2.2.2.2.1; clear hW; go_simp; try with_reducible rfl)
  refine gTake 4 (v := ?_) rfl (by kernel_rfl) (by kernel_rfl) (by kernel_rfl) (fun _ _ _ h => h) (by kernel_rfl) ?_ hS0 ?_
  rotate_left
  · (intro W hW; clear hW; go_simp; try with_reducible rfl)
  refine gTake 5 (v := ?_) rfl (by kernel_rfl) (by kernel_rfl) (by kernel_rfl) (fun _ _ _ h => h) (by kernel_rfl) ?_ hS0 ?_
  rotate_left
  · (intro W hW; clear hW; go_simp; try with_reducible rfl)
  refine gTake 6 (v := ?_) rfl (by kernel_rfl) (by kernel_rfl) (by kernel_rfl) (fun _ _ _ h => h) (by kernel_rfl) ?_ hS0 ?_
  rotate_left
  · (intro W hW; clear hW; go_simp; try with_reducible rfl)
  refine gTake 7 (v := ?_) rfl (by kernel_rfl) (by kernel_rfl) (by kernel_rfl) (fun _ _ _ h => h) (by kernel_rfl) ?_ hS0 ?_
  rotate_left
  · (intro W hW; have q0 := hW.1; have q1 := hW.2.1; have q2 := hW.2.2.1; have q3 := hW.2.2.2.1; have q4 := hW.2.2.2.2.1; clear hW; go_simp; try with_reducible rfl)
  refine gTake 8 (v := ?_) rfl (by kernel_rfl) (by kernel_rfl) (by kernel_rfl) (fun _ _ _ h => h) (by kernel_rfl) ?_ hS0 ?_
  rotate_left
  · (intro W hW; clear hW; go_simp; try with_reducible rfl)
  refine gTake 9 (v := ?_) rfl (by kernel_rfl) (by kernel_rfl) (by kernel_rfl) (fun _ _ _ h => h) (by kernel_rfl) ?_ hS0 ?_
  rotate_left
  · (intro W hW; clear hW; go_simp; try with_reducible rfl)
  refine wpAnyH_done (by kernel_rfl) ?_ _
  go_simp
  go_wp2
  go_quiet (fail)
  go_wp2_with (first
      | (go_at_call 47; (with_reducible refine (l00Max_one _ _).mono ?_); rintro e w' ⟨rfl, rfl⟩)
      | (go_at_call 46; (with_reducible refine (l00Min_c _ _).mono ?_); rintro e w' ⟨rfl, rfl⟩))
  go_ret2
  exact ⟨ret_two HE.out.1 HE.out.2, below_drewN' (Below.refl _ _) _⟩
set_option maxHeartbeats 2000000 in
theorem bounds_any (s : ByteArray) (d de q qe : Int) (w : World) (hok : suOk s d de q qe = true) :
    Calls Try.prog 44 #[.agg #[.string s, .int .i64 d, .int .i64 de, .int .i64 q, .int .i64 qe]] w fun e w' => e = .returned (.agg #[.int .i64 (loR d de q qe), .int .i64 (hiR d de q qe)]) ∧ Below w.heap.size w w' := by
  obtain ⟨-, ⟨h1, h2⟩, h3, h4⟩ := suOk_bd hok
  obtain ⟨⟨m1, m2⟩, ⟨m3, m4⟩, -⟩ := su_sq h3 h4
  obtain ⟨p1, p2⟩ := posR_bd h1 h2
  have x2 := quot_bd (a := (d + de) * 10000000000 + (q - qe) * (q - qe) - 1) (b := (q - qe) * (q - qe)) (by omega) (by omega)
  have x1 := quot_bd (a := posR (d - de) * 10000000000) (b := (q + qe) * (q + qe)) (by omega) (by omega)
  have HE := Lib.hid (And.intro (show clampR (posR (d - de) * 10000000000 / ((q + qe) * (q + qe))) = loR d de q qe from rfl) (show clampR (((d + de) * 10000000000 + (q - qe) * (q - qe) - 1) / ((q - qe) * (q - qe))) = hiR d de q qe from rfl))
  have hw0 : IntKind.i64.wrap (d - de) = d - de := IntWalk.i64_in _ (by omega)
  have hw1 : IntKind.i64.wrap (q + qe) = q + qe := IntWalk.i64_in _ (by omega)
  have hw2 : IntKind.i64.wrap (q - qe) = q - qe := IntWalk.i64_in _ (by omega)
  have hw3 : IntKind.i64.wrap (d + de) = d + de := IntWalk.i64_in _ (by omega)
  clear hok
  have hmx : (if de < d then d - de else 0) = posR (d - de) := by unfold posR; split <;> split <;> omega
  generalize posR (d - de) = p at *
  have hw4 : IntKind.i64.wrap (p * 10000000000) = p * 10000000000 := IntWalk.i64_in _ (by omega)
  have hw5 : IntKind.i64.wrap ((q + qe) * (q + qe)) = (q + qe) * (q + qe) := IntWalk.i64_in _ (by omega)
  have hw6 : IntKind.i64.wrap ((q - qe) * (q - qe)) = (q - qe) * (q - qe) := IntWalk.i64_in _ (by omega)
  have hw7 : IntKind.i64.wrap ((d + de) * 10000000000) = (d + de) * 10000000000 := IntWalk.i64_in _ (by omega)
  have ht : (p * 10000000000).tdiv ((q + qe) * (q + qe)) = p * 10000000000 / ((q + qe) * (q + qe)) := Int.tdiv_eq_ediv_of_nonneg (by omega)
  have hw8 : IntKind.i64.wrap (p * 10000000000 / ((q + qe) * (q + qe))) = p * 10000000000 / ((q + qe) * (q + qe)) := IntWalk.i64_in _ (by omega)
  have hz : ¬ ((q + qe) * (q + qe) = 0) := by omega
  go_enter Try.func44, Try.ntmps44
  go_wp2_with fail
  refine wp_region_held (S := fun w' => w'.cell? ⟨w.heap.size, 1, none⟩ = some (.int .i64 d) ∧ w'.cell? ⟨w.heap.size, 2, none⟩ = some (.int .i64 de) ∧ w'.cell? ⟨w.heap.size, 3, none⟩ = some (.int .i64 q) ∧ w'.cell? ⟨w.heap.size, 4, none⟩ = some (.int .i64 qe)) (by kernel_rfl) ?_
  try (change wpAnyH _ _ _ _ _ _ _ _ (World.drew _))
  have hS0 := (show ((w.alloc (.cells #[.string s, .int .i64 d, .int .i64 de, .int .i64 q, .int .i64 qe] 26)).alloc (.cells #[.int .i64 0, .int .i64 0] 61)).drew.cell? ⟨w.heap.size, 1, none⟩ = some (.int .i64 d) ∧ ((w.alloc (.cells #[.string s, .int .i64 d, .int .i64 de, .int .i64 q, .int .i64 qe] 26)).alloc (.cells #[.int .i64 0, .int .i64 0] 61)).drew.cell? ⟨w.heap.size, 2, none⟩ = some (.int .i64 de) ∧ ((w.alloc (.cells #[.string s, .int .i64 d, .int .i64 de, .int .i64 q, .int .i64 qe] 26)).alloc (.cells #[.int .i64 0, .int .i64 0] 61)).drew.cell? ⟨w.heap.size, 3, none⟩ = some (.int .i64 q) ∧ ((w.alloc (.cells #[.string s, .int .i64 d, .int .i64 de, .int .i64 q, .int .i64 qe] 26)).alloc (.cells #[.int .i64 0, .int .i64 0] 61)).drew.cell? ⟨w.heap.size, 4, none⟩ = some (.int .i64 qe) from ⟨by simp, by simp, by simp, by simp⟩)
  refine gTake 0 (v := ?_) rfl (by kernel_rfl) (by kernel_rfl) (by kernel_rfl) (fun _ _ _ h => h) (by kernel_rfl) ?_ hS0 ?_
  rotate_left
  · (intro W hW; clear hW; go_simp; try with_reducible rfl)
  refine gTake 1 (v := ?_) rfl (by kernel_rfl) (by kernel_rfl) (by kernel_rfl) (fun _ _ _ h => h) (by kernel_rfl) ?_ hS0 ?_
  rotate_left
  · (intro W hW; have q0 := hW.1; have q1 := hW.2.1; have q2 := hW.2.2.1; have q3 := hW.2.2.2; clear hW; go_simp; try with_reducible rfl)
  refine gTake 2 (v := ?_) rfl (by kernel_rfl) (by kernel_rfl) (by kernel_rfl) (fun _ _ _ h => h) (by kernel_rfl) ?_ hS0 ?_
  rotate_left
  · (intro W hW; clear hW; go_simp; try with_reducible rfl)
  refine gTake 3 (v := ?_) rfl (by kernel_rfl) (by kernel_rfl) (by kernel_rfl) (fun _ _ _ h => h) (by kernel_rfl) ?_ hS0 ?_
  rotate_left
  · (intro W hW; have q0 := hW.1; have q1 := hW.2.1; have q2 := hW.2.2.1; have q3 := hW.2.2.2; clear hW; go_simp; try with_reducible rfl)
  refine gTake 4 (v := ?_) rfl (by kernel_rfl) (by kernel_rfl) (by kernel_rfl) (fun _ _ _ h => h) (by kernel_rfl) ?_ hS0 ?_
  rotate_left
  · (intro W hW; clear hW; go_simp; try with_reducible rfl)
  refine gTake 5 (v := ?_) rfl (by kernel_rfl) (by kernel_rfl) (by kernel_rfl) (fun _ _ _ h => h) (by kernel_rfl) ?_ hS0 ?_
  rotate_left
  · (intro W hW; clear hW; go_simp; try with_reducible rfl)
  refine gTake 6 (v := ?_) rfl (by kernel_rfl) (by kernel_rfl) (by kernel_rfl) (fun _ _ _ h => h) (by kernel_rfl) ?_ hS0 ?_
  rotate_left
  · (intro W hW; have q0 := hW.1; have q1 := hW.2.1; have q2 := hW.2.2.1; have q3 := hW.2.2.2; clear hW; go_simp; try with_reducible rfl)
  refine gTake 7 (v := ?_) rfl (by kernel_rfl) (by kernel_rfl) (by kernel_rfl) (fun _ _ _ h => h) (by kernel_rfl) ?_ hS0 ?_
  rotate_left
  · (intro W hW; clear hW; go_simp; try with_reducible rfl)
  refine gTake 8 (v := ?_) rfl (by kernel_rfl) (by kernel_rfl) (by kernel_rfl) (fun _ _ _ h => h) (by kernel_rfl) ?_ hS0 ?_
  rotate_left
  · (intro W hW; have q0 := hW.1; have q1 := hW.2.1; have q2 := hW.2.2.1; have q3 := hW.2.2.2; clear hW; go_simp; try with_reducible rfl)
  refine gTake 9 (v := ?_) rfl (by kernel_rfl) (by kernel_rfl) (by kernel_rfl) (fun _ _ _ h => h) (by kernel_rfl) ?_ hS0 ?_
  rotate_left
  · (intro W hW; clear hW; go_simp; try with_reducible rfl)
  refine gTake 10 (v := ?_) rfl (by kernel_rfl) (by kernel_rfl) (by kernel_rfl) (fun _ _ _ h => h) (by kernel_rfl) ?_ hS0 ?_
  rotate_left
  · (intro W hW; clear hW; go_simp; try with_reducible rfl)
  refine gTake 11 (v := ?_) rfl (by kernel_rfl) (by kernel_rfl) (by kernel_rfl) (fun _ _ _ h => h) (by kernel_rfl) ?_ hS0 ?_
  rotate_left
  · (intro W hW; clear hW; go_simp; try with_reducible rfl)
  refine wpAnyH_done (by kernel_rfl) ?_ _
  go_simp
  go_wp2_with fail
  refine wp_region_held (S := fun w' => w'.cell? ⟨w.heap.size, 1, none⟩ = some (.int .i64 d) ∧ w'.cell? ⟨w.heap.size, 2, none⟩ = some (.int .i64 de) ∧ w'.cell? ⟨w.heap.size, 3, none⟩ = some (.int .i64 q) ∧ w'.cell? ⟨w.heap.size, 4, none⟩ = some (.int .i64 qe)) (by kernel_rfl) ?_
  try (change wpAnyH _ _ _ _ _ _ _ _ (World.drew _))
  have hS0 := (show ((w.alloc (.cells #[.string s, .int .i64 d, .int .i64 de, .int .i64 q, .int .i64 qe] 26)).alloc (.cells #[.int .i64 0, .int .i64 0] 61)).drew.drew.cell? ⟨w.heap.size, 1, none⟩ = some (.int .i64 d) ∧ ((w.alloc (.cells #[.string s, .int .i64 d, .int .i64 de, .int .i64 q, .int .i64 qe] 26)).alloc (.cells #[.int .i64 0, .int .i64 0] 61)).drew.drew.cell? ⟨w.heap.size, 2, none⟩ = some (.int .i64 de) ∧ ((w.alloc (.cells #[.string s, .int .i64 d, .int .i64 de, .int .i64 q, .int .i64 qe] 26)).alloc (.cells #[.int .i64 0, .int .i64 0] 61)).drew.drew.cell? ⟨w.heap.size, 3, none⟩ = some (.int .i64 q) ∧ ((w.alloc (.cells #[.string s, .int .i64 d, .int .i64 de, .int .i64 q, .int .i64 qe] 26)).alloc (.cells #[.int .i64 0, .int .i64 0] 61)).drew.drew.cell? ⟨w.heap.size, 4, none⟩ = some (.int .i64 qe) from ⟨by simp, by simp, by simp, by simp⟩)
  refine gTake 0 (v := ?_) rfl (by kernel_rfl) (by kernel_rfl) (by kernel_rfl) (fun _ _ _ h => h) (by kernel_rfl) ?_ hS0 ?_
  rotate_left
  · (intro W hW; clear hW; go_simp; try with_reducible rfl)
  refine gTake 1 (v := ?_) rfl (by kernel_rfl) (by kernel_rfl) (by kernel_rfl) (fun _ _ _ h => h) (by kernel_rfl) ?_ hS0 ?_
  rotate_left
  · (intro W hW; have q0 := hW.1; have q1 := hW.2.1; have q2 := hW.2.2.1; have q3 := hW.2.2.2; clear hW; go_simp; try with_reducible rfl)
  refine gTake 2 (v := ?_) rfl (by kernel_rfl) (by kernel_rfl) (by kernel_rfl) (fun _ _ _ h => h) (by kernel_rfl) ?_ hS0 ?_
  rotate_left
  · (intro W hW; clear hW; go_simp; try with_reducible rfl)
  refine gTake 3 (v := ?_) rfl (by kernel_rfl) (by kernel_rfl) (by kernel_rfl) (fun _ _ _ h => h) (by kernel_rfl) ?_ hS0 ?_
  rotate_left
  · (intro W hW; have q0 := hW.1; have q1 := hW.2.1; have q2 := hW.2.2.1; have q3 := hW.2.2.2; clear hW; go_simp; try with_reducible rfl)
  refine gTake 4 (v := ?_) rfl (by kernel_rfl) (by kernel_rfl) (by kernel_rfl) (fun _ _ _ h => h) (by kernel_rfl) ?_ hS0 ?_
  rotate_left
  · (intro W hW; clear hW; go_simp; try with_reducible rfl)
  refine gTake 5 (v := ?_) rfl (by kernel_rfl) (by kernel_rfl) (by kernel_rfl) (fun _ _ _ h => h) (by kernel_rfl) ?_ hS0 ?_
  rotate_left
  · (intro W hW; clear hW; go_simp; try with_reducible rfl)
  refine gTake 6 (v := ?_) rfl (by kernel_rfl) (by kernel_rfl) (by kernel_rfl) (fun _ _ _ h => h) (by kernel_rfl) ?_ hS0 ?_
  rotate_left
  · (intro W hW; clear hW; go_simp; try with_reducible rfl)
  refine gTake 7 (v := ?_) rfl (by kernel_rfl) (by kernel_rfl) (by kernel_rfl) (fun _ _ _ h => h) (by kernel_rfl) ?_ hS0 ?_
  rotate_left
  · (intro W hW; clear hW; go_simp; try with_reducible rfl)
  refine gTake 8 (v := ?_) rfl (by kernel_rfl) (by kernel_rfl) (by kernel_rfl) (fun _ _ _ h => h) (by kernel_rfl) ?_ hS0 ?_
  rotate_left
  · (intro W hW; clear hW; go_simp; try with_reducible rfl)
  refine gTake 9 (v := ?_) rfl (by kernel_rfl) (by kernel_rfl) (by kernel_rfl) (fun _ _ _ h => h) (by kernel_rfl) ?_ hS0 ?_
  rotate_left
  · (intro W hW; clear hW; go_simp; try with_reducible rfl)
  refine gTake 10 (v := ?_) rfl (by kernel_rfl) (by kernel_rfl) (by kernel_rfl) (fun _ _ _ h => h) (by kernel_rfl) ?_ hS0 ?_
  rotate_left
  · (intro W hW; clear hW; go_simp; try with_reducible rfl)
  refine gTake 12 (v := ?_) rfl (by kernel_rfl) (by kernel_rfl) (by kernel_rfl) (fun _ _ _ h => h) (by kernel_rfl) ?_ hS0 ?_
  rotate_left
  · (intro W hW; clear hW; go_simp; try with_reducible rfl)
  refine gTake 13 (v := ?_) rfl (by kernel_rfl) (by kernel_rfl) (by kernel_rfl) (fun _ _ _ h => h) (by kernel_rfl) ?_ hS0 ?_
  rotate_left
  · (intro W hW; have q0 := hW.1; have q1 := hW.2.1; have q2 := hW.2.2.1; have q3 := hW.2.2.2; clear hW; go_simp; try with_reducible rfl)
  refine gTake 14 (v := ?_) rfl (by kernel_rfl) (by kernel_rfl) (by kernel_rfl) (fun _ _ _ h => h) (by kernel_rfl) ?_ hS0 ?_
  rotate_left
  · (intro W hW; clear hW; go_simp; try with_reducible rfl)
  refine gTake 15 (v := ?_) rfl (by kernel_rfl) (by kernel_rfl) (by kernel_rfl) (fun _ _ _ h => h) (by kernel_rfl) ?_ hS0 ?_
  rotate_left
  · (intro W hW; have q0 := hW.1; have q1 := hW.2.1; have q2 := hW.2.2.1; have q3 := hW.2.2.2; clear hW; go_simp; try with_reducible rfl)
  refine gTake 16 (v := ?_) rfl (by kernel_rfl) (by kernel_rfl) (by kernel_rfl) (fun _ _ _ h => h) (by kernel_rfl) ?_ hS0 ?_
  rotate_left
  · (intro W hW; clear hW; go_simp; try with_reducible rfl)
  refine gTake 17 (v := ?_) rfl (by kernel_rfl) (by kernel_rfl) (by kernel_rfl) (fun _ _ _ h => h) (by kernel_rfl) ?_ hS0 ?_
  rotate_left
  · (intro W hW; clear hW; go_simp; try with_reducible rfl)
  refine gTake 18 (v := ?_) rfl (by kernel_rfl) (by kernel_rfl) (by kernel_rfl) (fun _ _ _ h => h) (by kernel_rfl) ?_ hS0 ?_
  rotate_left
  · (intro W hW; clear hW; go_simp; try with_reducible rfl)
  refine gTake 19 (v := ?_) rfl (by kernel_rfl) (by kernel_rfl) (by kernel_rfl) (fun _ _ _ h => h) (by kernel_rfl) ?_ hS0 ?_
  rotate_left
  · (intro W hW; clear hW; go_simp; try with_reducible rfl)
  refine gTake 20 (v := ?_) rfl (by kernel_rfl) (by kernel_rfl) (by kernel_rfl) (fun _ _ _ h => h) (by kernel_rfl) ?_ hS0 ?_
  rotate_left
  · (intro W hW; clear hW; go_simp; try with_reducible rfl)
  refine gOne 11 rfl (by kernel_rfl) (by kernel_rfl) (fun K hK => ?_)
  go_simp
  go_at_call 48
  (with_reducible refine (asResistance_any (p * 10000000000 / ((q + qe) * (q + qe))) _ (by omega) (by omega)).mono ?_)
  rintro e w' ⟨rfl, rfl⟩
  try go_simp
  have hS1 := hS0
  refine hK _ _ hS1 ?_
  clear hK K
  refine gOne 21 rfl (by kernel_rfl) (by kernel_rfl) (fun K hK => ?_)
  go_simp
  go_at_call 69
  (with_reducible refine (roundedUp_any ((d + de) * 10000000000) ((q - qe) * (q - qe)) _ (by omega) (by omega) (by omega) (by omega)).mono ?_)
  rintro e w' ⟨rfl, rfl⟩
  try go_simp
  have hS2 := hS1
  refine hK _ _ hS2 ?_
  clear hK K
  refine gOne 22 rfl (by kernel_rfl) (by kernel_rfl) (fun K hK => ?_)
  go_simp
  go_at_call 48
  (with_reducible refine (asResistance_any (((d + de) * 10000000000 + (q - qe) * (q - qe) - 1) / ((q - qe) * (q - qe))) _ (by omega) (by omega)).mono ?_)
  rintro e w' ⟨rfl, rfl⟩
  try go_simp
  have hS3 := hS2
  refine hK _ _ hS3 ?_
  clear hK K
  refine gTake 23 (v := ?_) rfl (by kernel_rfl) (by kernel_rfl) (by kernel_rfl) (fun _ _ _ h => h) (by kernel_rfl) ?_ hS3 ?_
  rotate_left
  · (intro W hW; clear hW; go_simp; try with_reducible rfl)
  refine gOne 24 rfl (by kernel_rfl) (by kernel_rfl) (fun K hK => ?_)
  go_simp
  skip
  refine viaS (hK _ _) ?_ (fun hS4 => ?_)
  · exact ⟨by simp, by simp, by simp, by simp⟩
  clear hK K
  refine wpAnyH_done (by kernel_rfl) ?_ _
  go_simp
  go_wp2
  refine bodyPost_ret (v := .agg #[.int .i64 (loR d de q qe), .int .i64 (hiR d de q qe)]) (by simp [results, Try.results44, go_sem, HE.out.1, HE.out.2]) rfl ⟨rfl, ?_⟩
  exact (by repeat (first | (with_reducible exact Below.refl _ _) | (with_reducible refine below_drewN' ?_ _) | (with_reducible refine Below.drew ?_) | (with_reducible refine Below.alloc ?_ (by simp <;> omega) _) | (with_reducible refine Below.setCell ?_ (by simp) _)))
/-- What BoundsOf returns. -/
def bndA (s : ByteArray) (d de q qe : Int) : Int := if suOk s d de q qe then loR d de q qe else 0
def bndB (s : ByteArray) (d de q qe : Int) : Int := if suOk s d de q qe then hiR d de q qe else 0
def bndC (s : ByteArray) (d de q qe : Int) : Int := if suOk s d de q qe then 0 else 1
def mdA (s : ByteArray) (d de q qe : Int) : Int := if suOk s d de q qe then midR d q else 0
theorem ret_three {a b c a' b' c' : Int} (h : a = a') (k : b = b') (l : c = c') : Ending.returned (.tuple #[.int .i64 a, .int .i64 b, .int .i64 c]) = .returned (.tuple #[.int .i64 a', .int .i64 b', .int .i64 c']) := by rw [h, k, l]
theorem sBoundsOf_any (s : ByteArray) (d de q qe : Int) (w : World) (hs : s.size ≤ maxLen) (hq : I64 q) :
    Calls Try.prog 16 #[.agg #[.string s, .int .i64 d, .int .i64 de, .int .i64 q, .int .i64 qe]] w fun e w' => e = .returned (.tuple #[.int .i64 (bndA s d de q qe), .int .i64 (bndB s d de q qe), .int .i64 (bndC s d de q qe)]) ∧ Below w.heap.size w w' := by
  cases hok : suOk s d de q qe
  · have HE := Lib.hid (show bndA s d de q qe = 0 ∧ bndB s d de q qe = 0 ∧ bndC s d de q qe = 1 by simp [bndA, bndB, bndC, hok])
    go_enter Try.func16, Try.ntmps16
    go_wp2_with (first
          | (go_at_call 40; (with_reducible refine (l05One_below w.heap.size s d de q qe (w.alloc (.cells #[.string s, .int .i64 d, .int .i64 de, .int .i64 q, .int .i64 qe] 26)) hs hq (suBoxed s d de q qe w)).mono ?_); rintro e w1 ⟨rfl, hd1⟩; have hb1 := hd1; obtain ⟨hc1, hf1⟩ := bcell hb1; have hz1 : w.heap.size < w1.heap.size := Nat.lt_of_lt_of_le (by first | (simp; done) | (simp; omega)) hb1.size; clear hd1))
    go_ret3
    exact ⟨ret_three HE.out.1.symm HE.out.2.1.symm HE.out.2.2.symm, (show Below w.heap.size w w1 from (below_box _ _).trans (hb1.mono (by simp)))⟩
  · have HE := Lib.hid (show bndA s d de q qe = loR d de q qe ∧ bndB s d de q qe = hiR d de q qe ∧ bndC s d de q qe = 0 by simp [bndA, bndB, bndC, hok])
    have HOK := Lib.hid hok
    go_enter Try.func16, Try.ntmps16
    go_wp2_with (first
          | (go_at_call 40; (with_reducible refine (l05One_below w.heap.size s d de q qe (w.alloc (.cells #[.string s, .int .i64 d, .int .i64 de, .int .i64 q, .int .i64 qe] 26)) hs hq (suBoxed s d de q qe w)).mono ?_); rintro e w1 ⟨rfl, hd1⟩; have hb1 := hd1; obtain ⟨hc1, hf1⟩ := bcell hb1; have hz1 : w.heap.size < w1.heap.size := Nat.lt_of_lt_of_le (by first | (simp; done) | (simp; omega)) hb1.size; clear hd1)
          | (go_at_call 43; (with_reducible refine (l05Bounds_below w.heap.size s d de q qe w1 HOK.out ((suBoxed s d de q qe w).below hb1 (by simp))).mono ?_); rintro e w2 ⟨rfl, hd2⟩; have hb2 := hb1.trans (hd2.mono hb1.size); obtain ⟨hc2, hf2⟩ := bcell hb2; have hz2 : w.heap.size < w2.heap.size := Nat.lt_of_lt_of_le (by first | (simp; done) | (simp; omega)) hb2.size; clear hd2))
    go_ret3
    exact ⟨ret_three HE.out.1.symm HE.out.2.1.symm HE.out.2.2.symm, (show Below w.heap.size w w2 from (below_box _ _).trans (hb2.mono (by simp)))⟩
theorem iBoundsOf_any (s : ByteArray) (d de q qe : Int) (w : World) (hs : s.size ≤ maxLen) (hq : I64 q) :
    Calls Try.prog 17 #[.agg #[.string s, .int .i64 d, .int .i64 de, .int .i64 q, .int .i64 qe]] w fun e w' => e = .returned (.tuple #[.int .i64 (bndA s d de q qe), .int .i64 (bndB s d de q qe), .int .i64 (bndC s d de q qe)]) ∧ Below w.heap.size w w' := by
  cases hok : suOk s d de q qe
  · have HE := Lib.hid (show bndA s d de q qe = 0 ∧ bndB s d de q qe = 0 ∧ bndC s d de q qe = 1 by simp [bndA, bndB, bndC, hok])
    go_enter Try.func17, Try.ntmps17
    go_wp2_with (first
          | (go_at_call 15; (with_reducible refine (iValidSurvey_any s d de q qe (w.alloc (.cells #[.string s, .int .i64 d, .int .i64 de, .int .i64 q, .int .i64 qe] 26)) hs hq).mono ?_); rintro e w1 ⟨rfl, hd1⟩; have hb1 := hd1; obtain ⟨hc1, hf1⟩ := bcell hb1; have hz1 : w.heap.size < w1.heap.size := Nat.lt_of_lt_of_le (by first | (simp; done) | (simp; omega)) hb1.size; clear hd1))
    go_ret3
    exact ⟨ret_three HE.out.1.symm HE.out.2.1.symm HE.out.2.2.symm, (show Below w.heap.size w w1 from (below_box _ _).trans (hb1.mono (by simp)))⟩
  · have HE := Lib.hid (show bndA s d de q qe = loR d de q qe ∧ bndB s d de q qe = hiR d de q qe ∧ bndC s d de q qe = 0 by simp [bndA, bndB, bndC, hok])
    have HOK := Lib.hid hok
    go_enter Try.func17, Try.ntmps17
    go_wp2_with (first
          | (go_at_call 15; (with_reducible refine (iValidSurvey_any s d de q qe (w.alloc (.cells #[.string s, .int .i64 d, .int .i64 de, .int .i64 q, .int .i64 qe] 26)) hs hq).mono ?_); rintro e w1 ⟨rfl, hd1⟩; have hb1 := hd1; obtain ⟨hc1, hf1⟩ := bcell hb1; have hz1 : w.heap.size < w1.heap.size := Nat.lt_of_lt_of_le (by first | (simp; done) | (simp; omega)) hb1.size; clear hd1)
          | (go_at_call 44; (with_reducible refine (bounds_any s d de q qe w1 HOK.out).mono ?_); rintro e w2 ⟨rfl, hd2⟩; have hb2 := hb1.trans (hd2.mono hb1.size); obtain ⟨hc2, hf2⟩ := bcell hb2; have hz2 : w.heap.size < w2.heap.size := Nat.lt_of_lt_of_le (by first | (simp; done) | (simp; omega)) hb2.size; have hx2 := Below.alloc hb2 hb2.size (.cells #[.int .i64 (loR d de q qe), .int .i64 (hiR d de q qe)] 61); clear hd2))
    go_quiet (fail)
    go_wp2
    go_ret3
    exact ⟨ret_three HE.out.1.symm HE.out.2.1.symm HE.out.2.2.symm, below_drewN' (show Below w.heap.size w (w2.alloc (.cells #[.int .i64 (loR d de q qe), .int .i64 (hiR d de q qe)] 61)) from (below_box _ _).trans (hx2.mono (by simp))) _⟩
theorem sMiddleOf_any (s : ByteArray) (d de q qe : Int) (w : World) (hs : s.size ≤ maxLen) (hq : I64 q) :
    Calls Try.prog 18 #[.agg #[.string s, .int .i64 d, .int .i64 de, .int .i64 q, .int .i64 qe]] w fun e w' => e = .returned (.tuple #[.int .i64 (mdA s d de q qe), .int .i64 (bndC s d de q qe)]) ∧ Below w.heap.size w w' := by
  cases hok : suOk s d de q qe
  · have HE := Lib.hid (show mdA s d de q qe = 0 ∧ bndC s d de q qe = 1 by simp [mdA, bndC, hok])
    go_enter Try.func18, Try.ntmps18
    go_wp2_with (first
          | (go_at_call 40; (with_reducible refine (l05One_below w.heap.size s d de q qe (w.alloc (.cells #[.string s, .int .i64 d, .int .i64 de, .int .i64 q, .int .i64 qe] 26)) hs hq (suBoxed s d de q qe w)).mono ?_); rintro e w1 ⟨rfl, hd1⟩; have hb1 := hd1; obtain ⟨hc1, hf1⟩ := bcell hb1; have hz1 : w.heap.size < w1.heap.size := Nat.lt_of_lt_of_le (by first | (simp; done) | (simp; omega)) hb1.size; clear hd1))
    go_ret2
    exact ⟨ret_two HE.out.1.symm HE.out.2.symm, (show Below w.heap.size w w1 from (below_box _ _).trans (hb1.mono (by simp)))⟩
  · have HE := Lib.hid (show mdA s d de q qe = clampR (divR (d * 10000000000) (q * q)) ∧ bndC s d de q qe = 0 by simp [mdA, midR, bndC, hok])
    obtain ⟨-, ⟨h1, h2⟩, h3, h4⟩ := suOk_bd hok
    obtain ⟨-, -, m5, m6⟩ := su_sq h3 h4
    obtain ⟨x3, x4⟩ := divR_nn (a := d * 10000000000) (b := q * q) (by omega) (by omega)
    go_enter Try.func18, Try.ntmps18
    go_wp2_with (first
          | (go_at_call 40; (with_reducible refine (l05One_below w.heap.size s d de q qe (w.alloc (.cells #[.string s, .int .i64 d, .int .i64 de, .int .i64 q, .int .i64 qe] 26)) hs hq (suBoxed s d de q qe w)).mono ?_); rintro e w1 ⟨rfl, hd1⟩; have hb1 := hd1; obtain ⟨hc1, hf1⟩ := bcell hb1; have hz1 : w.heap.size < w1.heap.size := Nat.lt_of_lt_of_le (by first | (simp; done) | (simp; omega)) hb1.size; clear hd1)
          | (go_at_call 45; (with_reducible refine (l01Div_any _ _ _ (by omega) (by omega) (by omega) (by omega) (by omega)).mono ?_); rintro e w' ⟨rfl, rfl⟩)
          | (go_at_call 47; (with_reducible refine (l00Max_one _ _).mono ?_); rintro e w' ⟨rfl, rfl⟩)
          | (go_at_call 46; (with_reducible refine (l00Min_c _ _).mono ?_); rintro e w' ⟨rfl, rfl⟩))
    go_ret2
    exact ⟨ret_two HE.out.1.symm HE.out.2.symm, (show Below w.heap.size w w1 from (below_box _ _).trans (hb1.mono (by simp)))⟩
theorem iMiddleOf_any (s : ByteArray) (d de q qe : Int) (w : World) (hs : s.size ≤ maxLen) (hq : I64 q) :
    Calls Try.prog 19 #[.agg #[.string s, .int .i64 d, .int .i64 de, .int .i64 q, .int .i64 qe]] w fun e w' => e = .returned (.tuple #[.int .i64 (mdA s d de q qe), .int .i64 (bndC s d de q qe)]) ∧ Below w.heap.size w w' := by
  cases hok : suOk s d de q qe
  · have HE := Lib.hid (show mdA s d de q qe = 0 ∧ bndC s d de q qe = 1 by simp [mdA, bndC, hok])
    go_enter Try.func19, Try.ntmps19
    go_wp2_with (first
          | (go_at_call 15; (with_reducible refine (iValidSurvey_any s d de q qe (w.alloc (.cells #[.string s, .int .i64 d, .int .i64 de, .int .i64 q, .int .i64 qe] 26)) hs hq).mono ?_); rintro e w1 ⟨rfl, hd1⟩; have hb1 := hd1; obtain ⟨hc1, hf1⟩ := bcell hb1; have hz1 : w.heap.size < w1.heap.size := Nat.lt_of_lt_of_le (by first | (simp; done) | (simp; omega)) hb1.size; clear hd1))
    go_ret2
    exact ⟨ret_two HE.out.1.symm HE.out.2.symm, (show Below w.heap.size w w1 from (below_box _ _).trans (hb1.mono (by simp)))⟩
  · have HE := Lib.hid (show mdA s d de q qe = clampR (divR (d * 10000000000) (q * q)) ∧ bndC s d de q qe = 0 by simp [mdA, midR, bndC, hok])
    obtain ⟨-, ⟨h1, h2⟩, h3, h4⟩ := suOk_bd hok
    obtain ⟨-, -, m5, m6⟩ := su_sq h3 h4
    obtain ⟨x3, x4⟩ := divR_nn (a := d * 10000000000) (b := q * q) (by omega) (by omega)
    go_enter Try.func19, Try.ntmps19
    go_wp2_with (first
          | (go_at_call 15; (with_reducible refine (iValidSurvey_any s d de q qe (w.alloc (.cells #[.string s, .int .i64 d, .int .i64 de, .int .i64 q, .int .i64 qe] 26)) hs hq).mono ?_); rintro e w1 ⟨rfl, hd1⟩; have hb1 := hd1; obtain ⟨hc1, hf1⟩ := bcell hb1; have hz1 : w.heap.size < w1.heap.size := Nat.lt_of_lt_of_le (by first | (simp; done) | (simp; omega)) hb1.size; clear hd1)
          | (go_at_call 49; (with_reducible refine ((nearest_any (d * 10000000000) (q * q) w1 (by omega) (by omega) (by omega) (by omega)).mono (R' := fun e w' => e = .returned (.int .i64 (divR (d * 10000000000) (q * q))) ∧ Below (w1).heap.size w1 w') (fun _ _ h => ⟨h.1, by obtain ⟨n, e⟩ := h.2; exact e ▸ below_drewN' (Below.refl _ _) n⟩)).mono ?_); rintro e w2 ⟨rfl, hd2⟩; have hb2 := hb1.trans (hd2.mono hb1.size); obtain ⟨hc2, hf2⟩ := bcell hb2; have hz2 : w.heap.size < w2.heap.size := Nat.lt_of_lt_of_le (by first | (simp; done) | (simp; omega)) hb2.size; clear hd2)
          | (go_at_call 48; (with_reducible refine (asResistance_any _ _ (by omega) (by omega)).mono ?_); rintro e w' ⟨rfl, rfl⟩))
    go_ret2
    exact ⟨ret_two HE.out.1.symm HE.out.2.symm, (show Below w.heap.size w w2 from (below_box _ _).trans (hb2.mono (by simp)))⟩
/-- What FitsSurvey returns. -/
def fitR (s : ByteArray) (d de q qe : Int) (n : Int) : Bool := suOk s d de q qe && inB n (loR d de q qe) (hiR d de q qe)
theorem has_any (lo hi n : Int) (w : World) : Calls Try.prog 51 #[.agg #[.int .i64 lo, .int .i64 hi], .int .i64 n] w fun e w' => e = .returned (.bool (inB n lo hi)) ∧ Below w.heap.size w w' := by
  go_enter Try.func51, Try.ntmps51
  go_wp2_with (go_at_call 42; (with_reducible refine (within64_one _ _ _ _ _ _ (by simp)).mono ?_); rintro e w' ⟨rfl, rfl⟩)
  go_ret
  exact ⟨rfl, (below_one _ _).alloc (by simp) _⟩
theorem sFitsSurvey_any (s : ByteArray) (d de q qe : Int) (n : Int) (w : World) (hs : s.size ≤ maxLen) (hq : I64 q) :
    Calls Try.prog 20 #[.agg #[.string s, .int .i64 d, .int .i64 de, .int .i64 q, .int .i64 qe], .int .i64 n] w fun e w' => e = .returned (.bool (fitR s d de q qe n)) ∧ Below w.heap.size w w' := by
  cases hok : suOk s d de q qe
  · have HE := Lib.hid (show fitR s d de q qe n = false by simp [fitR, hok])
    go_enter Try.func20, Try.ntmps20
    go_wp2_with (first
          | (go_at_call 40; (with_reducible refine (l05One_below w.heap.size s d de q qe (w.alloc (.cells #[.string s, .int .i64 d, .int .i64 de, .int .i64 q, .int .i64 qe] 26)) hs hq (suBoxed s d de q qe w)).mono ?_); rintro e w1 ⟨rfl, hd1⟩; have hb1 := hd1; obtain ⟨hc1, hf1⟩ := bcell hb1; have hz1 : w.heap.size < w1.heap.size := Nat.lt_of_lt_of_le (by first | (simp; done) | (simp; omega)) hb1.size; clear hd1))
    go_ret
    exact ⟨ret_bool HE.out.symm, (show Below w.heap.size w w1 from (below_box _ _).trans (hb1.mono (by simp)))⟩
  · have HE := Lib.hid (show fitR s d de q qe n = inB n (loR d de q qe) (hiR d de q qe) by simp [fitR, hok])
    have HOK := Lib.hid hok
    go_enter Try.func20, Try.ntmps20
    go_wp2_with (first
          | (go_at_call 40; (with_reducible refine (l05One_below w.heap.size s d de q qe (w.alloc (.cells #[.string s, .int .i64 d, .int .i64 de, .int .i64 q, .int .i64 qe] 26)) hs hq (suBoxed s d de q qe w)).mono ?_); rintro e w1 ⟨rfl, hd1⟩; have hb1 := hd1; obtain ⟨hc1, hf1⟩ := bcell hb1; have hz1 : w.heap.size < w1.heap.size := Nat.lt_of_lt_of_le (by first | (simp; done) | (simp; omega)) hb1.size; clear hd1)
          | (go_at_call 43; (with_reducible refine (l05Bounds_below w.heap.size s d de q qe w1 HOK.out ((suBoxed s d de q qe w).below hb1 (by simp))).mono ?_); rintro e w2 ⟨rfl, hd2⟩; have hb2 := hb1.trans (hd2.mono hb1.size); obtain ⟨hc2, hf2⟩ := bcell hb2; have hz2 : w.heap.size < w2.heap.size := Nat.lt_of_lt_of_le (by first | (simp; done) | (simp; omega)) hb2.size; clear hd2)
          | (go_at_call 50; (with_reducible refine (l00In_any _ _ _ _).mono ?_); rintro e w' ⟨rfl, rfl⟩))
    go_ret
    exact ⟨ret_bool HE.out.symm, (show Below w.heap.size w w2 from (below_box _ _).trans (hb2.mono (by simp)))⟩
theorem iFitsSurvey_any (s : ByteArray) (d de q qe : Int) (n : Int) (w : World) (hs : s.size ≤ maxLen) (hq : I64 q) :
    Calls Try.prog 21 #[.agg #[.string s, .int .i64 d, .int .i64 de, .int .i64 q, .int .i64 qe], .int .i64 n] w fun e w' => e = .returned (.bool (fitR s d de q qe n)) ∧ Below w.heap.size w w' := by
  cases hok : suOk s d de q qe
  · have HE := Lib.hid (show fitR s d de q qe n = false by simp [fitR, hok])
    go_enter Try.func21, Try.ntmps21
    go_wp2_with (first
          | (go_at_call 15; (with_reducible refine (iValidSurvey_any s d de q qe (w.alloc (.cells #[.string s, .int .i64 d, .int .i64 de, .int .i64 q, .int .i64 qe] 26)) hs hq).mono ?_); rintro e w1 ⟨rfl, hd1⟩; have hb1 := hd1; obtain ⟨hc1, hf1⟩ := bcell hb1; have hz1 : w.heap.size < w1.heap.size := Nat.lt_of_lt_of_le (by first | (simp; done) | (simp; omega)) hb1.size; clear hd1))
    go_ret
    exact ⟨ret_bool HE.out.symm, (show Below w.heap.size w w1 from (below_box _ _).trans (hb1.mono (by simp)))⟩
  · have HE := Lib.hid (show fitR s d de q qe n = inB n (loR d de q qe) (hiR d de q qe) by simp [fitR, hok])
    have HOK := Lib.hid hok
    go_enter Try.func21, Try.ntmps21
    go_wp2_with (first
          | (go_at_call 15; (with_reducible refine (iValidSurvey_any s d de q qe (w.alloc (.cells #[.string s, .int .i64 d, .int .i64 de, .int .i64 q, .int .i64 qe] 26)) hs hq).mono ?_); rintro e w1 ⟨rfl, hd1⟩; have hb1 := hd1; obtain ⟨hc1, hf1⟩ := bcell hb1; have hz1 : w.heap.size < w1.heap.size := Nat.lt_of_lt_of_le (by first | (simp; done) | (simp; omega)) hb1.size; clear hd1)
          | (go_at_call 44; (with_reducible refine (bounds_any s d de q qe w1 HOK.out).mono ?_); rintro e w2 ⟨rfl, hd2⟩; have hb2 := hb1.trans (hd2.mono hb1.size); obtain ⟨hc2, hf2⟩ := bcell hb2; have hz2 : w.heap.size < w2.heap.size := Nat.lt_of_lt_of_le (by first | (simp; done) | (simp; omega)) hb2.size; clear hd2)
          | (go_at_call 51; (with_reducible refine (has_any _ _ _ w2).mono ?_); rintro e w3 ⟨rfl, hd3⟩; have hb3 := hb2.trans (hd3.mono hb2.size); obtain ⟨hc3, hf3⟩ := bcell hb3; have hz3 : w.heap.size < w3.heap.size := Nat.lt_of_lt_of_le (by first | (simp; done) | (simp; omega)) hb3.size; clear hd3))
    go_ret
    exact ⟨ret_bool HE.out.symm, (show Below w.heap.size w w3 from (below_box _ _).trans (hb3.mono (by simp)))⟩
theorem szSurvey_small (s : ByteArray) (d de q qe : Int) (w : World) (hs : s.size ≤ 1048576) :
    Calls Try.prog 12 #[.agg #[.string s, .int .i64 d, .int .i64 de, .int .i64 q, .int .i64 qe], .int .i64 1048576] w fun e w' => e = .returned (.int .i64 (1048576 - s.size)) ∧ Below w.heap.size w w' := by
  go_enter Try.func12, Try.ntmps12
  go_wp2
  go_ret
  exact ⟨rfl, below_box _ _⟩
theorem szSurvey_big (s : ByteArray) (d de q qe : Int) (w : World) (hs : 1048576 < s.size) (hm : s.size ≤ maxLen) :
    Calls Try.prog 12 #[.agg #[.string s, .int .i64 d, .int .i64 de, .int .i64 q, .int .i64 qe], .int .i64 1048576] w fun e w' => e = .returned (.int .i64 (-1)) ∧ Below w.heap.size w w' := by
  unfold maxLen at hm
  go_enter Try.func12, Try.ntmps12
  go_wp2
  go_ret
  exact ⟨rfl, below_box _ _⟩
theorem toSurvey_any (s : ByteArray) (d de q qe : Int) (w : World) :
    Calls Try.prog 14 #[.agg #[.string s, .int .i64 d, .int .i64 de, .int .i64 q, .int .i64 qe]] w fun e w' => e = .returned (.agg #[.string s, .int .i64 d, .int .i64 de, .int .i64 q, .int .i64 qe]) ∧ Below w.heap.size w w' := by
  go_enter Try.func14, Try.ntmps14
  go_wp2
  refine bodyPost_ret (v := .agg #[.string s, .int .i64 d, .int .i64 de, .int .i64 q, .int .i64 qe]) (by simp [results, Try.results14, go_sem]) rfl ⟨rfl, ?_⟩
  exact (by repeat (first | exact Below.refl _ _ | refine below_drewN' ?_ _ | refine Below.alloc ?_ (by simp <;> omega) _))
end Go.Proofs.Ytbjfdhbgnklahaa
