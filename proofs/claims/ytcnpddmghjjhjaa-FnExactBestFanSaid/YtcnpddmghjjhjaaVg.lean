/-
  Contracts of chapter 6: PressureAt and FanPower; the model's and the program's. Conditions: those that each theorem states.
-/
import Derived.Test.YtcnpddmghjjhjaaVf
import Derived.Test.YtcnpddmghjjhjaaDa
namespace Go.Proofs.Ytcnpddmghjjhjaa
open Go.RowKit
set_option linter.unusedVariables false
set_option linter.unusedSimpArgs false

theorem pw_bd {x y : Int} (hx : -100000 ≤ x ∧ x ≤ 100000) (hy : 0 ≤ y ∧ y ≤ 10000) : (0 ≤ absR x ∧ absR x ≤ 100000) ∧ (0 ≤ y * absR x ∧ y * absR x ≤ 1000000000) := by
  have h1 := absR_cases x
  have h2 : 0 ≤ absR x ∧ absR x ≤ 100000 := by omega
  have h3 : 0 ≤ y * absR x := Int.mul_nonneg hy.1 h2.1
  have h4 : y * absR x ≤ 10000 * 100000 := Int.mul_le_mul hy.2 h2.2 h2.1 (by omega)
  exact ⟨h2, h3, by omega⟩
theorem power_any (x y : Int) (w : World) (hx : -100000 ≤ x ∧ x ≤ 100000) (hy : 0 ≤ y ∧ y ≤ 10000) :
    Calls Try.prog 66 #[.agg #[.int .i64 x, .int .i64 y]] w fun e w' => e = .returned (.int .i64 (divR (y * absR x) 100)) ∧ Below w.heap.size w w' := by
  obtain ⟨⟨p1, p2⟩, p3, p4⟩ := pw_bd hx hy
  have hwm : IntKind.i64.wrap (y * absR x) = y * absR x := IntWalk.i64_in _ (by omega)
  have d0 : (w.alloc (.cells #[.int .i64 x, .int .i64 y] 60)).cell? ⟨w.heap.size, 0, none⟩ = some (.int .i64 x) := by simp
  have d1 : (w.alloc (.cells #[.int .i64 x, .int .i64 y] 60)).cell? ⟨w.heap.size, 1, none⟩ = some (.int .i64 y) := by simp
  go_enter Try.func66, Try.ntmps66
  go_wp2_with fail
  refine wp_region_held (S := fun w' => w'.cell? ⟨w.heap.size, 0, none⟩ = some (.int .i64 x) ∧ w'.cell? ⟨w.heap.size, 1, none⟩ = some (.int .i64 y) ∧ Below (w.alloc (.cells #[.int .i64 x, .int .i64 y] 60)).heap.size (w.alloc (.cells #[.int .i64 x, .int .i64 y] 60)) w') (by kernel_rfl) ?_
  try (change wpAnyH _ _ _ _ _ _ _ _ (World.drew _))
  have hS0 := (show (w.alloc (.cells #[.int .i64 x, .int .i64 y] 60)).drew.cell? ⟨w.heap.size, 0, none⟩ = some (.int .i64 x) ∧ (w.alloc (.cells #[.int .i64 x, .int .i64 y] 60)).drew.cell? ⟨w.heap.size, 1, none⟩ = some (.int .i64 y) ∧ Below (w.alloc (.cells #[.int .i64 x, .int .i64 y] 60)).heap.size (w.alloc (.cells #[.int .i64 x, .int .i64 y] 60)) (w.alloc (.cells #[.int .i64 x, .int .i64 y] 60)).drew from ⟨d0, d1, Below.drew (Below.refl _ _)⟩)
  refine gTake 0 (v := ?_) rfl (by kernel_rfl) (by kernel_rfl) (by kernel_rfl) (fun _ _ _ h => h) (by kernel_rfl) ?_ hS0 ?_
  rotate_left
  · (intro W hW; clear hW; go_simp; try with_reducible rfl)
  refine gTake 1 (v := ?_) rfl (by kernel_rfl) (by kernel_rfl) (by kernel_rfl) (fun _ _ _ h => h) (by kernel_rfl) ?_ hS0 ?_
  rotate_left
  · (intro W hW; have q0 := hW.1; have q1 := hW.2.1; clear hW; go_simp; try with_reducible rfl)
  refine gTake 2 (v := ?_) rfl (by kernel_rfl) (by kernel_rfl) (by kernel_rfl) (fun _ _ _ h => h) (by kernel_rfl) ?_ hS0 ?_
  rotate_left
  · (intro W hW; clear hW; go_simp; try with_reducible rfl)
  refine gTake 3 (v := ?_) rfl (by kernel_rfl) (by kernel_rfl) (by kernel_rfl) (fun _ _ _ h => h) (by kernel_rfl) ?_ hS0 ?_
  rotate_left
  · (intro W hW; have q0 := hW.1; have q1 := hW.2.1; clear hW; go_simp; try with_reducible rfl)
  refine gOne 4 rfl (by kernel_rfl) (by kernel_rfl) (fun K hK => ?_)
  go_simp
  go_at_call 101
  (with_reducible refine (absolute_any x _ (by omega) (by omega)).mono ?_)
  rintro e w' ⟨rfl, rfl⟩
  try go_simp
  have hS1 := hS0
  refine hK _ _ hS1 ?_
  clear hK K
  refine gTake 5 (v := ?_) rfl (by kernel_rfl) (by kernel_rfl) (by kernel_rfl) (fun _ _ _ h => h) (by kernel_rfl) ?_ hS1 ?_
  rotate_left
  · (intro W hW; clear hW; go_simp; try with_reducible rfl)
  refine gOne 6 rfl (by kernel_rfl) (by kernel_rfl) (fun K hK => ?_)
  go_simp
  go_at_call 100
  (with_reducible refine (nearest_any (y * absR x) 100 _ (by omega) (by omega) (by omega) (by omega)).mono ?_)
  rintro e w' ⟨rfl, n1, rfl⟩
  try go_simp
  refine viaS (hK _ _) ?_ (fun hS2 => ?_)
  · exact ⟨hS1.1, hS1.2.1, below_drewN' (Below.refl _ _) _⟩
  clear hK K
  refine gTake 7 (v := ?_) rfl (by kernel_rfl) (by kernel_rfl) (by kernel_rfl) (fun _ _ _ h => h) (by kernel_rfl) ?_ hS2 ?_
  rotate_left
  · (intro W hW; clear hW; go_simp; try with_reducible rfl)
  refine wpAnyH_done (by kernel_rfl) ?_ _
  go_simp
  go_wp2
  go_ret
  exact ⟨rfl, (below_box _ _).trans (hS2.2.2.mono (by simp))⟩
theorem at_any (s : ByteArray) (a : Int) (A : Option Addr) (cap : Nat) (xs : List (List Int)) (q : Int) (w : World) (hq : I64 q) (hok : curveOk xs = true) (hr : RowsR w A xs) (hl : xs.length ≤ 1048576) (hcap : xs.length ≤ cap) (hcm : cap ≤ 1048576) :
    Calls Try.prog 65 #[.agg #[.string s, .int .i64 a, .slice A xs.length cap], .int .i64 q] w fun e w' => e = .returned (.agg #[.int .i64 q, .int .i64 (prR xs q)]) ∧ Below w.heap.size w w' := by
  have HR := Lib.hid (hr.below (below_box w (.cells #[.string s, .int .i64 a, .slice A xs.length cap] 27)))
  have HOK := Lib.hid hok
  clear hr hok
  go_enter Try.func65, Try.ntmps65
  go_wp2_with (go_at_call 56; (with_reducible refine (pressure_any s a A cap xs q _ hq HOK.out (HR.out.below (below_box _ _)) hl hcap hcm).mono ?_); rintro e w1 ⟨rfl, hd⟩; have HB := (show Below w.heap.size w w1 from ((below_box _ _).alloc (by simp) _).trans (hd.mono (by first | (simp; done) | (simp; omega)))); obtain ⟨hc, hf⟩ := bcell hd; have hz : w.heap.size + 1 < w1.heap.size := Nat.lt_of_lt_of_le (by simp) hd.size)
  refine bodyPost_ret (v := .agg #[.int .i64 q, .int .i64 (prR xs q)]) (by simp [results, Try.results65, go_sem, hz, hc]) rfl ⟨rfl, ?_⟩
  exact (by repeat (first | (with_reducible exact HB) | (with_reducible refine below_drewN' ?_ _) | (with_reducible refine Below.drew ?_) | (with_reducible refine Below.alloc ?_ (by first | omega | (simp; done) | (simp; omega)) _) | (with_reducible refine Below.setCell ?_ (by first | omega | (simp; done) | (simp; omega)) _)))
/-- What PressureAt and FanPower return. -/
def paC (s : ByteArray) (a : Int) (xs : List (List Int)) (q : Int) : Int := if fanOk s a xs then (if inB q (-100000) 100000 then 0 else 2) else 1
def paA (s : ByteArray) (a : Int) (xs : List (List Int)) (q : Int) : Int := if fanOk s a xs && inB q (-100000) 100000 then prR xs q else 0
def fpA (s : ByteArray) (a : Int) (xs : List (List Int)) (q : Int) : Int := if fanOk s a xs && inB q (-100000) 100000 then divR (prR xs q * absR q) 100 else 0
set_option maxHeartbeats 1000000 in
theorem sPressureAt_any (s : ByteArray) (a : Int) (A : Option Addr) (cap : Nat) (xs : List (List Int)) (q : Int) (w : World) (hr : RowsR w A xs) (hs : s.size ≤ 1048576) (hl : xs.length ≤ 1048576) (hx : ∀ r ∈ xs, r.length ≤ 1048576) :
    Calls Try.prog 25 #[.agg #[.string s, .int .i64 a, .slice A xs.length cap], .int .i64 q] w fun e w' => e = .returned (.tuple #[.int .i64 (paA s a xs q), .int .i64 (paC s a xs q)]) ∧ Below w.heap.size w w' := by
  have HR := Lib.hid (hr.below (below_box w (.cells #[.string s, .int .i64 a, .slice A xs.length cap] 27)))
  have HX := Lib.hid hx
  clear hr hx
  cases hok : fanOk s a xs
  · have HE := Lib.hid (show paA s a xs q = 0 ∧ paC s a xs q = 1 by simp [paA, paC, hok])
    go_enter Try.func25, Try.ntmps25
    go_wp2_with (first
          | (go_at_call 42; (with_reducible refine (l06Ok_below w.heap.size 0 s a A cap xs (w.alloc (.cells #[.string s, .int .i64 a, .slice A xs.length cap] 27)) ((fanBoxed s a A cap xs w).below (Below.refl _ (w.alloc (.cells #[.string s, .int .i64 a, .slice A xs.length cap] 27)))) (HR.out.below (Below.refl _ (w.alloc (.cells #[.string s, .int .i64 a, .slice A xs.length cap] 27)))) hs hl HX.out).mono ?_); rintro e w1 ⟨rfl, hd1⟩; have hb1 := hd1; obtain ⟨hc1, hf1⟩ := bcell hb1; have hz1 : w.heap.size < w1.heap.size := Nat.lt_of_lt_of_le (by first | (simp; done) | (simp; omega)) hb1.size; clear hd1))
    go_ret2
    exact ⟨ret_two HE.out.1.symm HE.out.2.symm, (show Below w.heap.size w w1 from (below_box _ _).trans (hb1.mono (by simp)))⟩
  · have HOK := Lib.hid (fanOk_curve hok)
    by_cases hqb : -100000 ≤ q ∧ q ≤ 100000
    · have hq64 : I64 q := by unfold I64; omega
      have j0 := inB_true hqb.1 hqb.2
      have HE := Lib.hid (show paA s a xs q = prR xs q ∧ paC s a xs q = 0 by simp [paA, paC, hok, j0])
      go_enter Try.func25, Try.ntmps25
      go_wp2_with (first
            | (go_at_call 42; (with_reducible refine (l06Ok_below w.heap.size 0 s a A cap xs (w.alloc (.cells #[.string s, .int .i64 a, .slice A xs.length cap] 27)) ((fanBoxed s a A cap xs w).below (Below.refl _ (w.alloc (.cells #[.string s, .int .i64 a, .slice A xs.length cap] 27)))) (HR.out.below (Below.refl _ (w.alloc (.cells #[.string s, .int .i64 a, .slice A xs.length cap] 27)))) hs hl HX.out).mono ?_); rintro e w1 ⟨rfl, hd1⟩; have hb1 := hd1; obtain ⟨hc1, hf1⟩ := bcell hb1; have hz1 : w.heap.size < w1.heap.size := Nat.lt_of_lt_of_le (by first | (simp; done) | (simp; omega)) hb1.size; clear hd1)
            | (go_at_call 53; (with_reducible refine (l03Flow_any _ _).mono ?_); rintro e w' ⟨rfl, rfl⟩)
            | (go_at_call 54; (with_reducible refine (l06Pressure_below w.heap.size 0 s a A cap xs q w1 hq64 HOK.out ((fanBoxed s a A cap xs w).below hb1) (HR.out.below hb1) hl).mono ?_); rintro e w2 ⟨rfl, hd2⟩; have hb2 := hb1.trans (hd2.mono hb1.size); obtain ⟨hc2, hf2⟩ := bcell hb2; have hz2 : w.heap.size < w2.heap.size := Nat.lt_of_lt_of_le (by first | (simp; done) | (simp; omega)) hb2.size; clear hd2))
      go_ret2
      exact ⟨ret_two HE.out.1.symm HE.out.2.symm, (show Below w.heap.size w w2 from (below_box _ _).trans (hb2.mono (by simp)))⟩
    · have j0 := inB_false hqb
      have HE := Lib.hid (show paA s a xs q = 0 ∧ paC s a xs q = 2 by simp [paA, paC, hok, j0])
      go_enter Try.func25, Try.ntmps25
      go_wp2_with (first
            | (go_at_call 42; (with_reducible refine (l06Ok_below w.heap.size 0 s a A cap xs (w.alloc (.cells #[.string s, .int .i64 a, .slice A xs.length cap] 27)) ((fanBoxed s a A cap xs w).below (Below.refl _ (w.alloc (.cells #[.string s, .int .i64 a, .slice A xs.length cap] 27)))) (HR.out.below (Below.refl _ (w.alloc (.cells #[.string s, .int .i64 a, .slice A xs.length cap] 27)))) hs hl HX.out).mono ?_); rintro e w1 ⟨rfl, hd1⟩; have hb1 := hd1; obtain ⟨hc1, hf1⟩ := bcell hb1; have hz1 : w.heap.size < w1.heap.size := Nat.lt_of_lt_of_le (by first | (simp; done) | (simp; omega)) hb1.size; clear hd1)
            | (go_at_call 53; (with_reducible refine (l03Flow_any _ _).mono ?_); rintro e w' ⟨rfl, rfl⟩))
      go_ret2
      exact ⟨ret_two HE.out.1.symm HE.out.2.symm, (show Below w.heap.size w w1 from (below_box _ _).trans (hb1.mono (by simp)))⟩
set_option maxHeartbeats 1000000 in
theorem iPressureAt_any (s : ByteArray) (a : Int) (A : Option Addr) (cap : Nat) (xs : List (List Int)) (q : Int) (w : World) (hr : RowsR w A xs) (hs : s.size ≤ 1048576) (hl : xs.length ≤ 1048576) (hx : ∀ r ∈ xs, r.length ≤ 1048576) (hcap : xs.length ≤ cap) (hcm : cap ≤ 1048576) :
    Calls Try.prog 26 #[.agg #[.string s, .int .i64 a, .slice A xs.length cap], .int .i64 q] w fun e w' => e = .returned (.tuple #[.int .i64 (paA s a xs q), .int .i64 (paC s a xs q)]) ∧ Below w.heap.size w w' := by
  have HR := Lib.hid (hr.below (below_box w (.cells #[.string s, .int .i64 a, .slice A xs.length cap] 27)))
  have HX := Lib.hid hx
  clear hr hx
  cases hok : fanOk s a xs
  · have HE := Lib.hid (show paA s a xs q = 0 ∧ paC s a xs q = 1 by simp [paA, paC, hok])
    go_enter Try.func26, Try.ntmps26
    go_wp2_with (first
          | (go_at_call 16; (with_reducible refine (iValidFan_any s a A cap xs (w.alloc (.cells #[.string s, .int .i64 a, .slice A xs.length cap] 27)) (HR.out.below (Below.refl _ (w.alloc (.cells #[.string s, .int .i64 a, .slice A xs.length cap] 27)))) hs hl HX.out).mono ?_); rintro e w1 ⟨rfl, hd1⟩; have hb1 := hd1; obtain ⟨hc1, hf1⟩ := bcell hb1; have hz1 : w.heap.size < w1.heap.size := Nat.lt_of_lt_of_le (by first | (simp; done) | (simp; omega)) hb1.size; clear hd1))
    go_ret2
    exact ⟨ret_two HE.out.1.symm HE.out.2.symm, (show Below w.heap.size w w1 from (below_box _ _).trans (hb1.mono (by simp)))⟩
  · have HOK := Lib.hid (fanOk_curve hok)
    by_cases hqb : -100000 ≤ q ∧ q ≤ 100000
    · have hq64 : I64 q := by unfold I64; omega
      have j0 := inB_true hqb.1 hqb.2
      have HE := Lib.hid (show paA s a xs q = prR xs q ∧ paC s a xs q = 0 by simp [paA, paC, hok, j0])
      go_enter Try.func26, Try.ntmps26
      go_wp2_with (first
            | (go_at_call 16; (with_reducible refine (iValidFan_any s a A cap xs (w.alloc (.cells #[.string s, .int .i64 a, .slice A xs.length cap] 27)) (HR.out.below (Below.refl _ (w.alloc (.cells #[.string s, .int .i64 a, .slice A xs.length cap] 27)))) hs hl HX.out).mono ?_); rintro e w1 ⟨rfl, hd1⟩; have hb1 := hd1; obtain ⟨hc1, hf1⟩ := bcell hb1; have hz1 : w.heap.size < w1.heap.size := Nat.lt_of_lt_of_le (by first | (simp; done) | (simp; omega)) hb1.size; clear hd1)
            | (go_at_call 55; (with_reducible refine (isFlow_any _ w1).mono ?_); rintro e w2 ⟨rfl, hd2⟩; have hb2 := hb1.trans (hd2.mono hb1.size); obtain ⟨hc2, hf2⟩ := bcell hb2; have hz2 : w.heap.size < w2.heap.size := Nat.lt_of_lt_of_le (by first | (simp; done) | (simp; omega)) hb2.size; clear hd2)
            | (go_at_call 56; (with_reducible refine (pressure_any s a A cap xs q w2 hq64 HOK.out (HR.out.below hb2) hl hcap hcm).mono ?_); rintro e w3 ⟨rfl, hd3⟩; have hb3 := hb2.trans (hd3.mono hb2.size); obtain ⟨hc3, hf3⟩ := bcell hb3; have hz3 : w.heap.size < w3.heap.size := Nat.lt_of_lt_of_le (by first | (simp; done) | (simp; omega)) hb3.size; clear hd3))
      go_ret2
      exact ⟨ret_two HE.out.1.symm HE.out.2.symm, (show Below w.heap.size w w3 from (below_box _ _).trans (hb3.mono (by simp)))⟩
    · have j0 := inB_false hqb
      have HE := Lib.hid (show paA s a xs q = 0 ∧ paC s a xs q = 2 by simp [paA, paC, hok, j0])
      go_enter Try.func26, Try.ntmps26
      go_wp2_with (first
            | (go_at_call 16; (with_reducible refine (iValidFan_any s a A cap xs (w.alloc (.cells #[.string s, .int .i64 a, .slice A xs.length cap] 27)) (HR.out.below (Below.refl _ (w.alloc (.cells #[.string s, .int .i64 a, .slice A xs.length cap] 27)))) hs hl HX.out).mono ?_); rintro e w1 ⟨rfl, hd1⟩; have hb1 := hd1; obtain ⟨hc1, hf1⟩ := bcell hb1; have hz1 : w.heap.size < w1.heap.size := Nat.lt_of_lt_of_le (by first | (simp; done) | (simp; omega)) hb1.size; clear hd1)
            | (go_at_call 55; (with_reducible refine (isFlow_any _ w1).mono ?_); rintro e w2 ⟨rfl, hd2⟩; have hb2 := hb1.trans (hd2.mono hb1.size); obtain ⟨hc2, hf2⟩ := bcell hb2; have hz2 : w.heap.size < w2.heap.size := Nat.lt_of_lt_of_le (by first | (simp; done) | (simp; omega)) hb2.size; clear hd2))
      go_ret2
      exact ⟨ret_two HE.out.1.symm HE.out.2.symm, (show Below w.heap.size w w2 from (below_box _ _).trans (hb2.mono (by simp)))⟩
theorem l06Power_below (b0 o0 : Nat) (s : ByteArray) (a : Int) (A : Option Addr) (cap : Nat) (xs : List (List Int)) (q : Int) (w : World) (hqb : -100000 ≤ q ∧ q ≤ 100000) (hok : curveOk xs = true) (hc : FanAt w b0 o0 s a A cap xs) (hr : RowsR w A xs) (hl : xs.length ≤ 1048576) :
    Calls Try.prog 64 #[.pointer (some ⟨b0, o0, none⟩), .int .i64 q] w fun e w' => e = .returned (.int .i64 (divR (prR xs q * absR q) 100)) ∧ Below w.heap.size w w' := by
  have HR := Lib.hid hr
  have HC := Lib.hid hc
  have HOK := Lib.hid hok
  clear hr hc hok
  obtain ⟨⟨p1, p2⟩, p3, p4⟩ := pw_bd hqb (prR_bd HOK.out q)
  have hq64 : I64 q := by unfold I64; omega
  go_enter Try.func64, Try.ntmps64
  go_wp2_with (first
      | (go_at_call 54; (with_reducible refine (l06Pressure_below b0 o0 s a A cap xs q _ hq64 HOK.out HC.out HR.out hl).mono ?_); rintro e w1 ⟨rfl, hd⟩)
      | (go_at_call 99; (with_reducible refine (l03Abs_any q _ (by omega) (by omega)).mono ?_); rintro e w' ⟨rfl, rfl⟩)
      | (go_at_call 98; (with_reducible refine (l01Div_any _ _ _ (by omega) (by omega) (by omega) (by omega) (by omega)).mono ?_); rintro e w' ⟨rfl, rfl⟩))
  go_ret
  exact ⟨rfl, hd⟩
set_option maxHeartbeats 1000000 in
theorem sFanPower_any (s : ByteArray) (a : Int) (A : Option Addr) (cap : Nat) (xs : List (List Int)) (q : Int) (w : World) (hr : RowsR w A xs) (hs : s.size ≤ 1048576) (hl : xs.length ≤ 1048576) (hx : ∀ r ∈ xs, r.length ≤ 1048576) :
    Calls Try.prog 31 #[.agg #[.string s, .int .i64 a, .slice A xs.length cap], .int .i64 q] w fun e w' => e = .returned (.tuple #[.int .i64 (fpA s a xs q), .int .i64 (paC s a xs q)]) ∧ Below w.heap.size w w' := by
  have HR := Lib.hid (hr.below (below_box w (.cells #[.string s, .int .i64 a, .slice A xs.length cap] 27)))
  have HX := Lib.hid hx
  clear hr hx
  cases hok : fanOk s a xs
  · have HE := Lib.hid (show fpA s a xs q = 0 ∧ paC s a xs q = 1 by simp [fpA, paC, hok])
    go_enter Try.func31, Try.ntmps31
    go_wp2_with (first
          | (go_at_call 42; (with_reducible refine (l06Ok_below w.heap.size 0 s a A cap xs (w.alloc (.cells #[.string s, .int .i64 a, .slice A xs.length cap] 27)) ((fanBoxed s a A cap xs w).below (Below.refl _ (w.alloc (.cells #[.string s, .int .i64 a, .slice A xs.length cap] 27)))) (HR.out.below (Below.refl _ (w.alloc (.cells #[.string s, .int .i64 a, .slice A xs.length cap] 27)))) hs hl HX.out).mono ?_); rintro e w1 ⟨rfl, hd1⟩; have hb1 := hd1; obtain ⟨hc1, hf1⟩ := bcell hb1; have hz1 : w.heap.size < w1.heap.size := Nat.lt_of_lt_of_le (by first | (simp; done) | (simp; omega)) hb1.size; clear hd1))
    go_ret2
    exact ⟨ret_two HE.out.1.symm HE.out.2.symm, (show Below w.heap.size w w1 from (below_box _ _).trans (hb1.mono (by simp)))⟩
  · have HOK := Lib.hid (fanOk_curve hok)
    by_cases hqb : -100000 ≤ q ∧ q ≤ 100000
    · have hq64 : I64 q := by unfold I64; omega
      have j0 := inB_true hqb.1 hqb.2
      have HE := Lib.hid (show fpA s a xs q = divR (prR xs q * absR q) 100 ∧ paC s a xs q = 0 by simp [fpA, paC, hok, j0])
      go_enter Try.func31, Try.ntmps31
      go_wp2_with (first
            | (go_at_call 42; (with_reducible refine (l06Ok_below w.heap.size 0 s a A cap xs (w.alloc (.cells #[.string s, .int .i64 a, .slice A xs.length cap] 27)) ((fanBoxed s a A cap xs w).below (Below.refl _ (w.alloc (.cells #[.string s, .int .i64 a, .slice A xs.length cap] 27)))) (HR.out.below (Below.refl _ (w.alloc (.cells #[.string s, .int .i64 a, .slice A xs.length cap] 27)))) hs hl HX.out).mono ?_); rintro e w1 ⟨rfl, hd1⟩; have hb1 := hd1; obtain ⟨hc1, hf1⟩ := bcell hb1; have hz1 : w.heap.size < w1.heap.size := Nat.lt_of_lt_of_le (by first | (simp; done) | (simp; omega)) hb1.size; clear hd1)
            | (go_at_call 53; (with_reducible refine (l03Flow_any _ _).mono ?_); rintro e w' ⟨rfl, rfl⟩)
            | (go_at_call 64; (with_reducible refine (l06Power_below w.heap.size 0 s a A cap xs q w1 hqb HOK.out ((fanBoxed s a A cap xs w).below hb1) (HR.out.below hb1) hl).mono ?_); rintro e w2 ⟨rfl, hd2⟩; have hb2 := hb1.trans (hd2.mono hb1.size); obtain ⟨hc2, hf2⟩ := bcell hb2; have hz2 : w.heap.size < w2.heap.size := Nat.lt_of_lt_of_le (by first | (simp; done) | (simp; omega)) hb2.size; clear hd2))
      go_ret2
      exact ⟨ret_two HE.out.1.symm HE.out.2.symm, (show Below w.heap.size w w2 from (below_box _ _).trans (hb2.mono (by simp)))⟩
    · have j0 := inB_false hqb
      have HE := Lib.hid (show fpA s a xs q = 0 ∧ paC s a xs q = 2 by simp [fpA, paC, hok, j0])
      go_enter Try.func31, Try.ntmps31
      go_wp2_with (first
            | (go_at_call 42; (with_reducible refine (l06Ok_below w.heap.size 0 s a A cap xs (w.alloc (.cells #[.string s, .int .i64 a, .slice A xs.length cap] 27)) ((fanBoxed s a A cap xs w).below (Below.refl _ (w.alloc (.cells #[.string s, .int .i64 a, .slice A xs.length cap] 27)))) (HR.out.below (Below.refl _ (w.alloc (.cells #[.string s, .int .i64 a, .slice A xs.length cap] 27)))) hs hl HX.out).mono ?_); rintro e w1 ⟨rfl, hd1⟩; have hb1 := hd1; obtain ⟨hc1, hf1⟩ := bcell hb1; have hz1 : w.heap.size < w1.heap.size := Nat.lt_of_lt_of_le (by first | (simp; done) | (simp; omega)) hb1.size; clear hd1)
            | (go_at_call 53; (with_reducible refine (l03Flow_any _ _).mono ?_); rintro e w' ⟨rfl, rfl⟩))
      go_ret2
      exact ⟨ret_two HE.out.1.symm HE.out.2.symm, (show Below w.heap.size w w1 from (below_box _ _).trans (hb1.mono (by simp)))⟩
set_option maxHeartbeats 1000000 in
theorem iFanPower_any (s : ByteArray) (a : Int) (A : Option Addr) (cap : Nat) (xs : List (List Int)) (q : Int) (w : World) (hr : RowsR w A xs) (hs : s.size ≤ 1048576) (hl : xs.length ≤ 1048576) (hx : ∀ r ∈ xs, r.length ≤ 1048576) (hcap : xs.length ≤ cap) (hcm : cap ≤ 1048576) :
    Calls Try.prog 32 #[.agg #[.string s, .int .i64 a, .slice A xs.length cap], .int .i64 q] w fun e w' => e = .returned (.tuple #[.int .i64 (fpA s a xs q), .int .i64 (paC s a xs q)]) ∧ Below w.heap.size w w' := by
  have HR := Lib.hid (hr.below (below_box w (.cells #[.string s, .int .i64 a, .slice A xs.length cap] 27)))
  have HX := Lib.hid hx
  clear hr hx
  cases hok : fanOk s a xs
  · have HE := Lib.hid (show fpA s a xs q = 0 ∧ paC s a xs q = 1 by simp [fpA, paC, hok])
    go_enter Try.func32, Try.ntmps32
    go_wp2_with (first
          | (go_at_call 16; (with_reducible refine (iValidFan_any s a A cap xs (w.alloc (.cells #[.string s, .int .i64 a, .slice A xs.length cap] 27)) (HR.out.below (Below.refl _ (w.alloc (.cells #[.string s, .int .i64 a, .slice A xs.length cap] 27)))) hs hl HX.out).mono ?_); rintro e w1 ⟨rfl, hd1⟩; have hb1 := hd1; obtain ⟨hc1, hf1⟩ := bcell hb1; have hz1 : w.heap.size < w1.heap.size := Nat.lt_of_lt_of_le (by first | (simp; done) | (simp; omega)) hb1.size; clear hd1))
    go_ret2
    exact ⟨ret_two HE.out.1.symm HE.out.2.symm, (show Below w.heap.size w w1 from (below_box _ _).trans (hb1.mono (by simp)))⟩
  · have HOK := Lib.hid (fanOk_curve hok)
    by_cases hqb : -100000 ≤ q ∧ q ≤ 100000
    · have hq64 : I64 q := by unfold I64; omega
      have j0 := inB_true hqb.1 hqb.2
      have HE := Lib.hid (show fpA s a xs q = divR (prR xs q * absR q) 100 ∧ paC s a xs q = 0 by simp [fpA, paC, hok, j0])
      go_enter Try.func32, Try.ntmps32
      go_wp2_with (first
            | (go_at_call 16; (with_reducible refine (iValidFan_any s a A cap xs (w.alloc (.cells #[.string s, .int .i64 a, .slice A xs.length cap] 27)) (HR.out.below (Below.refl _ (w.alloc (.cells #[.string s, .int .i64 a, .slice A xs.length cap] 27)))) hs hl HX.out).mono ?_); rintro e w1 ⟨rfl, hd1⟩; have hb1 := hd1; obtain ⟨hc1, hf1⟩ := bcell hb1; have hz1 : w.heap.size < w1.heap.size := Nat.lt_of_lt_of_le (by first | (simp; done) | (simp; omega)) hb1.size; clear hd1)
            | (go_at_call 55; (with_reducible refine (isFlow_any _ w1).mono ?_); rintro e w2 ⟨rfl, hd2⟩; have hb2 := hb1.trans (hd2.mono hb1.size); obtain ⟨hc2, hf2⟩ := bcell hb2; have hz2 : w.heap.size < w2.heap.size := Nat.lt_of_lt_of_le (by first | (simp; done) | (simp; omega)) hb2.size; clear hd2)
            | (go_at_call 65; (with_reducible refine (at_any s a A cap xs q w2 hq64 HOK.out (HR.out.below hb2) hl hcap hcm).mono ?_); rintro e w3 ⟨rfl, hd3⟩; have hb3 := hb2.trans (hd3.mono hb2.size); obtain ⟨hc3, hf3⟩ := bcell hb3; have hz3 : w.heap.size < w3.heap.size := Nat.lt_of_lt_of_le (by first | (simp; done) | (simp; omega)) hb3.size; clear hd3)
            | (go_at_call 66; (with_reducible refine (power_any q (prR xs q) w3 hqb (prR_bd HOK.out q)).mono ?_); rintro e w4 ⟨rfl, hd4⟩; have hb4 := hb3.trans (hd4.mono hb3.size); obtain ⟨hc4, hf4⟩ := bcell hb4; have hz4 : w.heap.size < w4.heap.size := Nat.lt_of_lt_of_le (by first | (simp; done) | (simp; omega)) hb4.size; clear hd4))
      go_ret2
      exact ⟨ret_two HE.out.1.symm HE.out.2.symm, (show Below w.heap.size w w4 from (below_box _ _).trans (hb4.mono (by simp)))⟩
    · have j0 := inB_false hqb
      have HE := Lib.hid (show fpA s a xs q = 0 ∧ paC s a xs q = 2 by simp [fpA, paC, hok, j0])
      go_enter Try.func32, Try.ntmps32
      go_wp2_with (first
            | (go_at_call 16; (with_reducible refine (iValidFan_any s a A cap xs (w.alloc (.cells #[.string s, .int .i64 a, .slice A xs.length cap] 27)) (HR.out.below (Below.refl _ (w.alloc (.cells #[.string s, .int .i64 a, .slice A xs.length cap] 27)))) hs hl HX.out).mono ?_); rintro e w1 ⟨rfl, hd1⟩; have hb1 := hd1; obtain ⟨hc1, hf1⟩ := bcell hb1; have hz1 : w.heap.size < w1.heap.size := Nat.lt_of_lt_of_le (by first | (simp; done) | (simp; omega)) hb1.size; clear hd1)
            | (go_at_call 55; (with_reducible refine (isFlow_any _ w1).mono ?_); rintro e w2 ⟨rfl, hd2⟩; have hb2 := hb1.trans (hd2.mono hb1.size); obtain ⟨hc2, hf2⟩ := bcell hb2; have hz2 : w.heap.size < w2.heap.size := Nat.lt_of_lt_of_le (by first | (simp; done) | (simp; omega)) hb2.size; clear hd2))
      go_ret2
      exact ⟨ret_two HE.out.1.symm HE.out.2.symm, (show Below w.heap.size w w2 from (below_box _ _).trans (hb2.mono (by simp)))⟩
end Go.Proofs.Ytcnpddmghjjhjaa
