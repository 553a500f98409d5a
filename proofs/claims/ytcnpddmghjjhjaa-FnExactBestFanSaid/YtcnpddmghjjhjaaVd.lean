/-
  Contracts of chapter 6: whether fans are valid; the model's and the program's. Conditions: those that each theorem states.
-/
import Derived.Test.YtcnpddmghjjhjaaVc
import Derived.Test.YtcnpddmghjjhjaaBi
import Derived.Test.YtcnpddmghjjhjaaGa
namespace Go.Proofs.Ytcnpddmghjjhjaa
open Go.RowKit
set_option linter.unusedVariables false
set_option linter.unusedSimpArgs false

/-- A valid fan. -/
def fanOk (s : ByteArray) (a : Int) (xs : List (List Int)) : Bool := isNm s && (inB a 0 23 && curveOk xs)
theorem fanOk_curve {s : ByteArray} {a : Int} {xs : List (List Int)} (h : fanOk s a xs = true) : curveOk xs = true := by
  simp only [fanOk, Bool.and_eq_true] at h
  exact h.2.2
/-- The cells of a fan at the head of a block. -/
def FanAt (w : World) (b o : Nat) (s : ByteArray) (a : Int) (A : Option Addr) (cap : Nat) (xs : List (List Int)) : Prop :=
  w.cell? ⟨b, o, none⟩ = some (.string s) ∧ w.cell? ⟨b, o + 1, none⟩ = some (.int .i64 a) ∧ w.cell? ⟨b, o + 2, none⟩ = some (.slice A xs.length cap)
theorem fanBoxed (s : ByteArray) (a : Int) (A : Option Addr) (cap : Nat) (xs : List (List Int)) (w : World) : FanAt (w.alloc (.cells #[.string s, .int .i64 a, .slice A xs.length cap] 27)) w.heap.size 0 s a A cap xs := by unfold FanAt; simp
theorem FanAt.below {w w' : World} {b o : Nat} {s : ByteArray} {a : Int} {A : Option Addr} {cap : Nat} {xs : List (List Int)} (h : FanAt w b o s a A cap xs) (hb : Below w.heap.size w w') : FanAt w' b o s a A cap xs :=
  ⟨cellK h.1 hb, cellK h.2.1 hb, cellK h.2.2 hb⟩
set_option maxHeartbeats 2000000 in
theorem l06Ok_below (b o : Nat) (s : ByteArray) (a : Int) (A : Option Addr) (cap : Nat) (xs : List (List Int)) (w : World) (hc : FanAt w b o s a A cap xs) (hr : RowsR w A xs) (hs : s.size ≤ 1048576) (hl : xs.length ≤ 1048576) (hx : ∀ r ∈ xs, r.length ≤ 1048576) :
    Calls Try.prog 42 #[.pointer (some ⟨b, o, none⟩)] w fun e w' => e = .returned (.bool (fanOk s a xs)) ∧ Below w.heap.size w w' := by
  obtain ⟨c0, c1, c2⟩ := hc
  have HR := Lib.hid hr
  have HX := Lib.hid hx
  clear hr hx
  cases j0 : isNm s
  · skip
    have HE := Lib.hid (show fanOk s a xs = false by simp [fanOk, j0])
    go_enter Try.func42, Try.ntmps42
    go_wp2_with (first
          | (go_at_call 81; (with_reducible refine (l01Name_any s _ (by unfold maxLen; omega)).mono ?_); rintro e w' ⟨rfl, rfl⟩)
          | (go_at_call 67; (with_reducible refine (l00In_any _ _ _ _).mono ?_); rintro e w' ⟨rfl, rfl⟩)
          | (go_at_call 82; (with_reducible refine (l06Curve_any A cap xs _ HR.out hl HX.out).mono ?_); rintro e w1 ⟨rfl, hd⟩))
    go_ret
    exact ⟨ret_bool HE.out.symm, Below.refl _ _⟩
  · cases j1 : inB a 0 23
    · skip
      have HE := Lib.hid (show fanOk s a xs = false by simp [fanOk, j1])
      go_enter Try.func42, Try.ntmps42
      go_wp2_with (first
            | (go_at_call 81; (with_reducible refine (l01Name_any s _ (by unfold maxLen; omega)).mono ?_); rintro e w' ⟨rfl, rfl⟩)
            | (go_at_call 67; (with_reducible refine (l00In_any _ _ _ _).mono ?_); rintro e w' ⟨rfl, rfl⟩)
            | (go_at_call 82; (with_reducible refine (l06Curve_any A cap xs _ HR.out hl HX.out).mono ?_); rintro e w1 ⟨rfl, hd⟩))
      go_ret
      exact ⟨ret_bool HE.out.symm, Below.refl _ _⟩
    · cases j2 : curveOk xs
      · skip
        have HE := Lib.hid (show fanOk s a xs = false by simp [fanOk, j2])
        go_enter Try.func42, Try.ntmps42
        go_wp2_with (first
              | (go_at_call 81; (with_reducible refine (l01Name_any s _ (by unfold maxLen; omega)).mono ?_); rintro e w' ⟨rfl, rfl⟩)
              | (go_at_call 67; (with_reducible refine (l00In_any _ _ _ _).mono ?_); rintro e w' ⟨rfl, rfl⟩)
              | (go_at_call 82; (with_reducible refine (l06Curve_any A cap xs _ HR.out hl HX.out).mono ?_); rintro e w1 ⟨rfl, hd⟩))
        go_ret
        exact ⟨ret_bool HE.out.symm, hd⟩
      · skip
        have HE := Lib.hid (show fanOk s a xs = true by simp [fanOk, j0, j1, j2])
        go_enter Try.func42, Try.ntmps42
        go_wp2_with (first
              | (go_at_call 81; (with_reducible refine (l01Name_any s _ (by unfold maxLen; omega)).mono ?_); rintro e w' ⟨rfl, rfl⟩)
              | (go_at_call 67; (with_reducible refine (l00In_any _ _ _ _).mono ?_); rintro e w' ⟨rfl, rfl⟩)
              | (go_at_call 82; (with_reducible refine (l06Curve_any A cap xs _ HR.out hl HX.out).mono ?_); rintro e w1 ⟨rfl, hd⟩))
        go_ret
        exact ⟨ret_bool HE.out.symm, hd⟩
theorem sValidFan_any (s : ByteArray) (a : Int) (A : Option Addr) (cap : Nat) (xs : List (List Int)) (w : World) (hr : RowsR w A xs) (hs : s.size ≤ 1048576) (hl : xs.length ≤ 1048576) (hx : ∀ r ∈ xs, r.length ≤ 1048576) :
    Calls Try.prog 14 #[.agg #[.string s, .int .i64 a, .slice A xs.length cap]] w fun e w' => e = .returned (.bool (fanOk s a xs)) ∧ Below w.heap.size w w' := by
  have HR := Lib.hid (hr.below (below_box w (.cells #[.string s, .int .i64 a, .slice A xs.length cap] 27)))
  have HX := Lib.hid hx
  clear hr hx
  go_enter Try.func14, Try.ntmps14
  go_wp2_with (go_at_call 42; (with_reducible refine (l06Ok_below _ 0 s a A cap xs _ (fanBoxed s a A cap xs w) HR.out hs hl HX.out).mono ?_); rintro e w' ⟨rfl, hd⟩)
  go_ret
  exact ⟨rfl, (below_one _ _).trans (hd.mono (by simp))⟩
theorem pointOf_any (b off cap : Nat) (x y : Int) (w : World) (c0 : w.cell? ⟨b, off, none⟩ = some (.int .i64 x)) (c1 : w.cell? ⟨b, off + 1, none⟩ = some (.int .i64 y)) :
    Calls Try.prog 47 #[.slice (some ⟨b, off, none⟩) 2 cap] w fun e w' => e = .returned (.agg #[.int .i64 x, .int .i64 y]) ∧ Below w.heap.size w w' := by
  have hb := World.block_lt_of_cell? _ _ c0
  have hne : ¬ (b = w.heap.size) := by intro e; subst e; exact absurd hb (Nat.lt_irrefl _)
  have d0 : (w.alloc (.cells #[.int .i64 0, .int .i64 0] 60)).cell? ⟨b, off, none⟩ = some (.int .i64 x) := by rw [World.cell?_alloc_old _ _ _ hne]; exact c0
  have d1 : (w.alloc (.cells #[.int .i64 0, .int .i64 0] 60)).cell? ⟨b, off + 1, none⟩ = some (.int .i64 y) := by rw [World.cell?_alloc_old _ _ _ hne]; exact c1
  go_enter Try.func47, Try.ntmps47
  go_wp2_with fail
  refine wp_region_held (S := fun w' => w'.cell? ⟨b, off, none⟩ = some (.int .i64 x) ∧ w'.cell? ⟨b, off + 1, none⟩ = some (.int .i64 y) ∧ Below w.heap.size w w') (by kernel_rfl) ?_
  try (change wpAnyH _ _ _ _ _ _ _ _ (World.drew _))
  have hS0 := (show (w.alloc (.cells #[.int .i64 0, .int .i64 0] 60)).drew.cell? ⟨b, off, none⟩ = some (.int .i64 x) ∧ (w.alloc (.cells #[.int .i64 0, .int .i64 0] 60)).drew.cell? ⟨b, off + 1, none⟩ = some (.int .i64 y) ∧ Below w.heap.size w (w.alloc (.cells #[.int .i64 0, .int .i64 0] 60)).drew from ⟨d0, d1, Below.drew (below_box _ _)⟩)
  refine gTake 0 (v := ?_) rfl (by kernel_rfl) (by kernel_rfl) (by kernel_rfl) (fun _ _ _ h => h) (by kernel_rfl) ?_ hS0 ?_
  rotate_left
  · (intro W hW; clear hW; go_simp; try with_reducible rfl)
  refine gTake 1 (v := ?_) rfl (by kernel_rfl) (by kernel_rfl) (by kernel_rfl) (fun _ _ _ h => h) (by kernel_rfl) ?_ hS0 ?_
  rotate_left
  · (intro W hW; clear hW; go_simp; try with_reducible rfl)
  refine gTake 2 (v := ?_) rfl (by kernel_rfl) (by kernel_rfl) (by kernel_rfl) (fun _ _ _ h => h) (by kernel_rfl) ?_ hS0 ?_
  rotate_left
  · (intro W hW; have q0 := hW.1; have q1 := hW.2.1; clear hW; go_simp; try with_reducible rfl)
  refine gTake 3 (v := ?_) rfl (by kernel_rfl) (by kernel_rfl) (by kernel_rfl) (fun _ _ _ h => h) (by kernel_rfl) ?_ hS0 ?_
  rotate_left
  · (intro W hW; clear hW; go_simp; try with_reducible rfl)
  refine gTake 4 (v := ?_) rfl (by kernel_rfl) (by kernel_rfl) (by kernel_rfl) (fun _ _ _ h => h) (by kernel_rfl) ?_ hS0 ?_
  rotate_left
  · (intro W hW; clear hW; go_simp; try with_reducible rfl)
  refine gTake 5 (v := ?_) rfl (by kernel_rfl) (by kernel_rfl) (by kernel_rfl) (fun _ _ _ h => h) (by kernel_rfl) ?_ hS0 ?_
  rotate_left
  · (intro W hW; have q0 := hW.1; have q1 := hW.2.1; clear hW; go_simp; try with_reducible rfl)
  refine gTake 6 (v := ?_) rfl (by kernel_rfl) (by kernel_rfl) (by kernel_rfl) (fun _ _ _ h => h) (by kernel_rfl) ?_ hS0 ?_
  rotate_left
  · (intro W hW; clear hW; go_simp; try with_reducible rfl)
  refine gOne 7 rfl (by kernel_rfl) (by kernel_rfl) (fun K hK => ?_)
  go_simp
  skip
  refine viaS (hK _ _) ?_ (fun hS1 => ?_)
  · exact ⟨(World.cell?_alloc_old _ _ _ hne).trans c0, (World.cell?_alloc_old _ _ _ hne).trans c1, Below.drew (below_box _ _)⟩
  clear hK K
  refine wpAnyH_done (by kernel_rfl) ?_ _
  go_simp
  go_wp2
  refine bodyPost_ret (v := .agg #[.int .i64 x, .int .i64 y]) (by simp [results, Try.results47, go_sem]) rfl ⟨rfl, ?_⟩
  exact (by repeat (first | (with_reducible exact Below.refl _ _) | (with_reducible refine below_drewN' ?_ _) | (with_reducible refine Below.drew ?_) | (with_reducible refine Below.alloc ?_ (by simp <;> omega) _) | (with_reducible refine Below.setCell ?_ (by simp) _)))
/-- The flow and the pressure ahead of a point. -/
def bfx (xs : List (List Int)) (k : Nat) : Int := if k = 0 then -1 else cx xs (k - 1)
def bfy (xs : List (List Int)) (k : Nat) : Int := if k = 0 then 10000 else cy xs (k - 1)
theorem bf_bd {xs : List (List Int)} {k : Nat} (h : ∀ j, j < k → goodAt xs j = true) : (-1 ≤ bfx xs k ∧ bfx xs k ≤ 100000) ∧ (0 ≤ bfy xs k ∧ bfy xs k ≤ 10000) := by
  unfold bfx bfy
  by_cases h0 : k = 0
  · simp [h0]
  · have := (goodAt_iff.1 (h (k - 1) (by omega))).1
    rw [if_neg h0, if_neg h0]
    omega
theorem good_step {xs : List (List Int)} {k : Nat} (h : ∀ j, j < k → goodAt xs j = true) : goodAt xs k = (decide ((xs.getD k []).length = 2) && (inB (cx xs k) (bfx xs k + 1) 100000 && inB (cy xs k) 0 (bfy xs k))) := by
  have hb := bf_bd h
  rw [Bool.eq_iff_iff, goodAt_iff]
  simp only [Bool.and_eq_true, inB_iff, decide_eq_true_eq]
  by_cases h0 : k = 0
  · have e1 : bfx xs k = -1 := if_pos h0
    have e2 : bfy xs k = 10000 := if_pos h0
    rw [e1, e2] at hb ⊢
    constructor
    · rintro ⟨⟨a, b, c⟩, -⟩; exact ⟨a, by omega, by omega⟩
    · rintro ⟨a, b, c⟩; exact ⟨⟨a, by omega, by omega⟩, fun q => absurd q (by omega)⟩
  · have e1 : bfx xs k = cx xs (k - 1) := if_neg h0
    have e2 : bfy xs k = cy xs (k - 1) := if_neg h0
    rw [e1, e2] at hb ⊢
    constructor
    · rintro ⟨⟨a, b, c⟩, d⟩; have := d (by omega); exact ⟨a, by omega, by omega⟩
    · rintro ⟨a, b, c⟩; exact ⟨⟨a, by omega, by omega⟩, fun _ => by omega⟩
theorem BlkV.alloc1 {w : World} {g : Nat} {t : TypeId} {cs : List Value} (h : BlkV w g t cs) (o : Obj) : BlkV (w.alloc o) g t cs := h.below (below_box _ _) h.lt
theorem BlkV.new {w : World} {p : Nat} (hp : p = w.heap.size) (cs : List Value) (t : TypeId) : BlkV (w.alloc (.cells cs.toArray t)) p t cs := hp ▸ heap_alloc_new _ _
set_option maxHeartbeats 2000000 in
theorem iValidFan_any (s : ByteArray) (a : Int) (A : Option Addr) (cap : Nat) (xs : List (List Int)) (w : World) (hr : RowsR w A xs) (hs : s.size ≤ 1048576) (hl : xs.length ≤ 1048576) (hx : ∀ r ∈ xs, r.length ≤ 1048576) :
    Calls Try.prog 16 #[.agg #[.string s, .int .i64 a, .slice A xs.length cap]] w fun e w' => e = .returned (.bool (fanOk s a xs)) ∧ Below w.heap.size w w' := by
  have HR := Lib.hid hr
  have HX := Lib.hid hx
  clear hr hx
  cases j0 : isNm s
  · skip
    have HE := Lib.hid (show fanOk s a xs = false by simp [fanOk, j0])
    go_enter Try.func16, Try.ntmps16
    go_wp2_with (first
          | (go_at_call 44; (with_reducible refine (iIsName_any s _ (by unfold maxLen; omega)).mono ?_); rintro e w1 ⟨rfl, hd⟩; have HB := (show Below w.heap.size w w1 from (below_box _ _).trans (hd.mono (by simp))); obtain ⟨hc, hf⟩ := bcell hd; have hz : w.heap.size < w1.heap.size := Nat.lt_of_lt_of_le (by simp) hd.size; have hn1 : ¬ (w.heap.size = w1.heap.size) := (by omega); have hn2 : ¬ (w.heap.size = w1.heap.size + 1) := (by omega); have hn3 : ¬ (w.heap.size = w1.heap.size + 1 + 1) := (by omega); have hz1 : w.heap.size < w1.heap.size + 1 := (by omega); have hz2 : w.heap.size < w1.heap.size + 1 + 1 := (by omega); have hz3 : w.heap.size < w1.heap.size + 1 + 1 + 1 := (by omega); clear hd)
          | (go_at_call 45; (with_reducible refine (within64_one _ _ _ _ _ _ (by simp)).mono ?_); rintro e w' ⟨rfl, rfl⟩)
          | (go_at_call 46; (with_reducible refine (withinN_one _ _ _ _ _ _ (by simp)).mono ?_); rintro e w' ⟨rfl, rfl⟩))
    go_ret
    exact ⟨ret_bool HE.out.symm, (by repeat (first | (with_reducible exact HB) | (with_reducible refine below_drewN' ?_ _) | (with_reducible refine Below.alloc ?_ (by first | omega | (simp <;> omega)) _)))⟩
  · cases j1 : inB a 0 23
    · skip
      have HE := Lib.hid (show fanOk s a xs = false by simp [fanOk, j1])
      go_enter Try.func16, Try.ntmps16
      go_wp2_with (first
            | (go_at_call 44; (with_reducible refine (iIsName_any s _ (by unfold maxLen; omega)).mono ?_); rintro e w1 ⟨rfl, hd⟩; have HB := (show Below w.heap.size w w1 from (below_box _ _).trans (hd.mono (by simp))); obtain ⟨hc, hf⟩ := bcell hd; have hz : w.heap.size < w1.heap.size := Nat.lt_of_lt_of_le (by simp) hd.size; have hn1 : ¬ (w.heap.size = w1.heap.size) := (by omega); have hn2 : ¬ (w.heap.size = w1.heap.size + 1) := (by omega); have hn3 : ¬ (w.heap.size = w1.heap.size + 1 + 1) := (by omega); have hz1 : w.heap.size < w1.heap.size + 1 := (by omega); have hz2 : w.heap.size < w1.heap.size + 1 + 1 := (by omega); have hz3 : w.heap.size < w1.heap.size + 1 + 1 + 1 := (by omega); clear hd)
            | (go_at_call 45; (with_reducible refine (within64_one _ _ _ _ _ _ (by simp)).mono ?_); rintro e w' ⟨rfl, rfl⟩)
            | (go_at_call 46; (with_reducible refine (withinN_one _ _ _ _ _ _ (by simp)).mono ?_); rintro e w' ⟨rfl, rfl⟩))
      go_ret
      exact ⟨ret_bool HE.out.symm, (by repeat (first | (with_reducible exact HB) | (with_reducible refine below_drewN' ?_ _) | (with_reducible refine Below.alloc ?_ (by first | omega | (simp <;> omega)) _)))⟩
    · by_cases h8 : 2 ≤ (xs.length : Int) ∧ (xs.length : Int) ≤ 8
      · have j2 := inB_true h8.1 h8.2
        have HE := Lib.hid (show fanOk s a xs = curveOk xs by simp [fanOk, j0, j1])
        go_enter Try.func16, Try.ntmps16
        go_wp2_with (first
              | (go_at_call 44; (with_reducible refine (iIsName_any s _ (by unfold maxLen; omega)).mono ?_); rintro e w1 ⟨rfl, hd⟩; have HB := (show Below w.heap.size w w1 from (below_box _ _).trans (hd.mono (by simp))); obtain ⟨hc, hf⟩ := bcell hd; have hz : w.heap.size < w1.heap.size := Nat.lt_of_lt_of_le (by simp) hd.size; have hn1 : ¬ (w.heap.size = w1.heap.size) := (by omega); have hn2 : ¬ (w.heap.size = w1.heap.size + 1) := (by omega); have hn3 : ¬ (w.heap.size = w1.heap.size + 1 + 1) := (by omega); have hz1 : w.heap.size < w1.heap.size + 1 := (by omega); have hz2 : w.heap.size < w1.heap.size + 1 + 1 := (by omega); have hz3 : w.heap.size < w1.heap.size + 1 + 1 + 1 := (by omega); clear hd)
              | (go_at_call 45; (with_reducible refine (within64_one _ _ _ _ _ _ (by simp)).mono ?_); rintro e w' ⟨rfl, rfl⟩)
              | (go_at_call 46; (with_reducible refine (withinN_one _ _ _ _ _ _ (by simp)).mono ?_); rintro e w' ⟨rfl, rfl⟩))
        have hwp : w.heap.size ≤ w1.heap.size + 1 + 1 := by omega
        obtain ⟨p0, hp0⟩ : ∃ p0, w1.heap.size + 1 + 1 = p0 := ⟨_, rfl⟩
        rw [hp0] at hwp ⊢
        go_loopw [30] (fun i wr => ∃ k : Nat, k ≤ xs.length ∧ i = .int .i64 k ∧ Hid (∀ j, j < k → goodAt xs j = true) ∧ BlkV wr p0 60 [.int .i64 (bfx xs k), .int .i64 (bfy xs k)] ∧ Below w.heap.size w wr) (fun i wr => xs.length - (intOf i).toNat)
        case atStart =>
          refine ⟨0, by omega, rfl, Lib.hid (fun j hj => absurd hj (by omega)), ?_, (by repeat (first | (with_reducible exact HB) | (with_reducible refine below_drewN' ?_ _) | (with_reducible refine Below.alloc ?_ (by first | omega | (simp <;> omega)) _)))⟩
          rw [← hp0]
          show BlkV _ _ _ [.int .i64 (-1), .int .i64 10000]
          exact BlkV.new (by simp) [.int .i64 (-1), .int .i64 10000] _
        case round =>
          obtain ⟨k, hk, rfl, HG, hblk, hbel⟩ := hrel
          have HBK := Lib.hid hblk
          have hp1 := hblk.lt
          clear hblk
          by_cases hlt : k < xs.length
          · have hke : xs.getD k [] = xs[k] := by simp [List.getD, hlt]
            obtain ⟨wo, rfl⟩ : ∃ wo : World, wo = wr := ⟨_, rfl⟩
            have HS := Lib.hid (good_step HG.out)
            have hbd := bf_bd HG.out
            by_cases h2 : xs[k].length = 2
            · obtain ⟨b, off, b', off', c1, rfl, hc', hc0, hc1⟩ := (HR.out.below hbel).two hlt h2
              have HBE := Lib.hid (And.intro (show bfx xs (k + 1) = cx xs k by simp [bfx]) (show bfy xs (k + 1) = cy xs k by simp [bfy]))
              have HL2 := Lib.hid (show decide ((xs.getD k []).length = 2) = true by rw [hke]; exact decide_eq_true h2)
              clear hke h2
              generalize cx xs k = x at *
              generalize cy xs k = y at *
              obtain ⟨e0, e1⟩ := (show wo.cell? ⟨p0, 0, none⟩ = some (.int .i64 (bfx xs k)) ∧ wo.cell? ⟨p0, 1, none⟩ = some (.int .i64 (bfy xs k)) from ⟨(HBK.out.cell 0), (HBK.out.cell 1)⟩)
              have HBF := Lib.hid (show BlkV wo p0 60 [.int .i64 (bfx xs k), .int .i64 (bfy xs k)] from HBK.out)
              clear HBK
              generalize bfx xs k = bx at *
              generalize bfy xs k = by' at *
              have hwx : IntKind.i64.wrap (bx + 1) = bx + 1 := IntWalk.i64_in _ (by omega)
              by_cases q0 : bx + 1 ≤ x ∧ x ≤ 100000
              · have m0 := inB_true q0.1 q0.2
                by_cases q1 : 0 ≤ y ∧ y ≤ by'
                · have m1 := inB_true q1.1 q1.2
                  have HF := Lib.hid (show goodAt xs k = true by rw [HS.out, HL2.out, m0, m1]; rfl)
                  go_wp2_with (first
              | (go_at_call 47; (with_reducible refine (pointOf_any b' off' c1 x y _ hc0 hc1).mono ?_); rintro e w2 ⟨rfl, hd⟩; have hb2 := hbel.trans (hd.mono hbel.size); have HB2 := Lib.hid (HBF.out.below hd hp1); have hz2 : p0 < w2.heap.size := Nat.lt_of_lt_of_le hp1 hd.size; have hz3 : p0 < w2.heap.size + 1 := (by omega); have hz4 : p0 < w2.heap.size + 1 + 1 := (by omega); have hz5 : p0 < w2.heap.size + 1 + 1 + 1 := (by omega); have hn5 : ¬ (p0 = w2.heap.size) := (by omega); have hn6 : ¬ (p0 = w2.heap.size + 1) := (by omega); have hn7 : ¬ (p0 = w2.heap.size + 1 + 1) := (by omega); have g0 := HB2.out.cell 0; have g1 := HB2.out.cell 1; have gf0 := HB2.out.frozen 0; have gf1 := HB2.out.frozen 1; simp only [List.getElem?_cons_zero, List.getElem?_cons_succ] at g0 g1; clear hd)
              | (go_at_call 45; (with_reducible refine (within64_one _ _ _ _ _ _ (by simp)).mono ?_); rintro e w' ⟨rfl, rfl⟩))
                  go_roundw
                  case rel =>
                    refine ⟨k + 1, by omega, by go_num, Lib.hid (fun j hj => by
                      rcases Nat.lt_or_ge j k with q | q
                      · exact HG.out j q
                      · obtain rfl : j = k := by omega
                        exact HF.out), ?_, ?_⟩
                    · rw [HBE.out.1, HBE.out.2]
                      have key : ∀ W, BlkV W p0 60 [.int .i64 bx, .int .i64 by'] → BlkV ((W.setCell ⟨p0, 0, none⟩ (.int .i64 x)).setCell ⟨p0, 1, none⟩ (.int .i64 y)) p0 60 [.int .i64 x, .int .i64 y] := fun W h => (h.setC 0 _).setC 1 _
                      repeat (first | exact key _ HB2.out | refine BlkV.alloc1 ?_ _)
                    · exact (by repeat (first | (with_reducible exact hb2) | (with_reducible refine below_drewN' ?_ _) | (with_reducible refine Below.drew ?_) | (with_reducible refine Below.alloc ?_ (by first | omega | (simp; done) | (simp; omega)) _) | (with_reducible refine Below.setCell ?_ (by first | omega | (simp; done) | (simp; omega)) _)))
                  case measure => simp [intOf]; omega
                · have m1 := inB_false q1
                  have HF := Lib.hid (show fanOk s a xs = false by rw [HE.out]; exact curveOk_bad hlt (by rw [HS.out, m1, Bool.and_false, Bool.and_false]))
                  go_wp2_with (first
              | (go_at_call 47; (with_reducible refine (pointOf_any b' off' c1 x y _ hc0 hc1).mono ?_); rintro e w2 ⟨rfl, hd⟩; have hb2 := hbel.trans (hd.mono hbel.size); have HB2 := Lib.hid (HBF.out.below hd hp1); have hz2 : p0 < w2.heap.size := Nat.lt_of_lt_of_le hp1 hd.size; have hz3 : p0 < w2.heap.size + 1 := (by omega); have hz4 : p0 < w2.heap.size + 1 + 1 := (by omega); have hz5 : p0 < w2.heap.size + 1 + 1 + 1 := (by omega); have hn5 : ¬ (p0 = w2.heap.size) := (by omega); have hn6 : ¬ (p0 = w2.heap.size + 1) := (by omega); have hn7 : ¬ (p0 = w2.heap.size + 1 + 1) := (by omega); have g0 := HB2.out.cell 0; have g1 := HB2.out.cell 1; have gf0 := HB2.out.frozen 0; have gf1 := HB2.out.frozen 1; simp only [List.getElem?_cons_zero, List.getElem?_cons_succ] at g0 g1; clear hd)
              | (go_at_call 45; (with_reducible refine (within64_one _ _ _ _ _ _ (by simp)).mono ?_); rintro e w' ⟨rfl, rfl⟩))
                  go_ret
                  exact ⟨ret_bool HF.out.symm, (by repeat (first | (with_reducible exact hb2) | (with_reducible refine below_drewN' ?_ _) | (with_reducible refine Below.drew ?_) | (with_reducible refine Below.alloc ?_ (by first | omega | (simp; done) | (simp; omega)) _) | (with_reducible refine Below.setCell ?_ (by first | omega | (simp; done) | (simp; omega)) _)))⟩
              · have m0 := inB_false q0
                have HF := Lib.hid (show fanOk s a xs = false by rw [HE.out]; exact curveOk_bad hlt (by rw [HS.out, m0, Bool.false_and, Bool.and_false]))
                go_wp2_with (first
              | (go_at_call 47; (with_reducible refine (pointOf_any b' off' c1 x y _ hc0 hc1).mono ?_); rintro e w2 ⟨rfl, hd⟩; have hb2 := hbel.trans (hd.mono hbel.size); have HB2 := Lib.hid (HBF.out.below hd hp1); have hz2 : p0 < w2.heap.size := Nat.lt_of_lt_of_le hp1 hd.size; have hz3 : p0 < w2.heap.size + 1 := (by omega); have hz4 : p0 < w2.heap.size + 1 + 1 := (by omega); have hz5 : p0 < w2.heap.size + 1 + 1 + 1 := (by omega); have hn5 : ¬ (p0 = w2.heap.size) := (by omega); have hn6 : ¬ (p0 = w2.heap.size + 1) := (by omega); have hn7 : ¬ (p0 = w2.heap.size + 1 + 1) := (by omega); have g0 := HB2.out.cell 0; have g1 := HB2.out.cell 1; have gf0 := HB2.out.frozen 0; have gf1 := HB2.out.frozen 1; simp only [List.getElem?_cons_zero, List.getElem?_cons_succ] at g0 g1; clear hd)
              | (go_at_call 45; (with_reducible refine (within64_one _ _ _ _ _ _ (by simp)).mono ?_); rintro e w' ⟨rfl, rfl⟩))
                go_ret
                exact ⟨ret_bool HF.out.symm, (by repeat (first | (with_reducible exact hb2) | (with_reducible refine below_drewN' ?_ _) | (with_reducible refine Below.drew ?_) | (with_reducible refine Below.alloc ?_ (by first | omega | (simp; done) | (simp; omega)) _) | (with_reducible refine Below.setCell ?_ (by first | omega | (simp; done) | (simp; omega)) _)))⟩
            · have HF := Lib.hid (show fanOk s a xs = false by rw [HE.out]; exact curveOk_bad hlt (by rw [HS.out, hke, decide_eq_false h2, Bool.false_and]))
              obtain ⟨b, off, A', c1, rfl, hc', -⟩ := (HR.out.below hbel).row hlt
              have hL := HX.out xs[k] (List.getElem_mem hlt)
              have h3 : ¬ ((xs[k].length : Int) = 2) := by omega
              have h3d : ((xs[k].length : Int) != 2) = true := bne_iff_ne.2 h3
              clear hke
              generalize xs[k].length = L at *
              go_wp2
              go_ret
              exact ⟨ret_bool HF.out.symm, hbel⟩
          · obtain rfl : k = xs.length := by omega
            have HF := Lib.hid (show fanOk s a xs = true by rw [HE.out]; exact curveOk_iff.2 ⟨fun j hj => HG.out j hj, by omega, by omega⟩)
            go_wp2
            go_ret
            exact ⟨ret_bool HF.out.symm, hbel⟩
      · have j2 := inB_false h8
        have HE := Lib.hid (show fanOk s a xs = false by have : curveOk xs = false := by { rw [← Bool.not_eq_true, curveOk_iff]; intro hh; exact h8 ⟨by omega, by omega⟩ }; simp [fanOk, this])
        go_enter Try.func16, Try.ntmps16
        go_wp2_with (first
              | (go_at_call 44; (with_reducible refine (iIsName_any s _ (by unfold maxLen; omega)).mono ?_); rintro e w1 ⟨rfl, hd⟩; have HB := (show Below w.heap.size w w1 from (below_box _ _).trans (hd.mono (by simp))); obtain ⟨hc, hf⟩ := bcell hd; have hz : w.heap.size < w1.heap.size := Nat.lt_of_lt_of_le (by simp) hd.size; have hn1 : ¬ (w.heap.size = w1.heap.size) := (by omega); have hn2 : ¬ (w.heap.size = w1.heap.size + 1) := (by omega); have hn3 : ¬ (w.heap.size = w1.heap.size + 1 + 1) := (by omega); have hz1 : w.heap.size < w1.heap.size + 1 := (by omega); have hz2 : w.heap.size < w1.heap.size + 1 + 1 := (by omega); have hz3 : w.heap.size < w1.heap.size + 1 + 1 + 1 := (by omega); clear hd)
              | (go_at_call 45; (with_reducible refine (within64_one _ _ _ _ _ _ (by simp)).mono ?_); rintro e w' ⟨rfl, rfl⟩)
              | (go_at_call 46; (with_reducible refine (withinN_one _ _ _ _ _ _ (by simp)).mono ?_); rintro e w' ⟨rfl, rfl⟩))
        go_ret
        exact ⟨ret_bool HE.out.symm, (by repeat (first | (with_reducible exact HB) | (with_reducible refine below_drewN' ?_ _) | (with_reducible refine Below.alloc ?_ (by first | omega | (simp <;> omega)) _)))⟩
end Go.Proofs.Ytcnpddmghjjhjaa
