/-
  Contracts of chapter 11: measured flows; the model's and the program's. Conditions: those that each theorem states.
-/
import Derived.Test.YtoojndohddellaaLa
import Derived.Test.YtoojndohddellaaKa
import Derived.Test.YtoojndohddellaaNh
import Derived.Test.YtoojndohddellaaZr
import Derived.Test.YtoojndohddellaaDb
namespace Go.Proofs.Ytoojndohddellaa
open Go.RowKit
set_option linter.unusedVariables false
set_option linter.unusedSimpArgs false

/-- The index of the first greatest of the first k values. -/
def bi (f : Nat → Int) : Nat → Nat
  | 0 => 0
  | 1 => 0
  | k + 2 => if f (bi f (k + 1)) < f (k + 1) then k + 1 else bi f (k + 1)
def fgB (f : Nat → Int) (k : Nat) : Int := (bi f k : Nat)
def fgM (f : Nat → Int) (k : Nat) : Int := if k = 0 then 0 else f (bi f k)
def fgC (k : Nat) : Int := if k = 0 then 3 else 0
/-- The greatest value of the model: -1 ahead of the first one. -/
def fgN (f : Nat → Int) (k : Nat) : Int := if k = 0 then -1 else f (bi f k)
theorem bi_lt (f : Nat → Int) : ∀ k, 1 ≤ k → bi f k < k
  | 0, h => by omega
  | 1, _ => by simp [bi]
  | k + 2, _ => by
    have := bi_lt f (k + 1) (by omega)
    rw [bi]
    split <;> omega
theorem fg_yes {f : Nat → Int} {k : Nat} (h : k = 0 ∨ fgM f k < f k) : fgB f (k + 1) = (k : Int) ∧ fgM f (k + 1) = f k ∧ fgC (k + 1) = 0 := by
  have hb : bi f (k + 1) = k := by
    cases k with
    | zero => rfl
    | succ k =>
      rw [bi, if_pos]
      rcases h with h | h
      · omega
      · simpa [fgM] using h
  refine ⟨by unfold fgB; rw [hb], ?_, rfl⟩
  unfold fgM
  rw [if_neg (by omega), hb]
theorem fg_no {f : Nat → Int} {k : Nat} (h0 : k ≠ 0) (h : ¬ fgM f k < f k) : fgB f (k + 1) = fgB f k ∧ fgM f (k + 1) = fgM f k ∧ fgC (k + 1) = fgC k := by
  cases k with
  | zero => omega
  | succ k =>
    have hb : bi f (k + 1 + 1) = bi f (k + 1) := by
      rw [bi, if_neg]
      simpa [fgM] using h
    refine ⟨by unfold fgB; rw [hb], ?_, rfl⟩
    unfold fgM
    rw [if_neg (by omega), if_neg (by omega), hb]
theorem fgN_eq {f : Nat → Int} {k : Nat} (h : k ≠ 0) : fgN f k = fgM f k := by unfold fgN fgM; rw [if_neg h, if_neg h]
theorem ret_t3 {a b c a' b' c' : Int} (h1 : a = a') (h2 : b = b') (h3 : c = c') : Ending.returned (.tuple #[.int .i64 a, .int .i64 b, .int .i64 c]) = .returned (.tuple #[.int .i64 a', .int .i64 b', .int .i64 c']) := by rw [h1, h2, h3]
theorem ret_viL {v : Value} {b b' : Int} (h : b = b') : Ending.returned (.tuple #[v, .int .i64 b]) = .returned (.tuple #[v, .int .i64 b']) := by rw [h]
/-- No flow is greater than the one before it. -/
def noR (xs : List Int) : Bool := (List.range (xs.length - 1)).all (fun j => decide (xs.getD (j + 1) 0 ≤ xs.getD j 0))
theorem noR_iff {xs : List Int} : noR xs = true ↔ ∀ j : Nat, j + 1 < xs.length → xs.getD (j + 1) 0 ≤ xs.getD j 0 := by
  unfold noR
  rw [List.all_eq_true]
  constructor
  · intro h j hj
    simpa using h j (List.mem_range.2 (by omega))
  · intro h j hj
    have := List.mem_range.1 hj
    simpa using h j (by omega)
theorem noR_false {xs : List Int} {j : Nat} (hj : j + 1 < xs.length) (h : ¬ xs.getD (j + 1) 0 ≤ xs.getD j 0) : noR xs = false := by
  rw [← Bool.not_eq_true, noR_iff]
  exact fun hh => h (hh j hj)
/-- The code of measured flows. -/
def mfC (xs : List Int) : Int := if allR 0 100000 xs then (if xs.length ≤ 64 then (if noR xs then 0 else 7) else 5) else 2
theorem mfC_ok {xs : List Int} (h : mfC xs = 0) : allR 0 100000 xs = true ∧ xs.length ≤ 64 ∧ noR xs = true := by
  unfold mfC at h
  by_cases h1 : allR 0 100000 xs = true
  · by_cases h2 : xs.length ≤ 64
    · by_cases h3 : noR xs = true
      · exact ⟨h1, h2, h3⟩
      · simp [h1, h2, h3] at h
    · simp [h1, h2] at h
  · simp [h1] at h
/-- A loss, and the first k of them. -/
def lsF (xs : List Int) (j : Nat) : Int := xs.getD j 0 - xs.getD (j + 1) 0
def lsT (xs : List Int) (k : Nat) : List Int := (List.range k).map (lsF xs)
theorem lsT_len (xs : List Int) (k : Nat) : (lsT xs k).length = k := by simp [lsT]
theorem lsT_snoc (xs : List Int) (k : Nat) : lsT xs (k + 1) = lsT xs k ++ [lsF xs k] := by simp [lsT, List.range_succ]
theorem lsT_at {xs : List Int} {k j : Nat} (h : j < k) : (lsT xs k).getD j 0 = lsF xs j := by simp [lsT, List.getD, h]
theorem fl_bd {xs : List Int} (h : allR 0 100000 xs = true) (j : Nat) : 0 ≤ xs.getD j 0 ∧ xs.getD j 0 ≤ 100000 := by
  by_cases hj : j < xs.length
  · rw [show xs.getD j 0 = xs[j] by simp [List.getD, hj]]; exact allR_iff.1 h _ (List.getElem_mem hj)
  · rw [show xs.getD j 0 = 0 by simp [List.getD, hj]]; omega
theorem lsF_bd {xs : List Int} (h : allR 0 100000 xs = true) (j : Nat) : -100000 ≤ lsF xs j ∧ lsF xs j ≤ 100000 := by
  have a := fl_bd h j
  have b := fl_bd h (j + 1)
  unfold lsF
  omega
theorem lsT_bd {xs : List Int} (h : allR 0 100000 xs = true) (k : Nat) : ∀ y ∈ lsT xs k, -100000 ≤ y ∧ y ≤ 100000 := by
  intro y hy
  obtain ⟨j, -, rfl⟩ := List.mem_map.1 hy
  exact lsF_bd h j
theorem lsF_no {xs : List Int} (h : noR xs = true) {j : Nat} (hj : j + 1 < xs.length) : 0 ≤ lsF xs j := by
  have := noR_iff.1 h j hj
  unfold lsF
  omega
/-- Losses are all those of flows if and only if no flow is greater than the one before it. -/
theorem losses_ok {xs : List Int} (h : allR 0 100000 xs = true) : allR 0 100000 (lsT xs (xs.length - 1)) = noR xs := by
  cases hn : noR xs
  · apply allR_not
    intro hh
    apply Bool.false_ne_true
    rw [← hn, noR_iff]
    intro j hj
    have := (hh (lsF xs j) (List.mem_map.2 ⟨j, List.mem_range.2 (by omega), rfl⟩)).1
    unfold lsF at this
    omega
  · rw [allR_iff]
    intro y hy
    obtain ⟨j, hj, rfl⟩ := List.mem_map.1 hy
    have := List.mem_range.1 hj
    exact ⟨lsF_no hn (by omega), (lsF_bd h j).2⟩
theorem lsT_sum (xs : List Int) : ∀ k, (lsT xs k).sum = xs.getD 0 0 - xs.getD k 0
  | 0 => by simp [lsT]
  | k + 1 => by
    rw [lsT_snoc, List.sum_append, lsT_sum xs k]
    simp only [List.sum_cons, List.sum_nil, lsF]
    omega
/-- What LossesOf returns. -/
def loR (xs : List Int) : List Int := if mfC xs = 0 then lsT xs (xs.length - 1) else []
set_option maxHeartbeats 1000000 in
theorem l11Flows_any (v : Value) (xs : List Int) (w : World) (hv : Row .i64 w v xs) (hl : xs.length ≤ 1048576) :
    Calls Try.prog 62 #[v] w fun e w' => e = .returned (.int .i64 (mfC xs)) ∧ Below w.heap.size w w' := by
  obtain ⟨A, cap, rfl⟩ := hv.form
  have HV := Lib.hid hv
  clear hv
  go_enter Try.func62, Try.ntmps62
  go_wp2
  go_loop [3] (fun i => ∃ k : Nat, k ≤ xs.length ∧ i = .int .i64 k ∧ Hid (∀ j : Nat, j < k → 0 ≤ xs.getD j 0 ∧ xs.getD j 0 ≤ 100000)) (fun i => xs.length - (intOf i).toNat)
  case atStart => exact ⟨0, by omega, rfl, Lib.hid (fun j h => absurd h (by omega))⟩
  case round =>
    obtain ⟨k, hk, rfl, HA⟩ := hrel
    by_cases hlt : k < xs.length
    · obtain ⟨b, off, rfl, -, hc⟩ := Row.cell HV.out hlt
      by_cases hin : 0 ≤ xs.getD k 0 ∧ xs.getD k 0 ≤ 100000
      · have hi := inB_true hin.1 hin.2
        have HN := Lib.hid (show ∀ j : Nat, j < k + 1 → 0 ≤ xs.getD j 0 ∧ xs.getD j 0 ≤ 100000 from fun j h => by
          rcases Nat.lt_or_ge j k with q | q
          · exact HA.out j q
          · obtain rfl : j = k := by omega
            exact hin)
        clear hin
        generalize xs.getD k 0 = z at *
        go_wp2_with (go_at_call 54; (with_reducible refine (l11Flow_any _ _).mono ?_); rintro e w' ⟨rfl, rfl⟩)
        go_round
        case rel => exact ⟨k + 1, by omega, by go_num, HN⟩
        case measure => simp [intOf]; omega
      · have hi := inB_false hin
        have HE := Lib.hid (show mfC xs = 2 by
          have h : allR 0 100000 xs = false := by
            rw [← Bool.not_eq_true]
            exact fun hh => hin (fl_bd hh k)
          simp [mfC, h])
        clear hin
        generalize xs.getD k 0 = z at *
        go_wp2_with (go_at_call 54; (with_reducible refine (l11Flow_any _ _).mono ?_); rintro e w' ⟨rfl, rfl⟩)
        go_ret
        exact ⟨ret_int HE.out.symm, Below.refl _ _⟩
    · obtain rfl : k = xs.length := by omega
      have HR := Lib.hid (show allR 0 100000 xs = true from allR_iff.2 (fun y hy => by
        obtain ⟨j, hj, rfl⟩ := List.mem_iff_getElem.1 hy
        have := HA.out j hj
        rwa [show xs.getD j 0 = xs[j] by simp [List.getD, hj]] at this))
      by_cases h64 : xs.length ≤ 64
      · go_wp2
        go_loopw [4] (fun i wr => ∃ k : Nat, 1 ≤ k ∧ (k ≤ xs.length ∨ k = 1) ∧ i = .int .i64 k ∧ Hid (∀ j : Nat, j + 1 < k → xs.getD (j + 1) 0 ≤ xs.getD j 0) ∧ Below w.heap.size w wr) (fun i wr => xs.length - (intOf i).toNat)
        case atStart => exact ⟨1, by omega, by omega, rfl, Lib.hid (fun j h => absurd h (by omega)), Below.refl _ _⟩
        case round =>
          obtain ⟨k, hk1, hk, rfl, HB, hbel⟩ := hrel
          by_cases hlt : k < xs.length
          · obtain ⟨p, rfl⟩ : ∃ p, k = p + 1 := ⟨k - 1, by omega⟩
            obtain ⟨b, off, rfl, -, hc⟩ := Row.cell (HV.out.below hbel) hlt
            obtain ⟨b', off', e1, -, hd⟩ := Row.cell (HV.out.below hbel) (show p < xs.length by omega)
            have HBL := Lib.hid hbel
            have hlI : (p : Int) + 1 < (xs.length : Int) := by omega
            clear hbel
            injection e1 with e1
            injection e1 with e1 e3
            subst e1 e3
            by_cases hx : xs.getD (p + 1) 0 ≤ xs.getD p 0
            · have HN := Lib.hid (show ∀ j : Nat, j + 1 < p + 1 + 1 → xs.getD (j + 1) 0 ≤ xs.getD j 0 from fun j h => by
                rcases Nat.lt_or_ge (j + 1) (p + 1) with q | q
                · exact HB.out j q
                · obtain rfl : j = p := by omega
                  exact hx)
              generalize xs.getD p 0 = y at *
              generalize xs.getD (p + 1) 0 = z at *
              go_wp2
              go_quiet (fail)
              go_wp2
              go_roundw
              case rel => exact ⟨p + 1 + 1, by omega, by omega, by go_num, HN, below_drewN' HBL.out _⟩
              case measure => simp [intOf]; omega
            · have HE := Lib.hid (show mfC xs = 7 by simp only [mfC, HR.out, noR_false hlt hx]; simp [h64])
              generalize xs.getD p 0 = y at *
              generalize xs.getD (p + 1) 0 = z at *
              have hzy : y < z := by omega
              go_wp2
              go_quiet (fail)
              go_wp2
              go_ret
              exact ⟨ret_int HE.out.symm, below_drewN' HBL.out _⟩
          · have HE := Lib.hid (show mfC xs = 0 by
              have h : noR xs = true := noR_iff.2 (fun j h => HB.out j (by omega))
              simp [mfC, HR.out, h, h64])
            go_wp2
            go_ret
            exact ⟨ret_int HE.out.symm, hbel⟩
      · have HE := Lib.hid (show mfC xs = 5 by simp [mfC, HR.out, h64])
        go_wp2
        go_ret
        exact ⟨ret_int HE.out.symm, Below.refl _ _⟩
set_option maxHeartbeats 1000000 in
set_option maxRecDepth 100000 in
theorem sLossesOf_any (u : Value) (xs : List Int) (w : World) (hv : Row .i64 w u xs) (hl : xs.length ≤ 1048576) :
    Calls Try.prog 33 #[u] w fun e w' => ∃ v, e = .returned (.tuple #[v, .int .i64 (mfC xs)]) ∧ OwnI w' w.heap.size v (loR xs) ∧ Below w.heap.size w w' := by
  obtain ⟨A, cap, rfl⟩ := hv.form
  have HV := Lib.hid hv
  clear hv
  by_cases hc : mfC xs = 0
  · have HE := Lib.hid (show loR xs = lsT xs (xs.length - 1) by simp [loR, hc])
    have HOK := Lib.hid (mfC_ok hc)
    have h64 := HOK.out.2.1
    obtain ⟨i0, hi, hz0, hz1, hz2⟩ := info_parts info_i64
    go_enter Try.func33, Try.ntmps33
    go_wp2_with fail
    (with_reducible refine (l11Flows_any _ xs _ HV.out hl).mono ?_)
    rintro e w1 ⟨rfl, hd1⟩
    rw [hc]
    have HB1 := Lib.hid hd1
    have HV1 := Lib.hid (HV.out.below hd1)
    have hz01 := hd1.size
    clear hd1
    go_wp2
    go_loopw [5, 6] (fun out i wr => ∃ k : Nat, (k + 1 ≤ xs.length ∨ k = 0) ∧ i = .int .i64 ((k : Int) + 1) ∧ wr.ownsRow w.heap.size 2 1 out k (intsV (lsT xs k)) ∧ Below w.heap.size w wr) (fun out i wr => xs.length - (intOf i).toNat)
    case atStart => exact ⟨0, by omega, rfl, World.ownsRow_lit _ _ 0 hz01 (by simp [maxLen]) rfl, HB1.out.alloc hz01 _⟩
    case round =>
      obtain ⟨k, hk, rfl, hout, hbel⟩ := hrel
      have hwsz := hbel.size
      by_cases hlt : k + 1 < xs.length
      · obtain ⟨b, off, rfl, -, D1⟩ := Row.cell HV.out hlt
        obtain ⟨b', off', e1, -, D0⟩ := Row.cell HV.out (show k < xs.length by omega)
        injection e1 with e1
        injection e1 with e1 e3
        subst e1 e3
        have b0 := fl_bd HOK.out.1 k
        have b1 := fl_bd HOK.out.1 (k + 1)
        have hlI : (k : Int) + 1 < (xs.length : Int) := by omega
        have HS := Lib.hid (show lsT xs (k + 1) = lsT xs k ++ [xs.getD k 0 - xs.getD (k + 1) 0] from lsT_snoc xs k)
        generalize xs.getD k 0 = y at *
        generalize xs.getD (k + 1) 0 = z at *
        have hwm : IntKind.i64.wrap (y - z) = y - z := IntWalk.i64_in _ (by omega)
        have hw0 : IntKind.i64.wrap (k : Int) = (k : Int) := IntWalk.i64_in _ (by omega)
        have hw1 : IntKind.i64.wrap ((k : Int) + 1) = (k : Int) + 1 := IntWalk.i64_in _ (by omega)
        have h0a : (0 : Int) ≤ (k : Int) + 1 := by omega
        have h0b : (0 : Int) ≤ (k : Int) := by omega
        have hkl : (k : Int) < (xs.length : Int) := by omega
        go_wp2_with fail
        refine wp_region_held (S := fun w' => w'.cell? ⟨b, off + k, none⟩ = some (.int .i64 y) ∧ w'.cell? ⟨b, off + (k + 1), none⟩ = some (.int .i64 z) ∧ Below w.heap.size w w') (by kernel_rfl) ?_
        try (change wpAnyH _ _ _ _ _ _ _ _ (World.drew _))
        have hS0 := (show wr.drew.cell? ⟨b, off + k, none⟩ = some (.int .i64 y) ∧ wr.drew.cell? ⟨b, off + (k + 1), none⟩ = some (.int .i64 z) ∧ Below w.heap.size w wr.drew from ⟨cellK D0 (hbel.drew), cellK D1 (hbel.drew), hbel.drew⟩)
        refine gTake 0 (v := ?_) rfl (by kernel_rfl) (by kernel_rfl) (by kernel_rfl) (fun _ _ _ h => h) (by kernel_rfl) ?_ hS0 ?_
        rotate_left
        · (intro W hW; clear hW; go_simp; try with_reducible rfl)
        refine gTake 1 (v := ?_) rfl (by kernel_rfl) (by kernel_rfl) (by kernel_rfl) (fun _ _ _ h => h) (by kernel_rfl) ?_ hS0 ?_
        rotate_left
        · (intro W hW; clear hW; go_simp; try with_reducible rfl)
        refine gTake 2 (v := ?_) rfl (by kernel_rfl) (by kernel_rfl) (by kernel_rfl) (fun _ _ _ h => h) (by kernel_rfl) ?_ hS0 ?_
        rotate_left
        · (intro W hW; clear hW; go_simp; try with_reducible rfl)
        refine gTake 3 (v := ?_) rfl (by kernel_rfl) (by kernel_rfl) (by kernel_rfl) (fun _ _ _ h => h) (by kernel_rfl) ?_ hS0 ?_
        rotate_left
        · (intro W hW; clear hW; go_simp; try with_reducible rfl)
        refine gTake 4 (v := ?_) rfl (by kernel_rfl) (by kernel_rfl) (by kernel_rfl) (fun _ _ _ h => h) (by kernel_rfl) ?_ hS0 ?_
        rotate_left
        · (intro W hW; clear hW; go_simp; try with_reducible rfl)
        refine gTake 5 (v := ?_) rfl (by kernel_rfl) (by kernel_rfl) (by kernel_rfl) (fun _ _ _ h => h) (by kernel_rfl) ?_ hS0 ?_
        rotate_left
        · (intro W hW; have q0 := hW.1; have q1 := hW.2.1; clear hW; go_simp; try with_reducible rfl)
        refine gTake 6 (v := ?_) rfl (by kernel_rfl) (by kernel_rfl) (by kernel_rfl) (fun _ _ _ h => h) (by kernel_rfl) ?_ hS0 ?_
        rotate_left
        · (intro W hW; clear hW; go_simp; try with_reducible rfl)
        refine gTake 7 (v := ?_) rfl (by kernel_rfl) (by kernel_rfl) (by kernel_rfl) (fun _ _ _ h => h) (by kernel_rfl) ?_ hS0 ?_
        rotate_left
        · (intro W hW; clear hW; go_simp; try with_reducible rfl)
        refine gTake 8 (v := ?_) rfl (by kernel_rfl) (by kernel_rfl) (by kernel_rfl) (fun _ _ _ h => h) (by kernel_rfl) ?_ hS0 ?_
        rotate_left
        · (intro W hW; clear hW; go_simp; try with_reducible rfl)
        refine gTake 9 (v := ?_) rfl (by kernel_rfl) (by kernel_rfl) (by kernel_rfl) (fun _ _ _ h => h) (by kernel_rfl) ?_ hS0 ?_
        rotate_left
        · (intro W hW; have q0 := hW.1; have q1 := hW.2.1; clear hW; go_simp; try with_reducible rfl)
        refine gTake 10 (v := ?_) rfl (by kernel_rfl) (by kernel_rfl) (by kernel_rfl) (fun _ _ _ h => h) (by kernel_rfl) ?_ hS0 ?_
        rotate_left
        · (intro W hW; clear hW; go_simp; try with_reducible rfl)
        refine gOne 11 rfl (by kernel_rfl) (by kernel_rfl) (fun K hK => ?_)
        go_simp
        skip
        have hS1 := (show (wr.drew.alloc (.cells #[.int .i64 (y - z)] 2)).cell? ⟨b, off + k, none⟩ = some (.int .i64 y) ∧ (wr.drew.alloc (.cells #[.int .i64 (y - z)] 2)).cell? ⟨b, off + (k + 1), none⟩ = some (.int .i64 z) ∧ Below w.heap.size w (wr.drew.alloc (.cells #[.int .i64 (y - z)] 2)) from ⟨cellK D0 ((hbel.drew).alloc hwsz _), cellK D1 ((hbel.drew).alloc hwsz _), (hbel.drew).alloc hwsz _⟩)
        refine hK _ _ hS1 ?_
        clear hK K
        refine gOne 12 rfl (by kernel_rfl) (by kernel_rfl) (fun K hK => ?_)
        refine gAppendOwn (.tmp 19) (.tmp 30) 35 rfl 2 i0 (.int .i64 0) 1 8 Try.underlying35 hi hz0 hz1 hz2 rfl (by decide) w.heap.size u5 k (intsV (lsT xs k)) (by simp [Act.eval, Act.put]) (hout.alloc _) ⟨wr.heap.size, 0, none⟩ 1 1 [.int .i64 (y - z)] (by simp [Act.eval, Act.put]) rfl (fun j u hj => by match j, hj with | 0, hj => (simp at hj; subst hj; simp [Addr.add]) | j + 1, hj => (simp at hj)) (by simp [Value.oneCell']) (by unfold maxLen; omega) (by omega) (by simp; omega) ?_
        intro v' w3 ho3 hg3
        have HB3 : Below w.heap.size w w3 := ((hbel.drew).alloc hwsz _).grown hg3 (by simp; omega) (fun k hk => (hout.lt k hk).1)
        have hS2 := (show w3.cell? ⟨b, off + k, none⟩ = some (.int .i64 y) ∧ w3.cell? ⟨b, off + (k + 1), none⟩ = some (.int .i64 z) ∧ Below w.heap.size w w3 from ⟨cellK D0 (HB3), cellK D1 (HB3), HB3⟩)
        refine hK _ _ hS2 ?_
        clear hK K
        refine gTake 13 (v := ?_) rfl (by kernel_rfl) (by kernel_rfl) (by kernel_rfl) (fun _ _ _ h => h) (by kernel_rfl) ?_ hS2 ?_
        rotate_left
        · (intro W hW; clear hW; go_simp; try with_reducible rfl)
        refine wpAnyH_done (by kernel_rfl) ?_ _
        go_simp
        have HOO : Hid (w3.ownsRow w.heap.size 2 1 v' (k + 1) (intsV (lsT xs (k + 1)))) := Lib.hid (by rw [HS.out]; simpa [intsV] using ho3)
        have HBB := Lib.hid HB3
        clear ho3 hg3 HB3 hS0 hS1 hS2 hout hbel
        go_wp2
        go_roundw
        case rel => exact ⟨k + 1, by omega, by go_num, HOO.out, HBB.out⟩
        case measure => simp [intOf]; omega
      · obtain rfl : k = xs.length - 1 := by omega
        have HO := Lib.hid hout
        clear hout
        go_wp2
        go_ret2
        exact ⟨_, ret_viL hc.symm, by rw [HE.out]; unfold OwnI; rw [lsT_len]; exact HO.out, hbel⟩
  · have HE := Lib.hid (show loR xs = [] by simp [loR, hc])
    have hz1 : (mfC xs != 0) = true := by simp [hc]
    have hz2 : (mfC xs == 0) = false := by simp [hc]
    generalize hzz : mfC xs = z at *
    go_enter Try.func33, Try.ntmps33
    go_wp2_with fail
    (with_reducible refine (l11Flows_any _ xs _ HV.out hl).mono ?_)
    rintro e w1 ⟨rfl, hd1⟩
    rw [hzz]
    have HB1 := Lib.hid hd1
    have HV1 := Lib.hid (HV.out.below hd1)
    have hz01 := hd1.size
    clear hd1
    go_wp2
    go_ret2
    exact ⟨_, rfl, by rw [HE.out]; exact World.ownsRow_nil _ _ _ _, HB1.out⟩
/-- What LeakAt returns. -/
def lkA (xs : List Int) : Int := if mfC xs = 0 then (if fgM (lsF xs) (xs.length - 1) = 0 then 0 else fgB (lsF xs) (xs.length - 1)) else 0
def lkB (xs : List Int) : Int := if mfC xs = 0 then fgM (lsF xs) (xs.length - 1) else 0
def lkC (xs : List Int) : Int := if mfC xs = 0 then (if fgM (lsF xs) (xs.length - 1) = 0 then 3 else 0) else mfC xs
theorem fgM_bd {xs : List Int} (h : allR 0 100000 xs = true) (hn : noR xs = true) {k : Nat} (hk : k ≤ xs.length - 1) : 0 ≤ fgM (lsF xs) k ∧ fgM (lsF xs) k ≤ 100000 := by
  unfold fgM
  by_cases h0 : k = 0
  · rw [if_pos h0]; omega
  · rw [if_neg h0]
    have h1 := bi_lt (lsF xs) k (by omega)
    exact ⟨lsF_no hn (by omega), (lsF_bd h _).2⟩
theorem fgB_bd (f : Nat → Int) (k : Nat) : 0 ≤ fgB f k ∧ fgB f k ≤ k := by
  unfold fgB
  cases k with
  | zero => simp [bi]
  | succ k => have := bi_lt f (k + 1) (by omega); omega
/-- The model's step: the same whether the first loss is 0 or not. -/
theorem lk_no {f : Nat → Int} {k : Nat} (h0 : 0 ≤ f k) (h : ¬ fgM f k < f k) : fgB f (k + 1) = fgB f k ∧ fgM f (k + 1) = fgM f k := by
  by_cases hk : k = 0
  · subst hk
    have e : f 0 = 0 := by
      have : ¬ (0 : Int) < f 0 := h
      omega
    obtain ⟨a, b, -⟩ := fg_yes (f := f) (k := 0) (Or.inl rfl)
    exact ⟨by rw [a]; rfl, by rw [b, e]; rfl⟩
  · exact ⟨(fg_no hk h).1, (fg_no hk h).2.1⟩
set_option maxHeartbeats 1000000 in
theorem sLeakAt_any (u : Value) (xs : List Int) (w : World) (hv : Row .i64 w u xs) (hl : xs.length ≤ 1048576) :
    Calls Try.prog 29 #[u] w fun e w' => e = .returned (.tuple #[.int .i64 (lkA xs), .int .i64 (lkB xs), .int .i64 (lkC xs)]) ∧ Below w.heap.size w w' := by
  obtain ⟨A, cap, rfl⟩ := hv.form
  have HV := Lib.hid hv
  clear hv
  by_cases hc : mfC xs = 0
  · have HE := Lib.hid (show lkA xs = (if fgM (lsF xs) (xs.length - 1) = 0 then 0 else fgB (lsF xs) (xs.length - 1)) ∧ lkB xs = fgM (lsF xs) (xs.length - 1) ∧ lkC xs = (if fgM (lsF xs) (xs.length - 1) = 0 then 3 else 0) by simp [lkA, lkB, lkC, hc])
    have HOK := Lib.hid (mfC_ok hc)
    have h64 := HOK.out.2.1
    go_enter Try.func29, Try.ntmps29
    go_wp2_with fail
    (with_reducible refine (l11Flows_any _ xs _ HV.out hl).mono ?_)
    rintro e w1 ⟨rfl, hd1⟩
    rw [hc]
    have HB1 := Lib.hid hd1
    have HV1 := Lib.hid (HV.out.below hd1)
    have hz01 := hd1.size
    clear hd1
    go_wp2
    go_loopw [6, 7, 8] (fun b m i wr => ∃ k : Nat, (k + 1 ≤ xs.length ∨ k = 0) ∧ i = .int .i64 ((k : Int) + 1) ∧ b = .int .i64 (fgB (lsF xs) k) ∧ m = .int .i64 (fgM (lsF xs) k) ∧ Below w.heap.size w wr) (fun b m i wr => xs.length - (intOf i).toNat)
    case atStart => exact ⟨0, by omega, rfl, rfl, rfl, HB1.out⟩
    case round =>
      obtain ⟨k, hk, rfl, rfl, rfl, hbel⟩ := hrel
      have gm := fgM_bd HOK.out.1 HOK.out.2.2 (k := k) (by omega)
      by_cases hlt : k + 1 < xs.length
      · obtain ⟨b, off, rfl, -, hc1⟩ := Row.cell (HV.out.below hbel) hlt
        obtain ⟨b', off', e1, -, hc0⟩ := Row.cell (HV.out.below hbel) (show k < xs.length by omega)
        injection e1 with e1
        injection e1 with e1 e3
        subst e1 e3
        have b0 := fl_bd HOK.out.1 k
        have b1 := fl_bd HOK.out.1 (k + 1)
        have HBL := Lib.hid hbel
        have hlI : (k : Int) + 1 < (xs.length : Int) := by omega
        clear hbel
        have HF := Lib.hid (show lsF xs k = xs.getD k 0 - xs.getD (k + 1) 0 from rfl)
        have hf0 := lsF_no HOK.out.2.2 (j := k) (by omega)
        by_cases hm : fgM (lsF xs) k < lsF xs k
        · have HN := Lib.hid (fg_yes (f := lsF xs) (k := k) (Or.inr hm))
          have hm2 : fgM (lsF xs) k < xs.getD k 0 - xs.getD (k + 1) 0 := hm
          clear hm hf0
          generalize fgM (lsF xs) k = m at *
          generalize fgB (lsF xs) k = c at *
          generalize lsF xs k = t at *
          generalize xs.getD k 0 = y at *
          generalize xs.getD (k + 1) 0 = z at *
          go_wp2
          go_quiet (fail)
          go_wp2
          go_quiet (fail)
          go_wp2
          go_roundw
          case rel => exact ⟨k + 1, by omega, by go_num, by rw [HN.out.1], by rw [HN.out.2.1, HF.out], below_drewN' HBL.out _⟩
          case measure => simp [intOf]; omega
        · have HN := Lib.hid (lk_no hf0 hm)
          have hm2 : ¬ fgM (lsF xs) k < xs.getD k 0 - xs.getD (k + 1) 0 := hm
          clear hm hf0
          generalize fgM (lsF xs) k = m at *
          generalize fgB (lsF xs) k = c at *
          generalize lsF xs k = t at *
          generalize xs.getD k 0 = y at *
          generalize xs.getD (k + 1) 0 = z at *
          go_wp2
          go_quiet (fail)
          go_wp2
          go_roundw
          case rel => exact ⟨k + 1, by omega, by go_num, by rw [HN.out.1], by rw [HN.out.2], below_drewN' HBL.out _⟩
          case measure => simp [intOf]; omega
      · obtain rfl : k = xs.length - 1 := by omega
        by_cases hz : fgM (lsF xs) (xs.length - 1) = 0
        · rw [hz, if_pos rfl, if_pos rfl] at HE
          rw [hz]
          go_wp2
          go_ret3
          exact ⟨ret_t3 HE.out.1.symm HE.out.2.1.symm HE.out.2.2.symm, hbel⟩
        · rw [if_neg hz, if_neg hz] at HE
          generalize fgM (lsF xs) (xs.length - 1) = m at *
          generalize fgB (lsF xs) (xs.length - 1) = c at *
          go_wp2
          go_ret3
          exact ⟨ret_t3 HE.out.1.symm HE.out.2.1.symm HE.out.2.2.symm, hbel⟩
  · have HE := Lib.hid (show lkA xs = 0 ∧ lkB xs = 0 ∧ lkC xs = mfC xs by simp [lkA, lkB, lkC, hc])
    have hz1 : (mfC xs != 0) = true := by simp [hc]
    have hz2 : (mfC xs == 0) = false := by simp [hc]
    generalize hzz : mfC xs = z at *
    go_enter Try.func29, Try.ntmps29
    go_wp2_with fail
    (with_reducible refine (l11Flows_any _ xs _ HV.out hl).mono ?_)
    rintro e w1 ⟨rfl, hd1⟩
    rw [hzz]
    have HB1 := Lib.hid hd1
    have HV1 := Lib.hid (HV.out.below hd1)
    have hz01 := hd1.size
    clear hd1
    go_wp2
    go_ret3
    exact ⟨ret_t3 HE.out.1.symm HE.out.2.1.symm HE.out.2.2.symm, HB1.out⟩
/-- What MeanLoss returns. -/
def mlA (xs : List Int) : Int := if mfC xs = 0 then (if 2 ≤ xs.length then divR (xs.getD 0 0 - xs.getD (xs.length - 1) 0) ((xs.length : Int) - 1) else 0) else 0
def mlB (xs : List Int) : Int := if mfC xs = 0 then (if 2 ≤ xs.length then 0 else 6) else mfC xs
theorem sMeanLoss_any (u : Value) (xs : List Int) (w : World) (hv : Row .i64 w u xs) (hl : xs.length ≤ 1048576) :
    Calls Try.prog 37 #[u] w fun e w' => e = .returned (.tuple #[.int .i64 (mlA xs), .int .i64 (mlB xs)]) ∧ Below w.heap.size w w' := by
  obtain ⟨A, cap, rfl⟩ := hv.form
  have HV := Lib.hid hv
  clear hv
  by_cases hc : mfC xs = 0
  · have HOK := Lib.hid (mfC_ok hc)
    have h64 := HOK.out.2.1
    by_cases h2 : 2 ≤ xs.length
    · have HE := Lib.hid (show mlA xs = divR (xs.getD 0 0 - xs.getD (xs.length - 1) 0) ((xs.length : Int) - 1) ∧ mlB xs = 0 by simp [mlA, mlB, hc, h2])
      obtain ⟨b, off, rfl, -, hc1⟩ := Row.cell HV.out (show xs.length - 1 < xs.length by omega)
      obtain ⟨b', off', e1, -, hc0⟩ := Row.cell HV.out (show 0 < xs.length by omega)
      injection e1 with e1
      injection e1 with e1 e3
      subst e1 e3
      rw [Nat.add_zero] at hc0
      have b0 := fl_bd HOK.out.1 0
      have b1 := fl_bd HOK.out.1 (xs.length - 1)
      have hn1 : (((xs.length - 1 : Nat)) : Int) = (xs.length : Int) - 1 := by omega
      generalize xs.getD 0 0 = y at *
      generalize xs.getD (xs.length - 1) 0 = z at *
      generalize hgm : xs.length - 1 = m at *
      go_enter Try.func37, Try.ntmps37
      go_wp2_with fail
      (with_reducible refine (l11Flows_any _ xs _ HV.out hl).mono ?_)
      rintro e w1 ⟨rfl, hd1⟩
      rw [hc]
      have HB1 := Lib.hid hd1
      have HV1 := Lib.hid (HV.out.below hd1)
      have hz01 := hd1.size
      clear hd1
      replace hc1 := cellK hc1 HB1.out
      replace hc0 := cellK hc0 HB1.out
      have hl0 : (0 : Int) < (xs.length : Int) := by omega
      have hl1 : (xs.length : Int) - 1 < (xs.length : Int) := by omega
      go_wp2
      go_quiet ((go_at_call 65; exact quiet_lft (l01Div_any _ _ _ (by omega) (by omega) (by omega) (by omega) (by omega))))
      go_wp2
      go_ret2
      exact ⟨ret_two HE.out.1.symm HE.out.2.symm, below_drewN' HB1.out _⟩
    · have HE := Lib.hid (show mlA xs = 0 ∧ mlB xs = 6 by simp [mlA, mlB, hc, h2])
      go_enter Try.func37, Try.ntmps37
      go_wp2_with fail
      (with_reducible refine (l11Flows_any _ xs _ HV.out hl).mono ?_)
      rintro e w1 ⟨rfl, hd1⟩
      rw [hc]
      have HB1 := Lib.hid hd1
      have HV1 := Lib.hid (HV.out.below hd1)
      have hz01 := hd1.size
      clear hd1
      go_wp2
      go_ret2
      exact ⟨ret_two HE.out.1.symm HE.out.2.symm, HB1.out⟩
  · have HE := Lib.hid (show mlA xs = 0 ∧ mlB xs = mfC xs by simp [mlA, mlB, hc])
    have hz1 : (mfC xs != 0) = true := by simp [hc]
    have hz2 : (mfC xs == 0) = false := by simp [hc]
    generalize hzz : mfC xs = z at *
    go_enter Try.func37, Try.ntmps37
    go_wp2_with fail
    (with_reducible refine (l11Flows_any _ xs _ HV.out hl).mono ?_)
    rintro e w1 ⟨rfl, hd1⟩
    rw [hzz]
    have HB1 := Lib.hid hd1
    have HV1 := Lib.hid (HV.out.below hd1)
    have hz01 := hd1.size
    clear hd1
    go_wp2
    go_ret2
    exact ⟨ret_two HE.out.1.symm HE.out.2.symm, HB1.out⟩
theorem own_cong {w : World} {B : Nat} {T : TypeId} {v : Value} {n m : Nat} {l l' : List Value} (h : w.ownsRow B T 1 v n l) (hn : n = m) (hl : l = l') : w.ownsRow B T 1 v m l' := by subst hn; subst hl; exact h
theorem row_ownL {w : World} {B : Nat} {v : Value} {xs : List Int} (h : OwnI w B v xs) : Row .i64 w v xs := by
  have h' := h
  unfold OwnI at h'
  rcases h.2 with ⟨rfl, h0⟩ | ⟨g, cap, cur, rfl, -⟩
  · exact .inl ⟨List.eq_nil_of_length_eq_zero h0, rfl⟩
  · exact Row.of_own h'
set_option maxHeartbeats 1000000 in
set_option maxRecDepth 100000 in
theorem iLossesOf_any (u : Value) (xs : List Int) (w : World) (hv : Row .i64 w u xs) (hl : xs.length ≤ 1048576) :
    Calls Try.prog 34 #[u] w fun e w' => ∃ v, e = .returned (.tuple #[v, .int .i64 (mfC xs)]) ∧ OwnI w' w.heap.size v (loR xs) ∧ Below w.heap.size w w' := by
  obtain ⟨A, cap, rfl⟩ := hv.form
  have HV := Lib.hid hv
  clear hv
  cases hr : allR 0 100000 xs
  · have HE := Lib.hid (show loR xs = [] ∧ mfC xs = 2 by simp [loR, mfC, hr])
    go_enter Try.func34, Try.ntmps34
    go_wp2_with (go_at_call 57; (with_reducible refine (areDuctFlows_any _ xs _ HV.out hl).mono ?_); rintro e w' ⟨rfl, rfl⟩; rw [hr])
    go_ret2
    exact ⟨_, ret_viL HE.out.2.symm, by rw [HE.out.1]; exact World.ownsRow_nil _ _ _ _, Below.refl _ _⟩
  · by_cases h64 : xs.length ≤ 64
    · have HR := Lib.hid hr
      have HL2 := Lib.hid (losses_ok hr)
      have HM := Lib.hid (show loR xs = (if noR xs then lsT xs (xs.length - 1) else []) ∧ mfC xs = (if noR xs then 0 else 7) by
        cases hn : noR xs <;> simp [loR, mfC, hr, h64, hn])
      obtain ⟨i0, hi, hz0, hz1, hz2⟩ := info_parts info_i64
      go_enter Try.func34, Try.ntmps34
      go_wp2_with (go_at_call 57; (with_reducible refine (areDuctFlows_any _ xs _ HV.out hl).mono ?_); rintro e w' ⟨rfl, rfl⟩; rw [hr])
      go_loopw [4, 15] (fun out i wr => ∃ k : Nat, k ≤ xs.length ∧ i = .int .i64 (k : Int) ∧ wr.ownsRow w.heap.size 2 1 out (k - 1) (intsV (lsT xs (k - 1))) ∧ Below w.heap.size w wr) (fun out i wr => xs.length - (intOf i).toNat)
      case atStart => exact ⟨0, by omega, rfl, World.ownsRow_nil _ _ _ _, Below.refl _ _⟩
      case round =>
        obtain ⟨k, hk, rfl, hout, hbel⟩ := hrel
        have hwsz := hbel.size
        by_cases hlt : k < xs.length
        · cases k with
          | zero =>
            obtain ⟨b, off, rfl, -, hc1⟩ := Row.cell (HV.out.below hbel) hlt
            rw [Nat.add_zero] at hc1
            generalize xs.getD 0 0 = z at *
            have hl0 : (0 : Int) < (xs.length : Int) := by omega
            have HO := Lib.hid hout
            have HBL := Lib.hid hbel
            clear hout hbel
            go_wp2
            go_roundw
            case rel => exact ⟨1, by omega, by first | rfl | go_num, HO.out, HBL.out⟩
            case measure => simp [intOf]; omega
          | succ p =>
            obtain ⟨b, off, rfl, -, hc1⟩ := Row.cell (HV.out.below hbel) hlt
            obtain ⟨b', off', e1, -, hc0⟩ := Row.cell (HV.out.below hbel) (show p < xs.length by omega)
            injection e1 with e1
            injection e1 with e1 e3
            subst e1 e3
            have b0 := fl_bd HR.out p
            have b1 := fl_bd HR.out (p + 1)
            have hlI : (p : Int) + 1 < (xs.length : Int) := by omega
            have hpI : (p : Int) < (xs.length : Int) := by omega
            have HS := Lib.hid (show lsT xs (p + 1) = lsT xs p ++ [xs.getD p 0 - xs.getD (p + 1) 0] from lsT_snoc xs p)
            replace hout := own_cong hout (show p + 1 - 1 = p by omega) (show intsV (lsT xs (p + 1 - 1)) = intsV (lsT xs p) by rw [show p + 1 - 1 = p by omega])
            generalize xs.getD p 0 = y at *
            generalize xs.getD (p + 1) 0 = z at *
            go_wp2_with (at_builtin; refine wpList_append_own _ rfl _ _ 35 rfl w.heap.size 2 i0 (.int .i64 0) 1 8 Try.underlying35 hi hz0 hz1 hz2 rfl (by decide) _ _ _ rfl (hout.alloc _) ⟨wr.heap.size, 0, none⟩ 1 1 [.int .i64 (y - z)] rfl rfl ?c1z ?c2z ?c3z ?c4z ?c5z ?_)
            try (case c1z => intro j u hj; match j, hj with | 0, hj => (simp at hj; subst hj; simp [Addr.add]) | j + 1, hj => (simp at hj))
            case c2z => simp [Value.oneCell']
            case c3z => unfold maxLen; omega
            case c4z => omega
            case c5z => first | (simp; omega) | (simp; done) | omega
            intro v' w1 hout' hgrow _
            have HBB : Hid (Below w.heap.size w w1) := Lib.hid ((hbel.alloc hwsz _).grown hgrow (by simp; omega) (fun k hk => (hout.lt k hk).1))
            have HOO : Hid (w1.ownsRow w.heap.size 2 1 v' (p + 1 + 1 - 1) (intsV (lsT xs (p + 1 + 1 - 1)))) := Lib.hid (by rw [show p + 1 + 1 - 1 = p + 1 by omega, HS.out]; simpa [intsV] using hout')
            clear hout' hgrow hout hbel
            go_wp2
            go_roundw
            case rel => exact ⟨p + 1 + 1, by omega, by go_num, HOO.out, HBB.out⟩
            case measure => simp [intOf]; omega
        · obtain rfl : k = xs.length := by omega
          have HO := Lib.hid (show OwnI wr w.heap.size u4 (lsT xs (xs.length - 1)) by unfold OwnI; rw [lsT_len]; exact hout)
          have HBL := Lib.hid hbel
          clear hout hbel
          cases hn : noR xs
          · rw [hn] at HM HL2
            go_wp2_with (go_at_call 51; (with_reducible refine (within64_any _ _ _ _ _ (row_ownL HO.out) (by rw [lsT_len]; omega)).mono ?_); rintro e w' ⟨rfl, rfl⟩; rw [HL2.out])
            go_ret2
            exact ⟨_, ret_viL HM.out.2.symm, by rw [HM.out.1]; exact World.ownsRow_nil _ _ _ _, HBL.out⟩
          · rw [hn] at HM HL2
            go_wp2_with (go_at_call 51; (with_reducible refine (within64_any _ _ _ _ _ (row_ownL HO.out) (by rw [lsT_len]; omega)).mono ?_); rintro e w' ⟨rfl, rfl⟩; rw [HL2.out])
            go_ret2
            exact ⟨_, ret_viL HM.out.2.symm, by rw [HM.out.1]; exact HO.out, HBL.out⟩
    · have HE := Lib.hid (show loR xs = [] ∧ mfC xs = 5 by simp [loR, mfC, hr, h64])
      go_enter Try.func34, Try.ntmps34
      go_wp2_with (go_at_call 57; (with_reducible refine (areDuctFlows_any _ xs _ HV.out hl).mono ?_); rintro e w' ⟨rfl, rfl⟩; rw [hr])
      go_ret2
      exact ⟨_, ret_viL HE.out.2.symm, by rw [HE.out.1]; exact World.ownsRow_nil _ _ _ _, Below.refl _ _⟩
set_option maxHeartbeats 1000000 in
set_option maxRecDepth 100000 in
theorem fgrL (bl : Nat) (f : Nat → Int) (n : Nat) (w : World) (hn : n ≤ 1048576)
    (hf : ∀ (k : Nat) (w1 : World), k < n → Below w.heap.size w w1 → Calls Try.prog 64 #[.int .i64 (k : Int), .pointer (some ⟨bl, 0, none⟩)] w1 fun e w2 => e = .returned (.int .i64 (f k)) ∧ Below w1.heap.size w1 w2) :
    Calls Try.prog 63 #[.int .i64 (n : Int), .func (.func 64) #[] #[.pointer (some ⟨bl, 0, none⟩)]] w fun e w' => e = .returned (.tuple #[.int .i64 (fgB f n), .int .i64 (fgM f n), .int .i64 (fgC n)]) ∧ Below w.heap.size w w' := by
  have HF := Lib.hid hf
  clear hf
  have HZ := Lib.hid (show fgB f 0 = 0 ∧ fgM f 0 = 0 ∧ fgC 0 = 3 from ⟨rfl, rfl, rfl⟩)
  go_enter Try.func63, Try.ntmps63
  go_wp2
  go_loopw [7, 8, 9, 13] (fun b m c i wr => ∃ k : Nat, k ≤ n ∧ i = .int .i64 k ∧ b = .int .i64 (fgB f k) ∧ m = .int .i64 (fgM f k) ∧ c = .int .i64 (fgC k) ∧ Below w.heap.size w wr) (fun b m c i wr => n - (intOf i).toNat)
  case atStart => exact ⟨0, by omega, rfl, by rw [HZ.out.1], by rw [HZ.out.2.1], by rw [HZ.out.2.2], Below.refl _ _⟩
  case round =>
    obtain ⟨k, hk, rfl, rfl, rfl, rfl, hbel⟩ := hrel
    by_cases hlt : k < n
    · have HX := Lib.hid (HF.out k wr hlt hbel)
      have HBL := Lib.hid hbel
      have hlI : (k : Int) < (n : Int) := by omega
      clear hbel
      by_cases hk0 : k = 0
      · subst hk0
        have HY := Lib.hid (fg_yes (f := f) (k := 0) (Or.inl rfl))
        rw [HZ.out.1, HZ.out.2.1, HZ.out.2.2]
        rw [show ((0 : Nat) : Int) = 0 from rfl] at HX
        generalize f 0 = z at *
        go_wp2_with fail
        (with_reducible refine (HX.out).mono ?_)
        rintro e w2 ⟨rfl, hd⟩
        have HB2 := Lib.hid (HBL.out.trans (hd.mono HBL.out.size))
        clear hd
        go_wp2
        go_roundw
        case rel => exact ⟨1, by omega, by first | rfl | go_num, by rw [HY.out.1]; rfl, by rw [HY.out.2.1], by rw [HY.out.2.2], HB2.out⟩
        case measure => simp [intOf]; omega
      · have HC0 := Lib.hid (show fgC k = 0 by unfold fgC; rw [if_neg hk0])
        by_cases hc : fgM f k < f k
        · have HY := Lib.hid (fg_yes (f := f) (k := k) (Or.inr hc))
          rw [HC0.out]
          generalize f k = z at *
          generalize hmm : fgM f k = m at *
          generalize hbb : fgB f k = b at *
          go_wp2_with fail
          (with_reducible refine (HX.out).mono ?_)
          rintro e w2 ⟨rfl, hd⟩
          have HB2 := Lib.hid (HBL.out.trans (hd.mono HBL.out.size))
          clear hd
          go_wp2
          go_roundw
          case rel => exact ⟨k + 1, by omega, by go_num, by rw [HY.out.1], by rw [HY.out.2.1], by rw [HY.out.2.2], HB2.out⟩
          case measure => simp [intOf]; omega
        · have HY := Lib.hid (fg_no (f := f) hk0 hc)
          rw [HC0.out]
          generalize f k = z at *
          generalize hmm : fgM f k = m at *
          generalize hbb : fgB f k = b at *
          have hcd : decide (m < z) = false := decide_eq_false hc
          go_wp2_with fail
          (with_reducible refine (HX.out).mono ?_)
          rintro e w2 ⟨rfl, hd⟩
          have HB2 := Lib.hid (HBL.out.trans (hd.mono HBL.out.size))
          clear hd
          go_wp2
          go_roundw
          case rel => exact ⟨k + 1, by omega, by go_num, by rw [HY.out.1], by rw [HY.out.2.1], by rw [HY.out.2.2, HC0.out], HB2.out⟩
          case measure => simp [intOf]; omega
    · obtain rfl : k = n := by omega
      have HBL := Lib.hid hbel
      clear hbel
      generalize hb : fgB f k = b at *
      generalize hm : fgM f k = m at *
      generalize hc : fgC k = c at *
      go_wp2
      go_ret3
      exact ⟨ret_t3 hb.symm hm.symm hc.symm, HBL.out⟩
theorem lossAt_any (bl : Nat) (v : Value) (ls : List Int) (k : Nat) (w : World) (hc : w.cell? ⟨bl, 0, none⟩ = some v) (hv : Row .i64 w v ls) (hk : k < ls.length) (hl : ls.length ≤ 1048576) :
    Calls Try.prog 64 #[.int .i64 (k : Int), .pointer (some ⟨bl, 0, none⟩)] w fun e w' => e = .returned (.int .i64 (ls.getD k 0)) ∧ Below w.heap.size w w' := by
  obtain ⟨A, cap, rfl⟩ := hv.form
  obtain ⟨b, off, rfl, -, hd⟩ := Row.cell hv hk
  have hkI : (k : Int) < (ls.length : Int) := by omega
  clear hv
  generalize ls.getD k 0 = z at *
  go_enter Try.func64, Try.ntmps64
  go_wp2
  go_ret
  exact ⟨rfl, Below.refl _ _⟩
set_option maxHeartbeats 1000000 in
theorem iLeakAt_any (u : Value) (xs : List Int) (w : World) (hv : Row .i64 w u xs) (hl : xs.length ≤ 1048576) :
    Calls Try.prog 31 #[u] w fun e w' => e = .returned (.tuple #[.int .i64 (lkA xs), .int .i64 (lkB xs), .int .i64 (lkC xs)]) ∧ Below w.heap.size w w' := by
  obtain ⟨A, cap, rfl⟩ := hv.form
  have HV := Lib.hid hv
  clear hv
  by_cases hc : mfC xs = 0
  · have HL := Lib.hid (show loR xs = lsT xs (xs.length - 1) by simp [loR, hc])
    have HE := Lib.hid (show lkA xs = (if fgM (lsF xs) (xs.length - 1) = 0 then 0 else fgB (lsF xs) (xs.length - 1)) ∧ lkB xs = fgM (lsF xs) (xs.length - 1) ∧ lkC xs = (if fgM (lsF xs) (xs.length - 1) = 0 then 3 else 0) by simp [lkA, lkB, lkC, hc])
    have h64 := (mfC_ok hc).2.1
    go_enter Try.func31, Try.ntmps31
    go_wp2_with fail
    (with_reducible refine (iLossesOf_any _ xs _ HV.out hl).mono ?_)
    rintro e w1 ⟨v, rfl, ho1, hd1⟩
    rw [hc]
    have HO := Lib.hid (row_ownL ho1)
    have HB1 := Lib.hid hd1
    rw [HL.out] at HO
    obtain ⟨A', cap', rfl⟩ := HO.out.form
    rw [lsT_len] at HO ⊢
    clear ho1 hd1
    go_wp2_with fail
    have HB2 := Lib.hid (show Below w.heap.size w (w1.alloc (.cells #[.slice A' (xs.length - 1) cap'] 35)) from HB1.out.alloc HB1.out.size _)
    have C2 := Lib.hid (show (w1.alloc (.cells #[.slice A' (xs.length - 1) cap'] 35)).cell? ⟨w1.heap.size, 0, none⟩ = some (.slice A' (xs.length - 1) cap') by simp)
    have HO2 := Lib.hid (HO.out.below (show Below w1.heap.size w1 (w1.alloc (.cells #[.slice A' (xs.length - 1) cap'] 35)) from below_box _ _))
    skip
    (with_reducible refine (fgrL w1.heap.size (lsF xs) (xs.length - 1) _ (by omega) (fun k wk hk hb => by
      have h := lossAt_any w1.heap.size _ (lsT xs (xs.length - 1)) k wk (cellK C2.out hb) (HO2.out.below hb) (by rw [lsT_len]; exact hk) (by rw [lsT_len]; omega)
      rwa [lsT_at hk] at h)).mono ?_)
    rintro e w2 ⟨rfl, hd2⟩
    have HB3 := Lib.hid (HB2.out.trans (hd2.mono HB2.out.size))
    clear hd2
    by_cases hz : fgM (lsF xs) (xs.length - 1) = 0
    · rw [hz, if_pos rfl, if_pos rfl] at HE
      rw [hz]
      generalize fgB (lsF xs) (xs.length - 1) = c at *
      generalize fgC (xs.length - 1) = d at *
      go_wp2
      go_ret3
      exact ⟨ret_t3 HE.out.1.symm HE.out.2.1.symm HE.out.2.2.symm, HB3.out⟩
    · rw [if_neg hz, if_neg hz] at HE
      have hd0 : fgC (xs.length - 1) = 0 := by
        unfold fgC
        by_cases h0 : xs.length - 1 = 0
        · exfalso; apply hz; rw [h0]; rfl
        · rw [if_neg h0]
      rw [hd0]
      generalize fgM (lsF xs) (xs.length - 1) = m at *
      generalize fgB (lsF xs) (xs.length - 1) = c at *
      go_wp2
      go_ret3
      exact ⟨ret_t3 HE.out.1.symm HE.out.2.1.symm HE.out.2.2.symm, HB3.out⟩
  · have HE := Lib.hid (show lkA xs = 0 ∧ lkB xs = 0 ∧ lkC xs = mfC xs by simp [lkA, lkB, lkC, hc])
    have hz1 : (mfC xs != 0) = true := by simp [hc]
    have hz2 : (mfC xs == 0) = false := by simp [hc]
    go_enter Try.func31, Try.ntmps31
    go_wp2_with fail
    (with_reducible refine (iLossesOf_any _ xs _ HV.out hl).mono ?_)
    rintro e w1 ⟨v, rfl, ho1, hd1⟩
    generalize hzz : mfC xs = z at *
    obtain ⟨A', cap', rfl⟩ := (row_ownL ho1).form
    have HB1 := Lib.hid hd1
    clear ho1 hd1
    go_wp2
    go_ret3
    exact ⟨ret_t3 HE.out.1.symm HE.out.2.1.symm HE.out.2.2.symm, HB1.out.alloc HB1.out.size _⟩
set_option maxHeartbeats 1000000 in
theorem iMeanLoss_any (u : Value) (xs : List Int) (w : World) (hv : Row .i64 w u xs) (hl : xs.length ≤ 1048576) :
    Calls Try.prog 38 #[u] w fun e w' => e = .returned (.tuple #[.int .i64 (mlA xs), .int .i64 (mlB xs)]) ∧ Below w.heap.size w w' := by
  obtain ⟨A, cap, rfl⟩ := hv.form
  have HV := Lib.hid hv
  clear hv
  by_cases hc : mfC xs = 0
  · have HL := Lib.hid (show loR xs = lsT xs (xs.length - 1) by simp [loR, hc])
    have HOK := Lib.hid (mfC_ok hc)
    have h64 := HOK.out.2.1
    by_cases h2 : 2 ≤ xs.length
    · have HE := Lib.hid (show mlA xs = divR (lsT xs (xs.length - 1)).sum ((xs.length - 1 : Nat) : Int) ∧ mlB xs = 0 by rw [lsT_sum, show ((xs.length - 1 : Nat) : Int) = (xs.length : Int) - 1 by omega]; simp [mlA, mlB, hc, h2])
      have hs : (lsT xs (xs.length - 1)).sum = xs.getD 0 0 - xs.getD (xs.length - 1) 0 := lsT_sum xs _
      have b0 := fl_bd HOK.out.1 0
      have b1 := fl_bd HOK.out.1 (xs.length - 1)
      have hn1 : ((xs.length - 1 : Nat) : Int) = (xs.length : Int) - 1 := by omega
      have hmb : -100000 ≤ (lsT xs (xs.length - 1)).sum ∧ (lsT xs (xs.length - 1)).sum ≤ 100000 := by rw [hs]; omega
      clear hs b0 b1
      go_enter Try.func38, Try.ntmps38
      go_wp2_with fail
      (with_reducible refine (iLossesOf_any _ xs _ HV.out hl).mono ?_)
      rintro e w1 ⟨v, rfl, ho1, hd1⟩
      rw [hc]
      have HO := Lib.hid (row_ownL ho1)
      have HB1 := Lib.hid hd1
      rw [HL.out] at HO
      obtain ⟨A', cap', rfl⟩ := HO.out.form
      rw [lsT_len] at HO ⊢
      clear ho1 hd1
      have hl1 : ((xs.length - 1 : Nat) : Int) ≠ 0 := by omega
      go_wp2_with fail
      (with_reducible refine (sumOf_any _ (lsT xs (xs.length - 1)) _ (RowW.of_row HO.out) (lsT_bd HOK.out.1 _) (by rw [lsT_len]; omega)).mono ?_)
      rintro e w' ⟨rfl, rfl⟩
      rw [hn1] at HE
      generalize (lsT xs (xs.length - 1)).sum = m at *
      go_wp2_with (go_at_call 66; (with_reducible refine (nearest_any _ _ _ (by omega) (by omega) (by omega) (by omega)).mono ?_); rintro e w' ⟨rfl, n, rfl⟩)
      go_ret2
      exact ⟨ret_two HE.out.1.symm HE.out.2.symm, below_drewN' HB1.out _⟩
    · have HE := Lib.hid (show mlA xs = 0 ∧ mlB xs = 6 by simp [mlA, mlB, hc, h2])
      have e0 : xs.length - 1 = 0 := by omega
      go_enter Try.func38, Try.ntmps38
      go_wp2_with fail
      (with_reducible refine (iLossesOf_any _ xs _ HV.out hl).mono ?_)
      rintro e w1 ⟨v, rfl, ho1, hd1⟩
      rw [hc]
      have HO := Lib.hid (row_ownL ho1)
      have HB1 := Lib.hid hd1
      rw [HL.out] at HO
      obtain ⟨A', cap', rfl⟩ := HO.out.form
      rw [lsT_len, e0]
      clear ho1 hd1
      go_wp2
      go_ret2
      exact ⟨ret_two HE.out.1.symm HE.out.2.symm, HB1.out⟩
  · have HE := Lib.hid (show mlA xs = 0 ∧ mlB xs = mfC xs by simp [mlA, mlB, hc])
    have hz1 : (mfC xs != 0) = true := by simp [hc]
    have hz2 : (mfC xs == 0) = false := by simp [hc]
    go_enter Try.func38, Try.ntmps38
    go_wp2_with fail
    (with_reducible refine (iLossesOf_any _ xs _ HV.out hl).mono ?_)
    rintro e w1 ⟨v, rfl, ho1, hd1⟩
    generalize hzz : mfC xs = z at *
    have HB1 := Lib.hid hd1
    clear ho1 hd1
    go_wp2
    go_ret2
    exact ⟨ret_two HE.out.1.symm HE.out.2.symm, HB1.out⟩
end Go.Proofs.Ytoojndohddellaa
