/-
  Contracts of chapter 11: measured flows; the model's and the program's. Conditions: those that each theorem states.
-/
import Derived.Test.YtoojndohddellaaGreatDoorLa
import Derived.Test.YtoojndohddellaaGreatDoorKa
import Derived.Test.YtoojndohddellaaGreatDoorNh
import Derived.Test.YtoojndohddellaaGreatDoorZr
import Derived.Test.YtoojndohddellaaGreatDoorDb
namespace Go.Proofs.YtoojndohddellaaGreatDoor
open Go.RowKit
set_option linter.unusedVariables false
set_option linter.unusedSimpArgs false

/-- The index of the first greatest of the first k values. -/
def bi (f : Nat → Int) : Nat → Nat
  | 0 => 0
  | 1 => 0
  | k + 2 => if f (bi f (k + 1)) < f (k + 1) then k + 1 else bi f (k + 1)
def fgB (f : Nat → Int) (k : Nat) : Int := (bi f k : Nat)
def fgM (f : Nat → Int) (k : Nat) : Int := if k = 0 then 0 else f (bi f k)
def fgC (k : Nat) : Int := if k = 0 then 3 else 0
/-- The greatest value of the model: -1 ahead of the first one. -/
def fgN (f : Nat → Int) (k : Nat) : Int := if k = 0 then -1 else f (bi f k)
theorem bi_lt (f : Nat → Int) : ∀ k, 1 ≤ k → bi f k < k
  | 0, h => by omega
  | 1, _ => by simp [bi]
  | k + 2, _ => by
    have := bi_lt f (k + 1) (by omega)
    rw [bi]
    split <;> omega
theorem fg_yes {f : Nat → Int} {k : Nat} (h : k = 0 ∨ fgM f k < f k) : fgB f (k + 1) = (k : Int) ∧ fgM f (k + 1) = f k ∧ fgC (k + 1) = 0 := by
  have hb : bi f (k + 1) = k := by
    cases k with
    | zero => rfl
    | succ k =>
      rw [bi, if_pos]
      rcases h with h | h
      · omega
      · simpa [fgM] using h
  refine ⟨by unfold fgB; rw [hb], ?_, rfl⟩
  unfold fgM
  rw [if_neg (by omega), hb]
theorem fg_no {f : Nat → Int} {k : Nat} (h0 : k ≠ 0) (h : ¬ fgM f k < f k) : fgB f (k + 1) = fgB f k ∧ fgM f (k + 1) = fgM f k ∧ fgC (k + 1) = fgC k := by
  cases k with
  | zero => omega
  | succ k =>
    have hb : bi f (k + 1 + 1) = bi f (k + 1) := by
      rw [bi, if_neg]
      simpa [fgM] using h
    refine ⟨by unfold fgB; rw [hb], ?_, rfl⟩
    unfold fgM
    rw [if_neg (by omega), if_neg (by omega), hb]
theorem fgN_eq {f : Nat → Int} {k : Nat} (h : k ≠ 0) : fgN f k = fgM f k := by unfold fgN fgM; rw [if_neg h, if_neg h]
theorem ret_t3 {a b c a' b' c' : Int} (h1 : a = a') (h2 : b = b') (h3 : c = c') : Ending.returned (.tuple #[.int .i64 a, .int .i64 b, .int .i64 c]) = .returned (.tuple #[.int .i64 a', .int .i64 b', .int .i64 c']) := by rw [h1, h2, h3]
theorem ret_viL {v : Value} {b b' : Int} (h : b = b') : Ending.returned (.tuple #[v, .int .i64 b]) = .returned (.tuple #[v, .int .i64 b']) := by rw [h]
/-- No flow is greater than the one before it. -/
def noR (xs : List Int) : Bool := (List.range (xs.length - 1)).all (fun j => decide (xs.getD (j + 1) 0 ≤ xs.getD j 0))
theorem noR_iff {xs : List Int} : noR xs = true ↔ ∀ j : Nat, j + 1 < xs.length → xs.getD (j + 1) 0 ≤ xs.getD j 0 := by
  unfold noR
  rw [List.all_eq_true]
  constructor
  · intro h j hj
    simpa using h j (List.mem_range.2 (by omega))
  · intro h j hj
    have := List.mem_range.1 hj
    simpa using h j (by omega)
theorem noR_false {xs : List Int} {j : Nat} (hj : j + 1 < xs.length) (h : ¬ xs.getD (j + 1) 0 ≤ xs.getD j 0) : noR xs = false := by
  rw [← Bool.not_eq_true, noR_iff]
  exact fun hh => h (hh j hj)
/-- The code of measured flows. -/
def mfC (xs : List Int) : Int := if allR 0 100000 xs then (if xs.length ≤ 64 then (if noR xs then 0 else 7) else 5) else 2
theorem mfC_ok {xs : List Int} (h : mfC xs = 0) : allR 0 100000 xs = true ∧ xs.length ≤ 64 ∧ noR xs = true := by
  unfold mfC at h
  by_cases h1 : allR 0 100000 xs = true
  · by_cases h2 : xs.length ≤ 64
    · by_cases h3 : noR xs = true
      · exact ⟨h1, h2, h3⟩
      · simp [h1, h2, h3] at h
    · simp [h1, h2] at h
  · simp [h1] at h
/-- A loss, and the first k of them. -/
def lsF (xs : List Int) (j : Nat) : Int := xs.getD j 0 - xs.getD (j + 1) 0
def lsT (xs : List Int) (k : Nat) : List Int := (List.range k).map (lsF xs)
theorem lsT_len (xs : List Int) (k : Nat) : (lsT xs k).length = k := by simp [lsT]
theorem lsT_snoc (xs : List Int) (k : Nat) : lsT xs (k + 1) = lsT xs k ++ [lsF xs k] := by simp [lsT, List.range_succ]
theorem lsT_at {xs : List Int} {k j : Nat} (h : j < k) : (lsT xs k).getD j 0 = lsF xs j := by simp [lsT, List.getD, h]
theorem fl_bd {xs : List Int} (h : allR 0 100000 xs = true) (j : Nat) : 0 ≤ xs.getD j 0 ∧ xs.getD j 0 ≤ 100000 := by
  by_cases hj : j < xs.length
  · rw [show xs.getD j 0 = xs[j] by simp [List.getD, hj]]; exact allR_iff.1 h _ (List.getElem_mem hj)
  · rw [show xs.getD j 0 = 0 by simp [List.getD, hj]]; omega
theorem lsF_bd {xs : List Int} (h : allR 0 100000 xs = true) (j : Nat) : -100000 ≤ lsF xs j ∧ lsF xs j ≤ 100000 := by
  have a := fl_bd h j
  have b := fl_bd h (j + 1)
  unfold lsF
  omega
theorem lsT_bd {xs : List Int} (h : allR 0 100000 xs = true) (k : Nat) : ∀ y ∈ lsT xs k, -100000 ≤ y ∧ y ≤ 100000 := by
  intro y hy
  obtain ⟨j, -, rfl⟩ := List.mem_map.1 hy
  exact lsF_bd h j
theorem lsF_no {xs : List Int} (h : noR xs = true) {j : Nat} (hj : j + 1 < xs.length) : 0 ≤ lsF xs j := by
  have := noR_iff.1 h j hj
  unfold lsF
  omega
/-- Losses are all those of flows if and only if no flow is greater than the one before it. -/
theorem losses_ok {xs : List Int} (h : allR 0 100000 xs = true) : allR 0 100000 (lsT xs (xs.length - 1)) = noR xs := by
  cases hn : noR xs
  · apply allR_not
    intro hh
    apply Bool.false_ne_true
    rw [← hn, noR_iff]
    intro j hj
    have := (hh (lsF xs j) (List.mem_map.2 ⟨j, List.mem_range.2 (by omega), rfl⟩)).1
    unfold lsF at this
    omega
  · rw [allR_iff]
    intro y hy
    obtain ⟨j, hj, rfl⟩ := List.mem_map.1 hy
    have := List.mem_range.1 hj
    exact ⟨lsF_no hn (by omega), (lsF_bd h j).2⟩
theorem lsT_sum (xs : List Int) : ∀ k, (lsT xs k).sum = xs.getD 0 0 - xs.getD k 0
  | 0 => by simp [lsT]
  | k + 1 => by
    rw [lsT_snoc, List.sum_append, lsT_sum xs k]
    simp only [List.sum_cons, List.sum_nil, lsF]
    omega
/-- What LossesOf returns. -/
def loR (xs : List Int) : List Int := if mfC xs = 0 then lsT xs (xs.length - 1) else []
/-- What LeakAt returns. -/
def lkA (xs : List Int) : Int := if mfC xs = 0 then (if fgM (lsF xs) (xs.length - 1) = 0 then 0 else fgB (lsF xs) (xs.length - 1)) else 0
def lkB (xs : List Int) : Int := if mfC xs = 0 then fgM (lsF xs) (xs.length - 1) else 0
def lkC (xs : List Int) : Int := if mfC xs = 0 then (if fgM (lsF xs) (xs.length - 1) = 0 then 3 else 0) else mfC xs
theorem fgM_bd {xs : List Int} (h : allR 0 100000 xs = true) (hn : noR xs = true) {k : Nat} (hk : k ≤ xs.length - 1) : 0 ≤ fgM (lsF xs) k ∧ fgM (lsF xs) k ≤ 100000 := by
  unfold fgM
  by_cases h0 : k = 0
  · rw [if_pos h0]; omega
  · rw [if_neg h0]
    have h1 := bi_lt (lsF xs) k (by omega)
    exact ⟨lsF_no hn (by omega), (lsF_bd h _).2⟩
theorem fgB_bd (f : Nat → Int) (k : Nat) : 0 ≤ fgB f k ∧ fgB f k ≤ k := by
  unfold fgB
  cases k with
  | zero => simp [bi]
  | succ k => have := bi_lt f (k + 1) (by omega); omega
/-- The model's step: the same whether the first loss is 0 or not. -/
theorem lk_no {f : Nat → Int} {k : Nat} (h0 : 0 ≤ f k) (h : ¬ fgM f k < f k) : fgB f (k + 1) = fgB f k ∧ fgM f (k + 1) = fgM f k := by
  by_cases hk : k = 0
  · subst hk
    have e : f 0 = 0 := by
      have : ¬ (0 : Int) < f 0 := h
      omega
    obtain ⟨a, b, -⟩ := fg_yes (f := f) (k := 0) (Or.inl rfl)
    exact ⟨by rw [a]; rfl, by rw [b, e]; rfl⟩
  · exact ⟨(fg_no hk h).1, (fg_no hk h).2.1⟩
/-- What MeanLoss returns. -/
def mlA (xs : List Int) : Int := if mfC xs = 0 then (if 2 ≤ xs.length then divR (xs.getD 0 0 - xs.getD (xs.length - 1) 0) ((xs.length : Int) - 1) else 0) else 0
def mlB (xs : List Int) : Int := if mfC xs = 0 then (if 2 ≤ xs.length then 0 else 6) else mfC xs
theorem own_cong {w : World} {B : Nat} {T : TypeId} {v : Value} {n m : Nat} {l l' : List Value} (h : w.ownsRow B T 1 v n l) (hn : n = m) (hl : l = l') : w.ownsRow B T 1 v m l' := by subst hn; subst hl; exact h
theorem row_ownL {w : World} {B : Nat} {v : Value} {xs : List Int} (h : OwnI w B v xs) : Row .i64 w v xs := by
  have h' := h
  unfold OwnI at h'
  rcases h.2 with ⟨rfl, h0⟩ | ⟨g, cap, cur, rfl, -⟩
  · exact .inl ⟨List.eq_nil_of_length_eq_zero h0, rfl⟩
  · exact Row.of_own h'
set_option maxHeartbeats 1000000 in
set_option maxRecDepth 100000 in
theorem iLossesOf_any (u : Value) (xs : List Int) (w : World) (hv : Row .i64 w u xs) (hl : xs.length ≤ 1048576) :
    Calls Tryz.prog 16 #[u] w fun e w' => ∃ v, e = .returned (.tuple #[v, .int .i64 (mfC xs)]) ∧ OwnI w' w.heap.size v (loR xs) ∧ Below w.heap.size w w' := by
  obtain ⟨A, cap, rfl⟩ := hv.form
  have HV := Lib.hid hv
  clear hv
  cases hr : allR 0 100000 xs
  · have HE := Lib.hid (show loR xs = [] ∧ mfC xs = 2 by simp [loR, mfC, hr])
    go_enter Tryz.func16, Tryz.ntmps16
    go_wp2_with (go_at_call 23; (with_reducible refine (areDuctFlows_any _ xs _ HV.out hl).mono ?_); rintro e w' ⟨rfl, rfl⟩; rw [hr])
    go_ret2
    exact ⟨_, ret_viL HE.out.2.symm, by rw [HE.out.1]; exact World.ownsRow_nil _ _ _ _, Below.refl _ _⟩
  · by_cases h64 : xs.length ≤ 64
    · have HR := Lib.hid hr
      have HL2 := Lib.hid (losses_ok hr)
      have HM := Lib.hid (show loR xs = (if noR xs then lsT xs (xs.length - 1) else []) ∧ mfC xs = (if noR xs then 0 else 7) by
        cases hn : noR xs <;> simp [loR, mfC, hr, h64, hn])
      obtain ⟨i0, hi, hz0, hz1, hz2⟩ := info_parts info_i64
      go_enter Tryz.func16, Tryz.ntmps16
      go_wp2_with (go_at_call 23; (with_reducible refine (areDuctFlows_any _ xs _ HV.out hl).mono ?_); rintro e w' ⟨rfl, rfl⟩; rw [hr])
      go_loopw [4, 15] (fun out i wr => ∃ k : Nat, k ≤ xs.length ∧ i = .int .i64 (k : Int) ∧ wr.ownsRow w.heap.size 2 1 out (k - 1) (intsV (lsT xs (k - 1))) ∧ Below w.heap.size w wr) (fun out i wr => xs.length - (intOf i).toNat)
      case atStart => exact ⟨0, by omega, rfl, World.ownsRow_nil _ _ _ _, Below.refl _ _⟩
      case round =>
        obtain ⟨k, hk, rfl, hout, hbel⟩ := hrel
        have hwsz := hbel.size
        by_cases hlt : k < xs.length
        · cases k with
          | zero =>
            obtain ⟨b, off, rfl, -, hc1⟩ := Row.cell (HV.out.below hbel) hlt
            rw [Nat.add_zero] at hc1
            generalize xs.getD 0 0 = z at *
            have hl0 : (0 : Int) < (xs.length : Int) := by omega
            have HO := Lib.hid hout
            have HBL := Lib.hid hbel
            clear hout hbel
            go_wp2
            go_roundw
            case rel => exact ⟨1, by omega, by first | rfl | go_num, HO.out, HBL.out⟩
            case measure => simp [intOf]; omega
          | succ p =>
            obtain ⟨b, off, rfl, -, hc1⟩ := Row.cell (HV.out.below hbel) hlt
            obtain ⟨b', off', e1, -, hc0⟩ := Row.cell (HV.out.below hbel) (show p < xs.length by omega)
            injection e1 with e1
            injection e1 with e1 e3
            subst e1 e3
            have b0 := fl_bd HR.out p
            have b1 := fl_bd HR.out (p + 1)
            have hlI : (p : Int) + 1 < (xs.length : Int) := by omega
            have hpI : (p : Int) < (xs.length : Int) := by omega
            have HS := Lib.hid (show lsT xs (p + 1) = lsT xs p ++ [xs.getD p 0 - xs.getD (p + 1) 0] from lsT_snoc xs p)
            replace hout := own_cong hout (show p + 1 - 1 = p by omega) (show intsV (lsT xs (p + 1 - 1)) = intsV (lsT xs p) by rw [show p + 1 - 1 = p by omega])
            generalize xs.getD p 0 = y at *
            generalize xs.getD (p + 1) 0 = z at *
            go_wp2_with (at_builtin; refine wpList_append_own _ rfl _ _ 35 rfl w.heap.size 2 i0 (.int .i64 0) 1 8 Tryz.underlying35 hi hz0 hz1 hz2 rfl (by decide) _ _ _ rfl (hout.alloc _) ⟨wr.heap.size, 0, none⟩ 1 1 [.int .i64 (y - z)] rfl rfl ?c1z ?c2z ?c3z ?c4z ?c5z ?_)
            try (case c1z => intro j u hj; match j, hj with | 0, hj => (simp at hj; subst hj; simp [Addr.add]) | j + 1, hj => (simp at hj))
            case c2z => simp [Value.oneCell']
            case c3z => unfold maxLen; omega
            case c4z => omega
            case c5z => first | (simp; omega) | (simp; done) | omega
            intro v' w1 hout' hgrow _
            have HBB : Hid (Below w.heap.size w w1) := Lib.hid ((hbel.alloc hwsz _).grown hgrow (by simp; omega) (fun k hk => (hout.lt k hk).1))
            have HOO : Hid (w1.ownsRow w.heap.size 2 1 v' (p + 1 + 1 - 1) (intsV (lsT xs (p + 1 + 1 - 1)))) := Lib.hid (by rw [show p + 1 + 1 - 1 = p + 1 by omega, HS.out]; simpa [intsV] using hout')
            clear hout' hgrow hout hbel
            go_wp2
            go_roundw
            case rel => exact ⟨p + 1 + 1, by omega, by go_num, HOO.out, HBB.out⟩
            case measure => simp [intOf]; omega
        · obtain rfl : k = xs.length := by omega
          have HO := Lib.hid (show OwnI wr w.heap.size u4 (lsT xs (xs.length - 1)) by unfold OwnI; rw [lsT_len]; exact hout)
          have HBL := Lib.hid hbel
          clear hout hbel
          cases hn : noR xs
          · rw [hn] at HM HL2
            go_wp2_with (go_at_call 26; (with_reducible refine (within64_any _ _ _ _ _ (row_ownL HO.out) (by rw [lsT_len]; omega)).mono ?_); rintro e w' ⟨rfl, rfl⟩; rw [HL2.out])
            go_ret2
            exact ⟨_, ret_viL HM.out.2.symm, by rw [HM.out.1]; exact World.ownsRow_nil _ _ _ _, HBL.out⟩
          · rw [hn] at HM HL2
            go_wp2_with (go_at_call 26; (with_reducible refine (within64_any _ _ _ _ _ (row_ownL HO.out) (by rw [lsT_len]; omega)).mono ?_); rintro e w' ⟨rfl, rfl⟩; rw [HL2.out])
            go_ret2
            exact ⟨_, ret_viL HM.out.2.symm, by rw [HM.out.1]; exact HO.out, HBL.out⟩
    · have HE := Lib.hid (show loR xs = [] ∧ mfC xs = 5 by simp [loR, mfC, hr, h64])
      go_enter Tryz.func16, Tryz.ntmps16
      go_wp2_with (go_at_call 23; (with_reducible refine (areDuctFlows_any _ xs _ HV.out hl).mono ?_); rintro e w' ⟨rfl, rfl⟩; rw [hr])
      go_ret2
      exact ⟨_, ret_viL HE.out.2.symm, by rw [HE.out.1]; exact World.ownsRow_nil _ _ _ _, Below.refl _ _⟩
set_option maxHeartbeats 1000000 in
theorem iMeanLoss_any (u : Value) (xs : List Int) (w : World) (hv : Row .i64 w u xs) (hl : xs.length ≤ 1048576) :
    Calls Tryz.prog 18 #[u] w fun e w' => e = .returned (.tuple #[.int .i64 (mlA xs), .int .i64 (mlB xs)]) ∧ Below w.heap.size w w' := by
  obtain ⟨A, cap, rfl⟩ := hv.form
  have HV := Lib.hid hv
  clear hv
  by_cases hc : mfC xs = 0
  · have HL := Lib.hid (show loR xs = lsT xs (xs.length - 1) by simp [loR, hc])
    have HOK := Lib.hid (mfC_ok hc)
    have h64 := HOK.out.2.1
    by_cases h2 : 2 ≤ xs.length
    · have HE := Lib.hid (show mlA xs = divR (lsT xs (xs.length - 1)).sum ((xs.length - 1 : Nat) : Int) ∧ mlB xs = 0 by rw [lsT_sum, show ((xs.length - 1 : Nat) : Int) = (xs.length : Int) - 1 by omega]; simp [mlA, mlB, hc, h2])
      have hs : (lsT xs (xs.length - 1)).sum = xs.getD 0 0 - xs.getD (xs.length - 1) 0 := lsT_sum xs _
      have b0 := fl_bd HOK.out.1 0
      have b1 := fl_bd HOK.out.1 (xs.length - 1)
      have hn1 : ((xs.length - 1 : Nat) : Int) = (xs.length : Int) - 1 := by omega
      have hmb : -100000 ≤ (lsT xs (xs.length - 1)).sum ∧ (lsT xs (xs.length - 1)).sum ≤ 100000 := by rw [hs]; omega
      clear hs b0 b1
      go_enter Tryz.func18, Tryz.ntmps18
      go_wp2_with fail
      (with_reducible refine (iLossesOf_any _ xs _ HV.out hl).mono ?_)
      rintro e w1 ⟨v, rfl, ho1, hd1⟩
      rw [hc]
      have HO := Lib.hid (row_ownL ho1)
      have HB1 := Lib.hid hd1
      rw [HL.out] at HO
      obtain ⟨A', cap', rfl⟩ := HO.out.form
      rw [lsT_len] at HO ⊢
      clear ho1 hd1
      have hl1 : ((xs.length - 1 : Nat) : Int) ≠ 0 := by omega
      go_wp2_with fail
      (with_reducible refine (sumOf_any _ (lsT xs (xs.length - 1)) _ (RowW.of_row HO.out) (lsT_bd HOK.out.1 _) (by rw [lsT_len]; omega)).mono ?_)
      rintro e w' ⟨rfl, rfl⟩
      rw [hn1] at HE
      generalize (lsT xs (xs.length - 1)).sum = m at *
      go_wp2_with (go_at_call 37; (with_reducible refine (nearest_any _ _ _ (by omega) (by omega) (by omega) (by omega)).mono ?_); rintro e w' ⟨rfl, n, rfl⟩)
      go_ret2
      exact ⟨ret_two HE.out.1.symm HE.out.2.symm, below_drewN' HB1.out _⟩
    · have HE := Lib.hid (show mlA xs = 0 ∧ mlB xs = 6 by simp [mlA, mlB, hc, h2])
      have e0 : xs.length - 1 = 0 := by omega
      go_enter Tryz.func18, Tryz.ntmps18
      go_wp2_with fail
      (with_reducible refine (iLossesOf_any _ xs _ HV.out hl).mono ?_)
      rintro e w1 ⟨v, rfl, ho1, hd1⟩
      rw [hc]
      have HO := Lib.hid (row_ownL ho1)
      have HB1 := Lib.hid hd1
      rw [HL.out] at HO
      obtain ⟨A', cap', rfl⟩ := HO.out.form
      rw [lsT_len, e0]
      clear ho1 hd1
      go_wp2
      go_ret2
      exact ⟨ret_two HE.out.1.symm HE.out.2.symm, HB1.out⟩
  · have HE := Lib.hid (show mlA xs = 0 ∧ mlB xs = mfC xs by simp [mlA, mlB, hc])
    have hz1 : (mfC xs != 0) = true := by simp [hc]
    have hz2 : (mfC xs == 0) = false := by simp [hc]
    go_enter Tryz.func18, Tryz.ntmps18
    go_wp2_with fail
    (with_reducible refine (iLossesOf_any _ xs _ HV.out hl).mono ?_)
    rintro e w1 ⟨v, rfl, ho1, hd1⟩
    generalize hzz : mfC xs = z at *
    have HB1 := Lib.hid hd1
    clear ho1 hd1
    go_wp2
    go_ret2
    exact ⟨ret_two HE.out.1.symm HE.out.2.symm, HB1.out⟩
end Go.Proofs.YtoojndohddellaaGreatDoor
