/-
  Contracts of chapter 6: whether lists of fans are valid; the model's and the program's. Conditions: those that each theorem states.
-/
import Derived.Test.YtcnpddmghjjhjaaVk
namespace Go.Proofs.Ytcnpddmghjjhjaa
open Go.RowKit
set_option linter.unusedVariables false
set_option linter.unusedSimpArgs false

theorem less_totalF : ∀ x y : List UInt8, (!Op.bytesLess x y) = (Op.bytesLess y x || y == x)
  | [], [] => rfl
  | [], b :: y => rfl
  | a :: x, [] => rfl
  | a :: x, b :: y => by
    have ih := less_totalF x y
    have e : (a :: x == b :: y) = (a == b && x == y) := rfl
    have e' : (b :: y == a :: x) = (b == a && y == x) := rfl
    rw [e']
    simp only [Op.bytesLess]
    by_cases h : a = b
    · subst h
      have hi : ¬ a < a := by simp
      simp only [hi, decide_false, beq_self_eq_true, Bool.true_and, Bool.false_or]
      exact ih
    · have h1 : (a == b) = false := beq_false_of_ne h
      have h2 : (b == a) = false := beq_false_of_ne (Ne.symm h)
      rw [h1, h2, Bool.false_and, Bool.or_false, Bool.false_and, Bool.or_false, Bool.false_and, Bool.or_false]
      rcases UInt8.lt_or_lt_of_ne h with g | g
      · have g' : ¬ b < a := fun q => UInt8.lt_irrefl _ (UInt8.lt_trans g q)
        simp [g, g']
      · have g' : ¬ a < b := fun q => UInt8.lt_irrefl _ (UInt8.lt_trans g q)
        simp [g, g']
theorem fanAt_mk {w : World} {b o : Nat} {s : ByteArray} {a : Int} {A : Option Addr} {cap : Nat} {xs : List (List Int)} (h0 : w.cell? ⟨b, o, none⟩ = some (.string s)) (h1 : w.cell? ⟨b, o + 1, none⟩ = some (.int .i64 a)) (h2 : w.cell? ⟨b, o + 2, none⟩ = some (.slice A xs.length cap)) : FanAt w b o s a A cap xs := ⟨h0, h1, h2⟩
def Fa.none : Fa := ⟨⟨#[]⟩, 0, []⟩
def fGood (fs : List Fa) (i : Nat) : Bool := (fs.getD i Fa.none).ok && (decide (i = 0) || Op.bytesLess (fs.getD (i - 1) Fa.none).s.toList (fs.getD i Fa.none).s.toList)
/-- A valid list of fans. -/
def fansOk (fs : List Fa) : Bool := decide (∀ i, i < fs.length → fGood fs i = true) && decide (fs.length ≤ 8)
theorem fansOk_iff {fs : List Fa} : fansOk fs = true ↔ (∀ i, i < fs.length → fGood fs i = true) ∧ fs.length ≤ 8 := by
  simp only [fansOk, Bool.and_eq_true, decide_eq_true_eq]
theorem fansOk_bad {fs : List Fa} {i : Nat} (h : i < fs.length) (hb : fGood fs i = false) : fansOk fs = false := by
  rw [← Bool.not_eq_true, fansOk_iff]
  rintro ⟨h1, -⟩
  rw [h1 i h] at hb; cases hb
theorem fansOk_each {fs : List Fa} (h : fansOk fs = true) {i : Nat} (hi : i < fs.length) : fs[i].ok = true := by
  have h1 := (fansOk_iff.1 h).1 i hi
  unfold fGood at h1
  rw [show fs.getD i Fa.none = fs[i] by simp [List.getD, hi], Bool.and_eq_true] at h1
  exact h1.1
set_option maxHeartbeats 4000000 in
theorem l06List_any (t1 : Prop) (A : Option Addr) (cap : Nat) (fs : List Fa) (w : World) (hr : FansR t1 w A fs) (hl : fs.length ≤ 1048576) (hs : ∀ f ∈ fs, f.sm) :
    Calls Try.prog 49 #[.slice A fs.length cap] w fun e w' => e = .returned (.bool (fansOk fs)) ∧ Below w.heap.size w w' := by
  have HR := Lib.hid hr
  have HS := Lib.hid hs
  clear hr hs
  go_enter Try.func49, Try.ntmps49
  go_wp2
  go_loopw [3] (fun i wr => ∃ k : Nat, k ≤ fs.length ∧ i = .int .i64 k ∧ Hid (∀ j, j < k → fGood fs j = true) ∧ Below w.heap.size w wr) (fun i wr => fs.length - (intOf i).toNat)
  case atStart => exact ⟨0, by omega, rfl, Lib.hid (fun j hj => absurd hj (by omega)), Below.refl _ _⟩
  case round =>
    obtain ⟨k, hk, rfl, HG, hbel⟩ := hrel
    obtain ⟨wo, rfl⟩ : ∃ wo : World, wo = wr := ⟨_, rfl⟩
    by_cases hlt : k < fs.length
    · obtain ⟨b, off, R, cp, rfl, ⟨c0, c1, c2⟩, hrr, -⟩ := (HR.out.below hbel) k hlt
      have HF0 := Lib.hid (HS.out fs[k] (List.getElem_mem hlt))
      have HRR := Lib.hid hrr
      have HPV := Lib.hid (show 0 < k → ∃ ps : ByteArray, (fs.getD (k - 1) Fa.none).s = ps ∧ wo.cell? ⟨b, off + (k - 1) * 3, none⟩ = some (.string ps) from fun h => by
        obtain ⟨b', off', R', cp', e, ⟨q0, -, -⟩, -, -⟩ := (HR.out.below hbel) (k - 1) (by omega)
        injection e with e
        injection e with e1 e2
        subst e1
        subst e2
        exact ⟨_, rfl, by rw [show fs.getD (k - 1) Fa.none = fs[k - 1] by simp [List.getD, show k - 1 < fs.length by omega]]; exact q0⟩)
      clear hrr
      have hg : fs.getD k Fa.none = fs[k] := by simp [List.getD, hlt]
      have HGD := Lib.hid (show fGood fs k = (fs[k].ok && (decide (k = 0) || Op.bytesLess (fs.getD (k - 1) Fa.none).s.toList fs[k].s.toList)) by unfold fGood; rw [hg])
      clear hg
      generalize fs[k] = f at *
      obtain ⟨s, a, xs⟩ := f
      dsimp only at c0 c1 c2
      have HRS := Lib.hid (show RowsR wo R xs from HRR.out)
      have HSM := Lib.hid (show s.size ≤ 1048576 ∧ xs.length ≤ 1048576 ∧ ∀ r ∈ xs, r.length ≤ 1048576 from HF0.out)
      have HGE := Lib.hid (show fGood fs k = (fanOk s a xs && (decide (k = 0) || Op.bytesLess (fs.getD (k - 1) Fa.none).s.toList s.toList)) from HGD.out)
      clear HRR HF0 HGD
      cases hok : fanOk s a xs
      · have HF := Lib.hid (fansOk_bad hlt (by rw [HGE.out, hok, Bool.false_and]))
        go_wp2_with fail
        refine wp_region_held (S := fun w' => w'.cell? ⟨b, off + k * 3, none⟩ = some (.string s) ∧ Below wo.heap.size wo w') (by kernel_rfl) ?_
        try (change wpAnyH _ _ _ _ _ _ _ _ (World.drew _))
        have hS0 := (show wo.drew.cell? ⟨b, off + k * 3, none⟩ = some (.string s) ∧ Below wo.heap.size wo wo.drew from ⟨c0, Below.drew (Below.refl _ _)⟩)
        refine gTake 0 (v := ?_) rfl (by kernel_rfl) (by kernel_rfl) (by kernel_rfl) (fun _ _ _ h => h) (by kernel_rfl) ?_ hS0 ?_
        rotate_left
        · (intro W hW; clear hW; go_simp; try with_reducible rfl)
        refine gTake 1 (v := ?_) rfl (by kernel_rfl) (by kernel_rfl) (by kernel_rfl) (fun _ _ _ h => h) (by kernel_rfl) ?_ hS0 ?_
        rotate_left
        · (intro W hW; clear hW; go_simp; try with_reducible rfl)
        refine gTake 2 (v := ?_) rfl (by kernel_rfl) (by kernel_rfl) (by kernel_rfl) (fun _ _ _ h => h) (by kernel_rfl) ?_ hS0 ?_
        rotate_left
        · (intro W hW; clear hW; go_simp; try with_reducible rfl)
        refine gOne 3 rfl (by kernel_rfl) (by kernel_rfl) (fun K hK => ?_)
        go_simp
        go_at_call 42
        (with_reducible refine (l06Ok_below b (off + k * 3) s a R cp xs _ ((fanAt_mk c0 c1 c2).below hS0.2) (HRS.out.below hS0.2) HSM.out.1 HSM.out.2.1 HSM.out.2.2).mono ?_)
        rintro e wq0 ⟨rfl, hdq0⟩
        try go_simp
        have hS1 := (show wq0.cell? ⟨b, off + k * 3, none⟩ = some (.string s) ∧ Below wo.heap.size wo wq0 from ⟨cellK hS0.1 hdq0, hS0.2.trans (hdq0.mono hS0.2.size)⟩)
        refine hK _ _ hS1 ?_
        clear hK K
        refine gTake 4 (v := ?_) rfl (by kernel_rfl) (by kernel_rfl) (by kernel_rfl) (fun _ _ _ h => h) (by kernel_rfl) ?_ hS1 ?_
        rotate_left
        · (intro W hW; clear hW; go_simp; try with_reducible rfl)
        refine gTake 5 (v := ?_) rfl (by kernel_rfl) (by kernel_rfl) (by kernel_rfl) (fun _ _ _ h => h) (by kernel_rfl) ?_ hS1 ?_
        rotate_left
        · (intro W hW; clear hW; go_simp; try with_reducible rfl)
        refine gSkip 6 rfl (by kernel_rfl) (by kernel_rfl) (by kernel_rfl) (fun _ _ _ h => h) (by kernel_rfl) hS1 ?_
        refine gSkip 7 rfl (by kernel_rfl) (by kernel_rfl) (by kernel_rfl) (fun _ _ _ h => h) (by kernel_rfl) hS1 ?_
        refine gSkip 8 rfl (by kernel_rfl) (by kernel_rfl) (by kernel_rfl) (fun _ _ _ h => h) (by kernel_rfl) hS1 ?_
        refine gSkip 9 rfl (by kernel_rfl) (by kernel_rfl) (by kernel_rfl) (fun _ _ _ h => h) (by kernel_rfl) hS1 ?_
        refine gSkip 10 rfl (by kernel_rfl) (by kernel_rfl) (by kernel_rfl) (fun _ _ _ h => h) (by kernel_rfl) hS1 ?_
        refine gSkip 11 rfl (by kernel_rfl) (by kernel_rfl) (by kernel_rfl) (fun _ _ _ h => h) (by kernel_rfl) hS1 ?_
        refine gSkip 12 rfl (by kernel_rfl) (by kernel_rfl) (by kernel_rfl) (fun _ _ _ h => h) (by kernel_rfl) hS1 ?_
        refine gSkip 13 rfl (by kernel_rfl) (by kernel_rfl) (by kernel_rfl) (fun _ _ _ h => h) (by kernel_rfl) hS1 ?_
        refine gSkip 14 rfl (by kernel_rfl) (by kernel_rfl) (by kernel_rfl) (fun _ _ _ h => h) (by kernel_rfl) hS1 ?_
        refine gSkip 15 rfl (by kernel_rfl) (by kernel_rfl) (by kernel_rfl) (fun _ _ _ h => h) (by kernel_rfl) hS1 ?_
        refine gSkip 16 rfl (by kernel_rfl) (by kernel_rfl) (by kernel_rfl) (fun _ _ _ h => h) (by kernel_rfl) hS1 ?_
        refine gSkip 17 rfl (by kernel_rfl) (by kernel_rfl) (by kernel_rfl) (fun _ _ _ h => h) (by kernel_rfl) hS1 ?_
        refine gSkip 18 rfl (by kernel_rfl) (by kernel_rfl) (by kernel_rfl) (fun _ _ _ h => h) (by kernel_rfl) hS1 ?_
        refine gSkip 19 rfl (by kernel_rfl) (by kernel_rfl) (by kernel_rfl) (fun _ _ _ h => h) (by kernel_rfl) hS1 ?_
        refine gSkip 20 rfl (by kernel_rfl) (by kernel_rfl) (by kernel_rfl) (fun _ _ _ h => h) (by kernel_rfl) hS1 ?_
        refine gSkip 21 rfl (by kernel_rfl) (by kernel_rfl) (by kernel_rfl) (fun _ _ _ h => h) (by kernel_rfl) hS1 ?_
        refine gTake 22 (v := ?_) rfl (by kernel_rfl) (by kernel_rfl) (by kernel_rfl) (fun _ _ _ h => h) (by kernel_rfl) ?_ hS1 ?_
        rotate_left
        · (intro W hW; clear hW; go_simp; try with_reducible rfl)
        refine wpAnyH_done (by kernel_rfl) ?_ _
        go_simp
        go_wp2
        go_ret
        exact ⟨ret_bool HF.out.symm, hbel.trans (hS1.2.mono hbel.size)⟩
      · by_cases k0 : k = 0
        · have HF := Lib.hid (show fGood fs k = true by rw [HGE.out, hok, decide_eq_true k0]; rfl)
          have hki : ¬ (0 < (k : Int)) := by omega
          have hkn : ¬ (0 < k) := by omega
          clear k0
          go_wp2_with fail
          refine wp_region_held (S := fun w' => w'.cell? ⟨b, off + k * 3, none⟩ = some (.string s) ∧ Below wo.heap.size wo w') (by kernel_rfl) ?_
          try (change wpAnyH _ _ _ _ _ _ _ _ (World.drew _))
          have hS0 := (show wo.drew.cell? ⟨b, off + k * 3, none⟩ = some (.string s) ∧ Below wo.heap.size wo wo.drew from ⟨c0, Below.drew (Below.refl _ _)⟩)
          refine gTake 0 (v := ?_) rfl (by kernel_rfl) (by kernel_rfl) (by kernel_rfl) (fun _ _ _ h => h) (by kernel_rfl) ?_ hS0 ?_
          rotate_left
          · (intro W hW; clear hW; go_simp; try with_reducible rfl)
          refine gTake 1 (v := ?_) rfl (by kernel_rfl) (by kernel_rfl) (by kernel_rfl) (fun _ _ _ h => h) (by kernel_rfl) ?_ hS0 ?_
          rotate_left
          · (intro W hW; clear hW; go_simp; try with_reducible rfl)
          refine gTake 2 (v := ?_) rfl (by kernel_rfl) (by kernel_rfl) (by kernel_rfl) (fun _ _ _ h => h) (by kernel_rfl) ?_ hS0 ?_
          rotate_left
          · (intro W hW; clear hW; go_simp; try with_reducible rfl)
          refine gOne 3 rfl (by kernel_rfl) (by kernel_rfl) (fun K hK => ?_)
          go_simp
          go_at_call 42
          (with_reducible refine (l06Ok_below b (off + k * 3) s a R cp xs _ ((fanAt_mk c0 c1 c2).below hS0.2) (HRS.out.below hS0.2) HSM.out.1 HSM.out.2.1 HSM.out.2.2).mono ?_)
          rintro e wq0 ⟨rfl, hdq0⟩
          try go_simp
          have hS1 := (show wq0.cell? ⟨b, off + k * 3, none⟩ = some (.string s) ∧ Below wo.heap.size wo wq0 from ⟨cellK hS0.1 hdq0, hS0.2.trans (hdq0.mono hS0.2.size)⟩)
          refine hK _ _ hS1 ?_
          clear hK K
          refine gTake 4 (v := ?_) rfl (by kernel_rfl) (by kernel_rfl) (by kernel_rfl) (fun _ _ _ h => h) (by kernel_rfl) ?_ hS1 ?_
          rotate_left
          · (intro W hW; clear hW; go_simp; try with_reducible rfl)
          refine gTake 5 (v := ?_) rfl (by kernel_rfl) (by kernel_rfl) (by kernel_rfl) (fun _ _ _ h => h) (by kernel_rfl) ?_ hS1 ?_
          rotate_left
          · (intro W hW; clear hW; go_simp; try with_reducible rfl)
          refine gTake 6 (v := ?_) rfl (by kernel_rfl) (by kernel_rfl) (by kernel_rfl) (fun _ _ _ h => h) (by kernel_rfl) ?_ hS1 ?_
          rotate_left
          · (intro W hW; clear hW; go_simp; try with_reducible rfl)
          refine gTake 7 (v := ?_) rfl (by kernel_rfl) (by kernel_rfl) (by kernel_rfl) (fun _ _ _ h => h) (by kernel_rfl) ?_ hS1 ?_
          rotate_left
          · (intro W hW; clear hW; go_simp; try with_reducible rfl)
          refine gTake 8 (v := ?_) rfl (by kernel_rfl) (by kernel_rfl) (by kernel_rfl) (fun _ _ _ h => h) (by kernel_rfl) ?_ hS1 ?_
          rotate_left
          · (intro W hW; clear hW; go_simp; try with_reducible rfl)
          refine gSkip 9 rfl (by kernel_rfl) (by kernel_rfl) (by kernel_rfl) (fun _ _ _ h => h) (by kernel_rfl) hS1 ?_
          refine gSkip 10 rfl (by kernel_rfl) (by kernel_rfl) (by kernel_rfl) (fun _ _ _ h => h) (by kernel_rfl) hS1 ?_
          refine gSkip 11 rfl (by kernel_rfl) (by kernel_rfl) (by kernel_rfl) (fun _ _ _ h => h) (by kernel_rfl) hS1 ?_
          refine gSkip 12 rfl (by kernel_rfl) (by kernel_rfl) (by kernel_rfl) (fun _ _ _ h => h) (by kernel_rfl) hS1 ?_
          refine gSkip 13 rfl (by kernel_rfl) (by kernel_rfl) (by kernel_rfl) (fun _ _ _ h => h) (by kernel_rfl) hS1 ?_
          refine gSkip 14 rfl (by kernel_rfl) (by kernel_rfl) (by kernel_rfl) (fun _ _ _ h => h) (by kernel_rfl) hS1 ?_
          refine gSkip 15 rfl (by kernel_rfl) (by kernel_rfl) (by kernel_rfl) (fun _ _ _ h => h) (by kernel_rfl) hS1 ?_
          refine gSkip 16 rfl (by kernel_rfl) (by kernel_rfl) (by kernel_rfl) (fun _ _ _ h => h) (by kernel_rfl) hS1 ?_
          refine gSkip 17 rfl (by kernel_rfl) (by kernel_rfl) (by kernel_rfl) (fun _ _ _ h => h) (by kernel_rfl) hS1 ?_
          refine gSkip 18 rfl (by kernel_rfl) (by kernel_rfl) (by kernel_rfl) (fun _ _ _ h => h) (by kernel_rfl) hS1 ?_
          refine gSkip 19 rfl (by kernel_rfl) (by kernel_rfl) (by kernel_rfl) (fun _ _ _ h => h) (by kernel_rfl) hS1 ?_
          refine gSkip 20 rfl (by kernel_rfl) (by kernel_rfl) (by kernel_rfl) (fun _ _ _ h => h) (by kernel_rfl) hS1 ?_
          refine gTake 21 (v := ?_) rfl (by kernel_rfl) (by kernel_rfl) (by kernel_rfl) (fun _ _ _ h => h) (by kernel_rfl) ?_ hS1 ?_
          rotate_left
          · (intro W hW; clear hW; go_simp; try with_reducible rfl)
          refine gTake 22 (v := ?_) rfl (by kernel_rfl) (by kernel_rfl) (by kernel_rfl) (fun _ _ _ h => h) (by kernel_rfl) ?_ hS1 ?_
          rotate_left
          · (intro W hW; clear hW; go_simp; try with_reducible rfl)
          refine wpAnyH_done (by kernel_rfl) ?_ _
          go_simp
          go_wp2
          go_roundw
          case rel => exact ⟨k + 1, by omega, by go_num, Lib.hid (fun j hj => by
            rcases Nat.lt_or_ge j k with q | q
            · exact HG.out j q
            · obtain rfl : j = k := by omega
              exact HF.out), hbel.trans (hS1.2.mono hbel.size)⟩
          case measure => simp [intOf]; omega
        · obtain ⟨ps, hps, g0⟩ := HPV.out (by omega)
          have HGF := Lib.hid (show fGood fs k = Op.bytesLess ps.toList s.toList by rw [HGE.out, hok, decide_eq_false k0, hps]; simp)
          have hki : (0 < (k : Int)) := by omega
          have hkn : 0 < k := by omega
          clear hps k0
          have hkj : (k : Int) - 1 = ((k - 1 : Nat) : Int) := by omega
          have hkl : k - 1 < fs.length := by omega
          generalize k - 1 = j at *
          have hkw : IntKind.i64.wrap ((k : Int) - 1) = (j : Int) := by rw [hkj]; exact IntWalk.i64_in _ (by omega)
          have HK := Lib.hid hkj
          clear hkj
          have HT := Lib.hid (less_totalF ps.toList s.toList)
          cases hls : Op.bytesLess ps.toList s.toList
          · have hq := HT.out
            rw [hls] at hq
            replace hq : (Op.bytesLess s.toList ps.toList || s.toList == ps.toList) = true := hq.symm
            have HF := Lib.hid (fansOk_bad hlt (by rw [HGF.out, hls]))
            go_wp2_with fail
            refine wp_region_held (S := fun w' => w'.cell? ⟨b, off + k * 3, none⟩ = some (.string s) ∧ w'.cell? ⟨b, off + j * 3, none⟩ = some (.string ps) ∧ Below wo.heap.size wo w') (by kernel_rfl) ?_
            try (change wpAnyH _ _ _ _ _ _ _ _ (World.drew _))
            have hS0 := (show wo.drew.cell? ⟨b, off + k * 3, none⟩ = some (.string s) ∧ wo.drew.cell? ⟨b, off + j * 3, none⟩ = some (.string ps) ∧ Below wo.heap.size wo wo.drew from ⟨c0, g0, Below.drew (Below.refl _ _)⟩)
            refine gTake 0 (v := ?_) rfl (by kernel_rfl) (by kernel_rfl) (by kernel_rfl) (fun _ _ _ h => h) (by kernel_rfl) ?_ hS0 ?_
            rotate_left
            · (intro W hW; clear hW; go_simp; try with_reducible rfl)
            refine gTake 1 (v := ?_) rfl (by kernel_rfl) (by kernel_rfl) (by kernel_rfl) (fun _ _ _ h => h) (by kernel_rfl) ?_ hS0 ?_
            rotate_left
            · (intro W hW; clear hW; go_simp; try with_reducible rfl)
            refine gTake 2 (v := ?_) rfl (by kernel_rfl) (by kernel_rfl) (by kernel_rfl) (fun _ _ _ h => h) (by kernel_rfl) ?_ hS0 ?_
            rotate_left
            · (intro W hW; clear hW; go_simp; try with_reducible rfl)
            refine gOne 3 rfl (by kernel_rfl) (by kernel_rfl) (fun K hK => ?_)
            go_simp
            go_at_call 42
            (with_reducible refine (l06Ok_below b (off + k * 3) s a R cp xs _ ((fanAt_mk c0 c1 c2).below hS0.2.2) (HRS.out.below hS0.2.2) HSM.out.1 HSM.out.2.1 HSM.out.2.2).mono ?_)
            rintro e wq0 ⟨rfl, hdq0⟩
            try go_simp
            have hS1 := (show wq0.cell? ⟨b, off + k * 3, none⟩ = some (.string s) ∧ wq0.cell? ⟨b, off + j * 3, none⟩ = some (.string ps) ∧ Below wo.heap.size wo wq0 from ⟨cellK hS0.1 hdq0, cellK hS0.2.1 hdq0, hS0.2.2.trans (hdq0.mono hS0.2.2.size)⟩)
            refine hK _ _ hS1 ?_
            clear hK K
            refine gTake 4 (v := ?_) rfl (by kernel_rfl) (by kernel_rfl) (by kernel_rfl) (fun _ _ _ h => h) (by kernel_rfl) ?_ hS1 ?_
            rotate_left
            · (intro W hW; clear hW; go_simp; try with_reducible rfl)
            refine gTake 5 (v := ?_) rfl (by kernel_rfl) (by kernel_rfl) (by kernel_rfl) (fun _ _ _ h => h) (by kernel_rfl) ?_ hS1 ?_
            rotate_left
            · (intro W hW; clear hW; go_simp; try with_reducible rfl)
            refine gTake 6 (v := ?_) rfl (by kernel_rfl) (by kernel_rfl) (by kernel_rfl) (fun _ _ _ h => h) (by kernel_rfl) ?_ hS1 ?_
            rotate_left
            · (intro W hW; clear hW; go_simp; try with_reducible rfl)
            refine gTake 7 (v := ?_) rfl (by kernel_rfl) (by kernel_rfl) (by kernel_rfl) (fun _ _ _ h => h) (by kernel_rfl) ?_ hS1 ?_
            rotate_left
            · (intro W hW; clear hW; go_simp; try with_reducible rfl)
            refine gTake 8 (v := ?_) rfl (by kernel_rfl) (by kernel_rfl) (by kernel_rfl) (fun _ _ _ h => h) (by kernel_rfl) ?_ hS1 ?_
            rotate_left
            · (intro W hW; clear hW; go_simp; try with_reducible rfl)
            refine gTake 9 (v := ?_) rfl (by kernel_rfl) (by kernel_rfl) (by kernel_rfl) (fun _ _ _ h => h) (by kernel_rfl) ?_ hS1 ?_
            rotate_left
            · (intro W hW; clear hW; go_simp; try with_reducible rfl)
            refine gTake 10 (v := ?_) rfl (by kernel_rfl) (by kernel_rfl) (by kernel_rfl) (fun _ _ _ h => h) (by kernel_rfl) ?_ hS1 ?_
            rotate_left
            · (intro W hW; clear hW; go_simp; try with_reducible rfl)
            refine gTake 11 (v := ?_) rfl (by kernel_rfl) (by kernel_rfl) (by kernel_rfl) (fun _ _ _ h => h) (by kernel_rfl) ?_ hS1 ?_
            rotate_left
            · (intro W hW; clear hW; go_simp; try with_reducible rfl)
            refine gTake 12 (v := ?_) rfl (by kernel_rfl) (by kernel_rfl) (by kernel_rfl) (fun _ _ _ h => h) (by kernel_rfl) ?_ hS1 ?_
            rotate_left
            · (intro W hW; clear hW; go_simp; try with_reducible rfl)
            refine gTake 13 (v := ?_) rfl (by kernel_rfl) (by kernel_rfl) (by kernel_rfl) (fun _ _ _ h => h) (by kernel_rfl) ?_ hS1 ?_
            rotate_left
            · (intro W hW; clear hW; go_simp; try with_reducible rfl)
            refine gTake 14 (v := ?_) rfl (by kernel_rfl) (by kernel_rfl) (by kernel_rfl) (fun _ _ _ h => h) (by kernel_rfl) ?_ hS1 ?_
            rotate_left
            · (intro W hW; have q0 := hW.1; have q1 := hW.2.1; clear hW; go_simp; try with_reducible rfl)
            refine gTake 15 (v := ?_) rfl (by kernel_rfl) (by kernel_rfl) (by kernel_rfl) (fun _ _ _ h => h) (by kernel_rfl) ?_ hS1 ?_
            rotate_left
            · (intro W hW; clear hW; go_simp; try with_reducible rfl)
            refine gTake 16 (v := ?_) rfl (by kernel_rfl) (by kernel_rfl) (by kernel_rfl) (fun _ _ _ h => h) (by kernel_rfl) ?_ hS1 ?_
            rotate_left
            · (intro W hW; clear hW; go_simp; try with_reducible rfl)
            refine gTake 17 (v := ?_) rfl (by kernel_rfl) (by kernel_rfl) (by kernel_rfl) (fun _ _ _ h => h) (by kernel_rfl) ?_ hS1 ?_
            rotate_left
            · (intro W hW; clear hW; go_simp; try with_reducible rfl)
            refine gTake 18 (v := ?_) rfl (by kernel_rfl) (by kernel_rfl) (by kernel_rfl) (fun _ _ _ h => h) (by kernel_rfl) ?_ hS1 ?_
            rotate_left
            · (intro W hW; clear hW; go_simp; try with_reducible rfl)
            refine gTake 19 (v := ?_) rfl (by kernel_rfl) (by kernel_rfl) (by kernel_rfl) (fun _ _ _ h => h) (by kernel_rfl) ?_ hS1 ?_
            rotate_left
            · (intro W hW; have q0 := hW.1; have q1 := hW.2.1; clear hW; go_simp; try with_reducible rfl)
            refine gTake 20 (v := ?_) rfl (by kernel_rfl) (by kernel_rfl) (by kernel_rfl) (fun _ _ _ h => h) (by kernel_rfl) ?_ hS1 ?_
            rotate_left
            · (intro W hW; clear hW; go_simp; try with_reducible rfl)
            refine gTake 21 (v := ?_) rfl (by kernel_rfl) (by kernel_rfl) (by kernel_rfl) (fun _ _ _ h => h) (by kernel_rfl) ?_ hS1 ?_
            rotate_left
            · (intro W hW; clear hW; go_simp; try with_reducible rfl)
            refine gTake 22 (v := ?_) rfl (by kernel_rfl) (by kernel_rfl) (by kernel_rfl) (fun _ _ _ h => h) (by kernel_rfl) ?_ hS1 ?_
            rotate_left
            · (intro W hW; clear hW; go_simp; try with_reducible rfl)
            refine wpAnyH_done (by kernel_rfl) ?_ _
            go_simp
            go_wp2
            go_ret
            exact ⟨ret_bool HF.out.symm, hbel.trans (hS1.2.2.mono hbel.size)⟩
          · have hq := HT.out
            rw [hls] at hq
            replace hq : (Op.bytesLess s.toList ps.toList || s.toList == ps.toList) = false := hq.symm
            have HF := Lib.hid (show fGood fs k = true by rw [HGF.out, hls])
            go_wp2_with fail
            refine wp_region_held (S := fun w' => w'.cell? ⟨b, off + k * 3, none⟩ = some (.string s) ∧ w'.cell? ⟨b, off + j * 3, none⟩ = some (.string ps) ∧ Below wo.heap.size wo w') (by kernel_rfl) ?_
            try (change wpAnyH _ _ _ _ _ _ _ _ (World.drew _))
            have hS0 := (show wo.drew.cell? ⟨b, off + k * 3, none⟩ = some (.string s) ∧ wo.drew.cell? ⟨b, off + j * 3, none⟩ = some (.string ps) ∧ Below wo.heap.size wo wo.drew from ⟨c0, g0, Below.drew (Below.refl _ _)⟩)
            refine gTake 0 (v := ?_) rfl (by kernel_rfl) (by kernel_rfl) (by kernel_rfl) (fun _ _ _ h => h) (by kernel_rfl) ?_ hS0 ?_
            rotate_left
            · (intro W hW; clear hW; go_simp; try with_reducible rfl)
            refine gTake 1 (v := ?_) rfl (by kernel_rfl) (by kernel_rfl) (by kernel_rfl) (fun _ _ _ h => h) (by kernel_rfl) ?_ hS0 ?_
            rotate_left
            · (intro W hW; clear hW; go_simp; try with_reducible rfl)
            refine gTake 2 (v := ?_) rfl (by kernel_rfl) (by kernel_rfl) (by kernel_rfl) (fun _ _ _ h => h) (by kernel_rfl) ?_ hS0 ?_
            rotate_left
            · (intro W hW; clear hW; go_simp; try with_reducible rfl)
            refine gOne 3 rfl (by kernel_rfl) (by kernel_rfl) (fun K hK => ?_)
            go_simp
            go_at_call 42
            (with_reducible refine (l06Ok_below b (off + k * 3) s a R cp xs _ ((fanAt_mk c0 c1 c2).below hS0.2.2) (HRS.out.below hS0.2.2) HSM.out.1 HSM.out.2.1 HSM.out.2.2).mono ?_)
            rintro e wq0 ⟨rfl, hdq0⟩
            try go_simp
            have hS1 := (show wq0.cell? ⟨b, off + k * 3, none⟩ = some (.string s) ∧ wq0.cell? ⟨b, off + j * 3, none⟩ = some (.string ps) ∧ Below wo.heap.size wo wq0 from ⟨cellK hS0.1 hdq0, cellK hS0.2.1 hdq0, hS0.2.2.trans (hdq0.mono hS0.2.2.size)⟩)
            refine hK _ _ hS1 ?_
            clear hK K
            refine gTake 4 (v := ?_) rfl (by kernel_rfl) (by kernel_rfl) (by kernel_rfl) (fun _ _ _ h => h) (by kernel_rfl) ?_ hS1 ?_
            rotate_left
            · (intro W hW; clear hW; go_simp; try with_reducible rfl)
            refine gTake 5 (v := ?_) rfl (by kernel_rfl) (by kernel_rfl) (by kernel_rfl) (fun _ _ _ h => h) (by kernel_rfl) ?_ hS1 ?_
            rotate_left
            · (intro W hW; clear hW; go_simp; try with_reducible rfl)
            refine gTake 6 (v := ?_) rfl (by kernel_rfl) (by kernel_rfl) (by kernel_rfl) (fun _ _ _ h => h) (by kernel_rfl) ?_ hS1 ?_
            rotate_left
            · (intro W hW; clear hW; go_simp; try with_reducible rfl)
            refine gTake 7 (v := ?_) rfl (by kernel_rfl) (by kernel_rfl) (by kernel_rfl) (fun _ _ _ h => h) (by kernel_rfl) ?_ hS1 ?_
            rotate_left
            · (intro W hW; clear hW; go_simp; try with_reducible rfl)
            refine gTake 8 (v := ?_) rfl (by kernel_rfl) (by kernel_rfl) (by kernel_rfl) (fun _ _ _ h => h) (by kernel_rfl) ?_ hS1 ?_
            rotate_left
            · (intro W hW; clear hW; go_simp; try with_reducible rfl)
            refine gTake 9 (v := ?_) rfl (by kernel_rfl) (by kernel_rfl) (by kernel_rfl) (fun _ _ _ h => h) (by kernel_rfl) ?_ hS1 ?_
            rotate_left
            · (intro W hW; clear hW; go_simp; try with_reducible rfl)
            refine gTake 10 (v := ?_) rfl (by kernel_rfl) (by kernel_rfl) (by kernel_rfl) (fun _ _ _ h => h) (by kernel_rfl) ?_ hS1 ?_
            rotate_left
            · (intro W hW; clear hW; go_simp; try with_reducible rfl)
            refine gTake 11 (v := ?_) rfl (by kernel_rfl) (by kernel_rfl) (by kernel_rfl) (fun _ _ _ h => h) (by kernel_rfl) ?_ hS1 ?_
            rotate_left
            · (intro W hW; clear hW; go_simp; try with_reducible rfl)
            refine gTake 12 (v := ?_) rfl (by kernel_rfl) (by kernel_rfl) (by kernel_rfl) (fun _ _ _ h => h) (by kernel_rfl) ?_ hS1 ?_
            rotate_left
            · (intro W hW; clear hW; go_simp; try with_reducible rfl)
            refine gTake 13 (v := ?_) rfl (by kernel_rfl) (by kernel_rfl) (by kernel_rfl) (fun _ _ _ h => h) (by kernel_rfl) ?_ hS1 ?_
            rotate_left
            · (intro W hW; clear hW; go_simp; try with_reducible rfl)
            refine gTake 14 (v := ?_) rfl (by kernel_rfl) (by kernel_rfl) (by kernel_rfl) (fun _ _ _ h => h) (by kernel_rfl) ?_ hS1 ?_
            rotate_left
            · (intro W hW; have q0 := hW.1; have q1 := hW.2.1; clear hW; go_simp; try with_reducible rfl)
            refine gTake 15 (v := ?_) rfl (by kernel_rfl) (by kernel_rfl) (by kernel_rfl) (fun _ _ _ h => h) (by kernel_rfl) ?_ hS1 ?_
            rotate_left
            · (intro W hW; clear hW; go_simp; try with_reducible rfl)
            refine gTake 16 (v := ?_) rfl (by kernel_rfl) (by kernel_rfl) (by kernel_rfl) (fun _ _ _ h => h) (by kernel_rfl) ?_ hS1 ?_
            rotate_left
            · (intro W hW; clear hW; go_simp; try with_reducible rfl)
            refine gTake 17 (v := ?_) rfl (by kernel_rfl) (by kernel_rfl) (by kernel_rfl) (fun _ _ _ h => h) (by kernel_rfl) ?_ hS1 ?_
            rotate_left
            · (intro W hW; clear hW; go_simp; try with_reducible rfl)
            refine gTake 18 (v := ?_) rfl (by kernel_rfl) (by kernel_rfl) (by kernel_rfl) (fun _ _ _ h => h) (by kernel_rfl) ?_ hS1 ?_
            rotate_left
            · (intro W hW; clear hW; go_simp; try with_reducible rfl)
            refine gTake 19 (v := ?_) rfl (by kernel_rfl) (by kernel_rfl) (by kernel_rfl) (fun _ _ _ h => h) (by kernel_rfl) ?_ hS1 ?_
            rotate_left
            · (intro W hW; have q0 := hW.1; have q1 := hW.2.1; clear hW; go_simp; try with_reducible rfl)
            refine gTake 20 (v := ?_) rfl (by kernel_rfl) (by kernel_rfl) (by kernel_rfl) (fun _ _ _ h => h) (by kernel_rfl) ?_ hS1 ?_
            rotate_left
            · (intro W hW; clear hW; go_simp; try with_reducible rfl)
            refine gTake 21 (v := ?_) rfl (by kernel_rfl) (by kernel_rfl) (by kernel_rfl) (fun _ _ _ h => h) (by kernel_rfl) ?_ hS1 ?_
            rotate_left
            · (intro W hW; clear hW; go_simp; try with_reducible rfl)
            refine gTake 22 (v := ?_) rfl (by kernel_rfl) (by kernel_rfl) (by kernel_rfl) (fun _ _ _ h => h) (by kernel_rfl) ?_ hS1 ?_
            rotate_left
            · (intro W hW; clear hW; go_simp; try with_reducible rfl)
            refine wpAnyH_done (by kernel_rfl) ?_ _
            go_simp
            go_wp2
            go_roundw
            case rel => exact ⟨k + 1, by omega, by go_num, Lib.hid (fun j hj => by
              rcases Nat.lt_or_ge j k with q | q
              · exact HG.out j q
              · obtain rfl : j = k := by omega
                exact HF.out), hbel.trans (hS1.2.2.mono hbel.size)⟩
            case measure => simp [intOf]; omega
    · obtain rfl : k = fs.length := by omega
      by_cases h8 : fs.length ≤ 8
      · have HF := Lib.hid (fansOk_iff.2 ⟨fun j hj => HG.out j hj, h8⟩)
        have t8 : (fs.length : Int) ≤ 8 := by omega
        go_wp2
        go_ret
        exact ⟨ret_bool HF.out.symm, hbel⟩
      · have HF := Lib.hid (show fansOk fs = false by rw [← Bool.not_eq_true, fansOk_iff]; exact fun hh => h8 hh.2)
        have t8 : ¬ ((fs.length : Int) ≤ 8) := by omega
        go_wp2
        go_ret
        exact ⟨ret_bool HF.out.symm, hbel⟩
set_option maxHeartbeats 4000000 in
theorem iValidFans_any (t1 : Prop) (A : Option Addr) (cap : Nat) (fs : List Fa) (w : World) (hr : FansR t1 w A fs) (hl : fs.length ≤ 1048576) (hs : ∀ f ∈ fs, f.sm) :
    Calls Try.prog 21 #[.slice A fs.length cap] w fun e w' => e = .returned (.bool (fansOk fs)) ∧ Below w.heap.size w w' := by
  have HR := Lib.hid hr
  have HS := Lib.hid hs
  clear hr hs
  by_cases h8 : fs.length ≤ 8
  · skip
    have t8 : ¬ ((8 : Int) < (fs.length : Int)) := by omega
    go_enter Try.func21, Try.ntmps21
    go_wp2
    go_loopw [10] (fun i wr => ∃ k : Nat, k ≤ fs.length ∧ i = .int .i64 k ∧ Hid (∀ j, j < k → fGood fs j = true) ∧ Below w.heap.size w wr) (fun i wr => fs.length - (intOf i).toNat)
    case atStart => exact ⟨0, by omega, rfl, Lib.hid (fun j hj => absurd hj (by omega)), Below.refl _ _⟩
    case round =>
      obtain ⟨k, hk, rfl, HG, hbel⟩ := hrel
      obtain ⟨wo, rfl⟩ : ∃ wo : World, wo = wr := ⟨_, rfl⟩
      by_cases hlt : k < fs.length
      · obtain ⟨b, off, R, cp, rfl, ⟨c0, c1, c2⟩, hrr, -⟩ := (HR.out.below hbel) k hlt
        have HF0 := Lib.hid (HS.out fs[k] (List.getElem_mem hlt))
        have HRR := Lib.hid hrr
        have HPV := Lib.hid (show 0 < k → ∃ ps : ByteArray, (fs.getD (k - 1) Fa.none).s = ps ∧ wo.cell? ⟨b, off + (k - 1) * 3, none⟩ = some (.string ps) from fun h => by
          obtain ⟨b', off', R', cp', e, ⟨q0, -, -⟩, -, -⟩ := (HR.out.below hbel) (k - 1) (by omega)
          injection e with e
          injection e with e1 e2
          subst e1
          subst e2
          exact ⟨_, rfl, by rw [show fs.getD (k - 1) Fa.none = fs[k - 1] by simp [List.getD, show k - 1 < fs.length by omega]]; exact q0⟩)
        clear hrr
        have hg : fs.getD k Fa.none = fs[k] := by simp [List.getD, hlt]
        have HGD := Lib.hid (show fGood fs k = (fs[k].ok && (decide (k = 0) || Op.bytesLess (fs.getD (k - 1) Fa.none).s.toList fs[k].s.toList)) by unfold fGood; rw [hg])
        clear hg
        generalize fs[k] = f at *
        obtain ⟨s, a, xs⟩ := f
        dsimp only at c0 c1 c2
        have HRS := Lib.hid (show RowsR wo R xs from HRR.out)
        have HSM := Lib.hid (show s.size ≤ 1048576 ∧ xs.length ≤ 1048576 ∧ ∀ r ∈ xs, r.length ≤ 1048576 from HF0.out)
        have HGE := Lib.hid (show fGood fs k = (fanOk s a xs && (decide (k = 0) || Op.bytesLess (fs.getD (k - 1) Fa.none).s.toList s.toList)) from HGD.out)
        clear HRR HF0 HGD
        cases hok : fanOk s a xs
        · have HF := Lib.hid (fansOk_bad hlt (by rw [HGE.out, hok, Bool.false_and]))
          go_wp2_with fail
          have e0 : (wo.alloc (.cells #[.string s, .int .i64 a, .slice R xs.length cp] 27)).cell? ⟨wo.heap.size, 0, none⟩ = some (.string s) := by simp
          have e1 : (wo.alloc (.cells #[.string s, .int .i64 a, .slice R xs.length cp] 27)).cell? ⟨wo.heap.size, 1, none⟩ = some (.int .i64 a) := by simp
          have e2 : (wo.alloc (.cells #[.string s, .int .i64 a, .slice R xs.length cp] 27)).cell? ⟨wo.heap.size, 2, none⟩ = some (.slice R xs.length cp) := by simp
          refine wp_region_held (S := fun w' => w'.cell? ⟨wo.heap.size, 0, none⟩ = some (.string s) ∧ w'.cell? ⟨wo.heap.size, 1, none⟩ = some (.int .i64 a) ∧ w'.cell? ⟨wo.heap.size, 2, none⟩ = some (.slice R xs.length cp) ∧ Below (wo.alloc (.cells #[.string s, .int .i64 a, .slice R xs.length cp] 27)).heap.size (wo.alloc (.cells #[.string s, .int .i64 a, .slice R xs.length cp] 27)) w') (by kernel_rfl) ?_
          try (change wpAnyH _ _ _ _ _ _ _ _ (World.drew _))
          have hS0 := (show (wo.alloc (.cells #[.string s, .int .i64 a, .slice R xs.length cp] 27)).drew.cell? ⟨wo.heap.size, 0, none⟩ = some (.string s) ∧ (wo.alloc (.cells #[.string s, .int .i64 a, .slice R xs.length cp] 27)).drew.cell? ⟨wo.heap.size, 1, none⟩ = some (.int .i64 a) ∧ (wo.alloc (.cells #[.string s, .int .i64 a, .slice R xs.length cp] 27)).drew.cell? ⟨wo.heap.size, 2, none⟩ = some (.slice R xs.length cp) ∧ Below (wo.alloc (.cells #[.string s, .int .i64 a, .slice R xs.length cp] 27)).heap.size (wo.alloc (.cells #[.string s, .int .i64 a, .slice R xs.length cp] 27)) (wo.alloc (.cells #[.string s, .int .i64 a, .slice R xs.length cp] 27)).drew from ⟨e0, e1, e2, Below.drew (Below.refl _ _)⟩)
          refine gTake 0 (v := ?_) rfl (by kernel_rfl) (by kernel_rfl) (by kernel_rfl) (fun _ _ _ h => h) (by kernel_rfl) ?_ hS0 ?_
          rotate_left
          · (intro W hW; have q0 := hW.1; have q1 := hW.2.1; have q2 := hW.2.2.1; clear hW; go_simp; try with_reducible rfl)
          refine gOne 1 rfl (by kernel_rfl) (by kernel_rfl) (fun K hK => ?_)
          go_simp
          go_at_call 16
          (with_reducible refine (iValidFan_any s a R cp xs _ (HRS.out.below ((below_box _ _).trans (hS0.2.2.2.mono (by simp)))) HSM.out.1 HSM.out.2.1 HSM.out.2.2).mono ?_)
          rintro e wq0 ⟨rfl, hdq0⟩
          try go_simp
          have hS1 := (show wq0.cell? ⟨wo.heap.size, 0, none⟩ = some (.string s) ∧ wq0.cell? ⟨wo.heap.size, 1, none⟩ = some (.int .i64 a) ∧ wq0.cell? ⟨wo.heap.size, 2, none⟩ = some (.slice R xs.length cp) ∧ Below (wo.alloc (.cells #[.string s, .int .i64 a, .slice R xs.length cp] 27)).heap.size (wo.alloc (.cells #[.string s, .int .i64 a, .slice R xs.length cp] 27)) wq0 from ⟨cellK hS0.1 hdq0, cellK hS0.2.1 hdq0, cellK hS0.2.2.1 hdq0, hS0.2.2.2.trans (hdq0.mono hS0.2.2.2.size)⟩)
          refine hK _ _ hS1 ?_
          clear hK K
          refine gTake 2 (v := ?_) rfl (by kernel_rfl) (by kernel_rfl) (by kernel_rfl) (fun _ _ _ h => h) (by kernel_rfl) ?_ hS1 ?_
          rotate_left
          · (intro W hW; clear hW; go_simp; try with_reducible rfl)
          refine gTake 3 (v := ?_) rfl (by kernel_rfl) (by kernel_rfl) (by kernel_rfl) (fun _ _ _ h => h) (by kernel_rfl) ?_ hS1 ?_
          rotate_left
          · (intro W hW; clear hW; go_simp; try with_reducible rfl)
          refine gSkip 4 rfl (by kernel_rfl) (by kernel_rfl) (by kernel_rfl) (fun _ _ _ h => h) (by kernel_rfl) hS1 ?_
          refine gSkip 5 rfl (by kernel_rfl) (by kernel_rfl) (by kernel_rfl) (fun _ _ _ h => h) (by kernel_rfl) hS1 ?_
          refine gSkip 6 rfl (by kernel_rfl) (by kernel_rfl) (by kernel_rfl) (fun _ _ _ h => h) (by kernel_rfl) hS1 ?_
          refine gSkip 7 rfl (by kernel_rfl) (by kernel_rfl) (by kernel_rfl) (fun _ _ _ h => h) (by kernel_rfl) hS1 ?_
          refine gSkip 8 rfl (by kernel_rfl) (by kernel_rfl) (by kernel_rfl) (fun _ _ _ h => h) (by kernel_rfl) hS1 ?_
          refine gSkip 9 rfl (by kernel_rfl) (by kernel_rfl) (by kernel_rfl) (fun _ _ _ h => h) (by kernel_rfl) hS1 ?_
          refine gSkip 10 rfl (by kernel_rfl) (by kernel_rfl) (by kernel_rfl) (fun _ _ _ h => h) (by kernel_rfl) hS1 ?_
          refine gSkip 11 rfl (by kernel_rfl) (by kernel_rfl) (by kernel_rfl) (fun _ _ _ h => h) (by kernel_rfl) hS1 ?_
          refine gSkip 12 rfl (by kernel_rfl) (by kernel_rfl) (by kernel_rfl) (fun _ _ _ h => h) (by kernel_rfl) hS1 ?_
          refine gSkip 13 rfl (by kernel_rfl) (by kernel_rfl) (by kernel_rfl) (fun _ _ _ h => h) (by kernel_rfl) hS1 ?_
          refine gSkip 14 rfl (by kernel_rfl) (by kernel_rfl) (by kernel_rfl) (fun _ _ _ h => h) (by kernel_rfl) hS1 ?_
          refine gSkip 15 rfl (by kernel_rfl) (by kernel_rfl) (by kernel_rfl) (fun _ _ _ h => h) (by kernel_rfl) hS1 ?_
          refine gSkip 16 rfl (by kernel_rfl) (by kernel_rfl) (by kernel_rfl) (fun _ _ _ h => h) (by kernel_rfl) hS1 ?_
          refine gTake 17 (v := ?_) rfl (by kernel_rfl) (by kernel_rfl) (by kernel_rfl) (fun _ _ _ h => h) (by kernel_rfl) ?_ hS1 ?_
          rotate_left
          · (intro W hW; clear hW; go_simp; try with_reducible rfl)
          refine wpAnyH_done (by kernel_rfl) ?_ _
          go_simp
          go_wp2
          go_ret
          exact ⟨ret_bool HF.out.symm, hbel.trans (((below_box _ _).trans (hS1.2.2.2.mono (by simp))).mono hbel.size)⟩
        · by_cases k0 : k = 0
          · have HF := Lib.hid (show fGood fs k = true by rw [HGE.out, hok, decide_eq_true k0]; rfl)
            have hki : ¬ (0 < (k : Int)) := by omega
            have hkn : ¬ (0 < k) := by omega
            clear k0
            go_wp2_with fail
            have e0 : (wo.alloc (.cells #[.string s, .int .i64 a, .slice R xs.length cp] 27)).cell? ⟨wo.heap.size, 0, none⟩ = some (.string s) := by simp
            have e1 : (wo.alloc (.cells #[.string s, .int .i64 a, .slice R xs.length cp] 27)).cell? ⟨wo.heap.size, 1, none⟩ = some (.int .i64 a) := by simp
            have e2 : (wo.alloc (.cells #[.string s, .int .i64 a, .slice R xs.length cp] 27)).cell? ⟨wo.heap.size, 2, none⟩ = some (.slice R xs.length cp) := by simp
            refine wp_region_held (S := fun w' => w'.cell? ⟨wo.heap.size, 0, none⟩ = some (.string s) ∧ w'.cell? ⟨wo.heap.size, 1, none⟩ = some (.int .i64 a) ∧ w'.cell? ⟨wo.heap.size, 2, none⟩ = some (.slice R xs.length cp) ∧ Below (wo.alloc (.cells #[.string s, .int .i64 a, .slice R xs.length cp] 27)).heap.size (wo.alloc (.cells #[.string s, .int .i64 a, .slice R xs.length cp] 27)) w') (by kernel_rfl) ?_
            try (change wpAnyH _ _ _ _ _ _ _ _ (World.drew _))
            have hS0 := (show (wo.alloc (.cells #[.string s, .int .i64 a, .slice R xs.length cp] 27)).drew.cell? ⟨wo.heap.size, 0, none⟩ = some (.string s) ∧ (wo.alloc (.cells #[.string s, .int .i64 a, .slice R xs.length cp] 27)).drew.cell? ⟨wo.heap.size, 1, none⟩ = some (.int .i64 a) ∧ (wo.alloc (.cells #[.string s, .int .i64 a, .slice R xs.length cp] 27)).drew.cell? ⟨wo.heap.size, 2, none⟩ = some (.slice R xs.length cp) ∧ Below (wo.alloc (.cells #[.string s, .int .i64 a, .slice R xs.length cp] 27)).heap.size (wo.alloc (.cells #[.string s, .int .i64 a, .slice R xs.length cp] 27)) (wo.alloc (.cells #[.string s, .int .i64 a, .slice R xs.length cp] 27)).drew from ⟨e0, e1, e2, Below.drew (Below.refl _ _)⟩)
            refine gTake 0 (v := ?_) rfl (by kernel_rfl) (by kernel_rfl) (by kernel_rfl) (fun _ _ _ h => h) (by kernel_rfl) ?_ hS0 ?_
            rotate_left
            · (intro W hW; have q0 := hW.1; have q1 := hW.2.1; have q2 := hW.2.2.1; clear hW; go_simp; try with_reducible rfl)
            refine gOne 1 rfl (by kernel_rfl) (by kernel_rfl) (fun K hK => ?_)
            go_simp
            go_at_call 16
            (with_reducible refine (iValidFan_any s a R cp xs _ (HRS.out.below ((below_box _ _).trans (hS0.2.2.2.mono (by simp)))) HSM.out.1 HSM.out.2.1 HSM.out.2.2).mono ?_)
            rintro e wq0 ⟨rfl, hdq0⟩
            try go_simp
            have hS1 := (show wq0.cell? ⟨wo.heap.size, 0, none⟩ = some (.string s) ∧ wq0.cell? ⟨wo.heap.size, 1, none⟩ = some (.int .i64 a) ∧ wq0.cell? ⟨wo.heap.size, 2, none⟩ = some (.slice R xs.length cp) ∧ Below (wo.alloc (.cells #[.string s, .int .i64 a, .slice R xs.length cp] 27)).heap.size (wo.alloc (.cells #[.string s, .int .i64 a, .slice R xs.length cp] 27)) wq0 from ⟨cellK hS0.1 hdq0, cellK hS0.2.1 hdq0, cellK hS0.2.2.1 hdq0, hS0.2.2.2.trans (hdq0.mono hS0.2.2.2.size)⟩)
            refine hK _ _ hS1 ?_
            clear hK K
            refine gTake 2 (v := ?_) rfl (by kernel_rfl) (by kernel_rfl) (by kernel_rfl) (fun _ _ _ h => h) (by kernel_rfl) ?_ hS1 ?_
            rotate_left
            · (intro W hW; clear hW; go_simp; try with_reducible rfl)
            refine gTake 3 (v := ?_) rfl (by kernel_rfl) (by kernel_rfl) (by kernel_rfl) (fun _ _ _ h => h) (by kernel_rfl) ?_ hS1 ?_
            rotate_left
            · (intro W hW; clear hW; go_simp; try with_reducible rfl)
            refine gTake 4 (v := ?_) rfl (by kernel_rfl) (by kernel_rfl) (by kernel_rfl) (fun _ _ _ h => h) (by kernel_rfl) ?_ hS1 ?_
            rotate_left
            · (intro W hW; clear hW; go_simp; try with_reducible rfl)
            refine gTake 5 (v := ?_) rfl (by kernel_rfl) (by kernel_rfl) (by kernel_rfl) (fun _ _ _ h => h) (by kernel_rfl) ?_ hS1 ?_
            rotate_left
            · (intro W hW; clear hW; go_simp; try with_reducible rfl)
            refine gTake 6 (v := ?_) rfl (by kernel_rfl) (by kernel_rfl) (by kernel_rfl) (fun _ _ _ h => h) (by kernel_rfl) ?_ hS1 ?_
            rotate_left
            · (intro W hW; clear hW; go_simp; try with_reducible rfl)
            refine gSkip 7 rfl (by kernel_rfl) (by kernel_rfl) (by kernel_rfl) (fun _ _ _ h => h) (by kernel_rfl) hS1 ?_
            refine gSkip 8 rfl (by kernel_rfl) (by kernel_rfl) (by kernel_rfl) (fun _ _ _ h => h) (by kernel_rfl) hS1 ?_
            refine gSkip 9 rfl (by kernel_rfl) (by kernel_rfl) (by kernel_rfl) (fun _ _ _ h => h) (by kernel_rfl) hS1 ?_
            refine gSkip 10 rfl (by kernel_rfl) (by kernel_rfl) (by kernel_rfl) (fun _ _ _ h => h) (by kernel_rfl) hS1 ?_
            refine gSkip 11 rfl (by kernel_rfl) (by kernel_rfl) (by kernel_rfl) (fun _ _ _ h => h) (by kernel_rfl) hS1 ?_
            refine gSkip 12 rfl (by kernel_rfl) (by kernel_rfl) (by kernel_rfl) (fun _ _ _ h => h) (by kernel_rfl) hS1 ?_
            refine gSkip 13 rfl (by kernel_rfl) (by kernel_rfl) (by kernel_rfl) (fun _ _ _ h => h) (by kernel_rfl) hS1 ?_
            refine gSkip 14 rfl (by kernel_rfl) (by kernel_rfl) (by kernel_rfl) (fun _ _ _ h => h) (by kernel_rfl) hS1 ?_
            refine gSkip 15 rfl (by kernel_rfl) (by kernel_rfl) (by kernel_rfl) (fun _ _ _ h => h) (by kernel_rfl) hS1 ?_
            refine gTake 16 (v := ?_) rfl (by kernel_rfl) (by kernel_rfl) (by kernel_rfl) (fun _ _ _ h => h) (by kernel_rfl) ?_ hS1 ?_
            rotate_left
            · (intro W hW; clear hW; go_simp; try with_reducible rfl)
            refine gTake 17 (v := ?_) rfl (by kernel_rfl) (by kernel_rfl) (by kernel_rfl) (fun _ _ _ h => h) (by kernel_rfl) ?_ hS1 ?_
            rotate_left
            · (intro W hW; clear hW; go_simp; try with_reducible rfl)
            refine wpAnyH_done (by kernel_rfl) ?_ _
            go_simp
            go_wp2
            go_roundw
            case rel => exact ⟨k + 1, by omega, by go_num, Lib.hid (fun j hj => by
              rcases Nat.lt_or_ge j k with q | q
              · exact HG.out j q
              · obtain rfl : j = k := by omega
                exact HF.out), hbel.trans (((below_box _ _).trans (hS1.2.2.2.mono (by simp))).mono hbel.size)⟩
            case measure => simp [intOf]; omega
          · obtain ⟨ps, hps, g0⟩ := HPV.out (by omega)
            have HGF := Lib.hid (show fGood fs k = Op.bytesLess ps.toList s.toList by rw [HGE.out, hok, decide_eq_false k0, hps]; simp)
            have hki : (0 < (k : Int)) := by omega
            have hkn : 0 < k := by omega
            clear hps k0
            have hkj : (k : Int) - 1 = ((k - 1 : Nat) : Int) := by omega
            have hkl : k - 1 < fs.length := by omega
            generalize k - 1 = j at *
            have hkw : IntKind.i64.wrap ((k : Int) - 1) = (j : Int) := by rw [hkj]; exact IntWalk.i64_in _ (by omega)
            have HK := Lib.hid hkj
            clear hkj
            have HT := Lib.hid (less_totalF ps.toList s.toList)
            cases hls : Op.bytesLess ps.toList s.toList
            · have hq := HT.out
              rw [hls] at hq
              replace hq : (Op.bytesLess s.toList ps.toList || s.toList == ps.toList) = true := hq.symm
              have HF := Lib.hid (fansOk_bad hlt (by rw [HGF.out, hls]))
              go_wp2_with fail
              have e0 : (wo.alloc (.cells #[.string s, .int .i64 a, .slice R xs.length cp] 27)).cell? ⟨wo.heap.size, 0, none⟩ = some (.string s) := by simp
              have e1 : (wo.alloc (.cells #[.string s, .int .i64 a, .slice R xs.length cp] 27)).cell? ⟨wo.heap.size, 1, none⟩ = some (.int .i64 a) := by simp
              have e2 : (wo.alloc (.cells #[.string s, .int .i64 a, .slice R xs.length cp] 27)).cell? ⟨wo.heap.size, 2, none⟩ = some (.slice R xs.length cp) := by simp
              have g0 := cellK g0 (below_box wo (.cells #[.string s, .int .i64 a, .slice R xs.length cp] 27))
              refine wp_region_held (S := fun w' => w'.cell? ⟨wo.heap.size, 0, none⟩ = some (.string s) ∧ w'.cell? ⟨wo.heap.size, 1, none⟩ = some (.int .i64 a) ∧ w'.cell? ⟨wo.heap.size, 2, none⟩ = some (.slice R xs.length cp) ∧ w'.cell? ⟨b, off + j * 3, none⟩ = some (.string ps) ∧ Below (wo.alloc (.cells #[.string s, .int .i64 a, .slice R xs.length cp] 27)).heap.size (wo.alloc (.cells #[.string s, .int .i64 a, .slice R xs.length cp] 27)) w') (by kernel_rfl) ?_
              try (change wpAnyH _ _ _ _ _ _ _ _ (World.drew _))
              have hS0 := (show (wo.alloc (.cells #[.string s, .int .i64 a, .slice R xs.length cp] 27)).drew.cell? ⟨wo.heap.size, 0, none⟩ = some (.string s) ∧ (wo.alloc (.cells #[.string s, .int .i64 a, .slice R xs.length cp] 27)).drew.cell? ⟨wo.heap.size, 1, none⟩ = some (.int .i64 a) ∧ (wo.alloc (.cells #[.string s, .int .i64 a, .slice R xs.length cp] 27)).drew.cell? ⟨wo.heap.size, 2, none⟩ = some (.slice R xs.length cp) ∧ (wo.alloc (.cells #[.string s, .int .i64 a, .slice R xs.length cp] 27)).drew.cell? ⟨b, off + j * 3, none⟩ = some (.string ps) ∧ Below (wo.alloc (.cells #[.string s, .int .i64 a, .slice R xs.length cp] 27)).heap.size (wo.alloc (.cells #[.string s, .int .i64 a, .slice R xs.length cp] 27)) (wo.alloc (.cells #[.string s, .int .i64 a, .slice R xs.length cp] 27)).drew from ⟨e0, e1, e2, g0, Below.drew (Below.refl _ _)⟩)
              refine gTake 0 (v := ?_) rfl (by kernel_rfl) (by kernel_rfl) (by kernel_rfl) (fun _ _ _ h => h) (by kernel_rfl) ?_ hS0 ?_
              rotate_left
              · (intro W hW; have q0 := hW.1; have q1 := hW.2.1; have q2 := hW.2.2.1; have q3 := hW.2.2.2.1; clear hW; go_simp; try with_reducible rfl)
              refine gOne 1 rfl (by kernel_rfl) (by kernel_rfl) (fun K hK => ?_)
              go_simp
              go_at_call 16
              (with_reducible refine (iValidFan_any s a R cp xs _ (HRS.out.below ((below_box _ _).trans (hS0.2.2.2.2.mono (by simp)))) HSM.out.1 HSM.out.2.1 HSM.out.2.2).mono ?_)
              rintro e wq0 ⟨rfl, hdq0⟩
              try go_simp
              have hS1 := (show wq0.cell? ⟨wo.heap.size, 0, none⟩ = some (.string s) ∧ wq0.cell? ⟨wo.heap.size, 1, none⟩ = some (.int .i64 a) ∧ wq0.cell? ⟨wo.heap.size, 2, none⟩ = some (.slice R xs.length cp) ∧ wq0.cell? ⟨b, off + j * 3, none⟩ = some (.string ps) ∧ Below (wo.alloc (.cells #[.string s, .int .i64 a, .slice R xs.length cp] 27)).heap.size (wo.alloc (.cells #[.string s, .int .i64 a, .slice R xs.length cp] 27)) wq0 from ⟨cellK hS0.1 hdq0, cellK hS0.2.1 hdq0, cellK hS0.2.2.1 hdq0, cellK hS0.2.2.2.1 hdq0, hS0.2.2.2.2.trans (hdq0.mono hS0.2.2.2.2.size)⟩)
              refine hK _ _ hS1 ?_
              clear hK K
              refine gTake 2 (v := ?_) rfl (by kernel_rfl) (by kernel_rfl) (by kernel_rfl) (fun _ _ _ h => h) (by kernel_rfl) ?_ hS1 ?_
              rotate_left
              · (intro W hW; clear hW; go_simp; try with_reducible rfl)
              refine gTake 3 (v := ?_) rfl (by kernel_rfl) (by kernel_rfl) (by kernel_rfl) (fun _ _ _ h => h) (by kernel_rfl) ?_ hS1 ?_
              rotate_left
              · (intro W hW; clear hW; go_simp; try with_reducible rfl)
              refine gTake 4 (v := ?_) rfl (by kernel_rfl) (by kernel_rfl) (by kernel_rfl) (fun _ _ _ h => h) (by kernel_rfl) ?_ hS1 ?_
              rotate_left
              · (intro W hW; clear hW; go_simp; try with_reducible rfl)
              refine gTake 5 (v := ?_) rfl (by kernel_rfl) (by kernel_rfl) (by kernel_rfl) (fun _ _ _ h => h) (by kernel_rfl) ?_ hS1 ?_
              rotate_left
              · (intro W hW; clear hW; go_simp; try with_reducible rfl)
              refine gTake 6 (v := ?_) rfl (by kernel_rfl) (by kernel_rfl) (by kernel_rfl) (fun _ _ _ h => h) (by kernel_rfl) ?_ hS1 ?_
              rotate_left
              · (intro W hW; clear hW; go_simp; try with_reducible rfl)
              refine gTake 7 (v := ?_) rfl (by kernel_rfl) (by kernel_rfl) (by kernel_rfl) (fun _ _ _ h => h) (by kernel_rfl) ?_ hS1 ?_
              rotate_left
              · (intro W hW; clear hW; go_simp; try with_reducible rfl)
              refine gTake 8 (v := ?_) rfl (by kernel_rfl) (by kernel_rfl) (by kernel_rfl) (fun _ _ _ h => h) (by kernel_rfl) ?_ hS1 ?_
              rotate_left
              · (intro W hW; have q0 := hW.1; have q1 := hW.2.1; have q2 := hW.2.2.1; have q3 := hW.2.2.2.1; clear hW; go_simp; try with_reducible rfl)
              refine gTake 9 (v := ?_) rfl (by kernel_rfl) (by kernel_rfl) (by kernel_rfl) (fun _ _ _ h => h) (by kernel_rfl) ?_ hS1 ?_
              rotate_left
              · (intro W hW; clear hW; go_simp; try with_reducible rfl)
              refine gTake 10 (v := ?_) rfl (by kernel_rfl) (by kernel_rfl) (by kernel_rfl) (fun _ _ _ h => h) (by kernel_rfl) ?_ hS1 ?_
              rotate_left
              · (intro W hW; clear hW; go_simp; try with_reducible rfl)
              refine gTake 11 (v := ?_) rfl (by kernel_rfl) (by kernel_rfl) (by kernel_rfl) (fun _ _ _ h => h) (by kernel_rfl) ?_ hS1 ?_
              rotate_left
              · (intro W hW; clear hW; go_simp; try with_reducible rfl)
              refine gTake 12 (v := ?_) rfl (by kernel_rfl) (by kernel_rfl) (by kernel_rfl) (fun _ _ _ h => h) (by kernel_rfl) ?_ hS1 ?_
              rotate_left
              · (intro W hW; clear hW; go_simp; try with_reducible rfl)
              refine gTake 13 (v := ?_) rfl (by kernel_rfl) (by kernel_rfl) (by kernel_rfl) (fun _ _ _ h => h) (by kernel_rfl) ?_ hS1 ?_
              rotate_left
              · (intro W hW; clear hW; go_simp; try with_reducible rfl)
              refine gTake 14 (v := ?_) rfl (by kernel_rfl) (by kernel_rfl) (by kernel_rfl) (fun _ _ _ h => h) (by kernel_rfl) ?_ hS1 ?_
              rotate_left
              · (intro W hW; have q0 := hW.1; have q1 := hW.2.1; have q2 := hW.2.2.1; have q3 := hW.2.2.2.1; clear hW; go_simp; try with_reducible rfl)
              refine gTake 15 (v := ?_) rfl (by kernel_rfl) (by kernel_rfl) (by kernel_rfl) (fun _ _ _ h => h) (by kernel_rfl) ?_ hS1 ?_
              rotate_left
              · (intro W hW; clear hW; go_simp; try with_reducible rfl)
              refine gTake 16 (v := ?_) rfl (by kernel_rfl) (by kernel_rfl) (by kernel_rfl) (fun _ _ _ h => h) (by kernel_rfl) ?_ hS1 ?_
              rotate_left
              · (intro W hW; clear hW; go_simp; try with_reducible rfl)
              refine gTake 17 (v := ?_) rfl (by kernel_rfl) (by kernel_rfl) (by kernel_rfl) (fun _ _ _ h => h) (by kernel_rfl) ?_ hS1 ?_
              rotate_left
              · (intro W hW; clear hW; go_simp; try with_reducible rfl)
              refine wpAnyH_done (by kernel_rfl) ?_ _
              go_simp
              go_wp2
              go_ret
              exact ⟨ret_bool HF.out.symm, hbel.trans (((below_box _ _).trans (hS1.2.2.2.2.mono (by simp))).mono hbel.size)⟩
            · have hq := HT.out
              rw [hls] at hq
              replace hq : (Op.bytesLess s.toList ps.toList || s.toList == ps.toList) = false := hq.symm
              have HF := Lib.hid (show fGood fs k = true by rw [HGF.out, hls])
              go_wp2_with fail
              have e0 : (wo.alloc (.cells #[.string s, .int .i64 a, .slice R xs.length cp] 27)).cell? ⟨wo.heap.size, 0, none⟩ = some (.string s) := by simp
              have e1 : (wo.alloc (.cells #[.string s, .int .i64 a, .slice R xs.length cp] 27)).cell? ⟨wo.heap.size, 1, none⟩ = some (.int .i64 a) := by simp
              have e2 : (wo.alloc (.cells #[.string s, .int .i64 a, .slice R xs.length cp] 27)).cell? ⟨wo.heap.size, 2, none⟩ = some (.slice R xs.length cp) := by simp
              have g0 := cellK g0 (below_box wo (.cells #[.string s, .int .i64 a, .slice R xs.length cp] 27))
              refine wp_region_held (S := fun w' => w'.cell? ⟨wo.heap.size, 0, none⟩ = some (.string s) ∧ w'.cell? ⟨wo.heap.size, 1, none⟩ = some (.int .i64 a) ∧ w'.cell? ⟨wo.heap.size, 2, none⟩ = some (.slice R xs.length cp) ∧ w'.cell? ⟨b, off + j * 3, none⟩ = some (.string ps) ∧ Below (wo.alloc (.cells #[.string s, .int .i64 a, .slice R xs.length cp] 27)).heap.size (wo.alloc (.cells #[.string s, .int .i64 a, .slice R xs.length cp] 27)) w') (by kernel_rfl) ?_
              try (change wpAnyH _ _ _ _ _ _ _ _ (World.drew _))
              have hS0 := (show (wo.alloc (.cells #[.string s, .int .i64 a, .slice R xs.length cp] 27)).drew.cell? ⟨wo.heap.size, 0, none⟩ = some (.string s) ∧ (wo.alloc (.cells #[.string s, .int .i64 a, .slice R xs.length cp] 27)).drew.cell? ⟨wo.heap.size, 1, none⟩ = some (.int .i64 a) ∧ (wo.alloc (.cells #[.string s, .int .i64 a, .slice R xs.length cp] 27)).drew.cell? ⟨wo.heap.size, 2, none⟩ = some (.slice R xs.length cp) ∧ (wo.alloc (.cells #[.string s, .int .i64 a, .slice R xs.length cp] 27)).drew.cell? ⟨b, off + j * 3, none⟩ = some (.string ps) ∧ Below (wo.alloc (.cells #[.string s, .int .i64 a, .slice R xs.length cp] 27)).heap.size (wo.alloc (.cells #[.string s, .int .i64 a, .slice R xs.length cp] 27)) (wo.alloc (.cells #[.string s, .int .i64 a, .slice R xs.length cp] 27)).drew from ⟨e0, e1, e2, g0, Below.drew (Below.refl _ _)⟩)
              refine gTake 0 (v := ?_) rfl (by kernel_rfl) (by kernel_rfl) (by kernel_rfl) (fun _ _ _ h => h) (by kernel_rfl) ?_ hS0 ?_
              rotate_left
              · (intro W hW; have q0 := hW.1; have q1 := hW.2.1; have q2 := hW.2.2.1; have q3 := hW.2.2.2.1; clear hW; go_simp; try with_reducible rfl)
              refine gOne 1 rfl (by kernel_rfl) (by kernel_rfl) (fun K hK => ?_)
              go_simp
              go_at_call 16
              (with_reducible refine (iValidFan_any s a R cp xs _ (HRS.out.below ((below_box _ _).trans (hS0.2.2.2.2.mono (by simp)))) HSM.out.1 HSM.out.2.1 HSM.out.2.2).mono ?_)
              rintro e wq0 ⟨rfl, hdq0⟩
              try go_simp
              have hS1 := (show wq0.cell? ⟨wo.heap.size, 0, none⟩ = some (.string s) ∧ wq0.cell? ⟨wo.heap.size, 1, none⟩ = some (.int .i64 a) ∧ wq0.cell? ⟨wo.heap.size, 2, none⟩ = some (.slice R xs.length cp) ∧ wq0.cell? ⟨b, off + j * 3, none⟩ = some (.string ps) ∧ Below (wo.alloc (.cells #[.string s, .int .i64 a, .slice R xs.length cp] 27)).heap.size (wo.alloc (.cells #[.string s, .int .i64 a, .slice R xs.length cp] 27)) wq0 from ⟨cellK hS0.1 hdq0, cellK hS0.2.1 hdq0, cellK hS0.2.2.1 hdq0, cellK hS0.2.2.2.1 hdq0, hS0.2.2.2.2.trans (hdq0.mono hS0.2.2.2.2.size)⟩)
              refine hK _ _ hS1 ?_
              clear hK K
              refine gTake 2 (v := ?_) rfl (by kernel_rfl) (by kernel_rfl) (by kernel_rfl) (fun _ _ _ h => h) (by kernel_rfl) ?_ hS1 ?_
              rotate_left
              · (intro W hW; clear hW; go_simp; try with_reducible rfl)
              refine gTake 3 (v := ?_) rfl (by kernel_rfl) (by kernel_rfl) (by kernel_rfl) (fun _ _ _ h => h) (by kernel_rfl) ?_ hS1 ?_
              rotate_left
              · (intro W hW; clear hW; go_simp; try with_reducible rfl)
              refine gTake 4 (v := ?_) rfl (by kernel_rfl) (by kernel_rfl) (by kernel_rfl) (fun _ _ _ h => h) (by kernel_rfl) ?_ hS1 ?_
              rotate_left
              · (intro W hW; clear hW; go_simp; try with_reducible rfl)
              refine gTake 5 (v := ?_) rfl (by kernel_rfl) (by kernel_rfl) (by kernel_rfl) (fun _ _ _ h => h) (by kernel_rfl) ?_ hS1 ?_
              rotate_left
              · (intro W hW; clear hW; go_simp; try with_reducible rfl)
              refine gTake 6 (v := ?_) rfl (by kernel_rfl) (by kernel_rfl) (by kernel_rfl) (fun _ _ _ h => h) (by kernel_rfl) ?_ hS1 ?_
              rotate_left
              · (intro W hW; clear hW; go_simp; try with_reducible rfl)
              refine gTake 7 (v := ?_) rfl (by kernel_rfl) (by kernel_rfl) (by kernel_rfl) (fun _ _ _ h => h) (by kernel_rfl) ?_ hS1 ?_
              rotate_left
              · (intro W hW; clear hW; go_simp; try with_reducible rfl)
              refine gTake 8 (v := ?_) rfl (by kernel_rfl) (by kernel_rfl) (by kernel_rfl) (fun _ _ _ h => h) (by kernel_rfl) ?_ hS1 ?_
              rotate_left
              · (intro W hW; have q0 := hW.1; have q1 := hW.2.1; have q2 := hW.2.2.1; have q3 := hW.2.2.2.1; clear hW; go_simp; try with_reducible rfl)
              refine gTake 9 (v := ?_) rfl (by kernel_rfl) (by kernel_rfl) (by kernel_rfl) (fun _ _ _ h => h) (by kernel_rfl) ?_ hS1 ?_
              rotate_left
              · (intro W hW; clear hW; go_simp; try with_reducible rfl)
              refine gTake 10 (v := ?_) rfl (by kernel_rfl) (by kernel_rfl) (by kernel_rfl) (fun _ _ _ h => h) (by kernel_rfl) ?_ hS1 ?_
              rotate_left
              · (intro W hW; clear hW; go_simp; try with_reducible rfl)
              refine gTake 11 (v := ?_) rfl (by kernel_rfl) (by kernel_rfl) (by kernel_rfl) (fun _ _ _ h => h) (by kernel_rfl) ?_ hS1 ?_
              rotate_left
              · (intro W hW; clear hW; go_simp; try with_reducible rfl)
              refine gTake 12 (v := ?_) rfl (by kernel_rfl) (by kernel_rfl) (by kernel_rfl) (fun _ _ _ h => h) (by kernel_rfl) ?_ hS1 ?_
              rotate_left
              · (intro W hW; clear hW; go_simp; try with_reducible rfl)
              refine gTake 13 (v := ?_) rfl (by kernel_rfl) (by kernel_rfl) (by kernel_rfl) (fun _ _ _ h => h) (by kernel_rfl) ?_ hS1 ?_
              rotate_left
              · (intro W hW; clear hW; go_simp; try with_reducible rfl)
              refine gTake 14 (v := ?_) rfl (by kernel_rfl) (by kernel_rfl) (by kernel_rfl) (fun _ _ _ h => h) (by kernel_rfl) ?_ hS1 ?_
              rotate_left
              · (intro W hW; have q0 := hW.1; have q1 := hW.2.1; have q2 := hW.2.2.1; have q3 := hW.2.2.2.1; clear hW; go_simp; try with_reducible rfl)
              refine gTake 15 (v := ?_) rfl (by kernel_rfl) (by kernel_rfl) (by kernel_rfl) (fun _ _ _ h => h) (by kernel_rfl) ?_ hS1 ?_
              rotate_left
              · (intro W hW; clear hW; go_simp; try with_reducible rfl)
              refine gTake 16 (v := ?_) rfl (by kernel_rfl) (by kernel_rfl) (by kernel_rfl) (fun _ _ _ h => h) (by kernel_rfl) ?_ hS1 ?_
              rotate_left
              · (intro W hW; clear hW; go_simp; try with_reducible rfl)
              refine gTake 17 (v := ?_) rfl (by kernel_rfl) (by kernel_rfl) (by kernel_rfl) (fun _ _ _ h => h) (by kernel_rfl) ?_ hS1 ?_
              rotate_left
              · (intro W hW; clear hW; go_simp; try with_reducible rfl)
              refine wpAnyH_done (by kernel_rfl) ?_ _
              go_simp
              go_wp2
              go_roundw
              case rel => exact ⟨k + 1, by omega, by go_num, Lib.hid (fun j hj => by
                rcases Nat.lt_or_ge j k with q | q
                · exact HG.out j q
                · obtain rfl : j = k := by omega
                  exact HF.out), hbel.trans (((below_box _ _).trans (hS1.2.2.2.2.mono (by simp))).mono hbel.size)⟩
              case measure => simp [intOf]; omega
      · obtain rfl : k = fs.length := by omega
        have HF := Lib.hid (fansOk_iff.2 ⟨fun j hj => HG.out j hj, h8⟩)
        go_wp2
        go_ret
        exact ⟨ret_bool HF.out.symm, hbel⟩
  · have HF := Lib.hid (show fansOk fs = false by rw [← Bool.not_eq_true, fansOk_iff]; exact fun hh => h8 hh.2)
    have t8 : (8 : Int) < (fs.length : Int) := by omega
    go_enter Try.func21, Try.ntmps21
    go_wp2
    go_ret
    exact ⟨ret_bool HF.out.symm, Below.refl _ _⟩
theorem sValidFans_any (t1 : Prop) (A : Option Addr) (cap : Nat) (fs : List Fa) (w : World) (hr : FansR t1 w A fs) (hl : fs.length ≤ 1048576) (hs : ∀ f ∈ fs, f.sm) :
    Calls Try.prog 19 #[.slice A fs.length cap] w fun e w' => e = .returned (.bool (fansOk fs)) ∧ Below w.heap.size w w' := by
  go_enter Try.func19, Try.ntmps19
  go_wp2_with (go_at_call 49; (with_reducible refine (l06List_any t1 A cap fs _ hr hl hs).mono ?_); rintro e w1 ⟨rfl, hd⟩)
  go_ret
  exact ⟨rfl, hd⟩
end Go.Proofs.Ytcnpddmghjjhjaa
