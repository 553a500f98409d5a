/-
  Contracts of chapter 6: whether rows of numbers, and whether fans are the same; the model's and the program's. Conditions: those that each theorem states.
-/
import Derived.Test.YtcnpddmghjjhjaaVd
namespace Go.Proofs.Ytcnpddmghjjhjaa
open Go.RowKit
set_option linter.unusedVariables false
set_option linter.unusedSimpArgs false

theorem ne_at {xs ys : List Int} (hl : xs.length = ys.length) {k : Nat} (hk : k < xs.length) (h : ¬ (xs.getD k 0 = ys.getD k 0)) : decide (xs = ys) = false := decide_eq_false fun e => h (by rw [e])
theorem eq_all {xs ys : List Int} (hl : xs.length = ys.length) (h : ∀ j, j < xs.length → xs.getD j 0 = ys.getD j 0) : decide (xs = ys) = true := decide_eq_true (List.ext_getElem hl fun j h1 h2 => by have := h j h1; simpa [List.getD, h1, h2] using this)
theorem ne_len {α : Type} [DecidableEq α] {xs ys : List α} (hl : ¬ (xs.length = ys.length)) : decide (xs = ys) = false := decide_eq_false fun e => hl (by rw [e])
theorem neR_at {xs ys : List (List Int)} {k : Nat} (h1 : k < xs.length) (h2 : k < ys.length) (h : decide (xs[k] = ys[k]) = false) : decide (xs = ys) = false := decide_eq_false fun e => by subst e; simp at h
theorem fan_str_ne {a b : ByteArray} (h : ¬ (a = b)) : (a.toList == b.toList) = false ∧ ¬ a.toList = b.toList := by
  have h2 : ¬ a.toList = b.toList := fun e => h (by rw [ByteArray.toList_eq, ByteArray.toList_eq] at e; exact ByteArray.ext (Array.ext' e))
  exact ⟨beq_eq_false_iff_ne.2 h2, h2⟩
theorem eqR_all {xs ys : List (List Int)} (hl : xs.length = ys.length) (h : ∀ j (h1 : j < xs.length) (h2 : j < ys.length), xs[j] = ys[j]) : decide (xs = ys) = true := decide_eq_true (List.ext_getElem hl h)
theorem l00Same_any (v v' : Value) (xs ys : List Int) (w : World) (hv : RowW .i64 w v xs) (hv' : RowW .i64 w v' ys) (hl : xs.length ≤ 4000000000000000000) (hl' : ys.length ≤ 4000000000000000000) :
    Calls Try.prog 113 #[v, v'] w fun e w' => e = .returned (.bool (decide (xs = ys))) ∧ Below w.heap.size w w' := by
  obtain ⟨A, cap, rfl, _⟩ := id hv
  obtain ⟨A', cap', rfl, _⟩ := id hv'
  have HV := Lib.hid (And.intro hv hv')
  clear hv hv'
  by_cases hle : xs.length = ys.length
  · have hli : (xs.length : Int) = (ys.length : Int) := by omega
    have HL := Lib.hid hle
    obtain ⟨n, hn⟩ : ∃ n, xs.length = n := ⟨_, rfl⟩
    have hm : ys.length = n := by omega
    have HN := Lib.hid (And.intro hn hm)
    rw [hn] at hl
    rw [hn, hm]
    clear hli hle hn hm hl'
    go_enter Try.func113, Try.ntmps113
    go_wp2
    go_loopw [5] (fun i wr => ∃ k : Nat, k ≤ n ∧ i = .int .i64 k ∧ Hid (∀ j, j < k → xs.getD j 0 = ys.getD j 0) ∧ Below w.heap.size w wr) (fun i wr => n - (intOf i).toNat)
    case atStart => exact ⟨0, by omega, rfl, Lib.hid (fun j hj => absurd hj (by omega)), Below.refl _ _⟩
    case round =>
      obtain ⟨k, hk, rfl, HA, hbel⟩ := hrel
      obtain ⟨wo, rfl⟩ : ∃ wo : World, wo = wr := ⟨_, rfl⟩
      by_cases hlt : k < n
      · obtain ⟨b, off, rfl, _, hc⟩ := RowW.cell (HV.out.1.below hbel) (show k < xs.length by have := HN.out; omega)
        obtain ⟨b', off', rfl, _, hc'⟩ := RowW.cell (HV.out.2.below hbel) (show k < ys.length by have := HN.out; omega)
        by_cases e : xs.getD k 0 = ys.getD k 0
        · have HE := Lib.hid e
          rw [← e] at hc'
          clear e
          generalize xs.getD k 0 = z at hc hc'
          go_wp2
          go_quiet (fail)
          go_wp2
          go_roundw
          case rel => exact ⟨k + 1, by omega, by go_num, Lib.hid (fun j hj => by
            rcases Nat.lt_or_ge j k with q | q
            · exact HA.out j q
            · obtain rfl : j = k := by omega
              exact HE.out), below_drewN' hbel _⟩
          case measure => simp [intOf]; omega
        · have HF := Lib.hid (ne_at HL.out (show k < xs.length by have := HN.out; omega) e)
          have e2 : (xs.getD k 0 != ys.getD k 0) = true := bne_iff_ne.2 e
          have e3 : ¬ (ys.getD k 0 = xs.getD k 0) := fun q => e q.symm
          generalize xs.getD k 0 = z at *
          generalize ys.getD k 0 = z' at *
          go_wp2
          go_quiet (fail)
          go_wp2
          go_ret
          exact ⟨ret_bool HF.out.symm, (by first | exact hbel | exact below_drewN' hbel _)⟩
      · obtain rfl : k = n := by omega
        have HF := Lib.hid (eq_all HL.out (fun j hj => HA.out j (by have := HN.out; omega)))
        go_wp2
        go_ret
        exact ⟨ret_bool HF.out.symm, (by first | exact hbel | exact below_drewN' hbel _)⟩
  · have HF := Lib.hid (ne_len hle)
    have hli : ¬ ((xs.length : Int) = (ys.length : Int)) := by omega
    go_enter Try.func113, Try.ntmps113
    go_wp2
    go_ret
    exact ⟨ret_bool HF.out.symm, Below.refl _ _⟩
theorem slicesEqual_any (v v' : Value) (xs ys : List Int) (w : World) (hv : RowW .i64 w v xs) (hv' : RowW .i64 w v' ys) (hl : xs.length ≤ 4000000000000000000) (hl' : ys.length ≤ 4000000000000000000) :
    Calls Try.prog 52 #[v, v'] w fun e w' => e = .returned (.bool (decide (xs = ys))) ∧ Below w.heap.size w w' := by
  obtain ⟨A, cap, rfl, _⟩ := id hv
  obtain ⟨A', cap', rfl, _⟩ := id hv'
  have HV := Lib.hid (And.intro hv hv')
  clear hv hv'
  by_cases hle : xs.length = ys.length
  · have hli : (xs.length : Int) = (ys.length : Int) := by omega
    have HL := Lib.hid hle
    obtain ⟨n, hn⟩ : ∃ n, xs.length = n := ⟨_, rfl⟩
    have hm : ys.length = n := by omega
    have HN := Lib.hid (And.intro hn hm)
    rw [hn] at hl
    rw [hn, hm]
    clear hli hle hn hm hl'
    go_enter Try.func52, Try.ntmps52
    go_wp2
    go_loopw [13] (fun i wr => ∃ k : Nat, k ≤ n ∧ i = .int .i64 k ∧ Hid (∀ j, j < k → xs.getD j 0 = ys.getD j 0) ∧ Below w.heap.size w wr) (fun i wr => n - (intOf i).toNat)
    case atStart => exact ⟨0, by omega, rfl, Lib.hid (fun j hj => absurd hj (by omega)), Below.refl _ _⟩
    case round =>
      obtain ⟨k, hk, rfl, HA, hbel⟩ := hrel
      obtain ⟨wo, rfl⟩ : ∃ wo : World, wo = wr := ⟨_, rfl⟩
      by_cases hlt : k < n
      · obtain ⟨b, off, rfl, _, hc⟩ := RowW.cell (HV.out.1.below hbel) (show k < xs.length by have := HN.out; omega)
        obtain ⟨b', off', rfl, _, hc'⟩ := RowW.cell (HV.out.2.below hbel) (show k < ys.length by have := HN.out; omega)
        by_cases e : xs.getD k 0 = ys.getD k 0
        · have HE := Lib.hid e
          rw [← e] at hc'
          clear e
          generalize xs.getD k 0 = z at hc hc'
          go_wp2
          go_quiet (fail)
          go_wp2
          go_roundw
          case rel => exact ⟨k + 1, by omega, by go_num, Lib.hid (fun j hj => by
            rcases Nat.lt_or_ge j k with q | q
            · exact HA.out j q
            · obtain rfl : j = k := by omega
              exact HE.out), below_drewN' hbel _⟩
          case measure => simp [intOf]; omega
        · have HF := Lib.hid (ne_at HL.out (show k < xs.length by have := HN.out; omega) e)
          have e2 : (xs.getD k 0 != ys.getD k 0) = true := bne_iff_ne.2 e
          have e3 : ¬ (ys.getD k 0 = xs.getD k 0) := fun q => e q.symm
          generalize xs.getD k 0 = z at *
          generalize ys.getD k 0 = z' at *
          go_wp2
          go_quiet (fail)
          go_wp2
          go_ret
          exact ⟨ret_bool HF.out.symm, (by first | exact hbel | exact below_drewN' hbel _)⟩
      · obtain rfl : k = n := by omega
        have HF := Lib.hid (eq_all HL.out (fun j hj => HA.out j (by have := HN.out; omega)))
        go_wp2
        go_ret
        exact ⟨ret_bool HF.out.symm, (by first | exact hbel | exact below_drewN' hbel _)⟩
  · have HF := Lib.hid (ne_len hle)
    have hli : ¬ ((xs.length : Int) = (ys.length : Int)) := by omega
    go_enter Try.func52, Try.ntmps52
    go_wp2
    go_ret
    exact ⟨ret_bool HF.out.symm, Below.refl _ _⟩
set_option maxHeartbeats 1000000 in
theorem l06Rows_any (A A' : Option Addr) (cap cap' : Nat) (xs ys : List (List Int)) (w : World) (hr : RowsR w A xs) (hr' : RowsR w A' ys) (hl : xs.length ≤ 1048576) (hl' : ys.length ≤ 1048576) (hx : ∀ r ∈ xs, r.length ≤ 1048576) (hy : ∀ r ∈ ys, r.length ≤ 1048576) :
    Calls Try.prog 90 #[.slice A xs.length cap, .slice A' ys.length cap'] w fun e w' => e = .returned (.bool (decide (xs = ys))) ∧ Below w.heap.size w w' := by
  have HR := Lib.hid (And.intro hr hr')
  have HX := Lib.hid (And.intro hx hy)
  clear hr hr' hx hy
  by_cases hle : xs.length = ys.length
  · have hli : (xs.length : Int) = (ys.length : Int) := by omega
    have HL := Lib.hid hle
    obtain ⟨n, hn⟩ : ∃ n, xs.length = n := ⟨_, rfl⟩
    have hm : ys.length = n := by omega
    have HN := Lib.hid (And.intro hn hm)
    rw [hn] at hl
    rw [hn, hm]
    clear hli hle hn hm hl'
    go_enter Try.func90, Try.ntmps90
    go_wp2
    go_loopw [5] (fun i wr => ∃ k : Nat, k ≤ n ∧ i = .int .i64 k ∧ Hid (∀ j (h1 : j < xs.length) (h2 : j < ys.length), j < k → xs[j] = ys[j]) ∧ Below w.heap.size w wr) (fun i wr => n - (intOf i).toNat)
    case atStart => exact ⟨0, by omega, rfl, Lib.hid (fun j _ _ hj => absurd hj (by omega)), Below.refl _ _⟩
    case round =>
      obtain ⟨k, hk, rfl, HA, hbel⟩ := hrel
      obtain ⟨wo, rfl⟩ : ∃ wo : World, wo = wr := ⟨_, rfl⟩
      by_cases hlt : k < n
      · have hlt1 : k < xs.length := by have := HN.out; omega
        have hlt2 : k < ys.length := by have := HN.out; omega
        obtain ⟨b, off, B1, c1, rfl, hc, hrw⟩ := (HR.out.1.below hbel).row hlt1
        obtain ⟨b', off', B2, c2, rfl, hc2, hrw'⟩ := (HR.out.2.below hbel).row hlt2
        have HW := Lib.hid (And.intro hrw hrw')
        have s1 := HX.out.1 xs[k] (List.getElem_mem hlt1)
        have s2 := HX.out.2 ys[k] (List.getElem_mem hlt2)
        clear hrw hrw'
        cases e : decide (xs[k] = ys[k])
        · have HF := Lib.hid (neR_at hlt1 hlt2 e)
          have HK := Lib.hid e
          go_wp2_with fail
          refine wp_region_held (S := fun w' => w'.cell? ⟨b, off + k, none⟩ = some (.slice B1 xs[k].length c1) ∧ w'.cell? ⟨b', off' + k, none⟩ = some (.slice B2 ys[k].length c2) ∧ Below wo.heap.size wo w') (by kernel_rfl) ?_
          try (change wpAnyH _ _ _ _ _ _ _ _ (World.drew _))
          have hS0 := (show wo.drew.cell? ⟨b, off + k, none⟩ = some (.slice B1 xs[k].length c1) ∧ wo.drew.cell? ⟨b', off' + k, none⟩ = some (.slice B2 ys[k].length c2) ∧ Below wo.heap.size wo wo.drew from ⟨hc, hc2, Below.drew (Below.refl _ _)⟩)
          refine gTake 0 (v := ?_) rfl (by kernel_rfl) (by kernel_rfl) (by kernel_rfl) (fun _ _ _ h => h) (by kernel_rfl) ?_ hS0 ?_
          rotate_left
          · (intro W hW; clear hW; go_simp; try with_reducible rfl)
          refine gTake 1 (v := ?_) rfl (by kernel_rfl) (by kernel_rfl) (by kernel_rfl) (fun _ _ _ h => h) (by kernel_rfl) ?_ hS0 ?_
          rotate_left
          · (intro W hW; clear hW; go_simp; try with_reducible rfl)
          refine gTake 2 (v := ?_) rfl (by kernel_rfl) (by kernel_rfl) (by kernel_rfl) (fun _ _ _ h => h) (by kernel_rfl) ?_ hS0 ?_
          rotate_left
          · (intro W hW; clear hW; go_simp; try with_reducible rfl)
          refine gTake 3 (v := ?_) rfl (by kernel_rfl) (by kernel_rfl) (by kernel_rfl) (fun _ _ _ h => h) (by kernel_rfl) ?_ hS0 ?_
          rotate_left
          · (intro W hW; have q0 := hW.1; have q1 := hW.2.1; clear hW; go_simp; try with_reducible rfl)
          refine gTake 4 (v := ?_) rfl (by kernel_rfl) (by kernel_rfl) (by kernel_rfl) (fun _ _ _ h => h) (by kernel_rfl) ?_ hS0 ?_
          rotate_left
          · (intro W hW; clear hW; go_simp; try with_reducible rfl)
          refine gTake 5 (v := ?_) rfl (by kernel_rfl) (by kernel_rfl) (by kernel_rfl) (fun _ _ _ h => h) (by kernel_rfl) ?_ hS0 ?_
          rotate_left
          · (intro W hW; clear hW; go_simp; try with_reducible rfl)
          refine gTake 6 (v := ?_) rfl (by kernel_rfl) (by kernel_rfl) (by kernel_rfl) (fun _ _ _ h => h) (by kernel_rfl) ?_ hS0 ?_
          rotate_left
          · (intro W hW; clear hW; go_simp; try with_reducible rfl)
          refine gTake 7 (v := ?_) rfl (by kernel_rfl) (by kernel_rfl) (by kernel_rfl) (fun _ _ _ h => h) (by kernel_rfl) ?_ hS0 ?_
          rotate_left
          · (intro W hW; have q0 := hW.1; have q1 := hW.2.1; clear hW; go_simp; try with_reducible rfl)
          refine gOne 8 rfl (by kernel_rfl) (by kernel_rfl) (fun K hK => ?_)
          go_simp
          go_at_call 113
          (with_reducible refine (l00Same_any _ _ xs[k] ys[k] _ (HW.out.1.below hS0.2.2) (HW.out.2.below hS0.2.2) (by omega) (by omega)).mono ?_)
          rintro e wq0 ⟨rfl, hdq0⟩
          try go_simp
          have hS1 := (show wq0.cell? ⟨b, off + k, none⟩ = some (.slice B1 xs[k].length c1) ∧ wq0.cell? ⟨b', off' + k, none⟩ = some (.slice B2 ys[k].length c2) ∧ Below wo.heap.size wo wq0 from ⟨cellK hS0.1 hdq0, cellK hS0.2.1 hdq0, hS0.2.2.trans (hdq0.mono hS0.2.2.size)⟩)
          refine hK _ _ hS1 ?_
          clear hK K
          refine gTake 9 (v := ?_) rfl (by kernel_rfl) (by kernel_rfl) (by kernel_rfl) (fun _ _ _ h => h) (by kernel_rfl) ?_ hS1 ?_
          rotate_left
          · (intro W hW; clear hW; go_simp; try with_reducible rfl)
          refine wpAnyH_done (by kernel_rfl) ?_ _
          go_simp
          go_wp2
          go_ret
          exact ⟨ret_bool HF.out.symm, hbel.trans (hS1.2.2.mono hbel.size)⟩
        · have HK := Lib.hid (of_decide_eq_true e)
          go_wp2_with fail
          refine wp_region_held (S := fun w' => w'.cell? ⟨b, off + k, none⟩ = some (.slice B1 xs[k].length c1) ∧ w'.cell? ⟨b', off' + k, none⟩ = some (.slice B2 ys[k].length c2) ∧ Below wo.heap.size wo w') (by kernel_rfl) ?_
          try (change wpAnyH _ _ _ _ _ _ _ _ (World.drew _))
          have hS0 := (show wo.drew.cell? ⟨b, off + k, none⟩ = some (.slice B1 xs[k].length c1) ∧ wo.drew.cell? ⟨b', off' + k, none⟩ = some (.slice B2 ys[k].length c2) ∧ Below wo.heap.size wo wo.drew from ⟨hc, hc2, Below.drew (Below.refl _ _)⟩)
          refine gTake 0 (v := ?_) rfl (by kernel_rfl) (by kernel_rfl) (by kernel_rfl) (fun _ _ _ h => h) (by kernel_rfl) ?_ hS0 ?_
          rotate_left
          · (intro W hW; clear hW; go_simp; try with_reducible rfl)
          refine gTake 1 (v := ?_) rfl (by kernel_rfl) (by kernel_rfl) (by kernel_rfl) (fun _ _ _ h => h) (by kernel_rfl) ?_ hS0 ?_
          rotate_left
          · (intro W hW; clear hW; go_simp; try with_reducible rfl)
          refine gTake 2 (v := ?_) rfl (by kernel_rfl) (by kernel_rfl) (by kernel_rfl) (fun _ _ _ h => h) (by kernel_rfl) ?_ hS0 ?_
          rotate_left
          · (intro W hW; clear hW; go_simp; try with_reducible rfl)
          refine gTake 3 (v := ?_) rfl (by kernel_rfl) (by kernel_rfl) (by kernel_rfl) (fun _ _ _ h => h) (by kernel_rfl) ?_ hS0 ?_
          rotate_left
          · (intro W hW; have q0 := hW.1; have q1 := hW.2.1; clear hW; go_simp; try with_reducible rfl)
          refine gTake 4 (v := ?_) rfl (by kernel_rfl) (by kernel_rfl) (by kernel_rfl) (fun _ _ _ h => h) (by kernel_rfl) ?_ hS0 ?_
          rotate_left
          · (intro W hW; clear hW; go_simp; try with_reducible rfl)
          refine gTake 5 (v := ?_) rfl (by kernel_rfl) (by kernel_rfl) (by kernel_rfl) (fun _ _ _ h => h) (by kernel_rfl) ?_ hS0 ?_
          rotate_left
          · (intro W hW; clear hW; go_simp; try with_reducible rfl)
          refine gTake 6 (v := ?_) rfl (by kernel_rfl) (by kernel_rfl) (by kernel_rfl) (fun _ _ _ h => h) (by kernel_rfl) ?_ hS0 ?_
          rotate_left
          · (intro W hW; clear hW; go_simp; try with_reducible rfl)
          refine gTake 7 (v := ?_) rfl (by kernel_rfl) (by kernel_rfl) (by kernel_rfl) (fun _ _ _ h => h) (by kernel_rfl) ?_ hS0 ?_
          rotate_left
          · (intro W hW; have q0 := hW.1; have q1 := hW.2.1; clear hW; go_simp; try with_reducible rfl)
          refine gOne 8 rfl (by kernel_rfl) (by kernel_rfl) (fun K hK => ?_)
          go_simp
          go_at_call 113
          (with_reducible refine (l00Same_any _ _ xs[k] ys[k] _ (HW.out.1.below hS0.2.2) (HW.out.2.below hS0.2.2) (by omega) (by omega)).mono ?_)
          rintro e wq0 ⟨rfl, hdq0⟩
          try go_simp
          have hS1 := (show wq0.cell? ⟨b, off + k, none⟩ = some (.slice B1 xs[k].length c1) ∧ wq0.cell? ⟨b', off' + k, none⟩ = some (.slice B2 ys[k].length c2) ∧ Below wo.heap.size wo wq0 from ⟨cellK hS0.1 hdq0, cellK hS0.2.1 hdq0, hS0.2.2.trans (hdq0.mono hS0.2.2.size)⟩)
          refine hK _ _ hS1 ?_
          clear hK K
          refine gTake 9 (v := ?_) rfl (by kernel_rfl) (by kernel_rfl) (by kernel_rfl) (fun _ _ _ h => h) (by kernel_rfl) ?_ hS1 ?_
          rotate_left
          · (intro W hW; clear hW; go_simp; try with_reducible rfl)
          refine wpAnyH_done (by kernel_rfl) ?_ _
          go_simp
          go_wp2
          go_roundw
          case rel => exact ⟨k + 1, by omega, by go_num, Lib.hid (fun j h1 h2 hj => by
            rcases Nat.lt_or_ge j k with q | q
            · exact HA.out j h1 h2 q
            · obtain rfl : j = k := by omega
              exact HK.out), hbel.trans (hS1.2.2.mono hbel.size)⟩
          case measure => simp [intOf]; omega
      · obtain rfl : k = n := by omega
        have HF := Lib.hid (eqR_all HL.out (fun j h1 h2 => HA.out j h1 h2 (by have := HN.out; omega)))
        go_wp2
        go_ret
        exact ⟨ret_bool HF.out.symm, hbel⟩
  · have HF := Lib.hid (ne_len hle)
    have hli : ¬ ((xs.length : Int) = (ys.length : Int)) := by omega
    go_enter Try.func90, Try.ntmps90
    go_wp2
    go_ret
    exact ⟨ret_bool HF.out.symm, Below.refl _ _⟩
set_option maxHeartbeats 1000000 in
theorem equalFunc_any (A A' : Option Addr) (cap cap' : Nat) (xs ys : List (List Int)) (w : World) (hr : RowsR w A xs) (hr' : RowsR w A' ys) (hl : xs.length ≤ 1048576) (hl' : ys.length ≤ 1048576) (hx : ∀ r ∈ xs, r.length ≤ 1048576) (hy : ∀ r ∈ ys, r.length ≤ 1048576) :
    Calls Try.prog 51 #[.slice A xs.length cap, .slice A' ys.length cap', .func (.func 52) #[] #[]] w fun e w' => e = .returned (.bool (decide (xs = ys))) ∧ Below w.heap.size w w' := by
  have HR := Lib.hid (And.intro hr hr')
  have HX := Lib.hid (And.intro hx hy)
  clear hr hr' hx hy
  by_cases hle : xs.length = ys.length
  · have hli : (xs.length : Int) = (ys.length : Int) := by omega
    have HL := Lib.hid hle
    obtain ⟨n, hn⟩ : ∃ n, xs.length = n := ⟨_, rfl⟩
    have hm : ys.length = n := by omega
    have HN := Lib.hid (And.intro hn hm)
    rw [hn] at hl
    rw [hn, hm]
    clear hli hle hn hm hl'
    go_enter Try.func51, Try.ntmps51
    go_wp2
    go_loopw [17] (fun i wr => ∃ k : Nat, k ≤ n ∧ i = .int .i64 k ∧ Hid (∀ j (h1 : j < xs.length) (h2 : j < ys.length), j < k → xs[j] = ys[j]) ∧ Below w.heap.size w wr) (fun i wr => n - (intOf i).toNat)
    case atStart => exact ⟨0, by omega, rfl, Lib.hid (fun j _ _ hj => absurd hj (by omega)), Below.refl _ _⟩
    case round =>
      obtain ⟨k, hk, rfl, HA, hbel⟩ := hrel
      obtain ⟨wo, rfl⟩ : ∃ wo : World, wo = wr := ⟨_, rfl⟩
      by_cases hlt : k < n
      · have hlt1 : k < xs.length := by have := HN.out; omega
        have hlt2 : k < ys.length := by have := HN.out; omega
        obtain ⟨b, off, B1, c1, rfl, hc, hrw⟩ := (HR.out.1.below hbel).row hlt1
        obtain ⟨b', off', B2, c2, rfl, hc2, hrw'⟩ := (HR.out.2.below hbel).row hlt2
        have HW := Lib.hid (And.intro hrw hrw')
        have s1 := HX.out.1 xs[k] (List.getElem_mem hlt1)
        have s2 := HX.out.2 ys[k] (List.getElem_mem hlt2)
        clear hrw hrw'
        cases e : decide (xs[k] = ys[k])
        · have HF := Lib.hid (neR_at hlt1 hlt2 e)
          have HK := Lib.hid e
          go_wp2_with (go_at_call 52; (with_reducible refine (slicesEqual_any _ _ xs[k] ys[k] _ HW.out.1 HW.out.2 (by omega) (by omega)).mono ?_); rintro e w1 ⟨rfl, hd⟩)
          go_ret
          exact ⟨ret_bool HF.out.symm, hbel.trans (hd.mono hbel.size)⟩
        · have HK := Lib.hid (of_decide_eq_true e)
          go_wp2_with (go_at_call 52; (with_reducible refine (slicesEqual_any _ _ xs[k] ys[k] _ HW.out.1 HW.out.2 (by omega) (by omega)).mono ?_); rintro e w1 ⟨rfl, hd⟩)
          go_roundw
          case rel => exact ⟨k + 1, by omega, by go_num, Lib.hid (fun j h1 h2 hj => by
            rcases Nat.lt_or_ge j k with q | q
            · exact HA.out j h1 h2 q
            · obtain rfl : j = k := by omega
              exact HK.out), hbel.trans (hd.mono hbel.size)⟩
          case measure => simp [intOf]; omega
      · obtain rfl : k = n := by omega
        have HF := Lib.hid (eqR_all HL.out (fun j h1 h2 => HA.out j h1 h2 (by have := HN.out; omega)))
        go_wp2
        go_ret
        exact ⟨ret_bool HF.out.symm, hbel⟩
  · have HF := Lib.hid (ne_len hle)
    have hli : ¬ ((xs.length : Int) = (ys.length : Int)) := by omega
    go_enter Try.func51, Try.ntmps51
    go_wp2
    go_ret
    exact ⟨ret_bool HF.out.symm, Below.refl _ _⟩
/-- Whether fans are the same. -/
def sameF (s : ByteArray) (a : Int) (xs : List (List Int)) (s2 : ByteArray) (a2 : Int) (ys : List (List Int)) : Bool := decide (s = s2) && (decide (a = a2) && decide (xs = ys))
set_option maxHeartbeats 4000000 in
theorem l06Same_below (b1 b2 : Nat) (s : ByteArray) (a : Int) (A : Option Addr) (cap : Nat) (xs : List (List Int)) (s2 : ByteArray) (a2 : Int) (A2 : Option Addr) (cap2 : Nat) (ys : List (List Int)) (w : World) (c0 : w.cell? ⟨b1, 0, none⟩ = some (.string s)) (c1 : w.cell? ⟨b1, 1, none⟩ = some (.int .i64 a)) (c2 : w.cell? ⟨b1, 2, none⟩ = some (.slice A xs.length cap)) (d0 : w.cell? ⟨b2, 0, none⟩ = some (.string s2)) (d1 : w.cell? ⟨b2, 1, none⟩ = some (.int .i64 a2)) (d2 : w.cell? ⟨b2, 2, none⟩ = some (.slice A2 ys.length cap2)) (hr : RowsR w A xs) (hl : xs.length ≤ 1048576) (hx : ∀ r ∈ xs, r.length ≤ 1048576) (hr2 : RowsR w A2 ys) (hl2 : ys.length ≤ 1048576) (hy : ∀ r ∈ ys, r.length ≤ 1048576) :
    Calls Try.prog 50 #[.pointer (some ⟨b1, 0, none⟩), .pointer (some ⟨b2, 0, none⟩)] w fun e w' => e = .returned (.bool (sameF s a xs s2 a2 ys)) ∧ Below w.heap.size w w' := by
  have HR := Lib.hid (And.intro hr hr2)
  have HX := Lib.hid (And.intro hx hy)
  clear hr hr2 hx hy
  by_cases e1 : s = s2
  · subst e1
    by_cases e2 : a = a2
    · subst e2
      cases e3 : decide (xs = ys)
      · skip
        have HE := Lib.hid (show sameF s a xs s a ys = false by simp [sameF, of_decide_eq_false e3])
        go_enter Try.func50, Try.ntmps50
        go_wp2_with fail
        refine wp_region_held (S := fun w' => w'.cell? ⟨b1, 0, none⟩ = some (.string s) ∧ w'.cell? ⟨b1, 1, none⟩ = some (.int .i64 a) ∧ w'.cell? ⟨b1, 2, none⟩ = some (.slice A xs.length cap) ∧ w'.cell? ⟨b2, 0, none⟩ = some (.string s) ∧ w'.cell? ⟨b2, 1, none⟩ = some (.int .i64 a) ∧ w'.cell? ⟨b2, 2, none⟩ = some (.slice A2 ys.length cap2) ∧ Below w.heap.size w w') (by kernel_rfl) ?_
        try (change wpAnyH _ _ _ _ _ _ _ _ (World.drew _))
        have hS0 := (show w.drew.cell? ⟨b1, 0, none⟩ = some (.string s) ∧ w.drew.cell? ⟨b1, 1, none⟩ = some (.int .i64 a) ∧ w.drew.cell? ⟨b1, 2, none⟩ = some (.slice A xs.length cap) ∧ w.drew.cell? ⟨b2, 0, none⟩ = some (.string s) ∧ w.drew.cell? ⟨b2, 1, none⟩ = some (.int .i64 a) ∧ w.drew.cell? ⟨b2, 2, none⟩ = some (.slice A2 ys.length cap2) ∧ Below w.heap.size w w.drew from ⟨c0, c1, c2, d0, d1, d2, Below.drew (Below.refl _ _)⟩)
        refine gTake 0 (v := ?_) rfl (by kernel_rfl) (by kernel_rfl) (by kernel_rfl) (fun _ _ _ h => h) (by kernel_rfl) ?_ hS0 ?_
        rotate_left
        · (intro W hW; clear hW; go_simp; try with_reducible rfl)
        refine gTake 1 (v := ?_) rfl (by kernel_rfl) (by kernel_rfl) (by kernel_rfl) (fun _ _ _ h => h) (by kernel_rfl) ?_ hS0 ?_
        rotate_left
        · (intro W hW; clear hW; go_simp; try with_reducible rfl)
        refine gTake 2 (v := ?_) rfl (by kernel_rfl) (by kernel_rfl) (by kernel_rfl) (fun _ _ _ h => h) (by kernel_rfl) ?_ hS0 ?_
        rotate_left
        · (intro W hW; clear hW; go_simp; try with_reducible rfl)
        refine gTake 3 (v := ?_) rfl (by kernel_rfl) (by kernel_rfl) (by kernel_rfl) (fun _ _ _ h => h) (by kernel_rfl) ?_ hS0 ?_
        rotate_left
        · (intro W hW; have q0 := hW.1; have q1 := hW.2.1; have q2 := hW.2.2.1; have q3 := hW.2.2.2.1; have q4 := hW.2.2.2.2.1; have q5 := hW.2.2.2.2.2.1; clear hW; go_simp; try with_reducible rfl)
        refine gTake 4 (v := ?_) rfl (by kernel_rfl) (by kernel_rfl) (by kernel_rfl) (fun _ _ _ h => h) (by kernel_rfl) ?_ hS0 ?_
        rotate_left
        · (intro W hW; clear hW; go_simp; try with_reducible rfl)
        refine gTake 5 (v := ?_) rfl (by kernel_rfl) (by kernel_rfl) (by kernel_rfl) (fun _ _ _ h => h) (by kernel_rfl) ?_ hS0 ?_
        rotate_left
        · (intro W hW; clear hW; go_simp; try with_reducible rfl)
        refine gTake 6 (v := ?_) rfl (by kernel_rfl) (by kernel_rfl) (by kernel_rfl) (fun _ _ _ h => h) (by kernel_rfl) ?_ hS0 ?_
        rotate_left
        · (intro W hW; clear hW; go_simp; try with_reducible rfl)
        refine gTake 7 (v := ?_) rfl (by kernel_rfl) (by kernel_rfl) (by kernel_rfl) (fun _ _ _ h => h) (by kernel_rfl) ?_ hS0 ?_
        rotate_left
        · (intro W hW; have q0 := hW.1; have q1 := hW.2.1; have q2 := hW.2.2.1; have q3 := hW.2.2.2.1; have q4 := hW.2.2.2.2.1; have q5 := hW.2.2.2.2.2.1; clear hW; go_simp; try with_reducible rfl)
        refine gTake 8 (v := ?_) rfl (by kernel_rfl) (by kernel_rfl) (by kernel_rfl) (fun _ _ _ h => h) (by kernel_rfl) ?_ hS0 ?_
        rotate_left
        · (intro W hW; clear hW; go_simp; try with_reducible rfl)
        refine gTake 9 (v := ?_) rfl (by kernel_rfl) (by kernel_rfl) (by kernel_rfl) (fun _ _ _ h => h) (by kernel_rfl) ?_ hS0 ?_
        rotate_left
        · (intro W hW; clear hW; go_simp; try with_reducible rfl)
        refine gTake 10 (v := ?_) rfl (by kernel_rfl) (by kernel_rfl) (by kernel_rfl) (fun _ _ _ h => h) (by kernel_rfl) ?_ hS0 ?_
        rotate_left
        · (intro W hW; clear hW; go_simp; try with_reducible rfl)
        refine gTake 11 (v := ?_) rfl (by kernel_rfl) (by kernel_rfl) (by kernel_rfl) (fun _ _ _ h => h) (by kernel_rfl) ?_ hS0 ?_
        rotate_left
        · (intro W hW; clear hW; go_simp; try with_reducible rfl)
        refine gTake 12 (v := ?_) rfl (by kernel_rfl) (by kernel_rfl) (by kernel_rfl) (fun _ _ _ h => h) (by kernel_rfl) ?_ hS0 ?_
        rotate_left
        · (intro W hW; clear hW; go_simp; try with_reducible rfl)
        refine gTake 13 (v := ?_) rfl (by kernel_rfl) (by kernel_rfl) (by kernel_rfl) (fun _ _ _ h => h) (by kernel_rfl) ?_ hS0 ?_
        rotate_left
        · (intro W hW; have q0 := hW.1; have q1 := hW.2.1; have q2 := hW.2.2.1; have q3 := hW.2.2.2.1; have q4 := hW.2.2.2.2.1; have q5 := hW.2.2.2.2.2.1; clear hW; go_simp; try with_reducible rfl)
        refine gTake 14 (v := ?_) rfl (by kernel_rfl) (by kernel_rfl) (by kernel_rfl) (fun _ _ _ h => h) (by kernel_rfl) ?_ hS0 ?_
        rotate_left
        · (intro W hW; clear hW; go_simp; try with_reducible rfl)
        refine gTake 15 (v := ?_) rfl (by kernel_rfl) (by kernel_rfl) (by kernel_rfl) (fun _ _ _ h => h) (by kernel_rfl) ?_ hS0 ?_
        rotate_left
        · (intro W hW; clear hW; go_simp; try with_reducible rfl)
        refine gTake 16 (v := ?_) rfl (by kernel_rfl) (by kernel_rfl) (by kernel_rfl) (fun _ _ _ h => h) (by kernel_rfl) ?_ hS0 ?_
        rotate_left
        · (intro W hW; clear hW; go_simp; try with_reducible rfl)
        refine gTake 17 (v := ?_) rfl (by kernel_rfl) (by kernel_rfl) (by kernel_rfl) (fun _ _ _ h => h) (by kernel_rfl) ?_ hS0 ?_
        rotate_left
        · (intro W hW; have q0 := hW.1; have q1 := hW.2.1; have q2 := hW.2.2.1; have q3 := hW.2.2.2.1; have q4 := hW.2.2.2.2.1; have q5 := hW.2.2.2.2.2.1; clear hW; go_simp; try with_reducible rfl)
        refine gTake 18 (v := ?_) rfl (by kernel_rfl) (by kernel_rfl) (by kernel_rfl) (fun _ _ _ h => h) (by kernel_rfl) ?_ hS0 ?_
        rotate_left
        · (intro W hW; clear hW; go_simp; try with_reducible rfl)
        refine gTake 19 (v := ?_) rfl (by kernel_rfl) (by kernel_rfl) (by kernel_rfl) (fun _ _ _ h => h) (by kernel_rfl) ?_ hS0 ?_
        rotate_left
        · (intro W hW; clear hW; go_simp; try with_reducible rfl)
        refine gTake 20 (v := ?_) rfl (by kernel_rfl) (by kernel_rfl) (by kernel_rfl) (fun _ _ _ h => h) (by kernel_rfl) ?_ hS0 ?_
        rotate_left
        · (intro W hW; clear hW; go_simp; try with_reducible rfl)
        refine gTake 21 (v := ?_) rfl (by kernel_rfl) (by kernel_rfl) (by kernel_rfl) (fun _ _ _ h => h) (by kernel_rfl) ?_ hS0 ?_
        rotate_left
        · (intro W hW; clear hW; go_simp; try with_reducible rfl)
        refine gTake 22 (v := ?_) rfl (by kernel_rfl) (by kernel_rfl) (by kernel_rfl) (fun _ _ _ h => h) (by kernel_rfl) ?_ hS0 ?_
        rotate_left
        · (intro W hW; clear hW; go_simp; try with_reducible rfl)
        refine gTake 23 (v := ?_) rfl (by kernel_rfl) (by kernel_rfl) (by kernel_rfl) (fun _ _ _ h => h) (by kernel_rfl) ?_ hS0 ?_
        rotate_left
        · (intro W hW; clear hW; go_simp; try with_reducible rfl)
        refine gTake 24 (v := ?_) rfl (by kernel_rfl) (by kernel_rfl) (by kernel_rfl) (fun _ _ _ h => h) (by kernel_rfl) ?_ hS0 ?_
        rotate_left
        · (intro W hW; have q0 := hW.1; have q1 := hW.2.1; have q2 := hW.2.2.1; have q3 := hW.2.2.2.1; have q4 := hW.2.2.2.2.1; have q5 := hW.2.2.2.2.2.1; clear hW; go_simp; try with_reducible rfl)
        refine gTake 25 (v := ?_) rfl (by kernel_rfl) (by kernel_rfl) (by kernel_rfl) (fun _ _ _ h => h) (by kernel_rfl) ?_ hS0 ?_
        rotate_left
        · (intro W hW; clear hW; go_simp; try with_reducible rfl)
        refine gTake 26 (v := ?_) rfl (by kernel_rfl) (by kernel_rfl) (by kernel_rfl) (fun _ _ _ h => h) (by kernel_rfl) ?_ hS0 ?_
        rotate_left
        · (intro W hW; clear hW; go_simp; try with_reducible rfl)
        refine gTake 27 (v := ?_) rfl (by kernel_rfl) (by kernel_rfl) (by kernel_rfl) (fun _ _ _ h => h) (by kernel_rfl) ?_ hS0 ?_
        rotate_left
        · (intro W hW; clear hW; go_simp; try with_reducible rfl)
        refine gTake 28 (v := ?_) rfl (by kernel_rfl) (by kernel_rfl) (by kernel_rfl) (fun _ _ _ h => h) (by kernel_rfl) ?_ hS0 ?_
        rotate_left
        · (intro W hW; have q0 := hW.1; have q1 := hW.2.1; have q2 := hW.2.2.1; have q3 := hW.2.2.2.1; have q4 := hW.2.2.2.2.1; have q5 := hW.2.2.2.2.2.1; clear hW; go_simp; try with_reducible rfl)
        refine gOne 29 rfl (by kernel_rfl) (by kernel_rfl) (fun K hK => ?_)
        go_simp
        go_at_call 90
        (with_reducible refine (l06Rows_any A A2 cap cap2 xs ys _ (HR.out.1.below hS0.2.2.2.2.2.2) (HR.out.2.below hS0.2.2.2.2.2.2) hl hl2 HX.out.1 HX.out.2).mono ?_)
        rintro e wq0 ⟨rfl, hdq0⟩
        try go_simp
        have hS1 := (show wq0.cell? ⟨b1, 0, none⟩ = some (.string s) ∧ wq0.cell? ⟨b1, 1, none⟩ = some (.int .i64 a) ∧ wq0.cell? ⟨b1, 2, none⟩ = some (.slice A xs.length cap) ∧ wq0.cell? ⟨b2, 0, none⟩ = some (.string s) ∧ wq0.cell? ⟨b2, 1, none⟩ = some (.int .i64 a) ∧ wq0.cell? ⟨b2, 2, none⟩ = some (.slice A2 ys.length cap2) ∧ Below w.heap.size w wq0 from ⟨cellK hS0.1 hdq0, cellK hS0.2.1 hdq0, cellK hS0.2.2.1 hdq0, cellK hS0.2.2.2.1 hdq0, cellK hS0.2.2.2.2.1 hdq0, cellK hS0.2.2.2.2.2.1 hdq0, hS0.2.2.2.2.2.2.trans (hdq0.mono hS0.2.2.2.2.2.2.size)⟩)
        refine hK _ _ hS1 ?_
        clear hK K
        refine gTake 30 (v := ?_) rfl (by kernel_rfl) (by kernel_rfl) (by kernel_rfl) (fun _ _ _ h => h) (by kernel_rfl) ?_ hS1 ?_
        rotate_left
        · (intro W hW; clear hW; go_simp; try with_reducible rfl)
        refine gTake 31 (v := ?_) rfl (by kernel_rfl) (by kernel_rfl) (by kernel_rfl) (fun _ _ _ h => h) (by kernel_rfl) ?_ hS1 ?_
        rotate_left
        · (intro W hW; clear hW; go_simp; try with_reducible rfl)
        refine wpAnyH_done (by kernel_rfl) ?_ _
        go_simp
        go_wp2
        go_ret
        exact ⟨ret_bool HE.out.symm, hS1.2.2.2.2.2.2⟩
      · skip
        have HE := Lib.hid (show sameF s a xs s a ys = true by simp [sameF, of_decide_eq_true e3])
        go_enter Try.func50, Try.ntmps50
        go_wp2_with fail
        refine wp_region_held (S := fun w' => w'.cell? ⟨b1, 0, none⟩ = some (.string s) ∧ w'.cell? ⟨b1, 1, none⟩ = some (.int .i64 a) ∧ w'.cell? ⟨b1, 2, none⟩ = some (.slice A xs.length cap) ∧ w'.cell? ⟨b2, 0, none⟩ = some (.string s) ∧ w'.cell? ⟨b2, 1, none⟩ = some (.int .i64 a) ∧ w'.cell? ⟨b2, 2, none⟩ = some (.slice A2 ys.length cap2) ∧ Below w.heap.size w w') (by kernel_rfl) ?_
        try (change wpAnyH _ _ _ _ _ _ _ _ (World.drew _))
        have hS0 := (show w.drew.cell? ⟨b1, 0, none⟩ = some (.string s) ∧ w.drew.cell? ⟨b1, 1, none⟩ = some (.int .i64 a) ∧ w.drew.cell? ⟨b1, 2, none⟩ = some (.slice A xs.length cap) ∧ w.drew.cell? ⟨b2, 0, none⟩ = some (.string s) ∧ w.drew.cell? ⟨b2, 1, none⟩ = some (.int .i64 a) ∧ w.drew.cell? ⟨b2, 2, none⟩ = some (.slice A2 ys.length cap2) ∧ Below w.heap.size w w.drew from ⟨c0, c1, c2, d0, d1, d2, Below.drew (Below.refl _ _)⟩)
        refine gTake 0 (v := ?_) rfl (by kernel_rfl) (by kernel_rfl) (by kernel_rfl) (fun _ _ _ h => h) (by kernel_rfl) ?_ hS0 ?_
        rotate_left
        · (intro W hW; clear hW; go_simp; try with_reducible rfl)
        refine gTake 1 (v := ?_) rfl (by kernel_rfl) (by kernel_rfl) (by kernel_rfl) (fun _ _ _ h => h) (by kernel_rfl) ?_ hS0 ?_
        rotate_left
        · (intro W hW; clear hW; go_simp; try with_reducible rfl)
        refine gTake 2 (v := ?_) rfl (by kernel_rfl) (by kernel_rfl) (by kernel_rfl) (fun _ _ _ h => h) (by kernel_rfl) ?_ hS0 ?_
        rotate_left
        · (intro W hW; clear hW; go_simp; try with_reducible rfl)
        refine gTake 3 (v := ?_) rfl (by kernel_rfl) (by kernel_rfl) (by kernel_rfl) (fun _ _ _ h => h) (by kernel_rfl) ?_ hS0 ?_
        rotate_left
        · (intro W hW; have q0 := hW.1; have q1 := hW.2.1; have q2 := hW.2.2.1; have q3 := hW.2.2.2.1; have q4 := hW.2.2.2.2.1; have q5 := hW.2.2.2.2.2.1; clear hW; go_simp; try with_reducible rfl)
        refine gTake 4 (v := ?_) rfl (by kernel_rfl) (by kernel_rfl) (by kernel_rfl) (fun _ _ _ h => h) (by kernel_rfl) ?_ hS0 ?_
        rotate_left
        · (intro W hW; clear hW; go_simp; try with_reducible rfl)
        refine gTake 5 (v := ?_) rfl (by kernel_rfl) (by kernel_rfl) (by kernel_rfl) (fun _ _ _ h => h) (by kernel_rfl) ?_ hS0 ?_
        rotate_left
        · (intro W hW; clear hW; go_simp; try with_reducible rfl)
        refine gTake 6 (v := ?_) rfl (by kernel_rfl) (by kernel_rfl) (by kernel_rfl) (fun _ _ _ h => h) (by kernel_rfl) ?_ hS0 ?_
        rotate_left
        · (intro W hW; clear hW; go_simp; try with_reducible rfl)
        refine gTake 7 (v := ?_) rfl (by kernel_rfl) (by kernel_rfl) (by kernel_rfl) (fun _ _ _ h => h) (by kernel_rfl) ?_ hS0 ?_
        rotate_left
        · (intro W hW; have q0 := hW.1; have q1 := hW.2.1; have q2 := hW.2.2.1; have q3 := hW.2.2.2.1; have q4 := hW.2.2.2.2.1; have q5 := hW.2.2.2.2.2.1; clear hW; go_simp; try with_reducible rfl)
        refine gTake 8 (v := ?_) rfl (by kernel_rfl) (by kernel_rfl) (by kernel_rfl) (fun _ _ _ h => h) (by kernel_rfl) ?_ hS0 ?_
        rotate_left
        · (intro W hW; clear hW; go_simp; try with_reducible rfl)
        refine gTake 9 (v := ?_) rfl (by kernel_rfl) (by kernel_rfl) (by kernel_rfl) (fun _ _ _ h => h) (by kernel_rfl) ?_ hS0 ?_
        rotate_left
        · (intro W hW; clear hW; go_simp; try with_reducible rfl)
        refine gTake 10 (v := ?_) rfl (by kernel_rfl) (by kernel_rfl) (by kernel_rfl) (fun _ _ _ h => h) (by kernel_rfl) ?_ hS0 ?_
        rotate_left
        · (intro W hW; clear hW; go_simp; try with_reducible rfl)
        refine gTake 11 (v := ?_) rfl (by kernel_rfl) (by kernel_rfl) (by kernel_rfl) (fun _ _ _ h => h) (by kernel_rfl) ?_ hS0 ?_
        rotate_left
        · (intro W hW; clear hW; go_simp; try with_reducible rfl)
        refine gTake 12 (v := ?_) rfl (by kernel_rfl) (by kernel_rfl) (by kernel_rfl) (fun _ _ _ h => h) (by kernel_rfl) ?_ hS0 ?_
        rotate_left
        · (intro W hW; clear hW; go_simp; try with_reducible rfl)
        refine gTake 13 (v := ?_) rfl (by kernel_rfl) (by kernel_rfl) (by kernel_rfl) (fun _ _ _ h => h) (by kernel_rfl) ?_ hS0 ?_
        rotate_left
        · (intro W hW; have q0 := hW.1; have q1 := hW.2.1; have q2 := hW.2.2.1; have q3 := hW.2.2.2.1; have q4 := hW.2.2.2.2.1; have q5 := hW.2.2.2.2.2.1; clear hW; go_simp; try with_reducible rfl)
        refine gTake 14 (v := ?_) rfl (by kernel_rfl) (by kernel_rfl) (by kernel_rfl) (fun _ _ _ h => h) (by kernel_rfl) ?_ hS0 ?_
        rotate_left
        · (intro W hW; clear hW; go_simp; try with_reducible rfl)
        refine gTake 15 (v := ?_) rfl (by kernel_rfl) (by kernel_rfl) (by kernel_rfl) (fun _ _ _ h => h) (by kernel_rfl) ?_ hS0 ?_
        rotate_left
        · (intro W hW; clear hW; go_simp; try with_reducible rfl)
        refine gTake 16 (v := ?_) rfl (by kernel_rfl) (by kernel_rfl) (by kernel_rfl) (fun _ _ _ h => h) (by kernel_rfl) ?_ hS0 ?_
        rotate_left
        · (intro W hW; clear hW; go_simp; try with_reducible rfl)
        refine gTake 17 (v := ?_) rfl (by kernel_rfl) (by kernel_rfl) (by kernel_rfl) (fun _ _ _ h => h) (by kernel_rfl) ?_ hS0 ?_
        rotate_left
        · (intro W hW; have q0 := hW.1; have q1 := hW.2.1; have q2 := hW.2.2.1; have q3 := hW.2.2.2.1; have q4 := hW.2.2.2.2.1; have q5 := hW.2.2.2.2.2.1; clear hW; go_simp; try with_reducible rfl)
        refine gTake 18 (v := ?_) rfl (by kernel_rfl) (by kernel_rfl) (by kernel_rfl) (fun _ _ _ h => h) (by kernel_rfl) ?_ hS0 ?_
        rotate_left
        · (intro W hW; clear hW; go_simp; try with_reducible rfl)
        refine gTake 19 (v := ?_) rfl (by kernel_rfl) (by kernel_rfl) (by kernel_rfl) (fun _ _ _ h => h) (by kernel_rfl) ?_ hS0 ?_
        rotate_left
        · (intro W hW; clear hW; go_simp; try with_reducible rfl)
        refine gTake 20 (v := ?_) rfl (by kernel_rfl) (by kernel_rfl) (by kernel_rfl) (fun _ _ _ h => h) (by kernel_rfl) ?_ hS0 ?_
        rotate_left
        · (intro W hW; clear hW; go_simp; try with_reducible rfl)
        refine gTake 21 (v := ?_) rfl (by kernel_rfl) (by kernel_rfl) (by kernel_rfl) (fun _ _ _ h => h) (by kernel_rfl) ?_ hS0 ?_
        rotate_left
        · (intro W hW; clear hW; go_simp; try with_reducible rfl)
        refine gTake 22 (v := ?_) rfl (by kernel_rfl) (by kernel_rfl) (by kernel_rfl) (fun _ _ _ h => h) (by kernel_rfl) ?_ hS0 ?_
        rotate_left
        · (intro W hW; clear hW; go_simp; try with_reducible rfl)
        refine gTake 23 (v := ?_) rfl (by kernel_rfl) (by kernel_rfl) (by kernel_rfl) (fun _ _ _ h => h) (by kernel_rfl) ?_ hS0 ?_
        rotate_left
        · (intro W hW; clear hW; go_simp; try with_reducible rfl)
        refine gTake 24 (v := ?_) rfl (by kernel_rfl) (by kernel_rfl) (by kernel_rfl) (fun _ _ _ h => h) (by kernel_rfl) ?_ hS0 ?_
        rotate_left
        · (intro W hW; have q0 := hW.1; have q1 := hW.2.1; have q2 := hW.2.2.1; have q3 := hW.2.2.2.1; have q4 := hW.2.2.2.2.1; have q5 := hW.2.2.2.2.2.1; clear hW; go_simp; try with_reducible rfl)
        refine gTake 25 (v := ?_) rfl (by kernel_rfl) (by kernel_rfl) (by kernel_rfl) (fun _ _ _ h => h) (by kernel_rfl) ?_ hS0 ?_
        rotate_left
        · (intro W hW; clear hW; go_simp; try with_reducible rfl)
        refine gTake 26 (v := ?_) rfl (by kernel_rfl) (by kernel_rfl) (by kernel_rfl) (fun _ _ _ h => h) (by kernel_rfl) ?_ hS0 ?_
        rotate_left
        · (intro W hW; clear hW; go_simp; try with_reducible rfl)
        refine gTake 27 (v := ?_) rfl (by kernel_rfl) (by kernel_rfl) (by kernel_rfl) (fun _ _ _ h => h) (by kernel_rfl) ?_ hS0 ?_
        rotate_left
        · (intro W hW; clear hW; go_simp; try with_reducible rfl)
        refine gTake 28 (v := ?_) rfl (by kernel_rfl) (by kernel_rfl) (by kernel_rfl) (fun _ _ _ h => h) (by kernel_rfl) ?_ hS0 ?_
        rotate_left
        · (intro W hW; have q0 := hW.1; have q1 := hW.2.1; have q2 := hW.2.2.1; have q3 := hW.2.2.2.1; have q4 := hW.2.2.2.2.1; have q5 := hW.2.2.2.2.2.1; clear hW; go_simp; try with_reducible rfl)
        refine gOne 29 rfl (by kernel_rfl) (by kernel_rfl) (fun K hK => ?_)
        go_simp
        go_at_call 90
        (with_reducible refine (l06Rows_any A A2 cap cap2 xs ys _ (HR.out.1.below hS0.2.2.2.2.2.2) (HR.out.2.below hS0.2.2.2.2.2.2) hl hl2 HX.out.1 HX.out.2).mono ?_)
        rintro e wq0 ⟨rfl, hdq0⟩
        try go_simp
        have hS1 := (show wq0.cell? ⟨b1, 0, none⟩ = some (.string s) ∧ wq0.cell? ⟨b1, 1, none⟩ = some (.int .i64 a) ∧ wq0.cell? ⟨b1, 2, none⟩ = some (.slice A xs.length cap) ∧ wq0.cell? ⟨b2, 0, none⟩ = some (.string s) ∧ wq0.cell? ⟨b2, 1, none⟩ = some (.int .i64 a) ∧ wq0.cell? ⟨b2, 2, none⟩ = some (.slice A2 ys.length cap2) ∧ Below w.heap.size w wq0 from ⟨cellK hS0.1 hdq0, cellK hS0.2.1 hdq0, cellK hS0.2.2.1 hdq0, cellK hS0.2.2.2.1 hdq0, cellK hS0.2.2.2.2.1 hdq0, cellK hS0.2.2.2.2.2.1 hdq0, hS0.2.2.2.2.2.2.trans (hdq0.mono hS0.2.2.2.2.2.2.size)⟩)
        refine hK _ _ hS1 ?_
        clear hK K
        refine gTake 30 (v := ?_) rfl (by kernel_rfl) (by kernel_rfl) (by kernel_rfl) (fun _ _ _ h => h) (by kernel_rfl) ?_ hS1 ?_
        rotate_left
        · (intro W hW; clear hW; go_simp; try with_reducible rfl)
        refine gTake 31 (v := ?_) rfl (by kernel_rfl) (by kernel_rfl) (by kernel_rfl) (fun _ _ _ h => h) (by kernel_rfl) ?_ hS1 ?_
        rotate_left
        · (intro W hW; clear hW; go_simp; try with_reducible rfl)
        refine wpAnyH_done (by kernel_rfl) ?_ _
        go_simp
        go_wp2
        go_ret
        exact ⟨ret_bool HE.out.symm, hS1.2.2.2.2.2.2⟩
    · have e2b : (a == a2) = false := beq_eq_false_iff_ne.2 e2
      have HE := Lib.hid (show sameF s a xs s a2 ys = false by simp [sameF, e2])
      go_enter Try.func50, Try.ntmps50
      go_wp2_with fail
      refine wp_region_held (S := fun w' => w'.cell? ⟨b1, 0, none⟩ = some (.string s) ∧ w'.cell? ⟨b1, 1, none⟩ = some (.int .i64 a) ∧ w'.cell? ⟨b1, 2, none⟩ = some (.slice A xs.length cap) ∧ w'.cell? ⟨b2, 0, none⟩ = some (.string s) ∧ w'.cell? ⟨b2, 1, none⟩ = some (.int .i64 a2) ∧ w'.cell? ⟨b2, 2, none⟩ = some (.slice A2 ys.length cap2) ∧ Below w.heap.size w w') (by kernel_rfl) ?_
      try (change wpAnyH _ _ _ _ _ _ _ _ (World.drew _))
      have hS0 := (show w.drew.cell? ⟨b1, 0, none⟩ = some (.string s) ∧ w.drew.cell? ⟨b1, 1, none⟩ = some (.int .i64 a) ∧ w.drew.cell? ⟨b1, 2, none⟩ = some (.slice A xs.length cap) ∧ w.drew.cell? ⟨b2, 0, none⟩ = some (.string s) ∧ w.drew.cell? ⟨b2, 1, none⟩ = some (.int .i64 a2) ∧ w.drew.cell? ⟨b2, 2, none⟩ = some (.slice A2 ys.length cap2) ∧ Below w.heap.size w w.drew from ⟨c0, c1, c2, d0, d1, d2, Below.drew (Below.refl _ _)⟩)
      refine gTake 0 (v := ?_) rfl (by kernel_rfl) (by kernel_rfl) (by kernel_rfl) (fun _ _ _ h => h) (by kernel_rfl) ?_ hS0 ?_
      rotate_left
      · (intro W hW; clear hW; go_simp; try with_reducible rfl)
      refine gTake 1 (v := ?_) rfl (by kernel_rfl) (by kernel_rfl) (by kernel_rfl) (fun _ _ _ h => h) (by kernel_rfl) ?_ hS0 ?_
      rotate_left
      · (intro W hW; clear hW; go_simp; try with_reducible rfl)
      refine gTake 2 (v := ?_) rfl (by kernel_rfl) (by kernel_rfl) (by kernel_rfl) (fun _ _ _ h => h) (by kernel_rfl) ?_ hS0 ?_
      rotate_left
      · (intro W hW; clear hW; go_simp; try with_reducible rfl)
      refine gTake 3 (v := ?_) rfl (by kernel_rfl) (by kernel_rfl) (by kernel_rfl) (fun _ _ _ h => h) (by kernel_rfl) ?_ hS0 ?_
      rotate_left
      · (intro W hW; have q0 := hW.1; have q1 := hW.2.1; have q2 := hW.2.2.1; have q3 := hW.2.2.2.1; have q4 := hW.2.2.2.2.1; have q5 := hW.2.2.2.2.2.1; clear hW; go_simp; try with_reducible rfl)
      refine gTake 4 (v := ?_) rfl (by kernel_rfl) (by kernel_rfl) (by kernel_rfl) (fun _ _ _ h => h) (by kernel_rfl) ?_ hS0 ?_
      rotate_left
      · (intro W hW; clear hW; go_simp; try with_reducible rfl)
      refine gTake 5 (v := ?_) rfl (by kernel_rfl) (by kernel_rfl) (by kernel_rfl) (fun _ _ _ h => h) (by kernel_rfl) ?_ hS0 ?_
      rotate_left
      · (intro W hW; clear hW; go_simp; try with_reducible rfl)
      refine gTake 6 (v := ?_) rfl (by kernel_rfl) (by kernel_rfl) (by kernel_rfl) (fun _ _ _ h => h) (by kernel_rfl) ?_ hS0 ?_
      rotate_left
      · (intro W hW; clear hW; go_simp; try with_reducible rfl)
      refine gTake 7 (v := ?_) rfl (by kernel_rfl) (by kernel_rfl) (by kernel_rfl) (fun _ _ _ h => h) (by kernel_rfl) ?_ hS0 ?_
      rotate_left
      · (intro W hW; have q0 := hW.1; have q1 := hW.2.1; have q2 := hW.2.2.1; have q3 := hW.2.2.2.1; have q4 := hW.2.2.2.2.1; have q5 := hW.2.2.2.2.2.1; clear hW; go_simp; try with_reducible rfl)
      refine gTake 8 (v := ?_) rfl (by kernel_rfl) (by kernel_rfl) (by kernel_rfl) (fun _ _ _ h => h) (by kernel_rfl) ?_ hS0 ?_
      rotate_left
      · (intro W hW; clear hW; go_simp; try with_reducible rfl)
      refine gTake 9 (v := ?_) rfl (by kernel_rfl) (by kernel_rfl) (by kernel_rfl) (fun _ _ _ h => h) (by kernel_rfl) ?_ hS0 ?_
      rotate_left
      · (intro W hW; clear hW; go_simp; try with_reducible rfl)
      refine gTake 10 (v := ?_) rfl (by kernel_rfl) (by kernel_rfl) (by kernel_rfl) (fun _ _ _ h => h) (by kernel_rfl) ?_ hS0 ?_
      rotate_left
      · (intro W hW; clear hW; go_simp; try with_reducible rfl)
      refine gTake 11 (v := ?_) rfl (by kernel_rfl) (by kernel_rfl) (by kernel_rfl) (fun _ _ _ h => h) (by kernel_rfl) ?_ hS0 ?_
      rotate_left
      · (intro W hW; clear hW; go_simp; try with_reducible rfl)
      refine gTake 12 (v := ?_) rfl (by kernel_rfl) (by kernel_rfl) (by kernel_rfl) (fun _ _ _ h => h) (by kernel_rfl) ?_ hS0 ?_
      rotate_left
      · (intro W hW; clear hW; go_simp; try with_reducible rfl)
      refine gTake 13 (v := ?_) rfl (by kernel_rfl) (by kernel_rfl) (by kernel_rfl) (fun _ _ _ h => h) (by kernel_rfl) ?_ hS0 ?_
      rotate_left
      · (intro W hW; have q0 := hW.1; have q1 := hW.2.1; have q2 := hW.2.2.1; have q3 := hW.2.2.2.1; have q4 := hW.2.2.2.2.1; have q5 := hW.2.2.2.2.2.1; clear hW; go_simp; try with_reducible rfl)
      refine gTake 14 (v := ?_) rfl (by kernel_rfl) (by kernel_rfl) (by kernel_rfl) (fun _ _ _ h => h) (by kernel_rfl) ?_ hS0 ?_
      rotate_left
      · (intro W hW; clear hW; go_simp; try with_reducible rfl)
      refine gTake 15 (v := ?_) rfl (by kernel_rfl) (by kernel_rfl) (by kernel_rfl) (fun _ _ _ h => h) (by kernel_rfl) ?_ hS0 ?_
      rotate_left
      · (intro W hW; clear hW; go_simp; try with_reducible rfl)
      refine gTake 16 (v := ?_) rfl (by kernel_rfl) (by kernel_rfl) (by kernel_rfl) (fun _ _ _ h => h) (by kernel_rfl) ?_ hS0 ?_
      rotate_left
      · (intro W hW; clear hW; go_simp; try with_reducible rfl)
      refine gTake 17 (v := ?_) rfl (by kernel_rfl) (by kernel_rfl) (by kernel_rfl) (fun _ _ _ h => h) (by kernel_rfl) ?_ hS0 ?_
      rotate_left
      · (intro W hW; have q0 := hW.1; have q1 := hW.2.1; have q2 := hW.2.2.1; have q3 := hW.2.2.2.1; have q4 := hW.2.2.2.2.1; have q5 := hW.2.2.2.2.2.1; clear hW; go_simp; try with_reducible rfl)
      refine gTake 18 (v := ?_) rfl (by kernel_rfl) (by kernel_rfl) (by kernel_rfl) (fun _ _ _ h => h) (by kernel_rfl) ?_ hS0 ?_
      rotate_left
      · (intro W hW; clear hW; go_simp; try with_reducible rfl)
      refine gTake 19 (v := ?_) rfl (by kernel_rfl) (by kernel_rfl) (by kernel_rfl) (fun _ _ _ h => h) (by kernel_rfl) ?_ hS0 ?_
      rotate_left
      · (intro W hW; clear hW; go_simp; try with_reducible rfl)
      refine gTake 20 (v := ?_) rfl (by kernel_rfl) (by kernel_rfl) (by kernel_rfl) (fun _ _ _ h => h) (by kernel_rfl) ?_ hS0 ?_
      rotate_left
      · (intro W hW; clear hW; go_simp; try with_reducible rfl)
      refine gSkip 21 rfl (by kernel_rfl) (by kernel_rfl) (by kernel_rfl) (fun _ _ _ h => h) (by kernel_rfl) hS0 ?_
      refine gSkip 22 rfl (by kernel_rfl) (by kernel_rfl) (by kernel_rfl) (fun _ _ _ h => h) (by kernel_rfl) hS0 ?_
      refine gSkip 23 rfl (by kernel_rfl) (by kernel_rfl) (by kernel_rfl) (fun _ _ _ h => h) (by kernel_rfl) hS0 ?_
      refine gSkip 24 rfl (by kernel_rfl) (by kernel_rfl) (by kernel_rfl) (fun _ _ _ h => h) (by kernel_rfl) hS0 ?_
      refine gSkip 25 rfl (by kernel_rfl) (by kernel_rfl) (by kernel_rfl) (fun _ _ _ h => h) (by kernel_rfl) hS0 ?_
      refine gSkip 26 rfl (by kernel_rfl) (by kernel_rfl) (by kernel_rfl) (fun _ _ _ h => h) (by kernel_rfl) hS0 ?_
      refine gSkip 27 rfl (by kernel_rfl) (by kernel_rfl) (by kernel_rfl) (fun _ _ _ h => h) (by kernel_rfl) hS0 ?_
      refine gSkip 28 rfl (by kernel_rfl) (by kernel_rfl) (by kernel_rfl) (fun _ _ _ h => h) (by kernel_rfl) hS0 ?_
      refine gSkip 29 rfl (by kernel_rfl) (by kernel_rfl) (by kernel_rfl) (fun _ _ _ h => h) (by kernel_rfl) hS0 ?_
      refine gTake 30 (v := ?_) rfl (by kernel_rfl) (by kernel_rfl) (by kernel_rfl) (fun _ _ _ h => h) (by kernel_rfl) ?_ hS0 ?_
      rotate_left
      · (intro W hW; clear hW; go_simp; try with_reducible rfl)
      refine gTake 31 (v := ?_) rfl (by kernel_rfl) (by kernel_rfl) (by kernel_rfl) (fun _ _ _ h => h) (by kernel_rfl) ?_ hS0 ?_
      rotate_left
      · (intro W hW; clear hW; go_simp; try with_reducible rfl)
      refine wpAnyH_done (by kernel_rfl) ?_ _
      go_simp
      go_wp2
      go_ret
      exact ⟨ret_bool HE.out.symm, hS0.2.2.2.2.2.2⟩
  · obtain ⟨e1b, e1c⟩ := fan_str_ne e1
    have HE := Lib.hid (show sameF s a xs s2 a2 ys = false by simp [sameF, e1])
    go_enter Try.func50, Try.ntmps50
    go_wp2_with fail
    refine wp_region_held (S := fun w' => w'.cell? ⟨b1, 0, none⟩ = some (.string s) ∧ w'.cell? ⟨b1, 1, none⟩ = some (.int .i64 a) ∧ w'.cell? ⟨b1, 2, none⟩ = some (.slice A xs.length cap) ∧ w'.cell? ⟨b2, 0, none⟩ = some (.string s2) ∧ w'.cell? ⟨b2, 1, none⟩ = some (.int .i64 a2) ∧ w'.cell? ⟨b2, 2, none⟩ = some (.slice A2 ys.length cap2) ∧ Below w.heap.size w w') (by kernel_rfl) ?_
    try (change wpAnyH _ _ _ _ _ _ _ _ (World.drew _))
    have hS0 := (show w.drew.cell? ⟨b1, 0, none⟩ = some (.string s) ∧ w.drew.cell? ⟨b1, 1, none⟩ = some (.int .i64 a) ∧ w.drew.cell? ⟨b1, 2, none⟩ = some (.slice A xs.length cap) ∧ w.drew.cell? ⟨b2, 0, none⟩ = some (.string s2) ∧ w.drew.cell? ⟨b2, 1, none⟩ = some (.int .i64 a2) ∧ w.drew.cell? ⟨b2, 2, none⟩ = some (.slice A2 ys.length cap2) ∧ Below w.heap.size w w.drew from ⟨c0, c1, c2, d0, d1, d2, Below.drew (Below.refl _ _)⟩)
    refine gTake 0 (v := ?_) rfl (by kernel_rfl) (by kernel_rfl) (by kernel_rfl) (fun _ _ _ h => h) (by kernel_rfl) ?_ hS0 ?_
    rotate_left
    · (intro W hW; clear hW; go_simp; try with_reducible rfl)
    refine gTake 1 (v := ?_) rfl (by kernel_rfl) (by kernel_rfl) (by kernel_rfl) (fun _ _ _ h => h) (by kernel_rfl) ?_ hS0 ?_
    rotate_left
    · (intro W hW; clear hW; go_simp; try with_reducible rfl)
    refine gTake 2 (v := ?_) rfl (by kernel_rfl) (by kernel_rfl) (by kernel_rfl) (fun _ _ _ h => h) (by kernel_rfl) ?_ hS0 ?_
    rotate_left
    · (intro W hW; clear hW; go_simp; try with_reducible rfl)
    refine gTake 3 (v := ?_) rfl (by kernel_rfl) (by kernel_rfl) (by kernel_rfl) (fun _ _ _ h => h) (by kernel_rfl) ?_ hS0 ?_
    rotate_left
    · (intro W hW; have q0 := hW.1; have q1 := hW.2.1; have q2 := hW.2.2.1; have q3 := hW.2.2.2.1; have q4 := hW.2.2.2.2.1; have q5 := hW.2.2.2.2.2.1; clear hW; go_simp; try with_reducible rfl)
    refine gTake 4 (v := ?_) rfl (by kernel_rfl) (by kernel_rfl) (by kernel_rfl) (fun _ _ _ h => h) (by kernel_rfl) ?_ hS0 ?_
    rotate_left
    · (intro W hW; clear hW; go_simp; try with_reducible rfl)
    refine gTake 5 (v := ?_) rfl (by kernel_rfl) (by kernel_rfl) (by kernel_rfl) (fun _ _ _ h => h) (by kernel_rfl) ?_ hS0 ?_
    rotate_left
    · (intro W hW; clear hW; go_simp; try with_reducible rfl)
    refine gTake 6 (v := ?_) rfl (by kernel_rfl) (by kernel_rfl) (by kernel_rfl) (fun _ _ _ h => h) (by kernel_rfl) ?_ hS0 ?_
    rotate_left
    · (intro W hW; clear hW; go_simp; try with_reducible rfl)
    refine gTake 7 (v := ?_) rfl (by kernel_rfl) (by kernel_rfl) (by kernel_rfl) (fun _ _ _ h => h) (by kernel_rfl) ?_ hS0 ?_
    rotate_left
    · (intro W hW; have q0 := hW.1; have q1 := hW.2.1; have q2 := hW.2.2.1; have q3 := hW.2.2.2.1; have q4 := hW.2.2.2.2.1; have q5 := hW.2.2.2.2.2.1; clear hW; go_simp; try with_reducible rfl)
    refine gTake 8 (v := ?_) rfl (by kernel_rfl) (by kernel_rfl) (by kernel_rfl) (fun _ _ _ h => h) (by kernel_rfl) ?_ hS0 ?_
    rotate_left
    · (intro W hW; clear hW; go_simp; try with_reducible rfl)
    refine gTake 9 (v := ?_) rfl (by kernel_rfl) (by kernel_rfl) (by kernel_rfl) (fun _ _ _ h => h) (by kernel_rfl) ?_ hS0 ?_
    rotate_left
    · (intro W hW; clear hW; go_simp; try with_reducible rfl)
    refine gSkip 10 rfl (by kernel_rfl) (by kernel_rfl) (by kernel_rfl) (fun _ _ _ h => h) (by kernel_rfl) hS0 ?_
    refine gSkip 11 rfl (by kernel_rfl) (by kernel_rfl) (by kernel_rfl) (fun _ _ _ h => h) (by kernel_rfl) hS0 ?_
    refine gSkip 12 rfl (by kernel_rfl) (by kernel_rfl) (by kernel_rfl) (fun _ _ _ h => h) (by kernel_rfl) hS0 ?_
    refine gSkip 13 rfl (by kernel_rfl) (by kernel_rfl) (by kernel_rfl) (fun _ _ _ h => h) (by kernel_rfl) hS0 ?_
    refine gSkip 14 rfl (by kernel_rfl) (by kernel_rfl) (by kernel_rfl) (fun _ _ _ h => h) (by kernel_rfl) hS0 ?_
    refine gSkip 15 rfl (by kernel_rfl) (by kernel_rfl) (by kernel_rfl) (fun _ _ _ h => h) (by kernel_rfl) hS0 ?_
    refine gSkip 16 rfl (by kernel_rfl) (by kernel_rfl) (by kernel_rfl) (fun _ _ _ h => h) (by kernel_rfl) hS0 ?_
    refine gSkip 17 rfl (by kernel_rfl) (by kernel_rfl) (by kernel_rfl) (fun _ _ _ h => h) (by kernel_rfl) hS0 ?_
    refine gSkip 18 rfl (by kernel_rfl) (by kernel_rfl) (by kernel_rfl) (fun _ _ _ h => h) (by kernel_rfl) hS0 ?_
    refine gTake 19 (v := ?_) rfl (by kernel_rfl) (by kernel_rfl) (by kernel_rfl) (fun _ _ _ h => h) (by kernel_rfl) ?_ hS0 ?_
    rotate_left
    · (intro W hW; clear hW; go_simp; try with_reducible rfl)
    refine gTake 20 (v := ?_) rfl (by kernel_rfl) (by kernel_rfl) (by kernel_rfl) (fun _ _ _ h => h) (by kernel_rfl) ?_ hS0 ?_
    rotate_left
    · (intro W hW; clear hW; go_simp; try with_reducible rfl)
    refine gSkip 21 rfl (by kernel_rfl) (by kernel_rfl) (by kernel_rfl) (fun _ _ _ h => h) (by kernel_rfl) hS0 ?_
    refine gSkip 22 rfl (by kernel_rfl) (by kernel_rfl) (by kernel_rfl) (fun _ _ _ h => h) (by kernel_rfl) hS0 ?_
    refine gSkip 23 rfl (by kernel_rfl) (by kernel_rfl) (by kernel_rfl) (fun _ _ _ h => h) (by kernel_rfl) hS0 ?_
    refine gSkip 24 rfl (by kernel_rfl) (by kernel_rfl) (by kernel_rfl) (fun _ _ _ h => h) (by kernel_rfl) hS0 ?_
    refine gSkip 25 rfl (by kernel_rfl) (by kernel_rfl) (by kernel_rfl) (fun _ _ _ h => h) (by kernel_rfl) hS0 ?_
    refine gSkip 26 rfl (by kernel_rfl) (by kernel_rfl) (by kernel_rfl) (fun _ _ _ h => h) (by kernel_rfl) hS0 ?_
    refine gSkip 27 rfl (by kernel_rfl) (by kernel_rfl) (by kernel_rfl) (fun _ _ _ h => h) (by kernel_rfl) hS0 ?_
    refine gSkip 28 rfl (by kernel_rfl) (by kernel_rfl) (by kernel_rfl) (fun _ _ _ h => h) (by kernel_rfl) hS0 ?_
    refine gSkip 29 rfl (by kernel_rfl) (by kernel_rfl) (by kernel_rfl) (fun _ _ _ h => h) (by kernel_rfl) hS0 ?_
    refine gTake 30 (v := ?_) rfl (by kernel_rfl) (by kernel_rfl) (by kernel_rfl) (fun _ _ _ h => h) (by kernel_rfl) ?_ hS0 ?_
    rotate_left
    · (intro W hW; clear hW; go_simp; try with_reducible rfl)
    refine gTake 31 (v := ?_) rfl (by kernel_rfl) (by kernel_rfl) (by kernel_rfl) (fun _ _ _ h => h) (by kernel_rfl) ?_ hS0 ?_
    rotate_left
    · (intro W hW; clear hW; go_simp; try with_reducible rfl)
    refine wpAnyH_done (by kernel_rfl) ?_ _
    go_simp
    go_wp2
    go_ret
    exact ⟨ret_bool HE.out.symm, hS0.2.2.2.2.2.2⟩
theorem sSameFan_any (s : ByteArray) (a : Int) (A : Option Addr) (cap : Nat) (xs : List (List Int)) (s2 : ByteArray) (a2 : Int) (A2 : Option Addr) (cap2 : Nat) (ys : List (List Int)) (w : World) (hr : RowsR w A xs) (hl : xs.length ≤ 1048576) (hx : ∀ r ∈ xs, r.length ≤ 1048576) (hr2 : RowsR w A2 ys) (hl2 : ys.length ≤ 1048576) (hy : ∀ r ∈ ys, r.length ≤ 1048576) :
    Calls Try.prog 23 #[.agg #[.string s, .int .i64 a, .slice A xs.length cap], .agg #[.string s2, .int .i64 a2, .slice A2 ys.length cap2]] w fun e w' => e = .returned (.bool (sameF s a xs s2 a2 ys)) ∧ Below w.heap.size w w' := by
  have hB : Below w.heap.size w ((w.alloc (.cells #[.string s, .int .i64 a, .slice A xs.length cap] 27)).alloc (.cells #[.string s2, .int .i64 a2, .slice A2 ys.length cap2] 27)) := (below_box _ _).alloc (by simp) _
  have HR := Lib.hid (And.intro (hr.below hB) (hr2.below hB))
  have HX := Lib.hid (And.intro hx hy)
  have HB := Lib.hid hB
  clear hr hr2 hx hy hB
  go_enter Try.func23, Try.ntmps23
  go_wp2_with (go_at_call 50; (with_reducible refine (l06Same_below w.heap.size (w.heap.size + 1) s a A cap xs s2 a2 A2 cap2 ys _ (by simp) (by simp) (by simp) (by simp) (by simp) (by simp) HR.out.1 hl HX.out.1 HR.out.2 hl2 HX.out.2).mono ?_); rintro e w1 ⟨rfl, hd⟩)
  go_ret
  exact ⟨rfl, HB.out.trans (hd.mono HB.out.size)⟩
set_option maxHeartbeats 2000000 in
theorem iSameFan_any (s : ByteArray) (a : Int) (A : Option Addr) (cap : Nat) (xs : List (List Int)) (s2 : ByteArray) (a2 : Int) (A2 : Option Addr) (cap2 : Nat) (ys : List (List Int)) (w : World) (hr : RowsR w A xs) (hl : xs.length ≤ 1048576) (hx : ∀ r ∈ xs, r.length ≤ 1048576) (hr2 : RowsR w A2 ys) (hl2 : ys.length ≤ 1048576) (hy : ∀ r ∈ ys, r.length ≤ 1048576) :
    Calls Try.prog 24 #[.agg #[.string s, .int .i64 a, .slice A xs.length cap], .agg #[.string s2, .int .i64 a2, .slice A2 ys.length cap2]] w fun e w' => e = .returned (.bool (sameF s a xs s2 a2 ys)) ∧ Below w.heap.size w w' := by
  have hB : Below w.heap.size w ((w.alloc (.cells #[.string s, .int .i64 a, .slice A xs.length cap] 27)).alloc (.cells #[.string s2, .int .i64 a2, .slice A2 ys.length cap2] 27)) := (below_box _ _).alloc (by simp) _
  have HR := Lib.hid (And.intro (hr.below hB) (hr2.below hB))
  have HX := Lib.hid (And.intro hx hy)
  have HB := Lib.hid hB
  clear hr hr2 hx hy hB
  by_cases e1 : s = s2
  · subst e1
    by_cases e2 : a = a2
    · subst e2
      cases e3 : decide (xs = ys)
      · skip
        have HE := Lib.hid (show sameF s a xs s a ys = false by simp [sameF, of_decide_eq_false e3])
        go_enter Try.func24, Try.ntmps24
        go_wp2_with (go_at_call 51; (with_reducible refine (equalFunc_any A A2 cap cap2 xs ys _ HR.out.1 HR.out.2 hl hl2 HX.out.1 HX.out.2).mono ?_); rintro e w1 ⟨rfl, hd⟩)
        go_ret
        exact ⟨ret_bool HE.out.symm, HB.out.trans (hd.mono HB.out.size)⟩
      · skip
        have HE := Lib.hid (show sameF s a xs s a ys = true by simp [sameF, of_decide_eq_true e3])
        go_enter Try.func24, Try.ntmps24
        go_wp2_with (go_at_call 51; (with_reducible refine (equalFunc_any A A2 cap cap2 xs ys _ HR.out.1 HR.out.2 hl hl2 HX.out.1 HX.out.2).mono ?_); rintro e w1 ⟨rfl, hd⟩)
        go_ret
        exact ⟨ret_bool HE.out.symm, HB.out.trans (hd.mono HB.out.size)⟩
    · have e2b : (a == a2) = false := beq_eq_false_iff_ne.2 e2
      have HE := Lib.hid (show sameF s a xs s a2 ys = false by simp [sameF, e2])
      go_enter Try.func24, Try.ntmps24
      go_wp2_with (go_at_call 51; (with_reducible refine (equalFunc_any A A2 cap cap2 xs ys _ HR.out.1 HR.out.2 hl hl2 HX.out.1 HX.out.2).mono ?_); rintro e w1 ⟨rfl, hd⟩)
      go_ret
      exact ⟨ret_bool HE.out.symm, HB.out⟩
  · obtain ⟨e1b, e1c⟩ := fan_str_ne e1
    have HE := Lib.hid (show sameF s a xs s2 a2 ys = false by simp [sameF, e1])
    go_enter Try.func24, Try.ntmps24
    go_wp2_with (go_at_call 51; (with_reducible refine (equalFunc_any A A2 cap cap2 xs ys _ HR.out.1 HR.out.2 hl hl2 HX.out.1 HX.out.2).mono ?_); rintro e w1 ⟨rfl, hd⟩)
    go_ret
    exact ⟨ret_bool HE.out.symm, HB.out⟩
end Go.Proofs.Ytcnpddmghjjhjaa
