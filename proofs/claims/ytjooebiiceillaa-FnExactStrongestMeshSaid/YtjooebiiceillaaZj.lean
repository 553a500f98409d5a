/-
  Contracts of chapter 4: whether numbers are a walk; the program's. Conditions: those that each theorem states.
-/
import Derived.Test.YtjooebiiceillaaZi
import Derived.Test.YtjooebiiceillaaRg
namespace Go.Proofs.Ytjooebiiceillaa
open Go.RowKit
set_option linter.unusedVariables false
set_option linter.unusedSimpArgs false

theorem startOf_any (J : Int) (A : Option Addr) (cap : Nat) (xs : List Aw) (z : Int) (w : World) (hr : AwR w A xs) (hn : xs.length ≤ 24) (h0 : z ≠ 0) (h1 : -(xs.length : Int) ≤ z ∧ z ≤ xs.length) :
    Calls Try.prog 111 #[.agg #[.int .i64 J, .slice A xs.length cap], .int .i64 z] w fun e w' => e = .returned (.int .i64 (sfI xs z)) ∧ Below w.heap.size w w' := by
  have HB0 := Lib.hid (below_box w (.cells #[.int .i64 J, .slice A xs.length cap] 36))
  have HR := Lib.hid (hr.below HB0.out)
  obtain ⟨q, hq, -, hcase⟩ := step_aw h0 h1
  obtain ⟨g, off, rfl, hrg⟩ := HR.out q hq
  obtain ⟨⟨c0, c1, c2, c3⟩, c4, c5, c6⟩ := lay_row hrg
  obtain ⟨g', off', e', hrg'⟩ := hr q hq
  have hgb : g < w.heap.size := by
    obtain ⟨⟨d0, -⟩, -⟩ := lay_row hrg'
    injection e' with e'
    injection e' with e1 e2
    rw [e1]
    exact World.block_lt_of_cell? _ _ d0
  obtain ⟨⟨d0, d1, d2, d3⟩, d4, d5, d6⟩ := lay_row hrg'
  injection e' with e'
  injection e' with e1 e2
  subst e1 e2
  have hgn : ¬ (g = w.heap.size) := Nat.ne_of_lt hgb
  obtain ⟨HF1, HF2⟩ := sfI_pos hq
  have hqi : (q : Int) < (xs.length : Int) := by omega
  clear c0 c1 c2 c3 c4 c5 c6 d0 d3 d4 d5 d6 hrg hrg' hr h0 h1
  rcases hcase with ⟨hsg, hzq⟩ | ⟨hsg, hzq⟩
  · have HF := Lib.hid (show sfI xs z = xs[q].f by rw [hzq]; exact HF1)
    have hwm : IntKind.i64.wrap (z - 1) = (q : Int) := by rw [IntWalk.i64_in _ (by omega)]; omega
    have hzm : z - 1 = (q : Int) := by omega
    clear HF1 HF2 hzq
    generalize xs[q].f = f at *
    generalize xs[q].t = t at *
    go_enter Try.func111, Try.ntmps111
    go_wp2
    go_ret
    exact ⟨ret_int HF.out.symm, HB0.out⟩
  · have HF := Lib.hid (show sfI xs z = xs[q].t by rw [hzq]; exact HF2)
    have hz0 : ¬ 0 < z := by omega
    have hzd : decide (0 < z) = false := decide_eq_false hz0
    have hwn : IntKind.i64.wrap (-z) = -z := IntWalk.i64_in _ (by omega)
    have hwm : IntKind.i64.wrap (-z - 1) = (q : Int) := by rw [IntWalk.i64_in _ (by omega)]; omega
    have hzm : -z - 1 = (q : Int) := by omega
    clear HF1 HF2 hzq
    generalize xs[q].f = f at *
    generalize xs[q].t = t at *
    go_enter Try.func111, Try.ntmps111
    go_wp2
    go_ret
    exact ⟨ret_int HF.out.symm, HB0.out⟩
theorem index_no (v : Value) (zs : List Int) (c : Int) (w : World) (hv : RowW .i64 w v zs) (hl : zs.length ≤ 1048576) (h : ∀ j : Nat, j < zs.length → zs.getD j 0 ≠ c) :
    Calls Try.prog 125 #[v, .int .i64 c] w fun e w' => e = .returned (.int .i64 (-1)) ∧ w = w' := by
  obtain ⟨A, cap, rfl, _⟩ := id hv
  have HV := Lib.hid hv
  have HH := Lib.hid h
  clear hv h
  go_enter Try.func125, Try.ntmps125
  go_wp2
  go_loop [8] (fun i => ∃ k : Nat, k ≤ zs.length ∧ i = .int .i64 k) (fun i => zs.length - (intOf i).toNat)
  case atStart => exact ⟨0, by omega, rfl⟩
  case round =>
    obtain ⟨k, hk, rfl⟩ := hrel
    by_cases hlt : k < zs.length
    · obtain ⟨b, off, rfl, -, hc⟩ := RowW.cell HV.out hlt
      have hne := HH.out k hlt
      generalize zs.getD k 0 = z at *
      have hb1 : (c == z) = false := by simp; exact fun h => hne h.symm
      have hb2 : ¬ c = z := fun h => hne h.symm
      go_wp2
      go_round
      case rel => exact ⟨k + 1, by omega, by go_num⟩
      case measure => simp [intOf]; omega
    · obtain rfl : k = zs.length := by omega
      go_wp2
      go_ret
      exact ⟨rfl, rfl⟩
theorem index_yes (v : Value) (zs : List Int) (c : Int) (w : World) (hv : RowW .i64 w v zs) (hl : zs.length ≤ 1048576) (h : ∃ j : Nat, j < zs.length ∧ zs.getD j 0 = c) :
    Calls Try.prog 125 #[v, .int .i64 c] w fun e w' => (∃ k : Nat, e = .returned (.int .i64 (k : Int))) ∧ w = w' := by
  obtain ⟨A, cap, rfl, _⟩ := id hv
  have HV := Lib.hid hv
  have HH := Lib.hid h
  clear hv h
  go_enter Try.func125, Try.ntmps125
  go_wp2
  go_loop [8] (fun i => ∃ k : Nat, k ≤ zs.length ∧ i = .int .i64 k ∧ Hid (∀ j : Nat, j < k → zs.getD j 0 ≠ c)) (fun i => zs.length - (intOf i).toNat)
  case atStart => exact ⟨0, by omega, rfl, Lib.hid (fun j h => absurd h (by omega))⟩
  case round =>
    obtain ⟨k, hk, rfl, HN⟩ := hrel
    by_cases hlt : k < zs.length
    · obtain ⟨b, off, rfl, -, hc⟩ := RowW.cell HV.out hlt
      by_cases hne : zs.getD k 0 = c
      · rw [hne] at hc
        clear hne
        go_wp2
        go_ret
        exact ⟨⟨k, rfl⟩, rfl⟩
      · have HN2 := Lib.hid (up_to_snoc (P := fun j => zs.getD j 0 ≠ c) HN.out hne)
        generalize zs.getD k 0 = z at *
        have hb1 : (c == z) = false := by simp; exact fun h => hne h.symm
        have hb2 : ¬ c = z := fun h => hne h.symm
        go_wp2
        go_round
        case rel => exact ⟨k + 1, by omega, by go_num, HN2⟩
        case measure => simp [intOf]; omega
    · obtain ⟨j, hj, e⟩ := HH.out
      exact absurd e (HN.out j (by omega))
/-- Whether a number is among them. -/
def hasI (zs : List Int) (c : Int) : Bool := zs.any (fun y => decide (y = c))
theorem hasI_iff {zs : List Int} {c : Int} : hasI zs c = true ↔ ∃ j : Nat, j < zs.length ∧ zs.getD j 0 = c := by
  unfold hasI
  rw [List.any_eq_true]
  constructor
  · rintro ⟨y, hy, h⟩
    obtain ⟨j, hj, e⟩ := mem_at hy
    exact ⟨j, hj, e.trans (of_decide_eq_true h)⟩
  · rintro ⟨j, hj, e⟩
    exact ⟨_, at_mem hj, decide_eq_true e⟩
theorem contains_any (v : Value) (zs : List Int) (c : Int) (w : World) (hv : RowW .i64 w v zs) (hl : zs.length ≤ 1048576) :
    Calls Try.prog 110 #[v, .int .i64 c] w fun e w' => e = .returned (.bool (hasI zs c)) ∧ w = w' := by
  cases hh : hasI zs c
  · have h : ∀ j : Nat, j < zs.length → zs.getD j 0 ≠ c := fun j hj e => by
      rw [hasI_iff.2 ⟨j, hj, e⟩] at hh
      cases hh
    have HX := Lib.hid (index_no v zs c w hv hl h)
    clear hv h
    go_enter Try.func110, Try.ntmps110
    go_wp2_with (go_at_call 125; (with_reducible refine HX.out.mono ?_); rintro e w' ⟨rfl, rfl⟩)
    go_ret
    exact ⟨rfl, rfl⟩
  · have HX := Lib.hid (index_yes v zs c w hv hl (hasI_iff.1 hh))
    clear hv
    go_enter Try.func110, Try.ntmps110
    go_wp2_with (go_at_call 125; (with_reducible refine HX.out.mono ?_); rintro e w' ⟨⟨k, rfl⟩, rfl⟩; have hk0 : (0 : Int) ≤ (k : Int) := by omega)
    go_ret
    exact ⟨rfl, rfl⟩
theorem all_rng {xs : List Aw} {zs : List Int} (h : allR (-(xs.length : Int)) xs.length zs = true) (h0 : hasI zs 0 = false) : ∀ j : Nat, j < zs.length → zs.getD j 0 ≠ 0 ∧ -(xs.length : Int) ≤ zs.getD j 0 ∧ zs.getD j 0 ≤ xs.length := fun j hj => by
  refine ⟨fun e => ?_, allR_iff.1 h _ (at_mem hj)⟩
  rw [hasI_iff.2 ⟨j, hj, e⟩] at h0
  cases h0
theorem bad_rng {xs : List Aw} {zs : List Int} (h : allR (-(xs.length : Int)) xs.length zs = false) : wkR xs zs = false := by
  have h2 : ¬ ∀ y ∈ zs, -(xs.length : Int) ≤ y ∧ y ≤ xs.length := fun hh => by rw [allR_iff.2 hh] at h; cases h
  rw [← Bool.not_eq_true, wkR_iff]
  intro hh
  apply h2
  intro y hy
  obtain ⟨j, hj, rfl⟩ := mem_at hy
  exact (stp_parts (hh j hj)).2
theorem bad_zero {xs : List Aw} {zs : List Int} (h : hasI zs 0 = true) : wkR xs zs = false := by
  obtain ⟨j, hj, e⟩ := hasI_iff.1 h
  exact wkR_no hj (stp_zero e)
set_option maxHeartbeats 4000000 in
set_option maxRecDepth 100000 in
theorem isWalk_any (J : Int) (A : Option Addr) (cap : Nat) (xs : List Aw) (Z : Value) (zs : List Int) (w : World) (hr : AwR w A xs) (hz : Row .i64 w Z zs) (hzl : zs.length ≤ 64) (hn : xs.length ≤ 24) :
    Calls Try.prog 70 #[.agg #[.int .i64 J, .slice A xs.length cap], Z] w fun e w' => e = .returned (.bool (wkR xs zs)) ∧ Below w.heap.size w w' := by
  obtain ⟨ZA, zcap, rfl⟩ := hz.form
  have HB0 := Lib.hid (below_box w (.cells #[.int .i64 J, .slice A xs.length cap] 36))
  have HR := Lib.hid (hr.below HB0.out)
  have HZ := Lib.hid (hz.below HB0.out)
  have HZW := Lib.hid (RowW.of_row HZ.out)
  have E0 := Lib.hid (show (w.alloc (.cells #[.int .i64 J, .slice A xs.length cap] 36)).cell? ⟨w.heap.size, 0, none⟩ = some (.int .i64 J) ∧ (w.alloc (.cells #[.int .i64 J, .slice A xs.length cap] 36)).cell? ⟨w.heap.size, 1, none⟩ = some (.slice A xs.length cap) from ⟨by simp, by simp⟩)
  have hwn : IntKind.i64.wrap (-(xs.length : Int)) = -(xs.length : Int) := IntWalk.i64_in _ (by omega)
  clear hr hz
  cases hal : allR (-(xs.length : Int)) xs.length zs
  · have HE := Lib.hid (bad_rng hal)
    go_enter Try.func70, Try.ntmps70
    go_wp2_with (go_at_call 59; (with_reducible refine (within64_any _ _ _ zs _ HZ.out (by omega)).mono ?_); rintro e w' ⟨rfl, rfl⟩; rw [hal])
    go_ret
    exact ⟨ret_bool HE.out.symm, HB0.out⟩
  · cases hcz : hasI zs 0
    · have HA := Lib.hid (all_rng hal hcz)
      go_enter Try.func70, Try.ntmps70
      go_wp2_with (first
        | (go_at_call 59; (with_reducible refine (within64_any _ _ _ zs _ HZ.out (by omega)).mono ?_); rintro e w' ⟨rfl, rfl⟩; rw [hal])
        | (go_at_call 110; (with_reducible refine (contains_any _ zs 0 _ HZW.out (by omega)).mono ?_); rintro e w' ⟨rfl, rfl⟩; rw [hcz]))
      clear hal hcz
      go_loopw [23] (fun i wr => ∃ k : Nat, k ≤ zs.length ∧ i = .int .i64 k ∧ Hid (∀ j : Nat, j < k → stpB xs zs j = true) ∧ Hid (Below (w.alloc (.cells #[.int .i64 J, .slice A xs.length cap] 36)).heap.size (w.alloc (.cells #[.int .i64 J, .slice A xs.length cap] 36)) wr)) (fun i wr => zs.length - (intOf i).toNat)
      case atStart => exact ⟨0, by omega, rfl, Lib.hid (fun j h => absurd h (by omega)), Lib.hid (Below.refl _ _)⟩
      case round =>
        obtain ⟨k, hk, rfl, HP, hbel⟩ := hrel
        by_cases hlt : k < zs.length
        · have e0 := cell_keep E0.out.1 hbel.out
          have e1 := cell_keep E0.out.2 hbel.out
          have HR2 := Lib.hid (HR.out.below hbel.out)
          obtain ⟨zb, zo, rfl, -, hc⟩ := RowW.cell (HZW.out.below hbel.out) hlt
          have hlI : (k : Int) < (zs.length : Int) := by omega
          obtain ⟨hz0, hzi⟩ := HA.out k hlt
          cases k with
          | zero =>
            have HN := Lib.hid (up_to_snoc HP.out (stp_yes hz0 hzi (fun p h => absurd h (by omega))))
            rw [Nat.add_zero] at hc
            generalize zs.getD 0 0 = z at *
            go_wp2_with fail
            refine wp_region_held (S := fun w' => w'.cell? ⟨w.heap.size, 0, none⟩ = some (.int .i64 J) ∧ w'.cell? ⟨w.heap.size, 1, none⟩ = some (.slice A xs.length cap) ∧ Below wr.heap.size wr w') (by kernel_rfl) ?_
            try (change wpAnyH _ _ _ _ _ _ _ _ (World.drew _))
            have hS0 := (show wr.drew.cell? ⟨w.heap.size, 0, none⟩ = some (.int .i64 J) ∧ wr.drew.cell? ⟨w.heap.size, 1, none⟩ = some (.slice A xs.length cap) ∧ Below wr.heap.size wr wr.drew from ⟨e0, e1, Below.drew (Below.refl _ _)⟩)
            refine gTake 0 (v := ?_) rfl (by kernel_rfl) (by kernel_rfl) (by kernel_rfl) (fun _ _ _ h => h) (by kernel_rfl) ?_ hS0 ?_
            rotate_left
            · (intro W hW; clear hW; go_simp; try with_reducible rfl)
            refine gTake 1 (v := ?_) rfl (by kernel_rfl) (by kernel_rfl) (by kernel_rfl) (fun _ _ _ h => h) (by kernel_rfl) ?_ hS0 ?_
            rotate_left
            · (intro W hW; clear hW; go_simp; try with_reducible rfl)
            refine gTake 2 (v := ?_) rfl (by kernel_rfl) (by kernel_rfl) (by kernel_rfl) (fun _ _ _ h => h) (by kernel_rfl) ?_ hS0 ?_
            rotate_left
            · (intro W hW; clear hW; go_simp; try with_reducible rfl)
            refine gSkip 3 rfl (by kernel_rfl) (by kernel_rfl) (by kernel_rfl) (fun _ _ _ h => h) (by kernel_rfl) hS0 ?_
            refine gSkip 4 rfl (by kernel_rfl) (by kernel_rfl) (by kernel_rfl) (fun _ _ _ h => h) (by kernel_rfl) hS0 ?_
            refine gSkip 5 rfl (by kernel_rfl) (by kernel_rfl) (by kernel_rfl) (fun _ _ _ h => h) (by kernel_rfl) hS0 ?_
            refine gSkip 6 rfl (by kernel_rfl) (by kernel_rfl) (by kernel_rfl) (fun _ _ _ h => h) (by kernel_rfl) hS0 ?_
            refine gSkip 7 rfl (by kernel_rfl) (by kernel_rfl) (by kernel_rfl) (fun _ _ _ h => h) (by kernel_rfl) hS0 ?_
            refine gSkip 8 rfl (by kernel_rfl) (by kernel_rfl) (by kernel_rfl) (fun _ _ _ h => h) (by kernel_rfl) hS0 ?_
            refine gSkip 9 rfl (by kernel_rfl) (by kernel_rfl) (by kernel_rfl) (fun _ _ _ h => h) (by kernel_rfl) hS0 ?_
            refine gSkip 10 rfl (by kernel_rfl) (by kernel_rfl) (by kernel_rfl) (fun _ _ _ h => h) (by kernel_rfl) hS0 ?_
            refine gSkip 11 rfl (by kernel_rfl) (by kernel_rfl) (by kernel_rfl) (fun _ _ _ h => h) (by kernel_rfl) hS0 ?_
            refine gSkip 12 rfl (by kernel_rfl) (by kernel_rfl) (by kernel_rfl) (fun _ _ _ h => h) (by kernel_rfl) hS0 ?_
            refine gSkip 13 rfl (by kernel_rfl) (by kernel_rfl) (by kernel_rfl) (fun _ _ _ h => h) (by kernel_rfl) hS0 ?_
            refine gSkip 14 rfl (by kernel_rfl) (by kernel_rfl) (by kernel_rfl) (fun _ _ _ h => h) (by kernel_rfl) hS0 ?_
            refine gTake 15 (v := ?_) rfl (by kernel_rfl) (by kernel_rfl) (by kernel_rfl) (fun _ _ _ h => h) (by kernel_rfl) ?_ hS0 ?_
            rotate_left
            · (intro W hW; clear hW; go_simp; try with_reducible rfl)
            refine wpAnyH_done (by kernel_rfl) ?_ _
            go_simp
            go_wp2
            go_roundw
            case rel => exact ⟨1, by omega, by first | rfl | go_num, HN, Lib.hid (hbel.out.trans (hS0.2.2.mono hbel.out.size))⟩
            case measure => simp [intOf]; omega
          | succ p =>
            obtain ⟨zb', zo', e', -, e2⟩ := RowW.cell (HZW.out.below hbel.out) (show p < zs.length by omega)
            injection e' with e'
            injection e' with q1 q2
            subst q1 q2
            obtain ⟨hy0, hyi⟩ := HA.out p (by omega)
            have hpw : IntKind.i64.wrap (((p + 1 : Nat) : Int) - 1) = (p : Int) := by rw [IntWalk.i64_in _ (by omega)]; omega
            have hpi : (((p + 1 : Nat) : Int) - 1) = (p : Int) := by omega
            have hpl : p < zs.length := by omega
            have hpw2 : IntKind.i64.wrap (p : Int) = (p : Int) := IntWalk.i64_in _ (by omega)
            have hpp : (0 : Int) < ((p + 1 : Nat) : Int) := by omega
            have hpd : decide ((0 : Int) < ((p + 1 : Nat) : Int)) = true := decide_eq_true hpp
            by_cases hat : sfI xs (zs.getD (p + 1) 0) = sfI xs (-(zs.getD p 0))
            · have HN := Lib.hid (up_to_snoc HP.out (stp_yes hz0 hzi (fun p' h => by obtain rfl : p = p' := by omega
                                                                                     exact hat)))
              generalize zs.getD (p + 1) 0 = z at *
              generalize zs.getD p 0 = y at *
              have hwy : IntKind.i64.wrap (-y) = -y := IntWalk.i64_in _ (by omega)
              go_wp2_with fail
              obtain ⟨a, hsa⟩ : ∃ a, sfI xs z = a := ⟨_, rfl⟩
              obtain ⟨b, hsb⟩ : ∃ b, sfI xs (-y) = b := ⟨_, rfl⟩
              rw [hsa, hsb] at hat
              refine wp_region_held (S := fun w' => w'.cell? ⟨w.heap.size, 0, none⟩ = some (.int .i64 J) ∧ w'.cell? ⟨w.heap.size, 1, none⟩ = some (.slice A xs.length cap) ∧ w'.cell? ⟨zb, zo + p, none⟩ = some (.int .i64 y) ∧ Below wr.heap.size wr w') (by kernel_rfl) ?_
              try (change wpAnyH _ _ _ _ _ _ _ _ (World.drew _))
              have hS0 := (show wr.drew.cell? ⟨w.heap.size, 0, none⟩ = some (.int .i64 J) ∧ wr.drew.cell? ⟨w.heap.size, 1, none⟩ = some (.slice A xs.length cap) ∧ wr.drew.cell? ⟨zb, zo + p, none⟩ = some (.int .i64 y) ∧ Below wr.heap.size wr wr.drew from ⟨e0, e1, e2, Below.drew (Below.refl _ _)⟩)
              refine gTake 0 (v := ?_) rfl (by kernel_rfl) (by kernel_rfl) (by kernel_rfl) (fun _ _ _ h => h) (by kernel_rfl) ?_ hS0 ?_
              rotate_left
              · (intro W hW; clear hW; go_simp; try with_reducible rfl)
              refine gTake 1 (v := ?_) rfl (by kernel_rfl) (by kernel_rfl) (by kernel_rfl) (fun _ _ _ h => h) (by kernel_rfl) ?_ hS0 ?_
              rotate_left
              · (intro W hW; clear hW; go_simp; try with_reducible rfl)
              refine gTake 2 (v := ?_) rfl (by kernel_rfl) (by kernel_rfl) (by kernel_rfl) (fun _ _ _ h => h) (by kernel_rfl) ?_ hS0 ?_
              rotate_left
              · (intro W hW; clear hW; go_simp; try with_reducible rfl)
              refine gTake 3 (v := ?_) rfl (by kernel_rfl) (by kernel_rfl) (by kernel_rfl) (fun _ _ _ h => h) (by kernel_rfl) ?_ hS0 ?_
              rotate_left
              · (intro W hW; have q0 := hW.1; have q1 := hW.2.1; have q2 := hW.2.2.1; clear hW; go_simp; try with_reducible rfl)
              refine gTake 4 (v := ?_) rfl (by kernel_rfl) (by kernel_rfl) (by kernel_rfl) (fun _ _ _ h => h) (by kernel_rfl) ?_ hS0 ?_
              rotate_left
              · (intro W hW; clear hW; go_simp; try with_reducible rfl)
              refine gTake 6 (v := ?_) rfl (by kernel_rfl) (by kernel_rfl) (by kernel_rfl) (fun _ _ _ h => h) (by kernel_rfl) ?_ hS0 ?_
              rotate_left
              · (intro W hW; have q0 := hW.1; have q1 := hW.2.1; have q2 := hW.2.2.1; clear hW; go_simp; try with_reducible rfl)
              refine gTake 7 (v := ?_) rfl (by kernel_rfl) (by kernel_rfl) (by kernel_rfl) (fun _ _ _ h => h) (by kernel_rfl) ?_ hS0 ?_
              rotate_left
              · (intro W hW; clear hW; go_simp; try with_reducible rfl)
              refine gTake 8 (v := ?_) rfl (by kernel_rfl) (by kernel_rfl) (by kernel_rfl) (fun _ _ _ h => h) (by kernel_rfl) ?_ hS0 ?_
              rotate_left
              · (intro W hW; clear hW; go_simp; try with_reducible rfl)
              refine gTake 9 (v := ?_) rfl (by kernel_rfl) (by kernel_rfl) (by kernel_rfl) (fun _ _ _ h => h) (by kernel_rfl) ?_ hS0 ?_
              rotate_left
              · (intro W hW; clear hW; go_simp; try with_reducible rfl)
              refine gTake 10 (v := ?_) rfl (by kernel_rfl) (by kernel_rfl) (by kernel_rfl) (fun _ _ _ h => h) (by kernel_rfl) ?_ hS0 ?_
              rotate_left
              · (intro W hW; clear hW; go_simp; try with_reducible rfl)
              refine gTake 11 (v := ?_) rfl (by kernel_rfl) (by kernel_rfl) (by kernel_rfl) (fun _ _ _ h => h) (by kernel_rfl) ?_ hS0 ?_
              rotate_left
              · (intro W hW; have q0 := hW.1; have q1 := hW.2.1; have q2 := hW.2.2.1; clear hW; go_simp; try with_reducible rfl)
              refine gTake 12 (v := ?_) rfl (by kernel_rfl) (by kernel_rfl) (by kernel_rfl) (fun _ _ _ h => h) (by kernel_rfl) ?_ hS0 ?_
              rotate_left
              · (intro W hW; clear hW; go_simp; try with_reducible rfl)
              refine gOne 5 rfl (by kernel_rfl) (by kernel_rfl) (fun K hK => ?_)
              go_simp
              go_at_call 111
              (with_reducible refine (startOf_any J A cap xs z _ (HR2.out.below hS0.2.2.2) hn hz0 hzi).mono ?_)
              rintro e wq0 ⟨rfl, hdq0⟩
              rw [hsa]
              try go_simp
              have hS1 := (show wq0.cell? ⟨w.heap.size, 0, none⟩ = some (.int .i64 J) ∧ wq0.cell? ⟨w.heap.size, 1, none⟩ = some (.slice A xs.length cap) ∧ wq0.cell? ⟨zb, zo + p, none⟩ = some (.int .i64 y) ∧ Below wr.heap.size wr wq0 from ⟨cellK hS0.1 hdq0, cellK hS0.2.1 hdq0, cellK hS0.2.2.1 hdq0, hS0.2.2.2.trans (hdq0.mono hS0.2.2.2.size)⟩)
              refine hK _ _ hS1 ?_
              clear hK K
              refine gOne 13 rfl (by kernel_rfl) (by kernel_rfl) (fun K hK => ?_)
              go_simp
              go_at_call 111
              (with_reducible refine (startOf_any J A cap xs (-y) _ (HR2.out.below hS1.2.2.2) hn (by omega) (by omega)).mono ?_)
              rintro e wq1 ⟨rfl, hdq1⟩
              rw [hsb]
              try go_simp
              have hS2 := (show wq1.cell? ⟨w.heap.size, 0, none⟩ = some (.int .i64 J) ∧ wq1.cell? ⟨w.heap.size, 1, none⟩ = some (.slice A xs.length cap) ∧ wq1.cell? ⟨zb, zo + p, none⟩ = some (.int .i64 y) ∧ Below wr.heap.size wr wq1 from ⟨cellK hS1.1 hdq1, cellK hS1.2.1 hdq1, cellK hS1.2.2.1 hdq1, hS1.2.2.2.trans (hdq1.mono hS1.2.2.2.size)⟩)
              refine hK _ _ hS2 ?_
              clear hK K
              refine gTake 14 (v := ?_) rfl (by kernel_rfl) (by kernel_rfl) (by kernel_rfl) (fun _ _ _ h => h) (by kernel_rfl) ?_ hS2 ?_
              rotate_left
              · (intro W hW; clear hW; go_simp; try with_reducible rfl)
              refine gTake 15 (v := ?_) rfl (by kernel_rfl) (by kernel_rfl) (by kernel_rfl) (fun _ _ _ h => h) (by kernel_rfl) ?_ hS2 ?_
              rotate_left
              · (intro W hW; clear hW; go_simp; try with_reducible rfl)
              refine wpAnyH_done (by kernel_rfl) ?_ _
              go_simp
              subst hat
              go_wp2
              go_roundw
              case rel => exact ⟨p + 1 + 1, by omega, by go_num, HN, Lib.hid (hbel.out.trans (hS2.2.2.2.mono hbel.out.size))⟩
              case measure => simp [intOf]; omega
            · have HE := Lib.hid (wkR_no hlt (stp_off hat))
              generalize zs.getD (p + 1) 0 = z at *
              generalize zs.getD p 0 = y at *
              have hwy : IntKind.i64.wrap (-y) = -y := IntWalk.i64_in _ (by omega)
              go_wp2_with fail
              obtain ⟨a, hsa⟩ : ∃ a, sfI xs z = a := ⟨_, rfl⟩
              obtain ⟨b, hsb⟩ : ∃ b, sfI xs (-y) = b := ⟨_, rfl⟩
              rw [hsa, hsb] at hat
              refine wp_region_held (S := fun w' => w'.cell? ⟨w.heap.size, 0, none⟩ = some (.int .i64 J) ∧ w'.cell? ⟨w.heap.size, 1, none⟩ = some (.slice A xs.length cap) ∧ w'.cell? ⟨zb, zo + p, none⟩ = some (.int .i64 y) ∧ Below wr.heap.size wr w') (by kernel_rfl) ?_
              try (change wpAnyH _ _ _ _ _ _ _ _ (World.drew _))
              have hS0 := (show wr.drew.cell? ⟨w.heap.size, 0, none⟩ = some (.int .i64 J) ∧ wr.drew.cell? ⟨w.heap.size, 1, none⟩ = some (.slice A xs.length cap) ∧ wr.drew.cell? ⟨zb, zo + p, none⟩ = some (.int .i64 y) ∧ Below wr.heap.size wr wr.drew from ⟨e0, e1, e2, Below.drew (Below.refl _ _)⟩)
              refine gTake 0 (v := ?_) rfl (by kernel_rfl) (by kernel_rfl) (by kernel_rfl) (fun _ _ _ h => h) (by kernel_rfl) ?_ hS0 ?_
              rotate_left
              · (intro W hW; clear hW; go_simp; try with_reducible rfl)
              refine gTake 1 (v := ?_) rfl (by kernel_rfl) (by kernel_rfl) (by kernel_rfl) (fun _ _ _ h => h) (by kernel_rfl) ?_ hS0 ?_
              rotate_left
              · (intro W hW; clear hW; go_simp; try with_reducible rfl)
              refine gTake 2 (v := ?_) rfl (by kernel_rfl) (by kernel_rfl) (by kernel_rfl) (fun _ _ _ h => h) (by kernel_rfl) ?_ hS0 ?_
              rotate_left
              · (intro W hW; clear hW; go_simp; try with_reducible rfl)
              refine gTake 3 (v := ?_) rfl (by kernel_rfl) (by kernel_rfl) (by kernel_rfl) (fun _ _ _ h => h) (by kernel_rfl) ?_ hS0 ?_
              rotate_left
              · (intro W hW; have q0 := hW.1; have q1 := hW.2.1; have q2 := hW.2.2.1; clear hW; go_simp; try with_reducible rfl)
              refine gTake 4 (v := ?_) rfl (by kernel_rfl) (by kernel_rfl) (by kernel_rfl) (fun _ _ _ h => h) (by kernel_rfl) ?_ hS0 ?_
              rotate_left
              · (intro W hW; clear hW; go_simp; try with_reducible rfl)
              refine gTake 6 (v := ?_) rfl (by kernel_rfl) (by kernel_rfl) (by kernel_rfl) (fun _ _ _ h => h) (by kernel_rfl) ?_ hS0 ?_
              rotate_left
              · (intro W hW; have q0 := hW.1; have q1 := hW.2.1; have q2 := hW.2.2.1; clear hW; go_simp; try with_reducible rfl)
              refine gTake 7 (v := ?_) rfl (by kernel_rfl) (by kernel_rfl) (by kernel_rfl) (fun _ _ _ h => h) (by kernel_rfl) ?_ hS0 ?_
              rotate_left
              · (intro W hW; clear hW; go_simp; try with_reducible rfl)
              refine gTake 8 (v := ?_) rfl (by kernel_rfl) (by kernel_rfl) (by kernel_rfl) (fun _ _ _ h => h) (by kernel_rfl) ?_ hS0 ?_
              rotate_left
              · (intro W hW; clear hW; go_simp; try with_reducible rfl)
              refine gTake 9 (v := ?_) rfl (by kernel_rfl) (by kernel_rfl) (by kernel_rfl) (fun _ _ _ h => h) (by kernel_rfl) ?_ hS0 ?_
              rotate_left
              · (intro W hW; clear hW; go_simp; try with_reducible rfl)
              refine gTake 10 (v := ?_) rfl (by kernel_rfl) (by kernel_rfl) (by kernel_rfl) (fun _ _ _ h => h) (by kernel_rfl) ?_ hS0 ?_
              rotate_left
              · (intro W hW; clear hW; go_simp; try with_reducible rfl)
              refine gTake 11 (v := ?_) rfl (by kernel_rfl) (by kernel_rfl) (by kernel_rfl) (fun _ _ _ h => h) (by kernel_rfl) ?_ hS0 ?_
              rotate_left
              · (intro W hW; have q0 := hW.1; have q1 := hW.2.1; have q2 := hW.2.2.1; clear hW; go_simp; try with_reducible rfl)
              refine gTake 12 (v := ?_) rfl (by kernel_rfl) (by kernel_rfl) (by kernel_rfl) (fun _ _ _ h => h) (by kernel_rfl) ?_ hS0 ?_
              rotate_left
              · (intro W hW; clear hW; go_simp; try with_reducible rfl)
              refine gOne 5 rfl (by kernel_rfl) (by kernel_rfl) (fun K hK => ?_)
              go_simp
              go_at_call 111
              (with_reducible refine (startOf_any J A cap xs z _ (HR2.out.below hS0.2.2.2) hn hz0 hzi).mono ?_)
              rintro e wq0 ⟨rfl, hdq0⟩
              rw [hsa]
              try go_simp
              have hS1 := (show wq0.cell? ⟨w.heap.size, 0, none⟩ = some (.int .i64 J) ∧ wq0.cell? ⟨w.heap.size, 1, none⟩ = some (.slice A xs.length cap) ∧ wq0.cell? ⟨zb, zo + p, none⟩ = some (.int .i64 y) ∧ Below wr.heap.size wr wq0 from ⟨cellK hS0.1 hdq0, cellK hS0.2.1 hdq0, cellK hS0.2.2.1 hdq0, hS0.2.2.2.trans (hdq0.mono hS0.2.2.2.size)⟩)
              refine hK _ _ hS1 ?_
              clear hK K
              refine gOne 13 rfl (by kernel_rfl) (by kernel_rfl) (fun K hK => ?_)
              go_simp
              go_at_call 111
              (with_reducible refine (startOf_any J A cap xs (-y) _ (HR2.out.below hS1.2.2.2) hn (by omega) (by omega)).mono ?_)
              rintro e wq1 ⟨rfl, hdq1⟩
              rw [hsb]
              try go_simp
              have hS2 := (show wq1.cell? ⟨w.heap.size, 0, none⟩ = some (.int .i64 J) ∧ wq1.cell? ⟨w.heap.size, 1, none⟩ = some (.slice A xs.length cap) ∧ wq1.cell? ⟨zb, zo + p, none⟩ = some (.int .i64 y) ∧ Below wr.heap.size wr wq1 from ⟨cellK hS1.1 hdq1, cellK hS1.2.1 hdq1, cellK hS1.2.2.1 hdq1, hS1.2.2.2.trans (hdq1.mono hS1.2.2.2.size)⟩)
              refine hK _ _ hS2 ?_
              clear hK K
              refine gTake 14 (v := ?_) rfl (by kernel_rfl) (by kernel_rfl) (by kernel_rfl) (fun _ _ _ h => h) (by kernel_rfl) ?_ hS2 ?_
              rotate_left
              · (intro W hW; clear hW; go_simp; try with_reducible rfl)
              refine gTake 15 (v := ?_) rfl (by kernel_rfl) (by kernel_rfl) (by kernel_rfl) (fun _ _ _ h => h) (by kernel_rfl) ?_ hS2 ?_
              rotate_left
              · (intro W hW; clear hW; go_simp; try with_reducible rfl)
              refine wpAnyH_done (by kernel_rfl) ?_ _
              go_simp
              have ha2 : (a == b) = false := by simp [hat]
              have ha3 : (a != b) = true := by simp [hat]
              go_wp2
              go_ret
              exact ⟨ret_bool HE.out.symm, HB0.out.trans ((hbel.out.trans (hS2.2.2.2.mono hbel.out.size)).mono HB0.out.size)⟩
        · obtain rfl : k = zs.length := by omega
          have HE := Lib.hid (wkR_iff.2 HP.out)
          go_wp2
          go_ret
          exact ⟨ret_bool HE.out.symm, HB0.out.trans (hbel.out.mono HB0.out.size)⟩
    · have HE := Lib.hid (bad_zero (xs := xs) hcz)
      go_enter Try.func70, Try.ntmps70
      go_wp2_with (first
        | (go_at_call 59; (with_reducible refine (within64_any _ _ _ zs _ HZ.out (by omega)).mono ?_); rintro e w' ⟨rfl, rfl⟩; rw [hal])
        | (go_at_call 110; (with_reducible refine (contains_any _ zs 0 _ HZW.out (by omega)).mono ?_); rintro e w' ⟨rfl, rfl⟩; rw [hcz]))
      go_ret
      exact ⟨ret_bool HE.out.symm, HB0.out⟩
end Go.Proofs.Ytjooebiiceillaa
