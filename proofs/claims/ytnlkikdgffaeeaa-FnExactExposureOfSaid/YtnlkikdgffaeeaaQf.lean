/-
  Contracts of chapter 14: dust at a minute; the model's and the program's. Conditions: those that each theorem states.
-/
import Derived.Test.YtnlkikdgffaeeaaQe
namespace Go.Proofs.Ytnlkikdgffaeeaa
open Go.RowKit
set_option linter.unusedVariables false
set_option linter.unusedSimpArgs false

/-- The dust of one task in an airway at a minute. -/
def tkD (aw fr un du a m : Int) : Int := if aw = a ∧ fr ≤ m ∧ m < un then du else 0
theorem daF_lt {ts : List Tk} {a m : Int} {k : Nat} (h : k < ts.length) : daF ts a m k = tkD ts[k].aw ts[k].fr ts[k].un ts[k].du a m := by
  unfold daF tkD; rw [tkG_lt h]
theorem ts_bd {ts : List Tk} (h : tsOk ts = true) {k : Nat} (hk : k < ts.length) : ((0 ≤ ts[k].aw ∧ ts[k].aw ≤ 23) ∧ (0 ≤ ts[k].fr ∧ ts[k].fr ≤ 1439) ∧ (ts[k].fr + 1 ≤ ts[k].un ∧ ts[k].un ≤ 1440)) ∧ 0 ≤ ts[k].du ∧ ts[k].du ≤ 1000000 := by
  have h1 := (tsOk_iff.1 h).1 k hk
  rw [tkG_lt hk] at h1
  exact tkOk_bd h1
set_option maxHeartbeats 2000000 in
theorem l14At_any (A : Option Addr) (cap : Nat) (ts : List Tk) (a m : Int) (w : World) (hr : TkR w A ts) (hok : tsOk ts = true) :
    Calls Try.prog 64 #[.slice A ts.length cap, .int .i64 a, .int .i64 m] w fun e w' => e = .returned (.int .i64 (daS ts a m)) ∧ w = w' := by
  have h12 := (tsOk_iff.1 hok).2
  have HR := Lib.hid hr
  have HOK := Lib.hid hok
  clear hr hok
  go_enter Try.func64, Try.ntmps64
  go_wp2
  go_loop [7, 8] (fun s i => ∃ k : Nat, k ≤ ts.length ∧ i = .int .i64 k ∧ s = .int .i64 (sumK (daF ts a m) k)) (fun _ i => ts.length - (intOf i).toNat)
  case atStart => exact ⟨0, by omega, rfl, rfl⟩
  case round =>
    obtain ⟨k, hk, rfl, rfl⟩ := hrel
    by_cases hlt : k < ts.length
    · have hlI : (k : Int) < (ts.length : Int) := by omega
      obtain ⟨b1, b2⟩ := daK_bd HOK.out a m hk
      have hbd := ts_bd HOK.out hlt
      have HN := Lib.hid (show sumK (daF ts a m) (k + 1) = sumK (daF ts a m) k + tkD ts[k].aw ts[k].fr ts[k].un ts[k].du a m by rw [← daF_lt hlt]; rfl)
      obtain ⟨eb, eo, rfl, hrg⟩ := HR.out k hlt
      obtain ⟨e0, e1, e2, e3⟩ := tk_lay hrg
      clear hrg
      generalize ts[k] = y at *
      obtain ⟨aw, fr, un, du⟩ := y
      dsimp only at e0 e1 e2 e3 hbd HN
      generalize sumK (daF ts a m) k = s at *
      have HU := Lib.hid (show tkD aw fr un du a m = if aw = a ∧ fr ≤ m ∧ m < un then du else 0 from rfl)
      by_cases c0 : aw = a
      · by_cases c1 : fr ≤ m
        · by_cases c2 : m < un
          · have HF := Lib.hid (show sumK (daF ts a m) (k + 1) = s + du by rw [HN.out, HU.out, if_pos ⟨c0, c1, c2⟩])
            subst c0
            go_wp2
            go_round
            case rel => exact ⟨k + 1, by omega, by go_num, by rw [HF.out]⟩
            case measure => simp [intOf]; omega
          · have HF := Lib.hid (show sumK (daF ts a m) (k + 1) = s by rw [HN.out, HU.out, if_neg (fun h => c2 h.2.2)]; omega)
            subst c0
            go_wp2
            go_round
            case rel => exact ⟨k + 1, by omega, by go_num, by rw [HF.out]⟩
            case measure => simp [intOf]; omega
        · have HF := Lib.hid (show sumK (daF ts a m) (k + 1) = s by rw [HN.out, HU.out, if_neg (fun h => c1 h.2.1)]; omega)
          subst c0
          go_wp2
          go_round
          case rel => exact ⟨k + 1, by omega, by go_num, by rw [HF.out]⟩
          case measure => simp [intOf]; omega
      · have HF := Lib.hid (show sumK (daF ts a m) (k + 1) = s by rw [HN.out, HU.out, if_neg (fun h => c0 h.1)]; omega)
        go_wp2
        go_round
        case rel => exact ⟨k + 1, by omega, by go_num, by rw [HF.out]⟩
        case measure => simp [intOf]; omega
    · obtain rfl : k = ts.length := by omega
      have HE := Lib.hid (show daS ts a m = sumK (daF ts a m) ts.length from rfl)
      generalize sumK (daF ts a m) ts.length = s at *
      go_wp2
      go_ret
      exact ⟨ret_int HE.out.symm, rfl⟩
theorem has_any (aw fr un a m : Int) (w : World) (h1 : -1000000 ≤ un ∧ un ≤ 1000000) :
    Calls Try.prog 91 #[.agg #[.int .i64 aw, .int .i64 fr, .int .i64 un], .int .i64 a, .int .i64 m] w fun e w' => e = .returned (.bool (decide (aw = a ∧ fr ≤ m ∧ m < un))) ∧ Below w.heap.size w w' := by
  obtain ⟨u1, u2⟩ := h1
  by_cases c0 : aw = a
  · have HE := Lib.hid (show inB m fr (un - 1) = decide (aw = a ∧ fr ≤ m ∧ m < un) by
      unfold inB
      rw [Bool.eq_iff_iff]
      simp only [Bool.and_eq_true, decide_eq_true_eq]
      omega)
    subst c0
    go_enter Try.func91, Try.ntmps91
    go_wp2_with fail
    (with_reducible refine (within64_oneB _ _ m _ _ _ (by simp)).mono ?_)
    rintro e w1 ⟨rfl, hd⟩
    have HB1 := Lib.hid (show Below w.heap.size w w1 from (below_box _ _).trans (hd.mono (by simp)))
    clear hd
    go_wp2
    go_ret
    exact ⟨ret_bool HE.out, HB1.out⟩
  · have HE := Lib.hid (show decide (aw = a ∧ fr ≤ m ∧ m < un) = false from decide_eq_false (fun h => c0 h.1))
    go_enter Try.func91, Try.ntmps91
    go_wp2
    go_ret
    exact ⟨ret_bool HE.out.symm, below_box _ _⟩
set_option maxHeartbeats 1000000 in
theorem dustOne_any (ba bm : Nat) (aw fr un du : Int) (a m : Int) (w : World) (c0 : w.cell? ⟨ba, 0, none⟩ = some (.int .i64 a)) (c1 : w.cell? ⟨bm, 0, none⟩ = some (.int .i64 m)) (hu : -1000000 ≤ un ∧ un ≤ 1000000) :
    Calls Try.prog 90 #[.agg #[.int .i64 aw, .int .i64 fr, .int .i64 un, .int .i64 du], .pointer (some ⟨ba, 0, none⟩), .pointer (some ⟨bm, 0, none⟩)] w fun e w' => e = .returned (.int .i64 (tkD aw fr un du a m)) ∧ Below w.heap.size w w' := by
  have HBX := Lib.hid (below_box w (.cells #[.int .i64 aw, .int .i64 fr, .int .i64 un, .int .i64 du] 25))
  have l0 := World.block_lt_of_cell? _ _ c0
  have l1 := World.block_lt_of_cell? _ _ c1
  by_cases h : aw = a ∧ fr ≤ m ∧ m < un
  · have HE := Lib.hid (show tkD aw fr un du a m = du by unfold tkD; rw [if_pos h])
    have HD := Lib.hid (decide_eq_true h)
    clear h
    go_enter Try.func90, Try.ntmps90
    go_wp2_with fail
    have e0 : (w.alloc (.cells #[.int .i64 aw, .int .i64 fr, .int .i64 un, .int .i64 du] 25)).cell? ⟨w.heap.size, 0, none⟩ = some (.int .i64 aw) := by simp
    have e1 : (w.alloc (.cells #[.int .i64 aw, .int .i64 fr, .int .i64 un, .int .i64 du] 25)).cell? ⟨w.heap.size, 1, none⟩ = some (.int .i64 fr) := by simp
    have e2 : (w.alloc (.cells #[.int .i64 aw, .int .i64 fr, .int .i64 un, .int .i64 du] 25)).cell? ⟨w.heap.size, 2, none⟩ = some (.int .i64 un) := by simp
    have e3 : (w.alloc (.cells #[.int .i64 aw, .int .i64 fr, .int .i64 un, .int .i64 du] 25)).cell? ⟨w.heap.size, 3, none⟩ = some (.int .i64 du) := by simp
    have dba := (HBX.out.cell l0).trans c0
    have dbm := (HBX.out.cell l1).trans c1
    refine wp_region_held (S := fun w' => w'.cell? ⟨w.heap.size, 0, none⟩ = some (.int .i64 aw) ∧ w'.cell? ⟨w.heap.size, 1, none⟩ = some (.int .i64 fr) ∧ w'.cell? ⟨w.heap.size, 2, none⟩ = some (.int .i64 un) ∧ w'.cell? ⟨w.heap.size, 3, none⟩ = some (.int .i64 du) ∧ w'.cell? ⟨ba, 0, none⟩ = some (.int .i64 a) ∧ w'.cell? ⟨bm, 0, none⟩ = some (.int .i64 m) ∧ Below (w.alloc (.cells #[.int .i64 aw, .int .i64 fr, .int .i64 un, .int .i64 du] 25)).heap.size (w.alloc (.cells #[.int .i64 aw, .int .i64 fr, .int .i64 un, .int .i64 du] 25)) w') (by kernel_rfl) ?_
    try (change wpAnyH _ _ _ _ _ _ _ _ (World.drew _))
    have hS0 := (show (w.alloc (.cells #[.int .i64 aw, .int .i64 fr, .int .i64 un, .int .i64 du] 25)).drew.cell? ⟨w.heap.size, 0, none⟩ = some (.int .i64 aw) ∧ (w.alloc (.cells #[.int .i64 aw, .int .i64 fr, .int .i64 un, .int .i64 du] 25)).drew.cell? ⟨w.heap.size, 1, none⟩ = some (.int .i64 fr) ∧ (w.alloc (.cells #[.int .i64 aw, .int .i64 fr, .int .i64 un, .int .i64 du] 25)).drew.cell? ⟨w.heap.size, 2, none⟩ = some (.int .i64 un) ∧ (w.alloc (.cells #[.int .i64 aw, .int .i64 fr, .int .i64 un, .int .i64 du] 25)).drew.cell? ⟨w.heap.size, 3, none⟩ = some (.int .i64 du) ∧ (w.alloc (.cells #[.int .i64 aw, .int .i64 fr, .int .i64 un, .int .i64 du] 25)).drew.cell? ⟨ba, 0, none⟩ = some (.int .i64 a) ∧ (w.alloc (.cells #[.int .i64 aw, .int .i64 fr, .int .i64 un, .int .i64 du] 25)).drew.cell? ⟨bm, 0, none⟩ = some (.int .i64 m) ∧ Below (w.alloc (.cells #[.int .i64 aw, .int .i64 fr, .int .i64 un, .int .i64 du] 25)).heap.size (w.alloc (.cells #[.int .i64 aw, .int .i64 fr, .int .i64 un, .int .i64 du] 25)) (w.alloc (.cells #[.int .i64 aw, .int .i64 fr, .int .i64 un, .int .i64 du] 25)).drew from ⟨e0, e1, e2, e3, dba, dbm, Below.drew (Below.refl _ _)⟩)
    refine gTake 0 (v := ?_) rfl (by kernel_rfl) (by kernel_rfl) (by kernel_rfl) (fun _ _ _ h => h) (by kernel_rfl) ?_ hS0 ?_
    rotate_left
    · (intro W hW; have q0 := hW.1; have q1 := hW.2.1; have q2 := hW.2.2.1; have q3 := hW.2.2.2.1; have q4 := hW.2.2.2.2.1; have q5 := hW.2.2.2.2.2.1; clear hW; go_simp; try with_reducible rfl)
    refine gTake 2 (v := ?_) rfl (by kernel_rfl) (by kernel_rfl) (by kernel_rfl) (fun _ _ _ h => h) (by kernel_rfl) ?_ hS0 ?_
    rotate_left
    · (intro W hW; have q0 := hW.1; have q1 := hW.2.1; have q2 := hW.2.2.1; have q3 := hW.2.2.2.1; have q4 := hW.2.2.2.2.1; have q5 := hW.2.2.2.2.2.1; clear hW; go_simp; try with_reducible rfl)
    refine gTake 3 (v := ?_) rfl (by kernel_rfl) (by kernel_rfl) (by kernel_rfl) (fun _ _ _ h => h) (by kernel_rfl) ?_ hS0 ?_
    rotate_left
    · (intro W hW; have q0 := hW.1; have q1 := hW.2.1; have q2 := hW.2.2.1; have q3 := hW.2.2.2.1; have q4 := hW.2.2.2.2.1; have q5 := hW.2.2.2.2.2.1; clear hW; go_simp; try with_reducible rfl)
    refine gOne 1 rfl (by kernel_rfl) (by kernel_rfl) (fun K hK => ?_)
    go_simp
    go_at_call 47
    (with_reducible refine (spanOf_any aw fr un du _).mono ?_)
    rintro e wq0 ⟨rfl, hdq0⟩
    try go_simp
    have hS1 := (show wq0.cell? ⟨w.heap.size, 0, none⟩ = some (.int .i64 aw) ∧ wq0.cell? ⟨w.heap.size, 1, none⟩ = some (.int .i64 fr) ∧ wq0.cell? ⟨w.heap.size, 2, none⟩ = some (.int .i64 un) ∧ wq0.cell? ⟨w.heap.size, 3, none⟩ = some (.int .i64 du) ∧ wq0.cell? ⟨ba, 0, none⟩ = some (.int .i64 a) ∧ wq0.cell? ⟨bm, 0, none⟩ = some (.int .i64 m) ∧ Below (w.alloc (.cells #[.int .i64 aw, .int .i64 fr, .int .i64 un, .int .i64 du] 25)).heap.size (w.alloc (.cells #[.int .i64 aw, .int .i64 fr, .int .i64 un, .int .i64 du] 25)) wq0 from ⟨cellK hS0.1 hdq0, cellK hS0.2.1 hdq0, cellK hS0.2.2.1 hdq0, cellK hS0.2.2.2.1 hdq0, cellK hS0.2.2.2.2.1 hdq0, cellK hS0.2.2.2.2.2.1 hdq0, hS0.2.2.2.2.2.2.trans (hdq0.mono hS0.2.2.2.2.2.2.size)⟩)
    refine hK _ _ hS1 ?_
    clear hK K
    refine gOne 4 rfl (by kernel_rfl) (by kernel_rfl) (fun K hK => ?_)
    go_simp
    go_at_call 91
    (with_reducible refine (has_any aw fr un a m _ hu).mono ?_)
    rintro e wq1 ⟨rfl, hdq1⟩
    rw [HD.out]
    try go_simp
    have hS2 := (show wq1.cell? ⟨w.heap.size, 0, none⟩ = some (.int .i64 aw) ∧ wq1.cell? ⟨w.heap.size, 1, none⟩ = some (.int .i64 fr) ∧ wq1.cell? ⟨w.heap.size, 2, none⟩ = some (.int .i64 un) ∧ wq1.cell? ⟨w.heap.size, 3, none⟩ = some (.int .i64 du) ∧ wq1.cell? ⟨ba, 0, none⟩ = some (.int .i64 a) ∧ wq1.cell? ⟨bm, 0, none⟩ = some (.int .i64 m) ∧ Below (w.alloc (.cells #[.int .i64 aw, .int .i64 fr, .int .i64 un, .int .i64 du] 25)).heap.size (w.alloc (.cells #[.int .i64 aw, .int .i64 fr, .int .i64 un, .int .i64 du] 25)) wq1 from ⟨cellK hS1.1 hdq1, cellK hS1.2.1 hdq1, cellK hS1.2.2.1 hdq1, cellK hS1.2.2.2.1 hdq1, cellK hS1.2.2.2.2.1 hdq1, cellK hS1.2.2.2.2.2.1 hdq1, hS1.2.2.2.2.2.2.trans (hdq1.mono hS1.2.2.2.2.2.2.size)⟩)
    refine hK _ _ hS2 ?_
    clear hK K
    refine gTake 5 (v := ?_) rfl (by kernel_rfl) (by kernel_rfl) (by kernel_rfl) (fun _ _ _ h => h) (by kernel_rfl) ?_ hS2 ?_
    rotate_left
    · (intro W hW; clear hW; go_simp; try with_reducible rfl)
    refine wpAnyH_done (by kernel_rfl) ?_ _
    go_simp
    have m3 := hS2.2.2.2.1
    have HB2 := Lib.hid (HBX.out.trans (hS2.2.2.2.2.2.2.mono (by simp)))
    go_wp2
    go_ret
    exact ⟨ret_int HE.out.symm, HB2.out⟩
  · have HE := Lib.hid (show tkD aw fr un du a m = 0 by unfold tkD; rw [if_neg h])
    have HD := Lib.hid (decide_eq_false h)
    clear h
    go_enter Try.func90, Try.ntmps90
    go_wp2_with fail
    have e0 : (w.alloc (.cells #[.int .i64 aw, .int .i64 fr, .int .i64 un, .int .i64 du] 25)).cell? ⟨w.heap.size, 0, none⟩ = some (.int .i64 aw) := by simp
    have e1 : (w.alloc (.cells #[.int .i64 aw, .int .i64 fr, .int .i64 un, .int .i64 du] 25)).cell? ⟨w.heap.size, 1, none⟩ = some (.int .i64 fr) := by simp
    have e2 : (w.alloc (.cells #[.int .i64 aw, .int .i64 fr, .int .i64 un, .int .i64 du] 25)).cell? ⟨w.heap.size, 2, none⟩ = some (.int .i64 un) := by simp
    have e3 : (w.alloc (.cells #[.int .i64 aw, .int .i64 fr, .int .i64 un, .int .i64 du] 25)).cell? ⟨w.heap.size, 3, none⟩ = some (.int .i64 du) := by simp
    have dba := (HBX.out.cell l0).trans c0
    have dbm := (HBX.out.cell l1).trans c1
    refine wp_region_held (S := fun w' => w'.cell? ⟨w.heap.size, 0, none⟩ = some (.int .i64 aw) ∧ w'.cell? ⟨w.heap.size, 1, none⟩ = some (.int .i64 fr) ∧ w'.cell? ⟨w.heap.size, 2, none⟩ = some (.int .i64 un) ∧ w'.cell? ⟨w.heap.size, 3, none⟩ = some (.int .i64 du) ∧ w'.cell? ⟨ba, 0, none⟩ = some (.int .i64 a) ∧ w'.cell? ⟨bm, 0, none⟩ = some (.int .i64 m) ∧ Below (w.alloc (.cells #[.int .i64 aw, .int .i64 fr, .int .i64 un, .int .i64 du] 25)).heap.size (w.alloc (.cells #[.int .i64 aw, .int .i64 fr, .int .i64 un, .int .i64 du] 25)) w') (by kernel_rfl) ?_
    try (change wpAnyH _ _ _ _ _ _ _ _ (World.drew _))
    have hS0 := (show (w.alloc (.cells #[.int .i64 aw, .int .i64 fr, .int .i64 un, .int .i64 du] 25)).drew.cell? ⟨w.heap.size, 0, none⟩ = some (.int .i64 aw) ∧ (w.alloc (.cells #[.int .i64 aw, .int .i64 fr, .int .i64 un, .int .i64 du] 25)).drew.cell? ⟨w.heap.size, 1, none⟩ = some (.int .i64 fr) ∧ (w.alloc (.cells #[.int .i64 aw, .int .i64 fr, .int .i64 un, .int .i64 du] 25)).drew.cell? ⟨w.heap.size, 2, none⟩ = some (.int .i64 un) ∧ (w.alloc (.cells #[.int .i64 aw, .int .i64 fr, .int .i64 un, .int .i64 du] 25)).drew.cell? ⟨w.heap.size, 3, none⟩ = some (.int .i64 du) ∧ (w.alloc (.cells #[.int .i64 aw, .int .i64 fr, .int .i64 un, .int .i64 du] 25)).drew.cell? ⟨ba, 0, none⟩ = some (.int .i64 a) ∧ (w.alloc (.cells #[.int .i64 aw, .int .i64 fr, .int .i64 un, .int .i64 du] 25)).drew.cell? ⟨bm, 0, none⟩ = some (.int .i64 m) ∧ Below (w.alloc (.cells #[.int .i64 aw, .int .i64 fr, .int .i64 un, .int .i64 du] 25)).heap.size (w.alloc (.cells #[.int .i64 aw, .int .i64 fr, .int .i64 un, .int .i64 du] 25)) (w.alloc (.cells #[.int .i64 aw, .int .i64 fr, .int .i64 un, .int .i64 du] 25)).drew from ⟨e0, e1, e2, e3, dba, dbm, Below.drew (Below.refl _ _)⟩)
    refine gTake 0 (v := ?_) rfl (by kernel_rfl) (by kernel_rfl) (by kernel_rfl) (fun _ _ _ h => h) (by kernel_rfl) ?_ hS0 ?_
    rotate_left
    · (intro W hW; have q0 := hW.1; have q1 := hW.2.1; have q2 := hW.2.2.1; have q3 := hW.2.2.2.1; have q4 := hW.2.2.2.2.1; have q5 := hW.2.2.2.2.2.1; clear hW; go_simp; try with_reducible rfl)
    refine gTake 2 (v := ?_) rfl (by kernel_rfl) (by kernel_rfl) (by kernel_rfl) (fun _ _ _ h => h) (by kernel_rfl) ?_ hS0 ?_
    rotate_left
    · (intro W hW; have q0 := hW.1; have q1 := hW.2.1; have q2 := hW.2.2.1; have q3 := hW.2.2.2.1; have q4 := hW.2.2.2.2.1; have q5 := hW.2.2.2.2.2.1; clear hW; go_simp; try with_reducible rfl)
    refine gTake 3 (v := ?_) rfl (by kernel_rfl) (by kernel_rfl) (by kernel_rfl) (fun _ _ _ h => h) (by kernel_rfl) ?_ hS0 ?_
    rotate_left
    · (intro W hW; have q0 := hW.1; have q1 := hW.2.1; have q2 := hW.2.2.1; have q3 := hW.2.2.2.1; have q4 := hW.2.2.2.2.1; have q5 := hW.2.2.2.2.2.1; clear hW; go_simp; try with_reducible rfl)
    refine gOne 1 rfl (by kernel_rfl) (by kernel_rfl) (fun K hK => ?_)
    go_simp
    go_at_call 47
    (with_reducible refine (spanOf_any aw fr un du _).mono ?_)
    rintro e wq0 ⟨rfl, hdq0⟩
    try go_simp
    have hS1 := (show wq0.cell? ⟨w.heap.size, 0, none⟩ = some (.int .i64 aw) ∧ wq0.cell? ⟨w.heap.size, 1, none⟩ = some (.int .i64 fr) ∧ wq0.cell? ⟨w.heap.size, 2, none⟩ = some (.int .i64 un) ∧ wq0.cell? ⟨w.heap.size, 3, none⟩ = some (.int .i64 du) ∧ wq0.cell? ⟨ba, 0, none⟩ = some (.int .i64 a) ∧ wq0.cell? ⟨bm, 0, none⟩ = some (.int .i64 m) ∧ Below (w.alloc (.cells #[.int .i64 aw, .int .i64 fr, .int .i64 un, .int .i64 du] 25)).heap.size (w.alloc (.cells #[.int .i64 aw, .int .i64 fr, .int .i64 un, .int .i64 du] 25)) wq0 from ⟨cellK hS0.1 hdq0, cellK hS0.2.1 hdq0, cellK hS0.2.2.1 hdq0, cellK hS0.2.2.2.1 hdq0, cellK hS0.2.2.2.2.1 hdq0, cellK hS0.2.2.2.2.2.1 hdq0, hS0.2.2.2.2.2.2.trans (hdq0.mono hS0.2.2.2.2.2.2.size)⟩)
    refine hK _ _ hS1 ?_
    clear hK K
    refine gOne 4 rfl (by kernel_rfl) (by kernel_rfl) (fun K hK => ?_)
    go_simp
    go_at_call 91
    (with_reducible refine (has_any aw fr un a m _ hu).mono ?_)
    rintro e wq1 ⟨rfl, hdq1⟩
    rw [HD.out]
    try go_simp
    have hS2 := (show wq1.cell? ⟨w.heap.size, 0, none⟩ = some (.int .i64 aw) ∧ wq1.cell? ⟨w.heap.size, 1, none⟩ = some (.int .i64 fr) ∧ wq1.cell? ⟨w.heap.size, 2, none⟩ = some (.int .i64 un) ∧ wq1.cell? ⟨w.heap.size, 3, none⟩ = some (.int .i64 du) ∧ wq1.cell? ⟨ba, 0, none⟩ = some (.int .i64 a) ∧ wq1.cell? ⟨bm, 0, none⟩ = some (.int .i64 m) ∧ Below (w.alloc (.cells #[.int .i64 aw, .int .i64 fr, .int .i64 un, .int .i64 du] 25)).heap.size (w.alloc (.cells #[.int .i64 aw, .int .i64 fr, .int .i64 un, .int .i64 du] 25)) wq1 from ⟨cellK hS1.1 hdq1, cellK hS1.2.1 hdq1, cellK hS1.2.2.1 hdq1, cellK hS1.2.2.2.1 hdq1, cellK hS1.2.2.2.2.1 hdq1, cellK hS1.2.2.2.2.2.1 hdq1, hS1.2.2.2.2.2.2.trans (hdq1.mono hS1.2.2.2.2.2.2.size)⟩)
    refine hK _ _ hS2 ?_
    clear hK K
    refine gTake 5 (v := ?_) rfl (by kernel_rfl) (by kernel_rfl) (by kernel_rfl) (fun _ _ _ h => h) (by kernel_rfl) ?_ hS2 ?_
    rotate_left
    · (intro W hW; clear hW; go_simp; try with_reducible rfl)
    refine wpAnyH_done (by kernel_rfl) ?_ _
    go_simp
    have m3 := hS2.2.2.2.1
    have HB2 := Lib.hid (HBX.out.trans (hS2.2.2.2.2.2.2.mono (by simp)))
    go_wp2
    go_ret
    exact ⟨ret_int HE.out.symm, HB2.out⟩
set_option maxHeartbeats 1000000 in
set_option maxRecDepth 100000 in
theorem sumAt (ba bm : Nat) (A : Option Addr) (cap : Nat) (xs : List Tk) (f : Nat → Int) (w : World) (hr : TkR w A xs) (hl : xs.length ≤ 1048576)
    (hb : ∀ k, k ≤ xs.length → -4000000000000000000 ≤ sumK f k ∧ sumK f k ≤ 4000000000000000000)
    (hf : ∀ (k : Nat) (w1 : World) (h : k < xs.length), Below w.heap.size w w1 → Calls Try.prog 90 #[.agg #[.int .i64 xs[k].aw, .int .i64 xs[k].fr, .int .i64 xs[k].un, .int .i64 xs[k].du], .pointer (some ⟨ba, 0, none⟩), .pointer (some ⟨bm, 0, none⟩)] w1 fun e w2 => e = .returned (.int .i64 (f k)) ∧ Below w1.heap.size w1 w2) :
    Calls Try.prog 89 #[.slice A xs.length cap, .func (.func 90) #[] #[.pointer (some ⟨ba, 0, none⟩), .pointer (some ⟨bm, 0, none⟩)]] w fun e w' => e = .returned (.int .i64 (sumK f xs.length)) ∧ Below w.heap.size w w' := by
  have HR := Lib.hid hr
  have HF := Lib.hid hf
  have HBD := Lib.hid hb
  clear hr hf hb
  go_enter Try.func89, Try.ntmps89
  go_wp2
  go_loopw [5, 10] (fun t i wr => ∃ k : Nat, k ≤ xs.length ∧ i = .int .i64 k ∧ t = .int .i64 (sumK f k) ∧ Below w.heap.size w wr) (fun t i wr => xs.length - (intOf i).toNat)
  case atStart => exact ⟨0, by omega, rfl, rfl, Below.refl _ _⟩
  case round =>
    obtain ⟨k, hk, rfl, rfl, hbel⟩ := hrel
    have HBL := Lib.hid hbel
    clear hbel
    by_cases hlt : k < xs.length
    · have HX := Lib.hid (fun (w1 : World) (hb : Below wr.heap.size wr w1) => HF.out k w1 hlt (HBL.out.trans (hb.mono HBL.out.size)))
      have hlI : (k : Int) < (xs.length : Int) := by omega
      obtain ⟨b1, b2⟩ := HBD.out k hk
      have hn := HBD.out (k + 1) hlt
      have HN := Lib.hid (show sumK f (k + 1) = sumK f k + f k from rfl)
      rw [HN.out] at hn
      obtain ⟨b3, b4⟩ := hn
      obtain ⟨eb, eo, rfl, hrg⟩ := HR.out k hlt
      have hrg' := rangeAt_below hrg HBL.out (rangeAt_lt hrg (by simp [Tk.cells]))
      obtain ⟨e0, e1, e2, e3⟩ := tk_lay hrg'
      clear hrg hrg'
      generalize xs[k] = y at *
      obtain ⟨aw, fr, un, du⟩ := y
      dsimp only at e0 e1 e2 e3
      generalize f k = z at *
      generalize sumK f k = s at *
      obtain ⟨wo, rfl⟩ : ∃ wo : World, wo = wr := ⟨_, rfl⟩
      go_wp2_with fail
      (with_reducible refine (HX.out _ (below_box _ _)).mono ?_)
      rintro e w2 ⟨rfl, hd⟩
      have HB2 := Lib.hid (HBL.out.trans (((below_box _ _).trans (hd.mono (by simp))).mono HBL.out.size))
      clear hd
      go_wp2
      go_roundw
      case rel => exact ⟨k + 1, by omega, by go_num, by rw [HN.out], HB2.out⟩
      case measure => simp [intOf]; omega
    · obtain rfl : k = xs.length := by omega
      obtain ⟨s, hs⟩ : ∃ s, sumK f xs.length = s := ⟨_, rfl⟩
      have HS := Lib.hid hs
      rw [hs]
      clear hs
      go_wp2
      go_ret
      exact ⟨ret_int HS.out.symm, HBL.out⟩
theorem dustAt_any (A : Option Addr) (cap : Nat) (ts : List Tk) (a m : Int) (w : World) (hr : TkR w A ts) (hok : tsOk ts = true) :
    Calls Try.prog 66 #[.slice A ts.length cap, .int .i64 a, .int .i64 m] w fun e w' => e = .returned (.int .i64 (daS ts a m)) ∧ Below w.heap.size w w' := by
  have h12 := (tsOk_iff.1 hok).2
  obtain ⟨W0, hW0⟩ : ∃ x, x = ((w.alloc (.cells #[.int .i64 a] 2)).alloc (.cells #[.int .i64 m] 2)) := ⟨_, rfl⟩
  have HB0 := Lib.hid (show Below w.heap.size w W0 by rw [hW0]; exact (below_box _ _).alloc (by simp) _)
  have R0 := Lib.hid (show W0.cell? ⟨w.heap.size, 0, none⟩ = some (.int .i64 a) by rw [hW0, World.cell?_alloc_old _ _ _ (by simp)]; simp)
  have S0 := Lib.hid (show W0.cell? ⟨w.heap.size + 1, 0, none⟩ = some (.int .i64 m) by rw [hW0]; simp)
  have HX := Lib.hid (sumAt w.heap.size (w.heap.size + 1) A cap ts (daF ts a m) W0 (hr.below HB0.out) (by omega) (fun k hk => by have := daK_bd hok a m hk; omega) (fun k w1 h hb => by
    have hbd := ts_bd hok h
    rw [daF_lt h]
    exact dustOne_any w.heap.size (w.heap.size + 1) _ _ _ _ a m w1 ((hb.cell (World.block_lt_of_cell? _ _ R0.out)).trans R0.out) ((hb.cell (World.block_lt_of_cell? _ _ S0.out)).trans S0.out) (by omega)))
  have HE := Lib.hid (show daS ts a m = sumK (daF ts a m) ts.length from rfl)
  clear hr hok
  go_enter Try.func66, Try.ntmps66
  go_wp2_with fail
  rw [← hW0]
  (with_reducible refine (HX.out).mono ?_)
  rintro e w1 ⟨rfl, hd⟩
  have HB1 := Lib.hid (HB0.out.trans (hd.mono HB0.out.size))
  clear hd hW0
  go_wp2
  go_ret
  exact ⟨ret_int HE.out.symm, HB1.out⟩
set_option maxHeartbeats 1000000 in
theorem sDustAt_any (A : Option Addr) (cap : Nat) (ts : List Tk) (a m : Int) (w : World) (hr : TkR w A ts) (hl : ts.length ≤ 1048576) :
    Calls Try.prog 31 #[.slice A ts.length cap, .int .i64 a, .int .i64 m] w fun e w' => e = .returned (.tuple #[.int .i64 (datA ts a m), .int .i64 (datB ts a m)]) ∧ Below w.heap.size w w' := by
  have HX := Lib.hid (l14Ok_any A cap ts w hr hl)
  have HR := Lib.hid hr
  clear hr
  cases hok : tsOk ts
  · skip
    have HE := Lib.hid (show datA ts a m = 0 ∧ datB ts a m = 1 by simp [datA, datB, hok])
    go_enter Try.func31, Try.ntmps31
    go_wp2_with fail
    (with_reducible refine (HX.out).mono ?_)
    rintro e w1 ⟨rfl, hd⟩
    have HB := Lib.hid hd
    rw [hok]
    clear hd
    go_wp2
    go_ret2
    exact ⟨ret_two HE.out.1.symm HE.out.2.symm, HB.out⟩
  · have h12 := (tsOk_iff.1 hok).2
    by_cases h1 : 0 ≤ a ∧ a ≤ 23
    · have i1 := inB_true h1.1 h1.2
      by_cases h2 : 0 ≤ m ∧ m ≤ 1439
      · have i2 := inB_true h2.1 h2.2
        have HE := Lib.hid (show datA ts a m = daS ts a m ∧ datB ts a m = 0 by simp [datA, datB, hok, i1, i2])
        go_enter Try.func31, Try.ntmps31
        go_wp2_with fail
        (with_reducible refine (HX.out).mono ?_)
        rintro e w1 ⟨rfl, hd⟩
        have HB := Lib.hid hd
        rw [hok]
        clear hd
        go_wp2_with (first
              | (go_at_call 63; (with_reducible refine (l14Airway_any _ _).mono ?_); rintro e w' ⟨rfl, rfl⟩)
              | (go_at_call 54; (with_reducible refine (l00In_any _ _ _ _).mono ?_); rintro e w' ⟨rfl, rfl⟩)
              | (go_at_call 64; (with_reducible refine (l14At_any A cap ts a m _ (HR.out.below HB.out) hok).mono ?_); rintro e w' ⟨rfl, rfl⟩))
        go_ret2
        exact ⟨ret_two HE.out.1.symm HE.out.2.symm, HB.out⟩
      · have i2 := inB_false h2
        have HE := Lib.hid (show datA ts a m = 0 ∧ datB ts a m = 2 by simp [datA, datB, hok, i2])
        go_enter Try.func31, Try.ntmps31
        go_wp2_with fail
        (with_reducible refine (HX.out).mono ?_)
        rintro e w1 ⟨rfl, hd⟩
        have HB := Lib.hid hd
        rw [hok]
        clear hd
        go_wp2_with (first
              | (go_at_call 63; (with_reducible refine (l14Airway_any _ _).mono ?_); rintro e w' ⟨rfl, rfl⟩)
              | (go_at_call 54; (with_reducible refine (l00In_any _ _ _ _).mono ?_); rintro e w' ⟨rfl, rfl⟩)
              | (go_at_call 64; (with_reducible refine (l14At_any A cap ts a m _ (HR.out.below HB.out) hok).mono ?_); rintro e w' ⟨rfl, rfl⟩))
        go_ret2
        exact ⟨ret_two HE.out.1.symm HE.out.2.symm, HB.out⟩
    · have i1 := inB_false h1
      have HE := Lib.hid (show datA ts a m = 0 ∧ datB ts a m = 2 by simp [datA, datB, hok, i1])
      go_enter Try.func31, Try.ntmps31
      go_wp2_with fail
      (with_reducible refine (HX.out).mono ?_)
      rintro e w1 ⟨rfl, hd⟩
      have HB := Lib.hid hd
      rw [hok]
      clear hd
      go_wp2_with (first
            | (go_at_call 63; (with_reducible refine (l14Airway_any _ _).mono ?_); rintro e w' ⟨rfl, rfl⟩)
            | (go_at_call 54; (with_reducible refine (l00In_any _ _ _ _).mono ?_); rintro e w' ⟨rfl, rfl⟩)
            | (go_at_call 64; (with_reducible refine (l14At_any A cap ts a m _ (HR.out.below HB.out) hok).mono ?_); rintro e w' ⟨rfl, rfl⟩))
      go_ret2
      exact ⟨ret_two HE.out.1.symm HE.out.2.symm, HB.out⟩
set_option maxHeartbeats 1000000 in
theorem iDustAt_any (A : Option Addr) (cap : Nat) (ts : List Tk) (a m : Int) (w : World) (hr : TkR w A ts) (hl : ts.length ≤ 1048576) :
    Calls Try.prog 32 #[.slice A ts.length cap, .int .i64 a, .int .i64 m] w fun e w' => e = .returned (.tuple #[.int .i64 (datA ts a m), .int .i64 (datB ts a m)]) ∧ Below w.heap.size w w' := by
  have HX := Lib.hid (iValidDustings_any A cap ts w hr hl)
  have HR := Lib.hid hr
  clear hr
  cases hok : tsOk ts
  · skip
    have HE := Lib.hid (show datA ts a m = 0 ∧ datB ts a m = 1 by simp [datA, datB, hok])
    go_enter Try.func32, Try.ntmps32
    go_wp2_with fail
    (with_reducible refine (HX.out).mono ?_)
    rintro e w1 ⟨rfl, hd⟩
    have HB := Lib.hid hd
    rw [hok]
    clear hd
    go_wp2
    go_ret2
    exact ⟨ret_two HE.out.1.symm HE.out.2.symm, HB.out⟩
  · have h12 := (tsOk_iff.1 hok).2
    by_cases h1 : 0 ≤ a ∧ a ≤ 23
    · have i1 := inB_true h1.1 h1.2
      by_cases h2 : 0 ≤ m ∧ m ≤ 1439
      · have i2 := inB_true h2.1 h2.2
        have HE := Lib.hid (show datA ts a m = daS ts a m ∧ datB ts a m = 0 by simp [datA, datB, hok, i1, i2])
        go_enter Try.func32, Try.ntmps32
        go_wp2_with fail
        (with_reducible refine (HX.out).mono ?_)
        rintro e w1 ⟨rfl, hd⟩
        have HB := Lib.hid hd
        rw [hok]
        clear hd
        go_wp2_with fail
        (with_reducible refine (areIdx_c24 a w1 _ _ (by simp)).mono ?_)
        rintro e w2 ⟨rfl, hd⟩
        rw [i1]
        have HB2 := Lib.hid (HB.out.trans (hd.mono HB.out.size))
        clear hd
        go_wp2_with fail
        (with_reducible refine (areIdx_c1440 m w2 _ _ (by simp)).mono ?_)
        rintro e w3 ⟨rfl, hd⟩
        rw [i2]
        have HB3 := Lib.hid (HB2.out.trans (hd.mono HB2.out.size))
        clear hd
        go_wp2_with fail
        (with_reducible refine (dustAt_any A cap ts a m _ (HR.out.below HB3.out) hok).mono ?_)
        rintro e w4 ⟨rfl, hd⟩
        have HB4 := Lib.hid (HB3.out.trans (hd.mono HB3.out.size))
        clear hd
        go_wp2
        go_ret2
        exact ⟨ret_two HE.out.1.symm HE.out.2.symm, HB4.out⟩
      · have i2 := inB_false h2
        have HE := Lib.hid (show datA ts a m = 0 ∧ datB ts a m = 2 by simp [datA, datB, hok, i2])
        go_enter Try.func32, Try.ntmps32
        go_wp2_with fail
        (with_reducible refine (HX.out).mono ?_)
        rintro e w1 ⟨rfl, hd⟩
        have HB := Lib.hid hd
        rw [hok]
        clear hd
        go_wp2_with fail
        (with_reducible refine (areIdx_c24 a w1 _ _ (by simp)).mono ?_)
        rintro e w2 ⟨rfl, hd⟩
        rw [i1]
        have HB2 := Lib.hid (HB.out.trans (hd.mono HB.out.size))
        clear hd
        go_wp2_with fail
        (with_reducible refine (areIdx_c1440 m w2 _ _ (by simp)).mono ?_)
        rintro e w3 ⟨rfl, hd⟩
        rw [i2]
        have HB3 := Lib.hid (HB2.out.trans (hd.mono HB2.out.size))
        clear hd
        go_wp2
        go_ret2
        exact ⟨ret_two HE.out.1.symm HE.out.2.symm, HB3.out⟩
    · have i1 := inB_false h1
      have HE := Lib.hid (show datA ts a m = 0 ∧ datB ts a m = 2 by simp [datA, datB, hok, i1])
      go_enter Try.func32, Try.ntmps32
      go_wp2_with fail
      (with_reducible refine (HX.out).mono ?_)
      rintro e w1 ⟨rfl, hd⟩
      have HB := Lib.hid hd
      rw [hok]
      clear hd
      go_wp2_with fail
      (with_reducible refine (areIdx_c24 a w1 _ _ (by simp)).mono ?_)
      rintro e w2 ⟨rfl, hd⟩
      rw [i1]
      have HB2 := Lib.hid (HB.out.trans (hd.mono HB.out.size))
      clear hd
      go_wp2
      go_ret2
      exact ⟨ret_two HE.out.1.symm HE.out.2.symm, HB2.out⟩
end Go.Proofs.Ytnlkikdgffaeeaa
