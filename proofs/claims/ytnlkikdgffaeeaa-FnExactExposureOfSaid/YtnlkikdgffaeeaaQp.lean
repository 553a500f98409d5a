/-
  Contracts of chapter 14: stays, exposures; the model's and the program's. Conditions: those that each theorem states.
-/
import Derived.Test.YtnlkikdgffaeeaaQg
import Derived.Test.YtnlkikdgffaeeaaRa
import Derived.Test.YtnlkikdgffaeeaaRg
namespace Go.Proofs.Ytnlkikdgffaeeaa
open Go.RowKit
set_option linter.unusedVariables false
set_option linter.unusedSimpArgs false

theorem adr_neP {a b o o2 : Nat} (h : ¬ a = b) : (⟨a, o, none⟩ : Addr) ≠ ⟨b, o2, none⟩ := fun e => by injection e with e; exact h e
theorem cell3_same {w : World} {p : Addr} {v : Value} (h : w.cell? p = some v) : w.drew.cell? p = some v := h
theorem cell3_other {w : World} {g o b' o' : Nat} {x y z v : Value} (h : ¬ b' = g) (hc : w.cell? ⟨b', o', none⟩ = some v) : (((w.setCell ⟨g, o, none⟩ x).setCell ⟨g, o + 1, none⟩ y).setCell ⟨g, o + 2, none⟩ z).drew.cell? ⟨b', o', none⟩ = some v :=
  cell3_same (by
    have h1 : (w.setCell ⟨g, o, none⟩ x).cell? ⟨b', o', none⟩ = some v := (World.cell?_setCell_other _ _ _ _ (adr_neP (fun e => h e.symm))).trans hc
    have h2 : ((w.setCell ⟨g, o, none⟩ x).setCell ⟨g, o + 1, none⟩ y).cell? ⟨b', o', none⟩ = some v := (World.cell?_setCell_other _ _ _ _ (adr_neP (fun e => h e.symm))).trans h1
    exact (World.cell?_setCell_other _ _ _ _ (adr_neP (fun e => h e.symm))).trans h2)
theorem below3 {B : Nat} {w0 w : World} (h : Below B w0 w) {g : Nat} (hg : B ≤ g) {o : Nat} {x y z : Value} : Below B w0 (((w.setCell ⟨g, o, none⟩ x).setCell ⟨g, o + 1, none⟩ y).setCell ⟨g, o + 2, none⟩ z).drew :=
  Below.drew (((h.setCell (p := ⟨g, o, none⟩) hg _).setCell (p := ⟨g, o + 1, none⟩) hg _).setCell (p := ⟨g, o + 2, none⟩) hg _)
theorem ret_vbool {v : Value} {a b : Bool} (h : a = b) : Ending.returned (.tuple #[v, .bool a]) = .returned (.tuple #[v, .bool b]) := by rw [h]
/-- A number of a stay; whether one is as stated; whether all are. -/
def stG (rs : List (List Int)) (i j : Nat) : Int := (rs.getD i []).getD j 0
def stRow (rs : List (List Int)) (i : Nat) : Bool := decide ((rs.getD i []).length = 3) && snOk (stG rs i 0) (stG rs i 1) (stG rs i 2)
def stOk (rs : List (List Int)) : Bool := alK (stRow rs) rs.length && decide (rs.length ≤ 12)
def spL (rs : List (List Int)) : List Sp := rs.map (fun r => ⟨r.getD 0 0, r.getD 1 0, r.getD 2 0⟩)
theorem spL_len (rs : List (List Int)) : (spL rs).length = rs.length := by simp [spL]
theorem spL_at {rs : List (List Int)} {k : Nat} (h : k < rs.length) : (spL rs)[k]'(by rw [spL_len]; exact h) = ⟨stG rs k 0, stG rs k 1, stG rs k 2⟩ := by
  simp [spL, stG, List.getD, h]
theorem stOk_iff {rs : List (List Int)} : stOk rs = true ↔ (∀ i, i < rs.length → (rs.getD i []).length = 3 ∧ snOk (stG rs i 0) (stG rs i 1) (stG rs i 2) = true) ∧ rs.length ≤ 12 := by
  simp only [stOk, Bool.and_eq_true, decide_eq_true_eq, alK_iff, stRow]
theorem stOk_bad {rs : List (List Int)} {i : Nat} (hi : i < rs.length) (h : stRow rs i = false) : stOk rs = false := by
  unfold stOk; rw [alK_bad hi h, Bool.false_and]
/-- The exposure of one stay, of all, with each minute divided. -/
def stL (rs : List (List Int)) (i : Nat) : Nat := (stG rs i 2 - stG rs i 1).toNat
def exD (ts : List Tk) (d a f : Int) (n : Nat) : Int := sumK (fun i => duF ts a f i / d) n
def stE (ts : List Tk) (d : Int) (rs : List (List Int)) (i : Nat) : Int := exD ts d (stG rs i 0) (stG rs i 1) (stL rs i)
def exT (ts : List Tk) (rs : List (List Int)) : Int := sumK (stE ts 1 rs) rs.length
theorem exD_one (ts : List Tk) (a f : Int) (n : Nat) : exD ts 1 a f n = exS ts a f n := sumK_congr (fun k _ => Int.ediv_one _)
theorem exD_fbd {ts : List Tk} (h : tsOk ts = true) (a f : Int) {d : Int} (hd : 1 ≤ d) (i : Nat) : 0 ≤ duF ts a f i / d ∧ duF ts a f i / d ≤ 12000000 := by
  have h1 := duF_bd h a f i
  refine ⟨Int.ediv_nonneg h1.1 (by omega), ?_⟩
  have := Int.ediv_le_self (a := duF ts a f i) d h1.1
  omega
theorem exD_part {ts : List Tk} (h : tsOk ts = true) (a f : Int) {d : Int} (hd : 1 ≤ d) {n : Nat} (hn : n ≤ 1440) : 0 ≤ sumK (fun i => duF ts a f i / d) n ∧ sumK (fun i => duF ts a f i / d) n ≤ 17280000000 := by
  have := sumK_bd (fun k (_ : k < n) => exD_fbd h a f hd k) n (Nat.le_refl _)
  omega
theorem st_row {rs : List (List Int)} (h : stOk rs = true) {i : Nat} (hi : i < rs.length) : (rs.getD i []).length = 3 ∧ (0 ≤ stG rs i 0 ∧ stG rs i 0 ≤ 23) ∧ (0 ≤ stG rs i 1 ∧ stG rs i 1 ≤ 1439) ∧ stG rs i 2 = stG rs i 1 + (stL rs i : Int) ∧ stL rs i ≤ 1440 ∧ stG rs i 2 ≤ 1440 := by
  have h1 := (stOk_iff.1 h).1 i hi
  have h2 := snOk_bd h1.2
  unfold stL
  refine ⟨h1.1, h2.1, h2.2.1, ?_, ?_, ?_⟩ <;> omega
theorem stE_bd {ts : List Tk} (h : tsOk ts = true) {d : Int} (hd : 1 ≤ d) {rs : List (List Int)} (hs : stOk rs = true) {i : Nat} (hi : i < rs.length) : 0 ≤ stE ts d rs i ∧ stE ts d rs i ≤ 17280000000 := exD_part h _ _ hd (st_row hs hi).2.2.2.2.1
theorem exT_part {ts : List Tk} (h : tsOk ts = true) {d : Int} (hd : 1 ≤ d) {rs : List (List Int)} (hs : stOk rs = true) {k : Nat} (hk : k ≤ rs.length) : 0 ≤ sumK (stE ts d rs) k ∧ sumK (stE ts d rs) k ≤ 207360000000 := by
  have h1 := sumK_bd (f := stE ts d rs) (fun i hi => stE_bd h hd hs hi) k hk
  have h2 := (stOk_iff.1 hs).2
  omega
/-- What ExposureOf returns. -/
def eoA (ts : List Tk) (rs : List (List Int)) : Int := if tsOk ts && stOk rs then exT ts rs else 0
def eoB (ts : List Tk) (rs : List (List Int)) : Int := if tsOk ts then (if stOk rs then 0 else 2) else 1
/-- A stay's cells. -/
theorem RowsR.three {w : World} {A : Option Addr} {xs : List (List Int)} (h : RowsR w A xs) {k : Nat} (hk : k < xs.length) (h3 : (xs.getD k []).length = 3) :
    ∃ b off b' off' cap, A = some ⟨b, off, none⟩ ∧ w.cell? ⟨b, off + k, none⟩ = some (.slice (some ⟨b', off', none⟩) 3 cap) ∧ w.cell? ⟨b', off', none⟩ = some (.int .i64 (stG xs k 0)) ∧ w.cell? ⟨b', off' + 1, none⟩ = some (.int .i64 (stG xs k 1)) ∧ w.cell? ⟨b', off' + 2, none⟩ = some (.int .i64 (stG xs k 2)) := by
  have e : xs.getD k [] = xs[k] := by simp [List.getD, hk]
  rw [e] at h3
  obtain ⟨b, off, A', cap, rfl, hc, hr⟩ := h.row hk
  obtain ⟨b', off', rfl, -, c0⟩ := RowW.cell hr (j := 0) (by omega)
  obtain ⟨b2, off2, e2, -, c1⟩ := RowW.cell hr (j := 1) (by omega)
  injection e2 with e2
  injection e2 with e3 e4
  subst e3
  subst e4
  obtain ⟨b2, off2, e2, -, c2⟩ := RowW.cell hr (j := 2) (by omega)
  injection e2 with e2
  injection e2 with e3 e4
  subst e3
  subst e4
  rw [h3] at hc
  exact ⟨b, off, b', off', cap, rfl, hc, by unfold stG; rw [e]; exact c0, by unfold stG; rw [e]; exact c1, by unfold stG; rw [e]; exact c2⟩
set_option maxRecDepth 100000 in
set_option maxHeartbeats 4000000 in
theorem l14Stays_any (A : Option Addr) (cap : Nat) (rs : List (List Int)) (w : World) (hr : RowsR w A rs) (hl : rs.length ≤ 1048576) (hx : ∀ r ∈ rs, r.length ≤ 1048576) :
    Calls Try.prog 68 #[.slice A rs.length cap] w fun e w' => e = .returned (.bool (stOk rs)) ∧ Below w.heap.size w w' := by
  have HR := Lib.hid hr
  have HX := Lib.hid hx
  clear hr hx
  go_enter Try.func68, Try.ntmps68
  go_wp2
  go_loopw [3] (fun i wr => ∃ k : Nat, k ≤ rs.length ∧ i = .int .i64 k ∧ Hid (∀ j, j < k → stRow rs j = true) ∧ Below w.heap.size w wr) (fun i wr => rs.length - (intOf i).toNat)
  case atStart => exact ⟨0, by omega, rfl, Lib.hid (fun j hj => absurd hj (by omega)), Below.refl _ _⟩
  case round =>
    obtain ⟨k, hk, rfl, HG, hbel⟩ := hrel
    by_cases hlt : k < rs.length
    · have hke : rs.getD k [] = rs[k] := by simp [List.getD, hlt]
      have hlI : (k : Int) < (rs.length : Int) := by omega
      obtain ⟨wo, rfl⟩ : ∃ wo : World, wo = wr := ⟨_, rfl⟩
      by_cases h3 : (rs.getD k []).length = 3
      · obtain ⟨b, off, b', off', c, rfl, hc, c0, c1, c2⟩ := (HR.out.below hbel).three hlt h3
        have HQ := Lib.hid (show stRow rs k = (inB (stG rs k 0) 0 23 && (inB (stG rs k 1) 0 1439 && inB (stG rs k 2) (stG rs k 1 + 1) 1440)) by unfold stRow; rw [decide_eq_true h3, Bool.true_and]; rfl)
        have HBD := Lib.hid (fun (h : stRow rs k = false) => stOk_bad hlt h)
        clear hke h3
        generalize stG rs k 0 = x at *
        generalize stG rs k 1 = y at *
        generalize stG rs k 2 = z at *
        cases j0 : inB x 0 23
        · have HF := Lib.hid (HBD.out (by rw [HQ.out, j0]; rfl))
          go_wp2_with fail
          refine wp_region_held (S := fun w' => w'.cell? ⟨b, off + k, none⟩ = some (.slice (some ⟨b', off', none⟩) 3 c) ∧ w'.cell? ⟨b', off', none⟩ = some (.int .i64 x) ∧ w'.cell? ⟨b', off' + 1, none⟩ = some (.int .i64 y) ∧ w'.cell? ⟨b', off' + 2, none⟩ = some (.int .i64 z) ∧ Below wo.heap.size wo w') (by kernel_rfl) ?_
          try (change wpAnyH _ _ _ _ _ _ _ _ (World.drew _))
          have hS0 := (show wo.drew.cell? ⟨b, off + k, none⟩ = some (.slice (some ⟨b', off', none⟩) 3 c) ∧ wo.drew.cell? ⟨b', off', none⟩ = some (.int .i64 x) ∧ wo.drew.cell? ⟨b', off' + 1, none⟩ = some (.int .i64 y) ∧ wo.drew.cell? ⟨b', off' + 2, none⟩ = some (.int .i64 z) ∧ Below wo.heap.size wo wo.drew from ⟨hc, c0, c1, c2, Below.drew (Below.refl _ _)⟩)
          refine gTake 0 (v := ?_) rfl (by kernel_rfl) (by kernel_rfl) (by kernel_rfl) (fun _ _ _ h => h) (by kernel_rfl) ?_ hS0 ?_
          rotate_left
          · (intro W hW; clear hW; go_simp; try with_reducible rfl)
          refine gTake 1 (v := ?_) rfl (by kernel_rfl) (by kernel_rfl) (by kernel_rfl) (fun _ _ _ h => h) (by kernel_rfl) ?_ hS0 ?_
          rotate_left
          · (intro W hW; clear hW; go_simp; try with_reducible rfl)
          refine gTake 2 (v := ?_) rfl (by kernel_rfl) (by kernel_rfl) (by kernel_rfl) (fun _ _ _ h => h) (by kernel_rfl) ?_ hS0 ?_
          rotate_left
          · (intro W hW; clear hW; go_simp; try with_reducible rfl)
          refine gTake 3 (v := ?_) rfl (by kernel_rfl) (by kernel_rfl) (by kernel_rfl) (fun _ _ _ h => h) (by kernel_rfl) ?_ hS0 ?_
          rotate_left
          · (intro W hW; have q0 := hW.1; have q1 := hW.2.1; have q2 := hW.2.2.1; have q3 := hW.2.2.2.1; clear hW; go_simp; try with_reducible rfl)
          refine gTake 4 (v := ?_) rfl (by kernel_rfl) (by kernel_rfl) (by kernel_rfl) (fun _ _ _ h => h) (by kernel_rfl) ?_ hS0 ?_
          rotate_left
          · (intro W hW; clear hW; go_simp; try with_reducible rfl)
          refine gTake 5 (v := ?_) rfl (by kernel_rfl) (by kernel_rfl) (by kernel_rfl) (fun _ _ _ h => h) (by kernel_rfl) ?_ hS0 ?_
          rotate_left
          · (intro W hW; clear hW; go_simp; try with_reducible rfl)
          refine gTake 6 (v := ?_) rfl (by kernel_rfl) (by kernel_rfl) (by kernel_rfl) (fun _ _ _ h => h) (by kernel_rfl) ?_ hS0 ?_
          rotate_left
          · (intro W hW; clear hW; go_simp; try with_reducible rfl)
          refine gTake 7 (v := ?_) rfl (by kernel_rfl) (by kernel_rfl) (by kernel_rfl) (fun _ _ _ h => h) (by kernel_rfl) ?_ hS0 ?_
          rotate_left
          · (intro W hW; clear hW; go_simp; try with_reducible rfl)
          refine gTake 8 (v := ?_) rfl (by kernel_rfl) (by kernel_rfl) (by kernel_rfl) (fun _ _ _ h => h) (by kernel_rfl) ?_ hS0 ?_
          rotate_left
          · (intro W hW; clear hW; go_simp; try with_reducible rfl)
          refine gTake 9 (v := ?_) rfl (by kernel_rfl) (by kernel_rfl) (by kernel_rfl) (fun _ _ _ h => h) (by kernel_rfl) ?_ hS0 ?_
          rotate_left
          · (intro W hW; clear hW; go_simp; try with_reducible rfl)
          refine gTake 10 (v := ?_) rfl (by kernel_rfl) (by kernel_rfl) (by kernel_rfl) (fun _ _ _ h => h) (by kernel_rfl) ?_ hS0 ?_
          rotate_left
          · (intro W hW; have q0 := hW.1; have q1 := hW.2.1; have q2 := hW.2.2.1; have q3 := hW.2.2.2.1; clear hW; go_simp; try with_reducible rfl)
          refine gTake 11 (v := ?_) rfl (by kernel_rfl) (by kernel_rfl) (by kernel_rfl) (fun _ _ _ h => h) (by kernel_rfl) ?_ hS0 ?_
          rotate_left
          · (intro W hW; clear hW; go_simp; try with_reducible rfl)
          refine gTake 12 (v := ?_) rfl (by kernel_rfl) (by kernel_rfl) (by kernel_rfl) (fun _ _ _ h => h) (by kernel_rfl) ?_ hS0 ?_
          rotate_left
          · (intro W hW; have q0 := hW.1; have q1 := hW.2.1; have q2 := hW.2.2.1; have q3 := hW.2.2.2.1; clear hW; go_simp; try with_reducible rfl)
          refine gOne 13 rfl (by kernel_rfl) (by kernel_rfl) (fun K hK => ?_)
          go_simp
          go_at_call 63
          (with_reducible refine (l14Airway_any _ _).mono ?_)
          rintro e w' ⟨rfl, rfl⟩
          try go_simp
          have hS1 := hS0
          refine hK _ _ hS1 ?_
          clear hK K
          refine gTake 14 (v := ?_) rfl (by kernel_rfl) (by kernel_rfl) (by kernel_rfl) (fun _ _ _ h => h) (by kernel_rfl) ?_ hS1 ?_
          rotate_left
          · (intro W hW; clear hW; go_simp; try with_reducible rfl)
          refine gTake 15 (v := ?_) rfl (by kernel_rfl) (by kernel_rfl) (by kernel_rfl) (fun _ _ _ h => h) (by kernel_rfl) ?_ hS1 ?_
          rotate_left
          · (intro W hW; clear hW; go_simp; try with_reducible rfl)
          refine gTake 16 (v := ?_) rfl (by kernel_rfl) (by kernel_rfl) (by kernel_rfl) (fun _ _ _ h => h) (by kernel_rfl) ?_ hS1 ?_
          rotate_left
          · (intro W hW; clear hW; go_simp; try with_reducible rfl)
          refine gSkip 17 rfl (by kernel_rfl) (by kernel_rfl) (by kernel_rfl) (fun _ _ _ h => h) (by kernel_rfl) hS1 ?_
          refine gSkip 18 rfl (by kernel_rfl) (by kernel_rfl) (by kernel_rfl) (fun _ _ _ h => h) (by kernel_rfl) hS1 ?_
          refine gSkip 19 rfl (by kernel_rfl) (by kernel_rfl) (by kernel_rfl) (fun _ _ _ h => h) (by kernel_rfl) hS1 ?_
          refine gSkip 20 rfl (by kernel_rfl) (by kernel_rfl) (by kernel_rfl) (fun _ _ _ h => h) (by kernel_rfl) hS1 ?_
          refine gSkip 21 rfl (by kernel_rfl) (by kernel_rfl) (by kernel_rfl) (fun _ _ _ h => h) (by kernel_rfl) hS1 ?_
          refine gSkip 22 rfl (by kernel_rfl) (by kernel_rfl) (by kernel_rfl) (fun _ _ _ h => h) (by kernel_rfl) hS1 ?_
          refine gSkip 23 rfl (by kernel_rfl) (by kernel_rfl) (by kernel_rfl) (fun _ _ _ h => h) (by kernel_rfl) hS1 ?_
          refine gSkip 24 rfl (by kernel_rfl) (by kernel_rfl) (by kernel_rfl) (fun _ _ _ h => h) (by kernel_rfl) hS1 ?_
          refine gSkip 25 rfl (by kernel_rfl) (by kernel_rfl) (by kernel_rfl) (fun _ _ _ h => h) (by kernel_rfl) hS1 ?_
          refine gSkip 26 rfl (by kernel_rfl) (by kernel_rfl) (by kernel_rfl) (fun _ _ _ h => h) (by kernel_rfl) hS1 ?_
          refine gSkip 27 rfl (by kernel_rfl) (by kernel_rfl) (by kernel_rfl) (fun _ _ _ h => h) (by kernel_rfl) hS1 ?_
          refine gSkip 28 rfl (by kernel_rfl) (by kernel_rfl) (by kernel_rfl) (fun _ _ _ h => h) (by kernel_rfl) hS1 ?_
          refine gSkip 29 rfl (by kernel_rfl) (by kernel_rfl) (by kernel_rfl) (fun _ _ _ h => h) (by kernel_rfl) hS1 ?_
          refine gSkip 30 rfl (by kernel_rfl) (by kernel_rfl) (by kernel_rfl) (fun _ _ _ h => h) (by kernel_rfl) hS1 ?_
          refine gTake 31 (v := ?_) rfl (by kernel_rfl) (by kernel_rfl) (by kernel_rfl) (fun _ _ _ h => h) (by kernel_rfl) ?_ hS1 ?_
          rotate_left
          · (intro W hW; clear hW; go_simp; try with_reducible rfl)
          refine wpAnyH_done (by kernel_rfl) ?_ _
          go_simp
          go_wp2
          go_ret
          exact ⟨ret_bool HF.out.symm, hbel.trans (hS1.2.2.2.2.mono hbel.size)⟩
        · cases j1 : (inB y 0 1439 && inB z (y + 1) 1440)
          · have HF := Lib.hid (HBD.out (by rw [HQ.out, j0, j1]; rfl))
            go_wp2_with fail
            refine wp_region_held (S := fun w' => w'.cell? ⟨b, off + k, none⟩ = some (.slice (some ⟨b', off', none⟩) 3 c) ∧ w'.cell? ⟨b', off', none⟩ = some (.int .i64 x) ∧ w'.cell? ⟨b', off' + 1, none⟩ = some (.int .i64 y) ∧ w'.cell? ⟨b', off' + 2, none⟩ = some (.int .i64 z) ∧ Below wo.heap.size wo w') (by kernel_rfl) ?_
            try (change wpAnyH _ _ _ _ _ _ _ _ (World.drew _))
            have hS0 := (show wo.drew.cell? ⟨b, off + k, none⟩ = some (.slice (some ⟨b', off', none⟩) 3 c) ∧ wo.drew.cell? ⟨b', off', none⟩ = some (.int .i64 x) ∧ wo.drew.cell? ⟨b', off' + 1, none⟩ = some (.int .i64 y) ∧ wo.drew.cell? ⟨b', off' + 2, none⟩ = some (.int .i64 z) ∧ Below wo.heap.size wo wo.drew from ⟨hc, c0, c1, c2, Below.drew (Below.refl _ _)⟩)
            refine gTake 0 (v := ?_) rfl (by kernel_rfl) (by kernel_rfl) (by kernel_rfl) (fun _ _ _ h => h) (by kernel_rfl) ?_ hS0 ?_
            rotate_left
            · (intro W hW; clear hW; go_simp; try with_reducible rfl)
            refine gTake 1 (v := ?_) rfl (by kernel_rfl) (by kernel_rfl) (by kernel_rfl) (fun _ _ _ h => h) (by kernel_rfl) ?_ hS0 ?_
            rotate_left
            · (intro W hW; clear hW; go_simp; try with_reducible rfl)
            refine gTake 2 (v := ?_) rfl (by kernel_rfl) (by kernel_rfl) (by kernel_rfl) (fun _ _ _ h => h) (by kernel_rfl) ?_ hS0 ?_
            rotate_left
            · (intro W hW; clear hW; go_simp; try with_reducible rfl)
            refine gTake 3 (v := ?_) rfl (by kernel_rfl) (by kernel_rfl) (by kernel_rfl) (fun _ _ _ h => h) (by kernel_rfl) ?_ hS0 ?_
            rotate_left
            · (intro W hW; have q0 := hW.1; have q1 := hW.2.1; have q2 := hW.2.2.1; have q3 := hW.2.2.2.1; clear hW; go_simp; try with_reducible rfl)
            refine gTake 4 (v := ?_) rfl (by kernel_rfl) (by kernel_rfl) (by kernel_rfl) (fun _ _ _ h => h) (by kernel_rfl) ?_ hS0 ?_
            rotate_left
            · (intro W hW; clear hW; go_simp; try with_reducible rfl)
            refine gTake 5 (v := ?_) rfl (by kernel_rfl) (by kernel_rfl) (by kernel_rfl) (fun _ _ _ h => h) (by kernel_rfl) ?_ hS0 ?_
            rotate_left
            · (intro W hW; clear hW; go_simp; try with_reducible rfl)
            refine gTake 6 (v := ?_) rfl (by kernel_rfl) (by kernel_rfl) (by kernel_rfl) (fun _ _ _ h => h) (by kernel_rfl) ?_ hS0 ?_
            rotate_left
            · (intro W hW; clear hW; go_simp; try with_reducible rfl)
            refine gTake 7 (v := ?_) rfl (by kernel_rfl) (by kernel_rfl) (by kernel_rfl) (fun _ _ _ h => h) (by kernel_rfl) ?_ hS0 ?_
            rotate_left
            · (intro W hW; clear hW; go_simp; try with_reducible rfl)
            refine gTake 8 (v := ?_) rfl (by kernel_rfl) (by kernel_rfl) (by kernel_rfl) (fun _ _ _ h => h) (by kernel_rfl) ?_ hS0 ?_
            rotate_left
            · (intro W hW; clear hW; go_simp; try with_reducible rfl)
            refine gTake 9 (v := ?_) rfl (by kernel_rfl) (by kernel_rfl) (by kernel_rfl) (fun _ _ _ h => h) (by kernel_rfl) ?_ hS0 ?_
            rotate_left
            · (intro W hW; clear hW; go_simp; try with_reducible rfl)
            refine gTake 10 (v := ?_) rfl (by kernel_rfl) (by kernel_rfl) (by kernel_rfl) (fun _ _ _ h => h) (by kernel_rfl) ?_ hS0 ?_
            rotate_left
            · (intro W hW; have q0 := hW.1; have q1 := hW.2.1; have q2 := hW.2.2.1; have q3 := hW.2.2.2.1; clear hW; go_simp; try with_reducible rfl)
            refine gTake 11 (v := ?_) rfl (by kernel_rfl) (by kernel_rfl) (by kernel_rfl) (fun _ _ _ h => h) (by kernel_rfl) ?_ hS0 ?_
            rotate_left
            · (intro W hW; clear hW; go_simp; try with_reducible rfl)
            refine gTake 12 (v := ?_) rfl (by kernel_rfl) (by kernel_rfl) (by kernel_rfl) (fun _ _ _ h => h) (by kernel_rfl) ?_ hS0 ?_
            rotate_left
            · (intro W hW; have q0 := hW.1; have q1 := hW.2.1; have q2 := hW.2.2.1; have q3 := hW.2.2.2.1; clear hW; go_simp; try with_reducible rfl)
            refine gOne 13 rfl (by kernel_rfl) (by kernel_rfl) (fun K hK => ?_)
            go_simp
            go_at_call 63
            (with_reducible refine (l14Airway_any _ _).mono ?_)
            rintro e w' ⟨rfl, rfl⟩
            try go_simp
            have hS1 := hS0
            refine hK _ _ hS1 ?_
            clear hK K
            refine gTake 14 (v := ?_) rfl (by kernel_rfl) (by kernel_rfl) (by kernel_rfl) (fun _ _ _ h => h) (by kernel_rfl) ?_ hS1 ?_
            rotate_left
            · (intro W hW; clear hW; go_simp; try with_reducible rfl)
            refine gTake 15 (v := ?_) rfl (by kernel_rfl) (by kernel_rfl) (by kernel_rfl) (fun _ _ _ h => h) (by kernel_rfl) ?_ hS1 ?_
            rotate_left
            · (intro W hW; clear hW; go_simp; try with_reducible rfl)
            refine gTake 16 (v := ?_) rfl (by kernel_rfl) (by kernel_rfl) (by kernel_rfl) (fun _ _ _ h => h) (by kernel_rfl) ?_ hS1 ?_
            rotate_left
            · (intro W hW; clear hW; go_simp; try with_reducible rfl)
            refine gTake 17 (v := ?_) rfl (by kernel_rfl) (by kernel_rfl) (by kernel_rfl) (fun _ _ _ h => h) (by kernel_rfl) ?_ hS1 ?_
            rotate_left
            · (intro W hW; clear hW; go_simp; try with_reducible rfl)
            refine gTake 18 (v := ?_) rfl (by kernel_rfl) (by kernel_rfl) (by kernel_rfl) (fun _ _ _ h => h) (by kernel_rfl) ?_ hS1 ?_
            rotate_left
            · (intro W hW; clear hW; go_simp; try with_reducible rfl)
            refine gTake 19 (v := ?_) rfl (by kernel_rfl) (by kernel_rfl) (by kernel_rfl) (fun _ _ _ h => h) (by kernel_rfl) ?_ hS1 ?_
            rotate_left
            · (intro W hW; clear hW; go_simp; try with_reducible rfl)
            refine gTake 20 (v := ?_) rfl (by kernel_rfl) (by kernel_rfl) (by kernel_rfl) (fun _ _ _ h => h) (by kernel_rfl) ?_ hS1 ?_
            rotate_left
            · (intro W hW; have q0 := hW.1; have q1 := hW.2.1; have q2 := hW.2.2.1; have q3 := hW.2.2.2.1; clear hW; go_simp; try with_reducible rfl)
            refine gTake 21 (v := ?_) rfl (by kernel_rfl) (by kernel_rfl) (by kernel_rfl) (fun _ _ _ h => h) (by kernel_rfl) ?_ hS1 ?_
            rotate_left
            · (intro W hW; clear hW; go_simp; try with_reducible rfl)
            refine gTake 22 (v := ?_) rfl (by kernel_rfl) (by kernel_rfl) (by kernel_rfl) (fun _ _ _ h => h) (by kernel_rfl) ?_ hS1 ?_
            rotate_left
            · (intro W hW; have q0 := hW.1; have q1 := hW.2.1; have q2 := hW.2.2.1; have q3 := hW.2.2.2.1; clear hW; go_simp; try with_reducible rfl)
            refine gTake 23 (v := ?_) rfl (by kernel_rfl) (by kernel_rfl) (by kernel_rfl) (fun _ _ _ h => h) (by kernel_rfl) ?_ hS1 ?_
            rotate_left
            · (intro W hW; clear hW; go_simp; try with_reducible rfl)
            refine gTake 24 (v := ?_) rfl (by kernel_rfl) (by kernel_rfl) (by kernel_rfl) (fun _ _ _ h => h) (by kernel_rfl) ?_ hS1 ?_
            rotate_left
            · (intro W hW; clear hW; go_simp; try with_reducible rfl)
            refine gTake 25 (v := ?_) rfl (by kernel_rfl) (by kernel_rfl) (by kernel_rfl) (fun _ _ _ h => h) (by kernel_rfl) ?_ hS1 ?_
            rotate_left
            · (intro W hW; clear hW; go_simp; try with_reducible rfl)
            refine gTake 26 (v := ?_) rfl (by kernel_rfl) (by kernel_rfl) (by kernel_rfl) (fun _ _ _ h => h) (by kernel_rfl) ?_ hS1 ?_
            rotate_left
            · (intro W hW; have q0 := hW.1; have q1 := hW.2.1; have q2 := hW.2.2.1; have q3 := hW.2.2.2.1; clear hW; go_simp; try with_reducible rfl)
            refine gTake 27 (v := ?_) rfl (by kernel_rfl) (by kernel_rfl) (by kernel_rfl) (fun _ _ _ h => h) (by kernel_rfl) ?_ hS1 ?_
            rotate_left
            · (intro W hW; clear hW; go_simp; try with_reducible rfl)
            refine gTake 28 (v := ?_) rfl (by kernel_rfl) (by kernel_rfl) (by kernel_rfl) (fun _ _ _ h => h) (by kernel_rfl) ?_ hS1 ?_
            rotate_left
            · (intro W hW; have q0 := hW.1; have q1 := hW.2.1; have q2 := hW.2.2.1; have q3 := hW.2.2.2.1; clear hW; go_simp; try with_reducible rfl)
            refine gOne 29 rfl (by kernel_rfl) (by kernel_rfl) (fun K hK => ?_)
            go_simp
            go_at_call 82
            (with_reducible refine (l14Minutes_any _ _ _).mono ?_)
            rintro e w' ⟨rfl, rfl⟩
            try go_simp
            have hS2 := hS1
            refine hK _ _ hS2 ?_
            clear hK K
            refine gTake 30 (v := ?_) rfl (by kernel_rfl) (by kernel_rfl) (by kernel_rfl) (fun _ _ _ h => h) (by kernel_rfl) ?_ hS2 ?_
            rotate_left
            · (intro W hW; clear hW; go_simp; try with_reducible rfl)
            refine gTake 31 (v := ?_) rfl (by kernel_rfl) (by kernel_rfl) (by kernel_rfl) (fun _ _ _ h => h) (by kernel_rfl) ?_ hS2 ?_
            rotate_left
            · (intro W hW; clear hW; go_simp; try with_reducible rfl)
            refine wpAnyH_done (by kernel_rfl) ?_ _
            go_simp
            go_wp2
            go_ret
            exact ⟨ret_bool HF.out.symm, hbel.trans (hS2.2.2.2.2.mono hbel.size)⟩
          · have HF := Lib.hid (show stRow rs k = true by rw [HQ.out, j0, j1]; rfl)
            go_wp2_with fail
            refine wp_region_held (S := fun w' => w'.cell? ⟨b, off + k, none⟩ = some (.slice (some ⟨b', off', none⟩) 3 c) ∧ w'.cell? ⟨b', off', none⟩ = some (.int .i64 x) ∧ w'.cell? ⟨b', off' + 1, none⟩ = some (.int .i64 y) ∧ w'.cell? ⟨b', off' + 2, none⟩ = some (.int .i64 z) ∧ Below wo.heap.size wo w') (by kernel_rfl) ?_
            try (change wpAnyH _ _ _ _ _ _ _ _ (World.drew _))
            have hS0 := (show wo.drew.cell? ⟨b, off + k, none⟩ = some (.slice (some ⟨b', off', none⟩) 3 c) ∧ wo.drew.cell? ⟨b', off', none⟩ = some (.int .i64 x) ∧ wo.drew.cell? ⟨b', off' + 1, none⟩ = some (.int .i64 y) ∧ wo.drew.cell? ⟨b', off' + 2, none⟩ = some (.int .i64 z) ∧ Below wo.heap.size wo wo.drew from ⟨hc, c0, c1, c2, Below.drew (Below.refl _ _)⟩)
            refine gTake 0 (v := ?_) rfl (by kernel_rfl) (by kernel_rfl) (by kernel_rfl) (fun _ _ _ h => h) (by kernel_rfl) ?_ hS0 ?_
            rotate_left
            · (intro W hW; clear hW; go_simp; try with_reducible rfl)
            refine gTake 1 (v := ?_) rfl (by kernel_rfl) (by kernel_rfl) (by kernel_rfl) (fun _ _ _ h => h) (by kernel_rfl) ?_ hS0 ?_
            rotate_left
            · (intro W hW; clear hW; go_simp; try with_reducible rfl)
            refine gTake 2 (v := ?_) rfl (by kernel_rfl) (by kernel_rfl) (by kernel_rfl) (fun _ _ _ h => h) (by kernel_rfl) ?_ hS0 ?_
            rotate_left
            · (intro W hW; clear hW; go_simp; try with_reducible rfl)
            refine gTake 3 (v := ?_) rfl (by kernel_rfl) (by kernel_rfl) (by kernel_rfl) (fun _ _ _ h => h) (by kernel_rfl) ?_ hS0 ?_
            rotate_left
            · (intro W hW; have q0 := hW.1; have q1 := hW.2.1; have q2 := hW.2.2.1; have q3 := hW.2.2.2.1; clear hW; go_simp; try with_reducible rfl)
            refine gTake 4 (v := ?_) rfl (by kernel_rfl) (by kernel_rfl) (by kernel_rfl) (fun _ _ _ h => h) (by kernel_rfl) ?_ hS0 ?_
            rotate_left
            · (intro W hW; clear hW; go_simp; try with_reducible rfl)
            refine gTake 5 (v := ?_) rfl (by kernel_rfl) (by kernel_rfl) (by kernel_rfl) (fun _ _ _ h => h) (by kernel_rfl) ?_ hS0 ?_
            rotate_left
            · (intro W hW; clear hW; go_simp; try with_reducible rfl)
            refine gTake 6 (v := ?_) rfl (by kernel_rfl) (by kernel_rfl) (by kernel_rfl) (fun _ _ _ h => h) (by kernel_rfl) ?_ hS0 ?_
            rotate_left
            · (intro W hW; clear hW; go_simp; try with_reducible rfl)
            refine gTake 7 (v := ?_) rfl (by kernel_rfl) (by kernel_rfl) (by kernel_rfl) (fun _ _ _ h => h) (by kernel_rfl) ?_ hS0 ?_
            rotate_left
            · (intro W hW; clear hW; go_simp; try with_reducible rfl)
            refine gTake 8 (v := ?_) rfl (by kernel_rfl) (by kernel_rfl) (by kernel_rfl) (fun _ _ _ h => h) (by kernel_rfl) ?_ hS0 ?_
            rotate_left
            · (intro W hW; clear hW; go_simp; try with_reducible rfl)
            refine gTake 9 (v := ?_) rfl (by kernel_rfl) (by kernel_rfl) (by kernel_rfl) (fun _ _ _ h => h) (by kernel_rfl) ?_ hS0 ?_
            rotate_left
            · (intro W hW; clear hW; go_simp; try with_reducible rfl)
            refine gTake 10 (v := ?_) rfl (by kernel_rfl) (by kernel_rfl) (by kernel_rfl) (fun _ _ _ h => h) (by kernel_rfl) ?_ hS0 ?_
            rotate_left
            · (intro W hW; have q0 := hW.1; have q1 := hW.2.1; have q2 := hW.2.2.1; have q3 := hW.2.2.2.1; clear hW; go_simp; try with_reducible rfl)
            refine gTake 11 (v := ?_) rfl (by kernel_rfl) (by kernel_rfl) (by kernel_rfl) (fun _ _ _ h => h) (by kernel_rfl) ?_ hS0 ?_
            rotate_left
            · (intro W hW; clear hW; go_simp; try with_reducible rfl)
            refine gTake 12 (v := ?_) rfl (by kernel_rfl) (by kernel_rfl) (by kernel_rfl) (fun _ _ _ h => h) (by kernel_rfl) ?_ hS0 ?_
            rotate_left
            · (intro W hW; have q0 := hW.1; have q1 := hW.2.1; have q2 := hW.2.2.1; have q3 := hW.2.2.2.1; clear hW; go_simp; try with_reducible rfl)
            refine gOne 13 rfl (by kernel_rfl) (by kernel_rfl) (fun K hK => ?_)
            go_simp
            go_at_call 63
            (with_reducible refine (l14Airway_any _ _).mono ?_)
            rintro e w' ⟨rfl, rfl⟩
            try go_simp
            have hS1 := hS0
            refine hK _ _ hS1 ?_
            clear hK K
            refine gTake 14 (v := ?_) rfl (by kernel_rfl) (by kernel_rfl) (by kernel_rfl) (fun _ _ _ h => h) (by kernel_rfl) ?_ hS1 ?_
            rotate_left
            · (intro W hW; clear hW; go_simp; try with_reducible rfl)
            refine gTake 15 (v := ?_) rfl (by kernel_rfl) (by kernel_rfl) (by kernel_rfl) (fun _ _ _ h => h) (by kernel_rfl) ?_ hS1 ?_
            rotate_left
            · (intro W hW; clear hW; go_simp; try with_reducible rfl)
            refine gTake 16 (v := ?_) rfl (by kernel_rfl) (by kernel_rfl) (by kernel_rfl) (fun _ _ _ h => h) (by kernel_rfl) ?_ hS1 ?_
            rotate_left
            · (intro W hW; clear hW; go_simp; try with_reducible rfl)
            refine gTake 17 (v := ?_) rfl (by kernel_rfl) (by kernel_rfl) (by kernel_rfl) (fun _ _ _ h => h) (by kernel_rfl) ?_ hS1 ?_
            rotate_left
            · (intro W hW; clear hW; go_simp; try with_reducible rfl)
            refine gTake 18 (v := ?_) rfl (by kernel_rfl) (by kernel_rfl) (by kernel_rfl) (fun _ _ _ h => h) (by kernel_rfl) ?_ hS1 ?_
            rotate_left
            · (intro W hW; clear hW; go_simp; try with_reducible rfl)
            refine gTake 19 (v := ?_) rfl (by kernel_rfl) (by kernel_rfl) (by kernel_rfl) (fun _ _ _ h => h) (by kernel_rfl) ?_ hS1 ?_
            rotate_left
            · (intro W hW; clear hW; go_simp; try with_reducible rfl)
            refine gTake 20 (v := ?_) rfl (by kernel_rfl) (by kernel_rfl) (by kernel_rfl) (fun _ _ _ h => h) (by kernel_rfl) ?_ hS1 ?_
            rotate_left
            · (intro W hW; have q0 := hW.1; have q1 := hW.2.1; have q2 := hW.2.2.1; have q3 := hW.2.2.2.1; clear hW; go_simp; try with_reducible rfl)
            refine gTake 21 (v := ?_) rfl (by kernel_rfl) (by kernel_rfl) (by kernel_rfl) (fun _ _ _ h => h) (by kernel_rfl) ?_ hS1 ?_
            rotate_left
            · (intro W hW; clear hW; go_simp; try with_reducible rfl)
            refine gTake 22 (v := ?_) rfl (by kernel_rfl) (by kernel_rfl) (by kernel_rfl) (fun _ _ _ h => h) (by kernel_rfl) ?_ hS1 ?_
            rotate_left
            · (intro W hW; have q0 := hW.1; have q1 := hW.2.1; have q2 := hW.2.2.1; have q3 := hW.2.2.2.1; clear hW; go_simp; try with_reducible rfl)
            refine gTake 23 (v := ?_) rfl (by kernel_rfl) (by kernel_rfl) (by kernel_rfl) (fun _ _ _ h => h) (by kernel_rfl) ?_ hS1 ?_
            rotate_left
            · (intro W hW; clear hW; go_simp; try with_reducible rfl)
            refine gTake 24 (v := ?_) rfl (by kernel_rfl) (by kernel_rfl) (by kernel_rfl) (fun _ _ _ h => h) (by kernel_rfl) ?_ hS1 ?_
            rotate_left
            · (intro W hW; clear hW; go_simp; try with_reducible rfl)
            refine gTake 25 (v := ?_) rfl (by kernel_rfl) (by kernel_rfl) (by kernel_rfl) (fun _ _ _ h => h) (by kernel_rfl) ?_ hS1 ?_
            rotate_left
            · (intro W hW; clear hW; go_simp; try with_reducible rfl)
            refine gTake 26 (v := ?_) rfl (by kernel_rfl) (by kernel_rfl) (by kernel_rfl) (fun _ _ _ h => h) (by kernel_rfl) ?_ hS1 ?_
            rotate_left
            · (intro W hW; have q0 := hW.1; have q1 := hW.2.1; have q2 := hW.2.2.1; have q3 := hW.2.2.2.1; clear hW; go_simp; try with_reducible rfl)
            refine gTake 27 (v := ?_) rfl (by kernel_rfl) (by kernel_rfl) (by kernel_rfl) (fun _ _ _ h => h) (by kernel_rfl) ?_ hS1 ?_
            rotate_left
            · (intro W hW; clear hW; go_simp; try with_reducible rfl)
            refine gTake 28 (v := ?_) rfl (by kernel_rfl) (by kernel_rfl) (by kernel_rfl) (fun _ _ _ h => h) (by kernel_rfl) ?_ hS1 ?_
            rotate_left
            · (intro W hW; have q0 := hW.1; have q1 := hW.2.1; have q2 := hW.2.2.1; have q3 := hW.2.2.2.1; clear hW; go_simp; try with_reducible rfl)
            refine gOne 29 rfl (by kernel_rfl) (by kernel_rfl) (fun K hK => ?_)
            go_simp
            go_at_call 82
            (with_reducible refine (l14Minutes_any _ _ _).mono ?_)
            rintro e w' ⟨rfl, rfl⟩
            try go_simp
            have hS2 := hS1
            refine hK _ _ hS2 ?_
            clear hK K
            refine gTake 30 (v := ?_) rfl (by kernel_rfl) (by kernel_rfl) (by kernel_rfl) (fun _ _ _ h => h) (by kernel_rfl) ?_ hS2 ?_
            rotate_left
            · (intro W hW; clear hW; go_simp; try with_reducible rfl)
            refine gTake 31 (v := ?_) rfl (by kernel_rfl) (by kernel_rfl) (by kernel_rfl) (fun _ _ _ h => h) (by kernel_rfl) ?_ hS2 ?_
            rotate_left
            · (intro W hW; clear hW; go_simp; try with_reducible rfl)
            refine wpAnyH_done (by kernel_rfl) ?_ _
            go_simp
            go_wp2
            go_roundw
            case rel => exact ⟨k + 1, by omega, by go_num, Lib.hid (fun j hj => by
              rcases Nat.lt_or_ge j k with q | q
              · exact HG.out j q
              · obtain rfl : j = k := by omega
                exact HF.out), hbel.trans (hS2.2.2.2.2.mono hbel.size)⟩
            case measure => simp [intOf]; omega
      · obtain ⟨b, off, A', c1, rfl, hc, -⟩ := (HR.out.below hbel).row hlt
        have hL := HX.out rs[k] (List.getElem_mem hlt)
        have HF := Lib.hid (stOk_bad hlt (by unfold stRow; rw [decide_eq_false h3, Bool.false_and]))
        rw [hke] at h3
        have h3d : ((rs[k].length : Int) != 3) = true := bne_iff_ne.2 (by omega)
        clear hke
        generalize rs[k].length = L at *
        go_wp2_with fail
        refine wp_region_held (S := fun w' => w'.cell? ⟨b, off + k, none⟩ = some (.slice A' L c1) ∧ Below wo.heap.size wo w') (by kernel_rfl) ?_
        try (change wpAnyH _ _ _ _ _ _ _ _ (World.drew _))
        have hS0 := (show wo.drew.cell? ⟨b, off + k, none⟩ = some (.slice A' L c1) ∧ Below wo.heap.size wo wo.drew from ⟨hc, Below.drew (Below.refl _ _)⟩)
        refine gTake 0 (v := ?_) rfl (by kernel_rfl) (by kernel_rfl) (by kernel_rfl) (fun _ _ _ h => h) (by kernel_rfl) ?_ hS0 ?_
        rotate_left
        · (intro W hW; clear hW; go_simp; try with_reducible rfl)
        refine gTake 1 (v := ?_) rfl (by kernel_rfl) (by kernel_rfl) (by kernel_rfl) (fun _ _ _ h => h) (by kernel_rfl) ?_ hS0 ?_
        rotate_left
        · (intro W hW; clear hW; go_simp; try with_reducible rfl)
        refine gTake 2 (v := ?_) rfl (by kernel_rfl) (by kernel_rfl) (by kernel_rfl) (fun _ _ _ h => h) (by kernel_rfl) ?_ hS0 ?_
        rotate_left
        · (intro W hW; clear hW; go_simp; try with_reducible rfl)
        refine gTake 3 (v := ?_) rfl (by kernel_rfl) (by kernel_rfl) (by kernel_rfl) (fun _ _ _ h => h) (by kernel_rfl) ?_ hS0 ?_
        rotate_left
        · (intro W hW; have q0 := hW.1; clear hW; go_simp; try with_reducible rfl)
        refine gTake 4 (v := ?_) rfl (by kernel_rfl) (by kernel_rfl) (by kernel_rfl) (fun _ _ _ h => h) (by kernel_rfl) ?_ hS0 ?_
        rotate_left
        · (intro W hW; clear hW; go_simp; try with_reducible rfl)
        refine gTake 5 (v := ?_) rfl (by kernel_rfl) (by kernel_rfl) (by kernel_rfl) (fun _ _ _ h => h) (by kernel_rfl) ?_ hS0 ?_
        rotate_left
        · (intro W hW; clear hW; go_simp; try with_reducible rfl)
        refine gTake 6 (v := ?_) rfl (by kernel_rfl) (by kernel_rfl) (by kernel_rfl) (fun _ _ _ h => h) (by kernel_rfl) ?_ hS0 ?_
        rotate_left
        · (intro W hW; clear hW; go_simp; try with_reducible rfl)
        refine gSkip 7 rfl (by kernel_rfl) (by kernel_rfl) (by kernel_rfl) (fun _ _ _ h => h) (by kernel_rfl) hS0 ?_
        refine gSkip 8 rfl (by kernel_rfl) (by kernel_rfl) (by kernel_rfl) (fun _ _ _ h => h) (by kernel_rfl) hS0 ?_
        refine gSkip 9 rfl (by kernel_rfl) (by kernel_rfl) (by kernel_rfl) (fun _ _ _ h => h) (by kernel_rfl) hS0 ?_
        refine gSkip 10 rfl (by kernel_rfl) (by kernel_rfl) (by kernel_rfl) (fun _ _ _ h => h) (by kernel_rfl) hS0 ?_
        refine gSkip 11 rfl (by kernel_rfl) (by kernel_rfl) (by kernel_rfl) (fun _ _ _ h => h) (by kernel_rfl) hS0 ?_
        refine gSkip 12 rfl (by kernel_rfl) (by kernel_rfl) (by kernel_rfl) (fun _ _ _ h => h) (by kernel_rfl) hS0 ?_
        refine gSkip 13 rfl (by kernel_rfl) (by kernel_rfl) (by kernel_rfl) (fun _ _ _ h => h) (by kernel_rfl) hS0 ?_
        refine gSkip 14 rfl (by kernel_rfl) (by kernel_rfl) (by kernel_rfl) (fun _ _ _ h => h) (by kernel_rfl) hS0 ?_
        refine gTake 15 (v := ?_) rfl (by kernel_rfl) (by kernel_rfl) (by kernel_rfl) (fun _ _ _ h => h) (by kernel_rfl) ?_ hS0 ?_
        rotate_left
        · (intro W hW; clear hW; go_simp; try with_reducible rfl)
        refine gTake 16 (v := ?_) rfl (by kernel_rfl) (by kernel_rfl) (by kernel_rfl) (fun _ _ _ h => h) (by kernel_rfl) ?_ hS0 ?_
        rotate_left
        · (intro W hW; clear hW; go_simp; try with_reducible rfl)
        refine gSkip 17 rfl (by kernel_rfl) (by kernel_rfl) (by kernel_rfl) (fun _ _ _ h => h) (by kernel_rfl) hS0 ?_
        refine gSkip 18 rfl (by kernel_rfl) (by kernel_rfl) (by kernel_rfl) (fun _ _ _ h => h) (by kernel_rfl) hS0 ?_
        refine gSkip 19 rfl (by kernel_rfl) (by kernel_rfl) (by kernel_rfl) (fun _ _ _ h => h) (by kernel_rfl) hS0 ?_
        refine gSkip 20 rfl (by kernel_rfl) (by kernel_rfl) (by kernel_rfl) (fun _ _ _ h => h) (by kernel_rfl) hS0 ?_
        refine gSkip 21 rfl (by kernel_rfl) (by kernel_rfl) (by kernel_rfl) (fun _ _ _ h => h) (by kernel_rfl) hS0 ?_
        refine gSkip 22 rfl (by kernel_rfl) (by kernel_rfl) (by kernel_rfl) (fun _ _ _ h => h) (by kernel_rfl) hS0 ?_
        refine gSkip 23 rfl (by kernel_rfl) (by kernel_rfl) (by kernel_rfl) (fun _ _ _ h => h) (by kernel_rfl) hS0 ?_
        refine gSkip 24 rfl (by kernel_rfl) (by kernel_rfl) (by kernel_rfl) (fun _ _ _ h => h) (by kernel_rfl) hS0 ?_
        refine gSkip 25 rfl (by kernel_rfl) (by kernel_rfl) (by kernel_rfl) (fun _ _ _ h => h) (by kernel_rfl) hS0 ?_
        refine gSkip 26 rfl (by kernel_rfl) (by kernel_rfl) (by kernel_rfl) (fun _ _ _ h => h) (by kernel_rfl) hS0 ?_
        refine gSkip 27 rfl (by kernel_rfl) (by kernel_rfl) (by kernel_rfl) (fun _ _ _ h => h) (by kernel_rfl) hS0 ?_
        refine gSkip 28 rfl (by kernel_rfl) (by kernel_rfl) (by kernel_rfl) (fun _ _ _ h => h) (by kernel_rfl) hS0 ?_
        refine gSkip 29 rfl (by kernel_rfl) (by kernel_rfl) (by kernel_rfl) (fun _ _ _ h => h) (by kernel_rfl) hS0 ?_
        refine gSkip 30 rfl (by kernel_rfl) (by kernel_rfl) (by kernel_rfl) (fun _ _ _ h => h) (by kernel_rfl) hS0 ?_
        refine gTake 31 (v := ?_) rfl (by kernel_rfl) (by kernel_rfl) (by kernel_rfl) (fun _ _ _ h => h) (by kernel_rfl) ?_ hS0 ?_
        rotate_left
        · (intro W hW; clear hW; go_simp; try with_reducible rfl)
        refine wpAnyH_done (by kernel_rfl) ?_ _
        go_simp
        go_wp2
        go_ret
        exact ⟨ret_bool HF.out.symm, hbel.trans (hS0.2.mono hbel.size)⟩
    · obtain rfl : k = rs.length := by omega
      have HF := Lib.hid (show stOk rs = decide ((rs.length : Int) ≤ 12) by
        unfold stOk
        rw [alK_iff.2 HG.out, Bool.true_and]
        by_cases h : rs.length ≤ 12
        · rw [decide_eq_true h, decide_eq_true (by omega)]
        · rw [decide_eq_false h, decide_eq_false (by omega)])
      have HB := Lib.hid hbel
      clear hbel
      go_wp2
      go_ret
      exact ⟨ret_bool HF.out.symm, HB.out⟩
set_option maxHeartbeats 2000000 in
theorem l14Exposure_any (A : Option Addr) (cap : Nat) (ts : List Tk) (b' off' c : Nat) (a f z d : Int) (N : Nat) (w : World) (hr : TkR w A ts) (hok : tsOk ts = true) (c0 : w.cell? ⟨b', off', none⟩ = some (.int .i64 a)) (c1 : w.cell? ⟨b', off' + 1, none⟩ = some (.int .i64 f)) (c2 : w.cell? ⟨b', off' + 2, none⟩ = some (.int .i64 z))
    (hf : 0 ≤ f ∧ f ≤ 1439) (hz : z = f + (N : Int)) (hN : N ≤ 1440) (hd : 1 ≤ d ∧ d ≤ 1000) :
    Calls Try.prog 69 #[.slice A ts.length cap, .slice (some ⟨b', off', none⟩) 3 c, .int .i64 d] w fun e w' => e = .returned (.int .i64 (exD ts d a f N)) ∧ w = w' := by
  have HR := Lib.hid hr
  have HOK := Lib.hid hok
  have hz1 := Int.le_of_eq hz
  have hz2 := Int.le_of_eq hz.symm
  obtain ⟨f1, f2⟩ := hf
  obtain ⟨d1, d2⟩ := hd
  have hd0 : ¬ d = 0 := by omega
  clear hr hok hz
  go_enter Try.func69, Try.ntmps69
  go_wp2
  go_loop [7, 8] (fun s t => ∃ k : Nat, k ≤ N ∧ t = .int .i64 (f + (k : Int)) ∧ s = .int .i64 (sumK (fun i => duF ts a f i / d) k)) (fun s t => (z - intOf t).toNat)
  case atStart => exact ⟨0, by omega, by simp, rfl⟩
  case round =>
    obtain ⟨k, hk, rfl, rfl⟩ := hrel
    obtain ⟨s1, s2⟩ := exD_part HOK.out a f d1 (n := k) (by omega)
    by_cases hlt : k < N
    · have hlI : f + (k : Int) < z := by omega
      have HX := Lib.hid (show Calls Try.prog 64 #[.slice A ts.length cap, .int .i64 a, .int .i64 (f + (k : Int))] w fun e w' => e = .returned (.int .i64 (duF ts a f k)) ∧ w = w' from l14At_any A cap ts a (f + (k : Int)) w HR.out HOK.out)
      obtain ⟨z1, z2⟩ := exD_fbd HOK.out a f d1 k
      obtain ⟨y1, y2⟩ := duF_bd HOK.out a f k
      have HN := Lib.hid (show sumK (fun i => duF ts a f i / d) (k + 1) = sumK (fun i => duF ts a f i / d) k + duF ts a f k / d from rfl)
      generalize sumK (fun i => duF ts a f i / d) k = s at *
      generalize duF ts a f k = y at *
      have htd : y.tdiv d = y / d := Int.tdiv_eq_ediv_of_nonneg (by omega)
      go_wp2_with fail
      (with_reducible refine (HX.out).mono ?_)
      rintro e w' ⟨rfl, rfl⟩
      go_wp2
      go_round
      case rel => exact ⟨k + 1, by omega, by congr 1; omega, by rw [HN.out]⟩
      case measure => simp [intOf]; omega
    · obtain rfl : k = N := by omega
      have HE := Lib.hid (show exD ts d a f k = sumK (fun i => duF ts a f i / d) k from rfl)
      generalize sumK (fun i => duF ts a f i / d) k = s at *
      go_wp2
      go_ret
      exact ⟨ret_int HE.out.symm, rfl⟩
set_option maxHeartbeats 2000000 in
theorem sExposureOf_any (A : Option Addr) (cap : Nat) (ts : List Tk) (R : Option Addr) (rc : Nat) (rs : List (List Int)) (w : World) (hr : TkR w A ts) (hl : ts.length ≤ 1048576) (hs : RowsR w R rs) (hsl : rs.length ≤ 1048576) (hsx : ∀ r ∈ rs, r.length ≤ 1048576) :
    Calls Try.prog 34 #[.slice A ts.length cap, .slice R rs.length rc] w fun e w' => e = .returned (.tuple #[.int .i64 (eoA ts rs), .int .i64 (eoB ts rs)]) ∧ Below w.heap.size w w' := by
  have HX := Lib.hid (l14Ok_any A cap ts w hr hl)
  have HR := Lib.hid hr
  have HS := Lib.hid hs
  have HSX := Lib.hid hsx
  clear hr hs hsx
  cases hok : tsOk ts
  · have HE := Lib.hid (show eoA ts rs = 0 ∧ eoB ts rs = 1 by simp [eoA, eoB, hok])
    go_enter Try.func34, Try.ntmps34
    go_wp2_with fail
    (with_reducible refine (HX.out).mono ?_)
    rintro e w1 ⟨rfl, hd⟩
    have HB := Lib.hid hd
    rw [hok]
    clear hd
    go_wp2
    go_ret2
    exact ⟨ret_two HE.out.1.symm HE.out.2.symm, HB.out⟩
  · have HOK := Lib.hid hok
    cases hst : stOk rs
    · have HE := Lib.hid (show eoA ts rs = 0 ∧ eoB ts rs = 2 by simp [eoA, eoB, hok, hst])
      go_enter Try.func34, Try.ntmps34
      go_wp2_with fail
      (with_reducible refine (HX.out).mono ?_)
      rintro e w1 ⟨rfl, hd⟩
      have HB := Lib.hid hd
      rw [hok]
      clear hd
      go_wp2_with fail
      (with_reducible refine (l14Stays_any R rc rs w1 (HS.out.below HB.out) hsl HSX.out).mono ?_)
      rintro e w2 ⟨rfl, hd⟩
      have HB2 := Lib.hid (HB.out.trans (hd.mono HB.out.size))
      rw [hst]
      clear hd
      go_wp2
      go_ret2
      exact ⟨ret_two HE.out.1.symm HE.out.2.symm, HB2.out⟩
    · have HST := Lib.hid hst
      have h12 := (stOk_iff.1 hst).2
      have HE := Lib.hid (show eoA ts rs = exT ts rs ∧ eoB ts rs = 0 by simp [eoA, eoB, hok, hst])
      go_enter Try.func34, Try.ntmps34
      go_wp2_with fail
      (with_reducible refine (HX.out).mono ?_)
      rintro e w1 ⟨rfl, hd⟩
      have HB := Lib.hid hd
      rw [hok]
      clear hd
      go_wp2_with fail
      (with_reducible refine (l14Stays_any R rc rs w1 (HS.out.below HB.out) hsl HSX.out).mono ?_)
      rintro e w2 ⟨rfl, hd⟩
      have HB2 := Lib.hid (HB.out.trans (hd.mono HB.out.size))
      rw [hst]
      clear hd
      go_wp2
      go_loop [6, 7] (fun s i => ∃ k : Nat, k ≤ rs.length ∧ i = .int .i64 (k : Int) ∧ s = .int .i64 (sumK (stE ts 1 rs) k)) (fun s i => rs.length - (intOf i).toNat)
      case atStart => exact ⟨0, by omega, rfl, rfl⟩
      case round =>
        obtain ⟨k, hk, rfl, rfl⟩ := hrel
        obtain ⟨s1, s2⟩ := exT_part HOK.out (d := 1) (by omega) HST.out hk
        by_cases hlt : k < rs.length
        · have hlI : (k : Int) < (rs.length : Int) := by omega
          obtain ⟨q1, -, q3, q4, q5, -⟩ := st_row HST.out hlt
          obtain ⟨b, off, b', off', c, rfl, hc, c0, c1, c2⟩ := (HS.out.below HB2.out).three hlt q1
          have HEX := Lib.hid (l14Exposure_any A cap ts b' off' c (stG rs k 0) (stG rs k 1) (stG rs k 2) 1 (stL rs k) w2 (HR.out.below HB2.out) HOK.out c0 c1 c2 q3 q4 q5 ⟨by omega, by omega⟩)
          obtain ⟨z1, z2⟩ := stE_bd HOK.out (d := 1) (by omega) HST.out hlt
          have HZ := Lib.hid (show exD ts 1 (stG rs k 0) (stG rs k 1) (stL rs k) = stE ts 1 rs k from rfl)
          have HN := Lib.hid (show sumK (stE ts 1 rs) (k + 1) = sumK (stE ts 1 rs) k + stE ts 1 rs k from rfl)
          rw [HZ.out] at HEX
          generalize stE ts 1 rs k = y at *
          generalize sumK (stE ts 1 rs) k = s at *
          clear c0 c1 c2 q1 q3 q4
          go_wp2_with fail
          (with_reducible refine (HEX.out).mono ?_)
          rintro e w' ⟨rfl, rfl⟩
          go_wp2
          go_round
          case rel => exact ⟨k + 1, by omega, by go_num, by rw [HN.out]⟩
          case measure => simp [intOf]; omega
        · obtain rfl : k = rs.length := by omega
          have HF := Lib.hid (show eoA ts rs = sumK (stE ts 1 rs) rs.length ∧ eoB ts rs = 0 from HE.out)
          generalize sumK (stE ts 1 rs) rs.length = s at *
          go_wp2
          go_ret2
          exact ⟨ret_two HF.out.1.symm HF.out.2.symm, HB2.out⟩
theorem info_sp : (Try.prog.info? 70).map (fun i => (i.zero, i.size, decide (i.bytes ≤ 1000))) = some (some (.agg Sp.none.cells.toArray), 3, true) := by kernel_rfl
theorem info_sp2 : ∃ i0, Try.prog.info? 70 = some i0 ∧ i0.zero = some (.agg Sp.none.cells.toArray) ∧ i0.size = 3 ∧ i0.bytes ≤ 1000 := by
  have h := info_sp
  cases hi : Try.prog.info? 70 with
  | none => rw [hi] at h; cases h
  | some i =>
    rw [hi] at h
    simp only [Option.map_some, Option.some.injEq, Prod.mk.injEq, decide_eq_true_eq] at h
    exact ⟨i, rfl, h.1, h.2.1, h.2.2⟩
theorem notSp  (bf : Nat) (aw : Int) (fr : Int) (un : Int) (q : Bool) (w : World) (c0 : w.cell? ⟨bf, 0, none⟩ = some (.func (.func 48) #[] #[]))
    (hf : ∀ w1, Below w.heap.size w w1 → Calls Try.prog 48 #[.agg #[.int .i64 aw, .int .i64 fr, .int .i64 un]] w1 fun e w2 => e = .returned (.bool q) ∧ Below w1.heap.size w1 w2) :
    Calls Try.prog 97 #[.agg #[.int .i64 aw, .int .i64 fr, .int .i64 un], .pointer (some ⟨bf, 0, none⟩)] w fun e w2 => e = .returned (.bool (!q)) ∧ Below w.heap.size w w2 := by
  have HF := Lib.hid hf
  have l0 : bf < w.heap.size := World.block_lt_of_cell? _ _ c0
  have l1 : ¬ (bf = w.heap.size) := by omega
  clear hf
  cases q
  · go_enter Try.func97, Try.ntmps97
    go_wp2_with fail
    (with_reducible refine (HF.out _ (below_box _ _)).mono ?_)
    rintro e w2 ⟨rfl, hd⟩
    go_wp2
    go_ret
    exact ⟨rfl, (below_box _ _).trans (hd.mono (by simp))⟩
  · go_enter Try.func97, Try.ntmps97
    go_wp2_with fail
    (with_reducible refine (HF.out _ (below_box _ _)).mono ?_)
    rintro e w2 ⟨rfl, hd⟩
    go_wp2
    go_ret
    exact ⟨rfl, (below_box _ _).trans (hd.mono (by simp))⟩
set_option maxHeartbeats 1000000 in
set_option maxRecDepth 100000 in
theorem indexSp  (bf : Nat) (A : Option Addr) (cap : Nat) (xs : List Sp) (p : Nat → Bool) (w : World) (c0 : w.cell? ⟨bf, 0, none⟩ = some (.func (.func 48) #[] #[])) (hr : SpR w A xs) (hl : xs.length ≤ 1048576)
    (hf : ∀ (k : Nat) (w1 : World) (h : k < xs.length), Below w.heap.size w w1 → Calls Try.prog 48 #[.agg #[.int .i64 xs[k].aw, .int .i64 xs[k].fr, .int .i64 xs[k].un]] w1 fun e w2 => e = .returned (.bool (p k)) ∧ Below w1.heap.size w1 w2) :
    Calls Try.prog 100 #[.slice A xs.length cap, .func (.func 97) #[] #[.pointer (some ⟨bf, 0, none⟩)]] w fun e w' => ∃ z : Int, e = .returned (.int .i64 z) ∧ Hid (decide (0 ≤ z) = !(alK p xs.length)) ∧ (-1 ≤ z ∧ z ≤ 1048576) ∧ Below w.heap.size w w' := by
  have HR := Lib.hid hr
  have HF := Lib.hid hf
  have HC := Lib.hid c0
  clear hr hf c0
  go_enter Try.func100, Try.ntmps100
  go_wp2
  go_loopw [8] (fun i wr => ∃ k : Nat, k ≤ xs.length ∧ i = .int .i64 k ∧ Hid (∀ j, j < k → p j = true) ∧ Below w.heap.size w wr) (fun i wr => xs.length - (intOf i).toNat)
  case atStart => exact ⟨0, by omega, rfl, Lib.hid (fun j hj => absurd hj (by omega)), Below.refl _ _⟩
  case round =>
    obtain ⟨k, hk, rfl, HG, hbel⟩ := hrel
    have HBL := Lib.hid hbel
    by_cases hlt : k < xs.length
    · have HX := Lib.hid (fun (w1 : World) (hb : Below wr.heap.size wr w1) => HF.out k w1 hlt (hbel.trans (hb.mono hbel.size)))
      have c1 := (hbel.cell (World.block_lt_of_cell? _ _ HC.out)).trans HC.out
      have hlI : (k : Int) < (xs.length : Int) := by omega
      clear hbel
      obtain ⟨eb, eo, rfl, hrg⟩ := HR.out k hlt
      have hrg' := rangeAt_below hrg HBL.out (rangeAt_lt hrg (by simp [Sp.cells]))
      obtain ⟨e0, e1, e2⟩ := sp_lay hrg'
      clear hrg hrg'
      generalize xs[k] = y at *
      obtain ⟨aw, fr, un⟩ := y
      dsimp only at e0 e1 e2
      obtain ⟨wo, rfl⟩ : ∃ wo : World, wo = wr := ⟨_, rfl⟩
      cases hp : p k
      · rw [hp] at HX
        have HZ := Lib.hid (alK_bad hlt hp)
        go_wp2_with fail
        (with_reducible refine (notSp  bf aw fr un false wo c1 HX.out).mono ?_)
        rintro e w2 ⟨rfl, hd⟩
        have HB2 := Lib.hid (HBL.out.trans (hd.mono HBL.out.size))
        clear hd
        go_wp2
        go_ret
        exact ⟨_, rfl, Lib.hid (by rw [HZ.out]; simp), ⟨by omega, by omega⟩, HB2.out⟩
      · rw [hp] at HX
        have HZ := Lib.hid (show ∀ j, j < k + 1 → p j = true from fun j hj => by
          rcases Nat.lt_or_ge j k with q | q
          · exact HG.out j q
          · obtain rfl : j = k := by omega
            exact hp)
        go_wp2_with fail
        (with_reducible refine (notSp  bf aw fr un true wo c1 HX.out).mono ?_)
        rintro e w2 ⟨rfl, hd⟩
        have HB2 := Lib.hid (HBL.out.trans (hd.mono HBL.out.size))
        clear hd
        go_wp2
        go_roundw
        case rel => exact ⟨k + 1, by omega, by go_num, HZ, HB2.out⟩
        case measure => simp [intOf]; omega
    · obtain rfl : k = xs.length := by omega
      have HZ := Lib.hid (alK_iff.2 HG.out)
      clear hbel
      go_wp2
      go_ret
      exact ⟨_, rfl, Lib.hid (by rw [HZ.out]; simp), ⟨by omega, by omega⟩, HBL.out⟩
theorem containsSp  (bf : Nat) (A : Option Addr) (cap : Nat) (xs : List Sp) (p : Nat → Bool) (w : World) (c0 : w.cell? ⟨bf, 0, none⟩ = some (.func (.func 48) #[] #[])) (hr : SpR w A xs) (hl : xs.length ≤ 1048576)
    (hf : ∀ (k : Nat) (w1 : World) (h : k < xs.length), Below w.heap.size w w1 → Calls Try.prog 48 #[.agg #[.int .i64 xs[k].aw, .int .i64 xs[k].fr, .int .i64 xs[k].un]] w1 fun e w2 => e = .returned (.bool (p k)) ∧ Below w1.heap.size w1 w2) :
    Calls Try.prog 96 #[.slice A xs.length cap, .func (.func 97) #[] #[.pointer (some ⟨bf, 0, none⟩)]] w fun e w' => e = .returned (.bool (!(alK p xs.length))) ∧ Below w.heap.size w w' := by
  have HX := Lib.hid (indexSp  bf A cap xs p w c0 hr hl hf)
  clear hr hf c0
  go_enter Try.func96, Try.ntmps96
  go_wp2_with fail
  (with_reducible refine (HX.out).mono ?_)
  rintro e w' ⟨z, rfl, HZ, ⟨z1, z2⟩, hd⟩
  have HB := Lib.hid hd
  clear hd
  go_wp2
  go_ret
  exact ⟨ret_bool HZ.out, HB.out⟩
theorem allSp  (A : Option Addr) (cap : Nat) (xs : List Sp) (p : Nat → Bool) (w : World) (hr : SpR w A xs) (hl : xs.length ≤ 1048576)
    (hf : ∀ (k : Nat) (w1 : World) (h : k < xs.length), Below w.heap.size w w1 → Calls Try.prog 48 #[.agg #[.int .i64 xs[k].aw, .int .i64 xs[k].fr, .int .i64 xs[k].un]] w1 fun e w2 => e = .returned (.bool (p k)) ∧ Below w1.heap.size w1 w2) :
    Calls Try.prog 92 #[.slice A xs.length cap, .func (.func 48) #[] #[]] w fun e w' => e = .returned (.bool (alK p xs.length)) ∧ Below w.heap.size w w' := by
  have HB0 := Lib.hid (below_box w (.cells #[.func (.func 48) #[] #[]] 105))
  have HX := Lib.hid (containsSp  w.heap.size A cap xs p (w.alloc (.cells #[.func (.func 48) #[] #[]] 105)) (by simp) (hr.below HB0.out) hl (fun k w1 h hb => hf k w1 h (HB0.out.trans (hb.mono HB0.out.size))))
  clear hr hf
  go_enter Try.func92, Try.ntmps92
  go_wp2_with fail
  (with_reducible refine (HX.out).mono ?_)
  rintro e w1 ⟨rfl, hd⟩
  have HB := Lib.hid (HB0.out.trans (hd.mono HB0.out.size))
  clear hd
  go_wp2
  go_ret
  exact ⟨by simp, HB.out⟩
set_option maxRecDepth 100000 in
set_option maxHeartbeats 4000000 in
theorem spansOf_any (A : Option Addr) (cap : Nat) (rs : List (List Int)) (w : World) (hr : RowsR w A rs) (hl : rs.length ≤ 1048576) (hx : ∀ r ∈ rs, r.length ≤ 1048576) :
    Calls Try.prog 70 #[.slice A rs.length cap] w fun e w' => ∃ u, e = .returned (.tuple #[u, .bool (stOk rs)]) ∧ Hid (stOk rs = true → ∃ g, u = .slice (some ⟨g, 0, none⟩) rs.length rs.length ∧ BlkV w' g 70 (spV (spL rs))) ∧ Below w.heap.size w w' := by
  have HR := Lib.hid hr
  have HX := Lib.hid hx
  clear hr hx
  by_cases h12 : rs.length ≤ 12
  · have hI : ¬ ((12 : Int) < (rs.length : Int)) := by omega
    obtain ⟨i0, hi, hz0, hz1, hz2⟩ := info_sp2
    have hbb : i0.bytes * rs.length ≤ 1000 * 1048576 := Nat.mul_le_mul hz2 hl
    have hmk := fun W => run_make_rows (P := Try.prog) Try.underlying86 hi hz0 .i64 .i64 rs.length (by omega) (by omega) W
    rw [hz1] at hmk
    have HI := Lib.hid (show (Try.prog.info? 70).map (·.size) = some 3 by rw [hi]; simp [hz1])
    clear hi hz0 hz1 hz2 hbb
    go_enter Try.func70, Try.ntmps70
    go_wp2
    clear hmk
    go_loopw [15] (fun i wr => ∃ k : Nat, k ≤ rs.length ∧ i = .int .i64 k ∧ Hid (∀ j, j < k → (rs.getD j []).length = 3) ∧ Hid (BlkV wr w.heap.size 70 (spV ((spL rs).take k ++ List.replicate (rs.length - k) Sp.none))) ∧ Hid (Below w.heap.size w wr)) (fun i wr => rs.length - (intOf i).toNat)
    case atStart =>
      refine ⟨0, by omega, rfl, Lib.hid (fun j hj => absurd hj (by omega)), Lib.hid ?_, Lib.hid ((Below.refl _ _).alloc (Nat.le_refl _) _)⟩
      unfold BlkV
      rw [List.take_zero, List.nil_append, Nat.sub_zero, ← sp_made, Array.toArray_toList]
      exact heap_alloc_new w _
    case round =>
      obtain ⟨k, hk, rfl, HG, HBK, HBL⟩ := hrel
      obtain ⟨wo, rfl⟩ : ∃ wo : World, wo = wr := ⟨_, rfl⟩
      have hwz := HBL.out.size
      by_cases hlt : k < rs.length
      · have hke : rs.getD k [] = rs[k] := by simp [List.getD, hlt]
        have hlI : (k : Int) < (rs.length : Int) := by omega
        by_cases h3 : (rs.getD k []).length = 3
        · obtain ⟨b, off, b', off', c, rfl, hc0, r0, r1, r2⟩ := HR.out.three hlt h3
          have hne : ¬ b' = w.heap.size := Nat.ne_of_lt (World.block_lt_of_cell? _ _ r0)
          have hbne : ¬ b = w.heap.size := Nat.ne_of_lt (World.block_lt_of_cell? _ _ hc0)
          have hc := (HBL.out.cell (World.block_lt_of_cell? _ _ hc0)).trans hc0
          have c0 := (HBL.out.cell (World.block_lt_of_cell? _ _ r0)).trans r0
          have c1 := (HBL.out.cell (World.block_lt_of_cell? _ _ r1)).trans r1
          have c2 := (HBL.out.cell (World.block_lt_of_cell? _ _ r2)).trans r2
          have HG2 := Lib.hid (show ∀ j, j < k + 1 → (rs.getD j []).length = 3 from fun j hj => by
            rcases Nat.lt_or_ge j k with q | q
            · exact HG.out j q
            · obtain rfl : j = k := by omega
              exact h3)
          have hlk : k < (spL rs).length := by rw [spL_len]; exact hlt
          have HP := Lib.hid (sp_put (spL rs) k hlk)
          rw [spL_at hlt, spL_len] at HP
          have HLn := Lib.hid (show (spV ((spL rs).take k ++ List.replicate (rs.length - k) Sp.none)).length = rs.length * 3 by rw [spV_len]; simp [spL_len]; omega)
          have HB1 := Lib.hid (show BlkV wo w.heap.size 70 (spV ((spL rs).take k ++ List.replicate (rs.length - k) Sp.none)) from HBK.out)
          have hkl : k < ((spL rs).take k ++ List.replicate (rs.length - k) Sp.none).length := by rw [List.length_append, List.length_take, List.length_replicate, spL_len]; omega
          have HN := Lib.hid (show ((spL rs).take k ++ List.replicate (rs.length - k) Sp.none)[k]'hkl = Sp.none by rw [List.getElem_append_right (by rw [List.length_take, spL_len]; omega)]; simp)
          obtain ⟨⟨d0, d1, d2⟩, ⟨f0, f1, f2⟩⟩ := BlkV.spcells HB1.out k hkl
          rw [HN.out] at d0 d1 d2
          dsimp only [Sp.none] at d0 d1 d2
          clear hke h3 hc0 r0 r1 r2 hlk
          generalize stG rs k 0 = x at *
          generalize stG rs k 1 = y at *
          generalize stG rs k 2 = z at *
          go_wp2_with fail
          refine wp_region_held (S := fun w' => w'.cell? ⟨b', off', none⟩ = some (.int .i64 x) ∧ w'.cell? ⟨b', off' + 1, none⟩ = some (.int .i64 y) ∧ w'.cell? ⟨b', off' + 2, none⟩ = some (.int .i64 z) ∧ Below w.heap.size w w') (by kernel_rfl) ?_
          try (change wpAnyH _ _ _ _ _ _ _ _ (World.drew _))
          have hS0 := (show wo.drew.cell? ⟨b', off', none⟩ = some (.int .i64 x) ∧ wo.drew.cell? ⟨b', off' + 1, none⟩ = some (.int .i64 y) ∧ wo.drew.cell? ⟨b', off' + 2, none⟩ = some (.int .i64 z) ∧ Below w.heap.size w wo.drew from ⟨c0, c1, c2, Below.drew HBL.out⟩)
          refine gTake 0 (v := ?_) rfl (by kernel_rfl) (by kernel_rfl) (by kernel_rfl) (fun _ _ _ h => h) (by kernel_rfl) ?_ hS0 ?_
          rotate_left
          · (intro W hW; clear hW; go_simp; try with_reducible rfl)
          refine gTake 1 (v := ?_) rfl (by kernel_rfl) (by kernel_rfl) (by kernel_rfl) (fun _ _ _ h => h) (by kernel_rfl) ?_ hS0 ?_
          rotate_left
          · (intro W hW; clear hW; go_simp; try with_reducible rfl)
          refine gTake 2 (v := ?_) rfl (by kernel_rfl) (by kernel_rfl) (by kernel_rfl) (fun _ _ _ h => h) (by kernel_rfl) ?_ hS0 ?_
          rotate_left
          · (intro W hW; clear hW; go_simp; try with_reducible rfl)
          refine gTake 3 (v := ?_) rfl (by kernel_rfl) (by kernel_rfl) (by kernel_rfl) (fun _ _ _ h => h) (by kernel_rfl) ?_ hS0 ?_
          rotate_left
          · (intro W hW; clear hW; go_simp; try with_reducible rfl)
          refine gTake 4 (v := ?_) rfl (by kernel_rfl) (by kernel_rfl) (by kernel_rfl) (fun _ _ _ h => h) (by kernel_rfl) ?_ hS0 ?_
          rotate_left
          · (intro W hW; have q0 := hW.1; have q1 := hW.2.1; have q2 := hW.2.2.1; clear hW; go_simp; try with_reducible rfl)
          refine gTake 5 (v := ?_) rfl (by kernel_rfl) (by kernel_rfl) (by kernel_rfl) (fun _ _ _ h => h) (by kernel_rfl) ?_ hS0 ?_
          rotate_left
          · (intro W hW; clear hW; go_simp; try with_reducible rfl)
          refine gTake 6 (v := ?_) rfl (by kernel_rfl) (by kernel_rfl) (by kernel_rfl) (fun _ _ _ h => h) (by kernel_rfl) ?_ hS0 ?_
          rotate_left
          · (intro W hW; clear hW; go_simp; try with_reducible rfl)
          refine gTake 7 (v := ?_) rfl (by kernel_rfl) (by kernel_rfl) (by kernel_rfl) (fun _ _ _ h => h) (by kernel_rfl) ?_ hS0 ?_
          rotate_left
          · (intro W hW; have q0 := hW.1; have q1 := hW.2.1; have q2 := hW.2.2.1; clear hW; go_simp; try with_reducible rfl)
          refine gTake 8 (v := ?_) rfl (by kernel_rfl) (by kernel_rfl) (by kernel_rfl) (fun _ _ _ h => h) (by kernel_rfl) ?_ hS0 ?_
          rotate_left
          · (intro W hW; clear hW; go_simp; try with_reducible rfl)
          refine gTake 9 (v := ?_) rfl (by kernel_rfl) (by kernel_rfl) (by kernel_rfl) (fun _ _ _ h => h) (by kernel_rfl) ?_ hS0 ?_
          rotate_left
          · (intro W hW; clear hW; go_simp; try with_reducible rfl)
          refine gTake 10 (v := ?_) rfl (by kernel_rfl) (by kernel_rfl) (by kernel_rfl) (fun _ _ _ h => h) (by kernel_rfl) ?_ hS0 ?_
          rotate_left
          · (intro W hW; have q0 := hW.1; have q1 := hW.2.1; have q2 := hW.2.2.1; clear hW; go_simp; try with_reducible rfl)
          refine gTake 11 (v := ?_) rfl (by kernel_rfl) (by kernel_rfl) (by kernel_rfl) (fun _ _ _ h => h) (by kernel_rfl) ?_ hS0 ?_
          rotate_left
          · (intro W hW; clear hW; go_simp; try with_reducible rfl)
          refine gTake 12 (v := ?_) rfl (by kernel_rfl) (by kernel_rfl) (by kernel_rfl) (fun _ _ _ h => h) (by kernel_rfl) ?_ hS0 ?_
          rotate_left
          · (intro W hW; clear hW; go_simp; try with_reducible rfl)
          refine gOne 13 rfl (by kernel_rfl) (by kernel_rfl) (fun K hK => ?_)
          go_simp
          skip
          have hS1 := (show (((wo.setCell ⟨w.heap.size, k * 3, none⟩ (.int .i64 x)).setCell ⟨w.heap.size, k * 3 + 1, none⟩ (.int .i64 y)).setCell ⟨w.heap.size, k * 3 + 2, none⟩ (.int .i64 z)).drew.cell? ⟨b', off', none⟩ = some (.int .i64 x) ∧ (((wo.setCell ⟨w.heap.size, k * 3, none⟩ (.int .i64 x)).setCell ⟨w.heap.size, k * 3 + 1, none⟩ (.int .i64 y)).setCell ⟨w.heap.size, k * 3 + 2, none⟩ (.int .i64 z)).drew.cell? ⟨b', off' + 1, none⟩ = some (.int .i64 y) ∧ (((wo.setCell ⟨w.heap.size, k * 3, none⟩ (.int .i64 x)).setCell ⟨w.heap.size, k * 3 + 1, none⟩ (.int .i64 y)).setCell ⟨w.heap.size, k * 3 + 2, none⟩ (.int .i64 z)).drew.cell? ⟨b', off' + 2, none⟩ = some (.int .i64 z) ∧ Below w.heap.size w (((wo.setCell ⟨w.heap.size, k * 3, none⟩ (.int .i64 x)).setCell ⟨w.heap.size, k * 3 + 1, none⟩ (.int .i64 y)).setCell ⟨w.heap.size, k * 3 + 2, none⟩ (.int .i64 z)).drew from ⟨cell3_other hne c0, cell3_other hne c1, cell3_other hne c2, below3 HBL.out (Nat.le_refl _)⟩)
          refine hK _ _ hS1 ?_
          clear hK K
          refine wpAnyH_done (by kernel_rfl) ?_ _
          go_simp
          go_wp2
          go_roundw
          case rel => exact ⟨k + 1, by omega, by go_num, HG2, Lib.hid (by
            have h := BlkV.spset HB1.out (k * 3) ⟨x, y, z⟩ (by rw [HLn.out]; omega)
            rw [HP.out] at h
            exact h), Lib.hid (hS1.2.2.2)⟩
          case measure => simp [intOf]; omega
        · obtain ⟨b, off, A', c1, rfl, hc0, -⟩ := HR.out.row hlt
          have hc := (HBL.out.cell (World.block_lt_of_cell? _ _ hc0)).trans hc0
          have hL := HX.out rs[k] (List.getElem_mem hlt)
          have HF := Lib.hid (stOk_bad hlt (by unfold stRow; rw [decide_eq_false h3, Bool.false_and]))
          rw [hke] at h3
          have h3d : ((rs[k].length : Int) != 3) = true := bne_iff_ne.2 (by omega)
          clear hke hc0
          generalize rs[k].length = L at *
          go_wp2
          go_ret2
          exact ⟨_, ret_vbool HF.out.symm, Lib.hid (fun h => by rw [HF.out] at h; cases h), HBL.out⟩
      · obtain rfl : k = rs.length := by omega
        have HBE := Lib.hid (show BlkV wo w.heap.size 70 (spV (spL rs)) by
          have h := HBK.out
          rwa [Nat.sub_self, List.replicate_zero, List.append_nil, show rs.length = (spL rs).length from (spL_len rs).symm, List.take_length] at h)
        have HF := Lib.hid (show alK (fun i => snOk (stG rs i 0) (stG rs i 1) (stG rs i 2)) rs.length = stOk rs by
          unfold stOk
          rw [decide_eq_true h12, Bool.and_true]
          rw [Bool.eq_iff_iff, alK_iff, alK_iff]
          constructor
          · intro h j hj; unfold stRow; rw [decide_eq_true (HG.out j hj), Bool.true_and]; exact h j hj
          · intro h j hj; have := h j hj; unfold stRow at this; rw [decide_eq_true (HG.out j hj), Bool.true_and] at this; exact this)
        have HAL := Lib.hid (show Calls Try.prog 92 #[.slice (some ⟨w.heap.size, 0, none⟩) rs.length rs.length, .func (.func 48) #[] #[]] wo fun e w' => e = .returned (.bool (stOk rs)) ∧ Below wo.heap.size wo w' from by
          have h := allSp (some ⟨w.heap.size, 0, none⟩) rs.length (spL rs) (fun i => snOk (stG rs i 0) (stG rs i 1) (stG rs i 2)) wo (BlkV.spR HBE.out) (by rw [spL_len]; omega) (fun j w1 hj _ => by
            have hj2 : j < rs.length := by rw [spL_len] at hj; exact hj
            rw [spL_at hj2]
            exact snValid_any _ _ _ w1)
          rw [spL_len, HF.out] at h
          exact h)
        clear HBK HG
        go_wp2_with fail
        (with_reducible refine (HAL.out).mono ?_)
        rintro e w2 ⟨rfl, hd⟩
        have HB2 := Lib.hid (HBL.out.trans (hd.mono HBL.out.size))
        have HBF := Lib.hid (HBE.out.below hd HBE.out.lt)
        clear hd
        go_wp2
        go_ret2
        exact ⟨_, rfl, Lib.hid (fun _ => ⟨w.heap.size, rfl, HBF.out⟩), HB2.out⟩
  · have hI : (12 : Int) < (rs.length : Int) := by omega
    have HF := Lib.hid (show stOk rs = false by unfold stOk; rw [decide_eq_false h12, Bool.and_false])
    go_enter Try.func70, Try.ntmps70
    go_wp2
    go_ret2
    exact ⟨_, ret_vbool HF.out.symm, Lib.hid (fun h => by rw [HF.out] at h; cases h), Below.refl _ _⟩
set_option maxHeartbeats 1000000 in
set_option maxRecDepth 100000 in
theorem sumEx (T : Option Addr) (tn tc : Nat) (A : Option Addr) (cap : Nat) (xs : List Sp) (f : Nat → Int) (w : World) (hr : SpR w A xs) (hl : xs.length ≤ 1048576)
    (hb : ∀ k, k ≤ xs.length → -4000000000000000000 ≤ sumK f k ∧ sumK f k ≤ 4000000000000000000)
    (hf : ∀ (k : Nat) (w1 : World) (h : k < xs.length), Below w.heap.size w w1 → Calls Try.prog 72 #[.slice T tn tc, .agg #[.int .i64 xs[k].aw, .int .i64 xs[k].fr, .int .i64 xs[k].un]] w1 fun e w2 => e = .returned (.int .i64 (f k)) ∧ Below w1.heap.size w1 w2) :
    Calls Try.prog 71 #[.slice A xs.length cap, .func (.func 72) #[.slice T tn tc] #[]] w fun e w' => e = .returned (.int .i64 (sumK f xs.length)) ∧ Below w.heap.size w w' := by
  have HR := Lib.hid hr
  have HF := Lib.hid hf
  have HBD := Lib.hid hb
  clear hr hf hb
  go_enter Try.func71, Try.ntmps71
  go_wp2
  go_loopw [5, 10] (fun t i wr => ∃ k : Nat, k ≤ xs.length ∧ i = .int .i64 k ∧ t = .int .i64 (sumK f k) ∧ Below w.heap.size w wr) (fun t i wr => xs.length - (intOf i).toNat)
  case atStart => exact ⟨0, by omega, rfl, rfl, Below.refl _ _⟩
  case round =>
    obtain ⟨k, hk, rfl, rfl, hbel⟩ := hrel
    have HBL := Lib.hid hbel
    clear hbel
    by_cases hlt : k < xs.length
    · have HX := Lib.hid (fun (w1 : World) (hb : Below wr.heap.size wr w1) => HF.out k w1 hlt (HBL.out.trans (hb.mono HBL.out.size)))
      have hlI : (k : Int) < (xs.length : Int) := by omega
      obtain ⟨b1, b2⟩ := HBD.out k hk
      have hn := HBD.out (k + 1) hlt
      have HN := Lib.hid (show sumK f (k + 1) = sumK f k + f k from rfl)
      rw [HN.out] at hn
      obtain ⟨b3, b4⟩ := hn
      obtain ⟨eb, eo, rfl, hrg⟩ := HR.out k hlt
      have hrg' := rangeAt_below hrg HBL.out (rangeAt_lt hrg (by simp [Sp.cells]))
      obtain ⟨e0, e1, e2⟩ := sp_lay hrg'
      clear hrg hrg'
      generalize xs[k] = y at *
      obtain ⟨aw, fr, un⟩ := y
      dsimp only at e0 e1 e2
      generalize f k = z at *
      generalize sumK f k = s at *
      obtain ⟨wo, rfl⟩ : ∃ wo : World, wo = wr := ⟨_, rfl⟩
      go_wp2_with fail
      (with_reducible refine (HX.out _ (below_box _ _)).mono ?_)
      rintro e w2 ⟨rfl, hd⟩
      have HB2 := Lib.hid (HBL.out.trans (((below_box _ _).trans (hd.mono (by simp))).mono HBL.out.size))
      clear hd
      go_wp2
      go_roundw
      case rel => exact ⟨k + 1, by omega, by go_num, by rw [HN.out], HB2.out⟩
      case measure => simp [intOf]; omega
    · obtain rfl : k = xs.length := by omega
      obtain ⟨s, hs⟩ : ∃ s, sumK f xs.length = s := ⟨_, rfl⟩
      have HS := Lib.hid hs
      rw [hs]
      clear hs
      go_wp2
      go_ret
      exact ⟨ret_int HS.out.symm, HBL.out⟩
set_option maxHeartbeats 2000000 in
theorem iExposureOf_any (A : Option Addr) (cap : Nat) (ts : List Tk) (R : Option Addr) (rc : Nat) (rs : List (List Int)) (w : World) (hr : TkR w A ts) (hl : ts.length ≤ 1048576) (hs : RowsR w R rs) (hsl : rs.length ≤ 1048576) (hsx : ∀ r ∈ rs, r.length ≤ 1048576) :
    Calls Try.prog 36 #[.slice A ts.length cap, .slice R rs.length rc] w fun e w' => e = .returned (.tuple #[.int .i64 (eoA ts rs), .int .i64 (eoB ts rs)]) ∧ Below w.heap.size w w' := by
  have HX := Lib.hid (iValidDustings_any A cap ts w hr hl)
  have HR := Lib.hid hr
  have HS := Lib.hid hs
  have HSX := Lib.hid hsx
  clear hr hs hsx
  cases hok : tsOk ts
  · have HE := Lib.hid (show eoA ts rs = 0 ∧ eoB ts rs = 1 by simp [eoA, eoB, hok])
    go_enter Try.func36, Try.ntmps36
    go_wp2_with fail
    (with_reducible refine (HX.out).mono ?_)
    rintro e w1 ⟨rfl, hd⟩
    have HB := Lib.hid hd
    rw [hok]
    clear hd
    go_wp2
    go_ret2
    exact ⟨ret_two HE.out.1.symm HE.out.2.symm, HB.out⟩
  · have HOK := Lib.hid hok
    cases hst : stOk rs
    · have HE := Lib.hid (show eoA ts rs = 0 ∧ eoB ts rs = 2 by simp [eoA, eoB, hok, hst])
      go_enter Try.func36, Try.ntmps36
      go_wp2_with fail
      (with_reducible refine (HX.out).mono ?_)
      rintro e w1 ⟨rfl, hd⟩
      have HB := Lib.hid hd
      rw [hok]
      clear hd
      go_wp2_with fail
      (with_reducible refine (spansOf_any R rc rs w1 (HS.out.below HB.out) hsl HSX.out).mono ?_)
      rintro e w2 ⟨u, rfl, HU, hd⟩
      have HB2 := Lib.hid (HB.out.trans (hd.mono HB.out.size))
      rw [hst]
      clear hd
      go_wp2
      go_ret2
      exact ⟨ret_two HE.out.1.symm HE.out.2.symm, HB2.out⟩
    · have HST := Lib.hid hst
      have h12 := (stOk_iff.1 hst).2
      have HE := Lib.hid (show eoA ts rs = exT ts rs ∧ eoB ts rs = 0 by simp [eoA, eoB, hok, hst])
      go_enter Try.func36, Try.ntmps36
      go_wp2_with fail
      (with_reducible refine (HX.out).mono ?_)
      rintro e w1 ⟨rfl, hd⟩
      have HB := Lib.hid hd
      rw [hok]
      clear hd
      go_wp2_with fail
      (with_reducible refine (spansOf_any R rc rs w1 (HS.out.below HB.out) hsl HSX.out).mono ?_)
      rintro e w2 ⟨u, rfl, HU, hd⟩
      have HB2 := Lib.hid (HB.out.trans (hd.mono HB.out.size))
      rw [hst]
      clear hd
      obtain ⟨g, rfl, hbk⟩ := HU.out HST.out
      have HBK := Lib.hid hbk
      clear hbk
      have HSM := Lib.hid (show Calls Try.prog 71 #[.slice (some ⟨g, 0, none⟩) rs.length rs.length, .func (.func 72) #[.slice A ts.length cap] #[]] w2 fun e w' => e = .returned (.int .i64 (exT ts rs)) ∧ Below w2.heap.size w2 w' from by
        have h := sumEx A ts.length cap (some ⟨g, 0, none⟩) rs.length (spL rs) (stE ts 1 rs) w2 (BlkV.spR HBK.out) (by rw [spL_len]; omega) (fun k hk => by
          rw [spL_len] at hk
          have := exT_part HOK.out (d := 1) (by omega) HST.out hk
          omega) (fun k w3 hk hb => by
          have hk2 : k < rs.length := by rw [spL_len] at hk; exact hk
          obtain ⟨-, -, q3, q4, q5, -⟩ := st_row HST.out hk2
          rw [spL_at hk2]
          have h := exposure_any A cap ts (stG rs k 0) (stG rs k 1) (stG rs k 2) (stL rs k) w3 (HR.out.below (HB2.out.trans (hb.mono HB2.out.size))) HOK.out ⟨q3.1, by omega⟩ q4 q5
          rw [show stE ts 1 rs k = exS ts (stG rs k 0) (stG rs k 1) (stL rs k) from exD_one _ _ _ _]
          exact h)
        rw [spL_len] at h
        exact h)
      generalize exT ts rs = y at *
      go_wp2_with fail
      (with_reducible refine (HSM.out).mono ?_)
      rintro e w3 ⟨rfl, hd⟩
      have HB3 := Lib.hid (HB2.out.trans (hd.mono HB2.out.size))
      clear hd
      go_wp2
      go_ret2
      exact ⟨ret_two HE.out.1.symm HE.out.2.symm, HB3.out⟩
end Go.Proofs.Ytnlkikdgffaeeaa
