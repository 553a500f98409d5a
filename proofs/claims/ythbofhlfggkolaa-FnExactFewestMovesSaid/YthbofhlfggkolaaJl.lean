/-
  Contracts of chapter 10: locks; the model's and the program's. Conditions: those that each theorem states.
-/
import Derived.Test.YthbofhlfggkolaaRa
import Derived.Test.YthbofhlfggkolaaRg
namespace Go.Proofs.Ythbofhlfggkolaa
open Go.RowKit
set_option linter.unusedVariables false
set_option linter.unusedSimpArgs false

def incB (ai : List Int) : Bool := (List.range (ai.length - 1)).all (fun j => decide (ai.getD j 0 < ai.getD (j + 1) 0))
theorem incB_iff {ai : List Int} : incB ai = true ↔ ∀ j : Nat, j + 1 < ai.length → ai.getD j 0 < ai.getD (j + 1) 0 := by
  unfold incB
  rw [List.all_eq_true]
  constructor
  · intro h j hj
    simpa using h j (List.mem_range.2 (by omega))
  · intro h j hj
    have := List.mem_range.1 hj
    simpa using h j (by omega)
theorem row_celJ {w : World} {xs : List Int} {A : Option Addr} {n cap : Nat} (h : Row .i64 w (.slice A n cap) xs) {j : Nat} (hj : j < xs.length) : ∃ b off, A = some ⟨b, off, none⟩ ∧ n = xs.length ∧ w.cell? ⟨b, off + j, none⟩ = some (.int .i64 (xs.getD j 0)) := by
  rcases h with ⟨rfl, h2⟩ | ⟨b, off, c, h1, h2⟩
  · simp at hj
  · injection h1 with e1 e2 e3
    exact ⟨b, off, e1, e2, h2 j hj⟩
theorem areIncreasing_any (v : Value) (ai : List Int) (w : World) (hv : Row .i64 w v ai) (hl : ai.length ≤ 1048576) :
    Calls Try.prog 88 #[v] w fun e w' => e = .returned (.bool (incB ai)) ∧ w = w' := by
  obtain ⟨A, cap, rfl⟩ : ∃ A cap, v = .slice A ai.length cap := by
    rcases hv with ⟨rfl, rfl⟩ | ⟨b, off, c, rfl, _⟩
    · exact ⟨none, 0, rfl⟩
    · exact ⟨_, c, rfl⟩
  have HV := Lib.hid hv
  clear hv
  go_enter Try.func88, Try.ntmps88
  go_wp2
  go_loop [7] (fun i => ∃ k : Nat, k ≤ ai.length ∧ i = .int .i64 k ∧ Hid (∀ j : Nat, j + 1 < k → j + 1 < ai.length → ai.getD j 0 < ai.getD (j + 1) 0)) (fun i => ai.length - (intOf i).toNat)
  case atStart => exact ⟨0, by omega, rfl, Lib.hid (fun j h => absurd h (by omega))⟩
  case round =>
    obtain ⟨k, hk, rfl, HA⟩ := hrel
    by_cases hlt : k < ai.length
    · obtain ⟨b, off, rfl, -, hc⟩ := row_celJ HV.out hlt
      have hlI : (k : Int) < (ai.length : Int) := by omega
      cases k with
      | zero =>
        rw [Nat.add_zero] at hc
        generalize ai.getD 0 0 = z at *
        go_wp2
        go_round
        case rel => exact ⟨1, by omega, by first | rfl | go_num, Lib.hid (fun j h => absurd h (by omega))⟩
        case measure => simp [intOf]; omega
      | succ p =>
        obtain ⟨b', off', e1, -, hd⟩ := row_celJ HV.out (show p < ai.length by omega)
        injection e1 with e1
        injection e1 with e1 e3
        subst e1 e3
        by_cases hx : ai.getD p 0 < ai.getD (p + 1) 0
        · have HN := Lib.hid (show ∀ j : Nat, j + 1 < p + 1 + 1 → j + 1 < ai.length → ai.getD j 0 < ai.getD (j + 1) 0 from fun j h h2 => by
            rcases Nat.lt_or_ge (j + 1) (p + 1) with q | q
            · exact HA.out j q h2
            · obtain rfl : j = p := by omega
              exact hx)
          generalize ai.getD p 0 = y at *
          generalize ai.getD (p + 1) 0 = z at *
          go_wp2
          go_round
          case rel => exact ⟨p + 1 + 1, by omega, by go_num, HN⟩
          case measure => simp [intOf]; omega
        · have HE := Lib.hid (show incB ai = false by
            rw [← Bool.not_eq_true, incB_iff]
            exact fun hh => hx (hh p hlt))
          generalize ai.getD p 0 = y at *
          generalize ai.getD (p + 1) 0 = z at *
          have hzy : z ≤ y := by omega
          go_wp2
          go_ret
          exact ⟨ret_bool HE.out.symm, rfl⟩
    · obtain rfl : k = ai.length := by omega
      have HE := Lib.hid (show incB ai = true from incB_iff.2 (fun j h => HA.out j h h))
      go_wp2
      go_ret
      exact ⟨ret_bool HE.out.symm, rfl⟩
/-- A lock of n doors. -/
def lkRow (n : Int) (x : List Int) : Bool := decide (x.length = 2) && (inB (x.getD 1 0) 0 (n - 1) && inB (x.getD 0 0) 0 (x.getD 1 0 - 1))
def lkLt (p x : List Int) : Bool := decide (p.getD 0 0 < x.getD 0 0) || (decide (p.getD 0 0 = x.getD 0 0) && decide (p.getD 1 0 < x.getD 1 0))
def lkAt (xs : List (List Int)) (i : Nat) : List Int := xs.getD i []
theorem lkAt_lt {xs : List (List Int)} {k : Nat} (h : k < xs.length) : lkAt xs k = xs[k] := by simp [lkAt, List.getD, h]
def lkGood (n : Int) (xs : List (List Int)) (i : Nat) : Bool := lkRow n (lkAt xs i) && (decide (i = 0) || lkLt (lkAt xs (i - 1)) (lkAt xs i))
/-- Valid locks. -/
def lksOk (n : Int) (xs : List (List Int)) : Bool := inB n 0 8 && (decide (xs.length ≤ 12) && decide (∀ i, i < xs.length → lkGood n xs i = true))
theorem lksOk_iff {n : Int} {xs : List (List Int)} : lksOk n xs = true ↔ (0 ≤ n ∧ n ≤ 8) ∧ xs.length ≤ 12 ∧ ∀ i, i < xs.length → lkGood n xs i = true := by
  simp only [lksOk, Bool.and_eq_true, decide_eq_true_eq, inB_iff]
theorem lksOk_bad {n : Int} {xs : List (List Int)} {i : Nat} (h : i < xs.length) (hb : lkGood n xs i = false) : lksOk n xs = false := by
  rw [← Bool.not_eq_true, lksOk_iff]
  rintro ⟨-, -, h1⟩
  rw [h1 i h] at hb; cases hb
theorem lkRow_iff {n : Int} {x : List Int} : lkRow n x = true ↔ ∃ a b : Int, x = [a, b] ∧ (0 ≤ a ∧ a ≤ b - 1) ∧ (0 ≤ b ∧ b ≤ n - 1) := by
  simp only [lkRow, Bool.and_eq_true, decide_eq_true_eq, inB_iff]
  constructor
  · rintro ⟨h, h1, h2⟩
    match x, h with
    | [a, b], _ => exact ⟨a, b, rfl, h2, h1⟩
  · rintro ⟨a, b, rfl, h1, h2⟩
    exact ⟨rfl, h2, h1⟩
theorem lks_each {n : Int} {xs : List (List Int)} (h : lksOk n xs = true) {i : Nat} (hi : i < xs.length) : ∃ a b : Int, xs[i] = [a, b] ∧ (0 ≤ a ∧ a ≤ b - 1) ∧ (0 ≤ b ∧ b ≤ n - 1) := by
  have h1 := (lksOk_iff.1 h).2.2 i hi
  simp only [lkGood, Bool.and_eq_true] at h1
  rw [lkAt_lt hi] at h1
  exact lkRow_iff.1 h1.1
theorem lkRow_two (n a b : Int) : lkRow n [a, b] = (inB b 0 (n - 1) && inB a 0 (b - 1)) := by simp [lkRow]
theorem lkLt_two (a b c d : Int) : lkLt [a, b] [c, d] = (decide (a < c) || (decide (a = c) && decide (b < d))) := rfl
theorem two_of {x : List Int} (h : x.length = 2) : ∃ a b : Int, x = [a, b] := by
  match x, h with
  | [a, b], _ => exact ⟨a, b, rfl⟩
theorem row_two {w : World} {A : Option Addr} {n cap : Nat} {a b : Int} (h : RowW .i64 w (.slice A n cap) [a, b]) : ∃ g off, A = some ⟨g, off, none⟩ ∧ n = 2 ∧ w.cell? ⟨g, off, none⟩ = some (.int .i64 a) ∧ w.cell? ⟨g, off + 1, none⟩ = some (.int .i64 b) := by
  obtain ⟨A', c', e, hx⟩ := h
  injection e with e1 e2 e3
  subst e1
  obtain ⟨g, off, rfl, c0⟩ := hx 0 (by simp)
  obtain ⟨g', off', e4, c1⟩ := hx 1 (by simp)
  injection e4 with e4
  injection e4 with e41 e42
  subst e41
  subst e42
  exact ⟨g, off, rfl, by simpa using e2, by simpa using c0, by simpa using c1⟩
theorem row_ofW {w : World} {v : Value} {xs : List Int} (h : RowW .i64 w v xs) (h0 : xs ≠ []) : Row .i64 w v xs := by
  obtain ⟨A, c, rfl, hx⟩ := h
  have hl : 0 < xs.length := List.length_pos_iff.2 h0
  obtain ⟨b, off, rfl, -⟩ := hx 0 hl
  refine .inr ⟨b, off, c, rfl, fun j hj => ?_⟩
  obtain ⟨b', off', e, hc⟩ := hx j hj
  injection e with e
  injection e with e1 e2
  subst e1
  subst e2
  exact hc.trans (by simp [List.getD, hj])
theorem incB_two (a b : Int) : incB [a, b] = decide (a < b) := by
  show (List.range 1).all _ = _
  simp [List.range_succ]
set_option maxHeartbeats 4000000 in
set_option maxRecDepth 100000 in
theorem l10Locks_any (n : Int) (A : Option Addr) (cap : Nat) (xs : List (List Int)) (w : World) (hr : RowsR w A xs) (hl : xs.length ≤ 1048576) (hls : ∀ r ∈ xs, r.length ≤ 1048576) :
    Calls Try.prog 89 #[.int .i64 n, .slice A xs.length cap] w fun e w' => e = .returned (.bool (lksOk n xs)) ∧ Below w.heap.size w w' := by
  have HR := Lib.hid hr
  have HS := Lib.hid hls
  clear hr hls
  by_cases hn : 0 ≤ n ∧ n ≤ 8
  · have i1 := inB_true hn.1 hn.2
    by_cases h12 : xs.length ≤ 12
    · have t12 : ¬ ((12 : Int) < (xs.length : Int)) := by omega
      go_enter Try.func89, Try.ntmps89
      go_wp2_with (go_at_call 48; refine (l00In_any _ _ _ _).mono ?_; rintro e w' ⟨rfl, rfl⟩)
      go_loopw [5] (fun i wr => ∃ k : Nat, k ≤ xs.length ∧ i = .int .i64 k ∧ Hid (∀ j, j < k → lkGood n xs j = true) ∧ Below w.heap.size w wr) (fun i wr => xs.length - (intOf i).toNat)
      case atStart => exact ⟨0, by omega, rfl, Lib.hid (fun j hj => absurd hj (by omega)), Below.refl _ _⟩
      case round =>
        obtain ⟨k, hk, rfl, HG, hbel⟩ := hrel
        obtain ⟨wo, rfl⟩ : ∃ wo : World, wo = wr := ⟨_, rfl⟩
        by_cases hlt : k < xs.length
        · obtain ⟨bl, off, Ax, cx, rfl, lX, hrw⟩ := (HR.out.below hbel).row hlt
          have HGD := Lib.hid (show lkGood n xs k = (lkRow n xs[k] && (decide (k = 0) || lkLt (lkAt xs (k - 1)) xs[k])) by unfold lkGood; rw [lkAt_lt hlt])
          have HXL := Lib.hid (HS.out xs[k] (List.getElem_mem hlt))
          have HRW := Lib.hid hrw
          clear hrw
          generalize xs[k] = x at *
          have hxl : x.length ≤ 1048576 := HXL.out
          by_cases h2 : x.length = 2
          · obtain ⟨a, b, rfl⟩ := two_of h2
            clear h2 hxl
            obtain ⟨gx, ox, rfl, -, x0, x1⟩ := row_two HRW.out
            simp only [List.length_cons, List.length_nil, Nat.zero_add, Nat.reduceAdd] at lX
            have HL2 := Lib.hid (show ((2 : Int) != 2) = false from rfl)
            have hw1 : IntKind.i64.wrap (n - 1) = n - 1 := IntWalk.i64_in _ (by omega)
            have HGE := Lib.hid (show lkGood n xs k = ((inB b 0 (n - 1) && inB a 0 (b - 1)) && (decide (k = 0) || lkLt (lkAt xs (k - 1)) [a, b])) from by rw [HGD.out, lkRow_two])
            by_cases hb : 0 ≤ b ∧ b ≤ n - 1
            · have i2 := inB_true hb.1 hb.2
              have hw2 : IntKind.i64.wrap (b - 1) = b - 1 := IntWalk.i64_in _ (by omega)
              by_cases ha : 0 ≤ a ∧ a ≤ b - 1
              · have i3 := inB_true ha.1 ha.2
                have HGF := Lib.hid (show lkGood n xs k = (decide (k = 0) || lkLt (lkAt xs (k - 1)) [a, b]) by rw [HGE.out, i2, i3]; rfl)
                by_cases k0 : k = 0
                · have HF := Lib.hid (show lkGood n xs k = true by rw [HGF.out, decide_eq_true k0]; rfl)
                  have hki : ¬ (0 < (k : Int)) := by omega
                  have hkn : ¬ (0 < k) := by omega
                  clear k0
                  go_wp2_with fail
                  refine wp_region_held (S := fun w' => w'.cell? ⟨gx, ox, none⟩ = some (.int .i64 a) ∧ w'.cell? ⟨gx, ox + 1, none⟩ = some (.int .i64 b) ∧ Below wo.heap.size wo w') (by kernel_rfl) ?_
                  try (change wpAnyH _ _ _ _ _ _ _ _ (World.drew _))
                  have hS0 := (show wo.drew.cell? ⟨gx, ox, none⟩ = some (.int .i64 a) ∧ wo.drew.cell? ⟨gx, ox + 1, none⟩ = some (.int .i64 b) ∧ Below wo.heap.size wo wo.drew from ⟨x0, x1, Below.drew (Below.refl _ _)⟩)
                  refine gTake 0 (v := ?_) rfl (by kernel_rfl) (by kernel_rfl) (by kernel_rfl) (fun _ _ _ h => h) (by kernel_rfl) ?_ hS0 ?_
                  rotate_left
                  · (intro W hW; clear hW; go_simp; try with_reducible rfl)
                  refine gTake 1 (v := ?_) rfl (by kernel_rfl) (by kernel_rfl) (by kernel_rfl) (fun _ _ _ h => h) (by kernel_rfl) ?_ hS0 ?_
                  rotate_left
                  · (intro W hW; clear hW; go_simp; try with_reducible rfl)
                  refine gTake 2 (v := ?_) rfl (by kernel_rfl) (by kernel_rfl) (by kernel_rfl) (fun _ _ _ h => h) (by kernel_rfl) ?_ hS0 ?_
                  rotate_left
                  · (intro W hW; clear hW; go_simp; (try rw [HL2.out]); try with_reducible rfl)
                  refine gTake 3 (v := ?_) rfl (by kernel_rfl) (by kernel_rfl) (by kernel_rfl) (fun _ _ _ h => h) (by kernel_rfl) ?_ hS0 ?_
                  rotate_left
                  · (intro W hW; clear hW; go_simp; try with_reducible rfl)
                  refine gTake 4 (v := ?_) rfl (by kernel_rfl) (by kernel_rfl) (by kernel_rfl) (fun _ _ _ h => h) (by kernel_rfl) ?_ hS0 ?_
                  rotate_left
                  · (intro W hW; clear hW; go_simp; try with_reducible rfl)
                  refine gTake 5 (v := ?_) rfl (by kernel_rfl) (by kernel_rfl) (by kernel_rfl) (fun _ _ _ h => h) (by kernel_rfl) ?_ hS0 ?_
                  rotate_left
                  · (intro W hW; clear hW; go_simp; try with_reducible rfl)
                  refine gTake 6 (v := ?_) rfl (by kernel_rfl) (by kernel_rfl) (by kernel_rfl) (fun _ _ _ h => h) (by kernel_rfl) ?_ hS0 ?_
                  rotate_left
                  · (intro W hW; have q0 := hW.1; have q1 := hW.2.1; clear hW; go_simp; try with_reducible rfl)
                  refine gTake 7 (v := ?_) rfl (by kernel_rfl) (by kernel_rfl) (by kernel_rfl) (fun _ _ _ h => h) (by kernel_rfl) ?_ hS0 ?_
                  rotate_left
                  · (intro W hW; clear hW; go_simp; try with_reducible rfl)
                  refine gTake 8 (v := ?_) rfl (by kernel_rfl) (by kernel_rfl) (by kernel_rfl) (fun _ _ _ h => h) (by kernel_rfl) ?_ hS0 ?_
                  rotate_left
                  · (intro W hW; clear hW; go_simp; try with_reducible rfl)
                  refine gOne 9 rfl (by kernel_rfl) (by kernel_rfl) (fun K hK => ?_)
                  go_simp
                  go_at_call 48
                  (with_reducible refine (l00In_any _ _ _ _).mono ?_)
                  rintro e w' ⟨rfl, rfl⟩
                  try go_simp
                  have hS1 := hS0
                  refine hK _ _ hS1 ?_
                  clear hK K
                  refine gTake 10 (v := ?_) rfl (by kernel_rfl) (by kernel_rfl) (by kernel_rfl) (fun _ _ _ h => h) (by kernel_rfl) ?_ hS1 ?_
                  rotate_left
                  · (intro W hW; clear hW; go_simp; try with_reducible rfl)
                  refine gTake 11 (v := ?_) rfl (by kernel_rfl) (by kernel_rfl) (by kernel_rfl) (fun _ _ _ h => h) (by kernel_rfl) ?_ hS1 ?_
                  rotate_left
                  · (intro W hW; clear hW; go_simp; try with_reducible rfl)
                  refine gTake 12 (v := ?_) rfl (by kernel_rfl) (by kernel_rfl) (by kernel_rfl) (fun _ _ _ h => h) (by kernel_rfl) ?_ hS1 ?_
                  rotate_left
                  · (intro W hW; clear hW; go_simp; try with_reducible rfl)
                  refine gTake 13 (v := ?_) rfl (by kernel_rfl) (by kernel_rfl) (by kernel_rfl) (fun _ _ _ h => h) (by kernel_rfl) ?_ hS1 ?_
                  rotate_left
                  · (intro W hW; clear hW; go_simp; try with_reducible rfl)
                  refine gTake 14 (v := ?_) rfl (by kernel_rfl) (by kernel_rfl) (by kernel_rfl) (fun _ _ _ h => h) (by kernel_rfl) ?_ hS1 ?_
                  rotate_left
                  · (intro W hW; clear hW; go_simp; try with_reducible rfl)
                  refine gTake 15 (v := ?_) rfl (by kernel_rfl) (by kernel_rfl) (by kernel_rfl) (fun _ _ _ h => h) (by kernel_rfl) ?_ hS1 ?_
                  rotate_left
                  · (intro W hW; have q0 := hW.1; have q1 := hW.2.1; clear hW; go_simp; try with_reducible rfl)
                  refine gTake 16 (v := ?_) rfl (by kernel_rfl) (by kernel_rfl) (by kernel_rfl) (fun _ _ _ h => h) (by kernel_rfl) ?_ hS1 ?_
                  rotate_left
                  · (intro W hW; clear hW; go_simp; try with_reducible rfl)
                  refine gTake 17 (v := ?_) rfl (by kernel_rfl) (by kernel_rfl) (by kernel_rfl) (fun _ _ _ h => h) (by kernel_rfl) ?_ hS1 ?_
                  rotate_left
                  · (intro W hW; clear hW; go_simp; try with_reducible rfl)
                  refine gTake 18 (v := ?_) rfl (by kernel_rfl) (by kernel_rfl) (by kernel_rfl) (fun _ _ _ h => h) (by kernel_rfl) ?_ hS1 ?_
                  rotate_left
                  · (intro W hW; have q0 := hW.1; have q1 := hW.2.1; clear hW; go_simp; try with_reducible rfl)
                  refine gTake 19 (v := ?_) rfl (by kernel_rfl) (by kernel_rfl) (by kernel_rfl) (fun _ _ _ h => h) (by kernel_rfl) ?_ hS1 ?_
                  rotate_left
                  · (intro W hW; clear hW; go_simp; try with_reducible rfl)
                  refine gOne 20 rfl (by kernel_rfl) (by kernel_rfl) (fun K hK => ?_)
                  go_simp
                  go_at_call 48
                  (with_reducible refine (l00In_any _ _ _ _).mono ?_)
                  rintro e w' ⟨rfl, rfl⟩
                  try go_simp
                  have hS2 := hS1
                  refine hK _ _ hS2 ?_
                  clear hK K
                  refine gTake 21 (v := ?_) rfl (by kernel_rfl) (by kernel_rfl) (by kernel_rfl) (fun _ _ _ h => h) (by kernel_rfl) ?_ hS2 ?_
                  rotate_left
                  · (intro W hW; clear hW; go_simp; try with_reducible rfl)
                  refine gTake 22 (v := ?_) rfl (by kernel_rfl) (by kernel_rfl) (by kernel_rfl) (fun _ _ _ h => h) (by kernel_rfl) ?_ hS2 ?_
                  rotate_left
                  · (intro W hW; clear hW; go_simp; try with_reducible rfl)
                  refine wpAnyH_done (by kernel_rfl) ?_ _
                  go_simp
                  have HB7 := Lib.hid (hbel.trans (hS2.2.2.mono hbel.size))
                  have HQ7 := Lib.hid (hS2.2.2)
                  go_wp2_with fail
                  have m0 := cellK x0 HQ7.out
                  have m1 := cellK x1 HQ7.out
                  refine wp_region_held (S := fun w' => w'.cell? ⟨gx, ox, none⟩ = some (.int .i64 a) ∧ w'.cell? ⟨gx, ox + 1, none⟩ = some (.int .i64 b) ∧ Below wo.drew.heap.size wo.drew w') (by kernel_rfl) ?_
                  try (change wpAnyH _ _ _ _ _ _ _ _ (World.drew _))
                  have hS0 := (show wo.drew.drew.cell? ⟨gx, ox, none⟩ = some (.int .i64 a) ∧ wo.drew.drew.cell? ⟨gx, ox + 1, none⟩ = some (.int .i64 b) ∧ Below wo.drew.heap.size wo.drew wo.drew.drew from ⟨m0, m1, Below.drew (Below.refl _ _)⟩)
                  refine gTake 0 (v := ?_) rfl (by kernel_rfl) (by kernel_rfl) (by kernel_rfl) (fun _ _ _ h => h) (by kernel_rfl) ?_ hS0 ?_
                  rotate_left
                  · (intro W hW; clear hW; go_simp; try with_reducible rfl)
                  refine gTake 1 (v := ?_) rfl (by kernel_rfl) (by kernel_rfl) (by kernel_rfl) (fun _ _ _ h => h) (by kernel_rfl) ?_ hS0 ?_
                  rotate_left
                  · (intro W hW; clear hW; go_simp; try with_reducible rfl)
                  refine gTake 2 (v := ?_) rfl (by kernel_rfl) (by kernel_rfl) (by kernel_rfl) (fun _ _ _ h => h) (by kernel_rfl) ?_ hS0 ?_
                  rotate_left
                  · (intro W hW; clear hW; go_simp; try with_reducible rfl)
                  refine gSkip 3 rfl (by kernel_rfl) (by kernel_rfl) (by kernel_rfl) (fun _ _ _ h => h) (by kernel_rfl) hS0 ?_
                  refine gSkip 4 rfl (by kernel_rfl) (by kernel_rfl) (by kernel_rfl) (fun _ _ _ h => h) (by kernel_rfl) hS0 ?_
                  refine gSkip 5 rfl (by kernel_rfl) (by kernel_rfl) (by kernel_rfl) (fun _ _ _ h => h) (by kernel_rfl) hS0 ?_
                  refine gSkip 6 rfl (by kernel_rfl) (by kernel_rfl) (by kernel_rfl) (fun _ _ _ h => h) (by kernel_rfl) hS0 ?_
                  refine gSkip 7 rfl (by kernel_rfl) (by kernel_rfl) (by kernel_rfl) (fun _ _ _ h => h) (by kernel_rfl) hS0 ?_
                  refine gSkip 8 rfl (by kernel_rfl) (by kernel_rfl) (by kernel_rfl) (fun _ _ _ h => h) (by kernel_rfl) hS0 ?_
                  refine gSkip 9 rfl (by kernel_rfl) (by kernel_rfl) (by kernel_rfl) (fun _ _ _ h => h) (by kernel_rfl) hS0 ?_
                  refine gSkip 10 rfl (by kernel_rfl) (by kernel_rfl) (by kernel_rfl) (fun _ _ _ h => h) (by kernel_rfl) hS0 ?_
                  refine gSkip 11 rfl (by kernel_rfl) (by kernel_rfl) (by kernel_rfl) (fun _ _ _ h => h) (by kernel_rfl) hS0 ?_
                  refine gSkip 12 rfl (by kernel_rfl) (by kernel_rfl) (by kernel_rfl) (fun _ _ _ h => h) (by kernel_rfl) hS0 ?_
                  refine gSkip 13 rfl (by kernel_rfl) (by kernel_rfl) (by kernel_rfl) (fun _ _ _ h => h) (by kernel_rfl) hS0 ?_
                  refine gSkip 14 rfl (by kernel_rfl) (by kernel_rfl) (by kernel_rfl) (fun _ _ _ h => h) (by kernel_rfl) hS0 ?_
                  refine gSkip 15 rfl (by kernel_rfl) (by kernel_rfl) (by kernel_rfl) (fun _ _ _ h => h) (by kernel_rfl) hS0 ?_
                  refine gSkip 16 rfl (by kernel_rfl) (by kernel_rfl) (by kernel_rfl) (fun _ _ _ h => h) (by kernel_rfl) hS0 ?_
                  refine gSkip 17 rfl (by kernel_rfl) (by kernel_rfl) (by kernel_rfl) (fun _ _ _ h => h) (by kernel_rfl) hS0 ?_
                  refine gSkip 18 rfl (by kernel_rfl) (by kernel_rfl) (by kernel_rfl) (fun _ _ _ h => h) (by kernel_rfl) hS0 ?_
                  refine gSkip 19 rfl (by kernel_rfl) (by kernel_rfl) (by kernel_rfl) (fun _ _ _ h => h) (by kernel_rfl) hS0 ?_
                  refine gSkip 20 rfl (by kernel_rfl) (by kernel_rfl) (by kernel_rfl) (fun _ _ _ h => h) (by kernel_rfl) hS0 ?_
                  refine gSkip 21 rfl (by kernel_rfl) (by kernel_rfl) (by kernel_rfl) (fun _ _ _ h => h) (by kernel_rfl) hS0 ?_
                  refine gSkip 22 rfl (by kernel_rfl) (by kernel_rfl) (by kernel_rfl) (fun _ _ _ h => h) (by kernel_rfl) hS0 ?_
                  refine gSkip 23 rfl (by kernel_rfl) (by kernel_rfl) (by kernel_rfl) (fun _ _ _ h => h) (by kernel_rfl) hS0 ?_
                  refine gSkip 24 rfl (by kernel_rfl) (by kernel_rfl) (by kernel_rfl) (fun _ _ _ h => h) (by kernel_rfl) hS0 ?_
                  refine gSkip 25 rfl (by kernel_rfl) (by kernel_rfl) (by kernel_rfl) (fun _ _ _ h => h) (by kernel_rfl) hS0 ?_
                  refine gSkip 26 rfl (by kernel_rfl) (by kernel_rfl) (by kernel_rfl) (fun _ _ _ h => h) (by kernel_rfl) hS0 ?_
                  refine gSkip 27 rfl (by kernel_rfl) (by kernel_rfl) (by kernel_rfl) (fun _ _ _ h => h) (by kernel_rfl) hS0 ?_
                  refine gSkip 28 rfl (by kernel_rfl) (by kernel_rfl) (by kernel_rfl) (fun _ _ _ h => h) (by kernel_rfl) hS0 ?_
                  refine gSkip 29 rfl (by kernel_rfl) (by kernel_rfl) (by kernel_rfl) (fun _ _ _ h => h) (by kernel_rfl) hS0 ?_
                  refine gSkip 30 rfl (by kernel_rfl) (by kernel_rfl) (by kernel_rfl) (fun _ _ _ h => h) (by kernel_rfl) hS0 ?_
                  refine gSkip 31 rfl (by kernel_rfl) (by kernel_rfl) (by kernel_rfl) (fun _ _ _ h => h) (by kernel_rfl) hS0 ?_
                  refine gSkip 32 rfl (by kernel_rfl) (by kernel_rfl) (by kernel_rfl) (fun _ _ _ h => h) (by kernel_rfl) hS0 ?_
                  refine gSkip 33 rfl (by kernel_rfl) (by kernel_rfl) (by kernel_rfl) (fun _ _ _ h => h) (by kernel_rfl) hS0 ?_
                  refine gSkip 34 rfl (by kernel_rfl) (by kernel_rfl) (by kernel_rfl) (fun _ _ _ h => h) (by kernel_rfl) hS0 ?_
                  refine gSkip 35 rfl (by kernel_rfl) (by kernel_rfl) (by kernel_rfl) (fun _ _ _ h => h) (by kernel_rfl) hS0 ?_
                  refine gSkip 36 rfl (by kernel_rfl) (by kernel_rfl) (by kernel_rfl) (fun _ _ _ h => h) (by kernel_rfl) hS0 ?_
                  refine gSkip 37 rfl (by kernel_rfl) (by kernel_rfl) (by kernel_rfl) (fun _ _ _ h => h) (by kernel_rfl) hS0 ?_
                  refine gSkip 38 rfl (by kernel_rfl) (by kernel_rfl) (by kernel_rfl) (fun _ _ _ h => h) (by kernel_rfl) hS0 ?_
                  refine gSkip 39 rfl (by kernel_rfl) (by kernel_rfl) (by kernel_rfl) (fun _ _ _ h => h) (by kernel_rfl) hS0 ?_
                  refine gTake 40 (v := ?_) rfl (by kernel_rfl) (by kernel_rfl) (by kernel_rfl) (fun _ _ _ h => h) (by kernel_rfl) ?_ hS0 ?_
                  rotate_left
                  · (intro W hW; clear hW; go_simp; try with_reducible rfl)
                  refine wpAnyH_done (by kernel_rfl) ?_ _
                  go_simp
                  go_wp2
                  go_roundw
                  case rel => exact ⟨k + 1, by omega, by go_num, Lib.hid (fun j hj => by
                    rcases Nat.lt_or_ge j k with q | q
                    · exact HG.out j q
                    · obtain rfl : j = k := by omega
                      exact HF.out), HB7.out.trans (hS0.2.2.mono HB7.out.size)⟩
                  case measure => simp [intOf]; omega
                · have hkl : k - 1 < xs.length := by omega
                  have HGP := Lib.hid (HG.out (k - 1) (by omega))
                  obtain ⟨pa, pb, hpe, -, -⟩ : ∃ pa pb : Int, xs[k - 1] = [pa, pb] ∧ (0 ≤ pa ∧ pa ≤ pb - 1) ∧ (0 ≤ pb ∧ pb ≤ n - 1) := by
                    have h1 := HGP.out
                    simp only [lkGood, Bool.and_eq_true] at h1
                    rw [lkAt_lt hkl] at h1
                    exact lkRow_iff.1 h1.1
                  obtain ⟨bl2, off2, Ap, cp, e2, lP, hrp⟩ := (HR.out.below hbel).row hkl
                  injection e2 with e2
                  injection e2 with e21 e22
                  subst e21
                  subst e22
                  rw [hpe] at lP hrp
                  obtain ⟨gp, op, rfl, -, y0, y1⟩ := row_two hrp
                  simp only [List.length_cons, List.length_nil, Nat.zero_add, Nat.reduceAdd] at lP
                  have HGL := Lib.hid (show lkGood n xs k = (decide (pa < a) || (decide (pa = a) && decide (pb < b))) by rw [HGF.out, decide_eq_false k0, lkAt_lt hkl, hpe, lkLt_two]; rfl)
                  clear hrp hpe
                  have hki : (0 < (k : Int)) := by omega
                  have hkn : 0 < k := by omega
                  have hkj : (k : Int) - 1 = ((k - 1 : Nat) : Int) := by omega
                  clear k0 HGP
                  generalize hj1 : k - 1 = j1 at *
                  have HJ1 := Lib.hid hj1
                  clear hj1
                  have hkw : IntKind.i64.wrap ((k : Int) - 1) = (j1 : Int) := by rw [hkj]; exact IntWalk.i64_in _ (by omega)
                  have HK := Lib.hid hkj
                  clear hkj
                  rcases Int.lt_trichotomy pa a with hc | hc | hc
                  · have HD1 := Lib.hid (show decide (a < pa) = false from decide_eq_false (by omega))
                    have HD2 := Lib.hid (show decide (pa = a) = false from decide_eq_false (by omega))
                    have HD3 := Lib.hid (show (pa == a) = false from beq_false_of_ne (by omega))
                    have HD4 := Lib.hid True.intro
                    have HF := Lib.hid (show lkGood n xs k = true by rw [HGL.out, decide_eq_true hc]; rfl)
                    have HH := Lib.hid hc
                    clear hc
                    go_wp2_with fail
                    refine wp_region_held (S := fun w' => w'.cell? ⟨gx, ox, none⟩ = some (.int .i64 a) ∧ w'.cell? ⟨gx, ox + 1, none⟩ = some (.int .i64 b) ∧ Below wo.heap.size wo w') (by kernel_rfl) ?_
                    try (change wpAnyH _ _ _ _ _ _ _ _ (World.drew _))
                    have hS0 := (show wo.drew.cell? ⟨gx, ox, none⟩ = some (.int .i64 a) ∧ wo.drew.cell? ⟨gx, ox + 1, none⟩ = some (.int .i64 b) ∧ Below wo.heap.size wo wo.drew from ⟨x0, x1, Below.drew (Below.refl _ _)⟩)
                    refine gTake 0 (v := ?_) rfl (by kernel_rfl) (by kernel_rfl) (by kernel_rfl) (fun _ _ _ h => h) (by kernel_rfl) ?_ hS0 ?_
                    rotate_left
                    · (intro W hW; clear hW; go_simp; try with_reducible rfl)
                    refine gTake 1 (v := ?_) rfl (by kernel_rfl) (by kernel_rfl) (by kernel_rfl) (fun _ _ _ h => h) (by kernel_rfl) ?_ hS0 ?_
                    rotate_left
                    · (intro W hW; clear hW; go_simp; try with_reducible rfl)
                    refine gTake 2 (v := ?_) rfl (by kernel_rfl) (by kernel_rfl) (by kernel_rfl) (fun _ _ _ h => h) (by kernel_rfl) ?_ hS0 ?_
                    rotate_left
                    · (intro W hW; clear hW; go_simp; (try rw [HL2.out]); try with_reducible rfl)
                    refine gTake 3 (v := ?_) rfl (by kernel_rfl) (by kernel_rfl) (by kernel_rfl) (fun _ _ _ h => h) (by kernel_rfl) ?_ hS0 ?_
                    rotate_left
                    · (intro W hW; clear hW; go_simp; try with_reducible rfl)
                    refine gTake 4 (v := ?_) rfl (by kernel_rfl) (by kernel_rfl) (by kernel_rfl) (fun _ _ _ h => h) (by kernel_rfl) ?_ hS0 ?_
                    rotate_left
                    · (intro W hW; clear hW; go_simp; try with_reducible rfl)
                    refine gTake 5 (v := ?_) rfl (by kernel_rfl) (by kernel_rfl) (by kernel_rfl) (fun _ _ _ h => h) (by kernel_rfl) ?_ hS0 ?_
                    rotate_left
                    · (intro W hW; clear hW; go_simp; try with_reducible rfl)
                    refine gTake 6 (v := ?_) rfl (by kernel_rfl) (by kernel_rfl) (by kernel_rfl) (fun _ _ _ h => h) (by kernel_rfl) ?_ hS0 ?_
                    rotate_left
                    · (intro W hW; have q0 := hW.1; have q1 := hW.2.1; clear hW; go_simp; try with_reducible rfl)
                    refine gTake 7 (v := ?_) rfl (by kernel_rfl) (by kernel_rfl) (by kernel_rfl) (fun _ _ _ h => h) (by kernel_rfl) ?_ hS0 ?_
                    rotate_left
                    · (intro W hW; clear hW; go_simp; try with_reducible rfl)
                    refine gTake 8 (v := ?_) rfl (by kernel_rfl) (by kernel_rfl) (by kernel_rfl) (fun _ _ _ h => h) (by kernel_rfl) ?_ hS0 ?_
                    rotate_left
                    · (intro W hW; clear hW; go_simp; try with_reducible rfl)
                    refine gOne 9 rfl (by kernel_rfl) (by kernel_rfl) (fun K hK => ?_)
                    go_simp
                    go_at_call 48
                    (with_reducible refine (l00In_any _ _ _ _).mono ?_)
                    rintro e w' ⟨rfl, rfl⟩
                    try go_simp
                    have hS1 := hS0
                    refine hK _ _ hS1 ?_
                    clear hK K
                    refine gTake 10 (v := ?_) rfl (by kernel_rfl) (by kernel_rfl) (by kernel_rfl) (fun _ _ _ h => h) (by kernel_rfl) ?_ hS1 ?_
                    rotate_left
                    · (intro W hW; clear hW; go_simp; try with_reducible rfl)
                    refine gTake 11 (v := ?_) rfl (by kernel_rfl) (by kernel_rfl) (by kernel_rfl) (fun _ _ _ h => h) (by kernel_rfl) ?_ hS1 ?_
                    rotate_left
                    · (intro W hW; clear hW; go_simp; try with_reducible rfl)
                    refine gTake 12 (v := ?_) rfl (by kernel_rfl) (by kernel_rfl) (by kernel_rfl) (fun _ _ _ h => h) (by kernel_rfl) ?_ hS1 ?_
                    rotate_left
                    · (intro W hW; clear hW; go_simp; try with_reducible rfl)
                    refine gTake 13 (v := ?_) rfl (by kernel_rfl) (by kernel_rfl) (by kernel_rfl) (fun _ _ _ h => h) (by kernel_rfl) ?_ hS1 ?_
                    rotate_left
                    · (intro W hW; clear hW; go_simp; try with_reducible rfl)
                    refine gTake 14 (v := ?_) rfl (by kernel_rfl) (by kernel_rfl) (by kernel_rfl) (fun _ _ _ h => h) (by kernel_rfl) ?_ hS1 ?_
                    rotate_left
                    · (intro W hW; clear hW; go_simp; try with_reducible rfl)
                    refine gTake 15 (v := ?_) rfl (by kernel_rfl) (by kernel_rfl) (by kernel_rfl) (fun _ _ _ h => h) (by kernel_rfl) ?_ hS1 ?_
                    rotate_left
                    · (intro W hW; have q0 := hW.1; have q1 := hW.2.1; clear hW; go_simp; try with_reducible rfl)
                    refine gTake 16 (v := ?_) rfl (by kernel_rfl) (by kernel_rfl) (by kernel_rfl) (fun _ _ _ h => h) (by kernel_rfl) ?_ hS1 ?_
                    rotate_left
                    · (intro W hW; clear hW; go_simp; try with_reducible rfl)
                    refine gTake 17 (v := ?_) rfl (by kernel_rfl) (by kernel_rfl) (by kernel_rfl) (fun _ _ _ h => h) (by kernel_rfl) ?_ hS1 ?_
                    rotate_left
                    · (intro W hW; clear hW; go_simp; try with_reducible rfl)
                    refine gTake 18 (v := ?_) rfl (by kernel_rfl) (by kernel_rfl) (by kernel_rfl) (fun _ _ _ h => h) (by kernel_rfl) ?_ hS1 ?_
                    rotate_left
                    · (intro W hW; have q0 := hW.1; have q1 := hW.2.1; clear hW; go_simp; try with_reducible rfl)
                    refine gTake 19 (v := ?_) rfl (by kernel_rfl) (by kernel_rfl) (by kernel_rfl) (fun _ _ _ h => h) (by kernel_rfl) ?_ hS1 ?_
                    rotate_left
                    · (intro W hW; clear hW; go_simp; try with_reducible rfl)
                    refine gOne 20 rfl (by kernel_rfl) (by kernel_rfl) (fun K hK => ?_)
                    go_simp
                    go_at_call 48
                    (with_reducible refine (l00In_any _ _ _ _).mono ?_)
                    rintro e w' ⟨rfl, rfl⟩
                    try go_simp
                    have hS2 := hS1
                    refine hK _ _ hS2 ?_
                    clear hK K
                    refine gTake 21 (v := ?_) rfl (by kernel_rfl) (by kernel_rfl) (by kernel_rfl) (fun _ _ _ h => h) (by kernel_rfl) ?_ hS2 ?_
                    rotate_left
                    · (intro W hW; clear hW; go_simp; try with_reducible rfl)
                    refine gTake 22 (v := ?_) rfl (by kernel_rfl) (by kernel_rfl) (by kernel_rfl) (fun _ _ _ h => h) (by kernel_rfl) ?_ hS2 ?_
                    rotate_left
                    · (intro W hW; clear hW; go_simp; try with_reducible rfl)
                    refine wpAnyH_done (by kernel_rfl) ?_ _
                    go_simp
                    have HB7 := Lib.hid (hbel.trans (hS2.2.2.mono hbel.size))
                    have HQ7 := Lib.hid (hS2.2.2)
                    go_wp2_with fail
                    have m0 := cellK x0 HQ7.out
                    have m1 := cellK x1 HQ7.out
                    have m2 := cellK lP HQ7.out
                    have m3 := cellK y0 HQ7.out
                    have m4 := cellK y1 HQ7.out
                    refine wp_region_held (S := fun w' => w'.cell? ⟨gx, ox, none⟩ = some (.int .i64 a) ∧ w'.cell? ⟨gx, ox + 1, none⟩ = some (.int .i64 b) ∧ w'.cell? ⟨bl, off + j1, none⟩ = some (.slice (some ⟨gp, op, none⟩) 2 cp) ∧ w'.cell? ⟨gp, op, none⟩ = some (.int .i64 pa) ∧ w'.cell? ⟨gp, op + 1, none⟩ = some (.int .i64 pb) ∧ Below wo.drew.heap.size wo.drew w') (by kernel_rfl) ?_
                    try (change wpAnyH _ _ _ _ _ _ _ _ (World.drew _))
                    have hS0 := (show wo.drew.drew.cell? ⟨gx, ox, none⟩ = some (.int .i64 a) ∧ wo.drew.drew.cell? ⟨gx, ox + 1, none⟩ = some (.int .i64 b) ∧ wo.drew.drew.cell? ⟨bl, off + j1, none⟩ = some (.slice (some ⟨gp, op, none⟩) 2 cp) ∧ wo.drew.drew.cell? ⟨gp, op, none⟩ = some (.int .i64 pa) ∧ wo.drew.drew.cell? ⟨gp, op + 1, none⟩ = some (.int .i64 pb) ∧ Below wo.drew.heap.size wo.drew wo.drew.drew from ⟨m0, m1, m2, m3, m4, Below.drew (Below.refl _ _)⟩)
                    refine gTake 0 (v := ?_) rfl (by kernel_rfl) (by kernel_rfl) (by kernel_rfl) (fun _ _ _ h => h) (by kernel_rfl) ?_ hS0 ?_
                    rotate_left
                    · (intro W hW; clear hW; go_simp; try with_reducible rfl)
                    refine gTake 1 (v := ?_) rfl (by kernel_rfl) (by kernel_rfl) (by kernel_rfl) (fun _ _ _ h => h) (by kernel_rfl) ?_ hS0 ?_
                    rotate_left
                    · (intro W hW; clear hW; go_simp; try with_reducible rfl)
                    refine gTake 2 (v := ?_) rfl (by kernel_rfl) (by kernel_rfl) (by kernel_rfl) (fun _ _ _ h => h) (by kernel_rfl) ?_ hS0 ?_
                    rotate_left
                    · (intro W hW; clear hW; go_simp; try with_reducible rfl)
                    refine gTake 3 (v := ?_) rfl (by kernel_rfl) (by kernel_rfl) (by kernel_rfl) (fun _ _ _ h => h) (by kernel_rfl) ?_ hS0 ?_
                    rotate_left
                    · (intro W hW; clear hW; go_simp; try with_reducible rfl)
                    refine gTake 4 (v := ?_) rfl (by kernel_rfl) (by kernel_rfl) (by kernel_rfl) (fun _ _ _ h => h) (by kernel_rfl) ?_ hS0 ?_
                    rotate_left
                    · (intro W hW; clear hW; go_simp; try with_reducible rfl)
                    refine gTake 5 (v := ?_) rfl (by kernel_rfl) (by kernel_rfl) (by kernel_rfl) (fun _ _ _ h => h) (by kernel_rfl) ?_ hS0 ?_
                    rotate_left
                    · (intro W hW; clear hW; go_simp; try with_reducible rfl)
                    refine gTake 6 (v := ?_) rfl (by kernel_rfl) (by kernel_rfl) (by kernel_rfl) (fun _ _ _ h => h) (by kernel_rfl) ?_ hS0 ?_
                    rotate_left
                    · (intro W hW; clear hW; go_simp; try with_reducible rfl)
                    refine gTake 7 (v := ?_) rfl (by kernel_rfl) (by kernel_rfl) (by kernel_rfl) (fun _ _ _ h => h) (by kernel_rfl) ?_ hS0 ?_
                    rotate_left
                    · (intro W hW; have q0 := hW.1; have q1 := hW.2.1; have q2 := hW.2.2.1; have q3 := hW.2.2.2.1; have q4 := hW.2.2.2.2.1; clear hW; go_simp; try with_reducible rfl)
                    refine gTake 8 (v := ?_) rfl (by kernel_rfl) (by kernel_rfl) (by kernel_rfl) (fun _ _ _ h => h) (by kernel_rfl) ?_ hS0 ?_
                    rotate_left
                    · (intro W hW; clear hW; go_simp; try with_reducible rfl)
                    refine gTake 9 (v := ?_) rfl (by kernel_rfl) (by kernel_rfl) (by kernel_rfl) (fun _ _ _ h => h) (by kernel_rfl) ?_ hS0 ?_
                    rotate_left
                    · (intro W hW; have q0 := hW.1; have q1 := hW.2.1; have q2 := hW.2.2.1; have q3 := hW.2.2.2.1; have q4 := hW.2.2.2.2.1; clear hW; go_simp; try with_reducible rfl)
                    refine gTake 10 (v := ?_) rfl (by kernel_rfl) (by kernel_rfl) (by kernel_rfl) (fun _ _ _ h => h) (by kernel_rfl) ?_ hS0 ?_
                    rotate_left
                    · (intro W hW; clear hW; go_simp; try with_reducible rfl)
                    refine gTake 11 (v := ?_) rfl (by kernel_rfl) (by kernel_rfl) (by kernel_rfl) (fun _ _ _ h => h) (by kernel_rfl) ?_ hS0 ?_
                    rotate_left
                    · (intro W hW; clear hW; go_simp; try with_reducible rfl)
                    refine gTake 12 (v := ?_) rfl (by kernel_rfl) (by kernel_rfl) (by kernel_rfl) (fun _ _ _ h => h) (by kernel_rfl) ?_ hS0 ?_
                    rotate_left
                    · (intro W hW; have q0 := hW.1; have q1 := hW.2.1; have q2 := hW.2.2.1; have q3 := hW.2.2.2.1; have q4 := hW.2.2.2.2.1; clear hW; go_simp; try with_reducible rfl)
                    refine gTake 13 (v := ?_) rfl (by kernel_rfl) (by kernel_rfl) (by kernel_rfl) (fun _ _ _ h => h) (by kernel_rfl) ?_ hS0 ?_
                    rotate_left
                    · (intro W hW; clear hW; go_simp; (try rw [HD1.out]); try with_reducible rfl)
                    refine gTake 14 (v := ?_) rfl (by kernel_rfl) (by kernel_rfl) (by kernel_rfl) (fun _ _ _ h => h) (by kernel_rfl) ?_ hS0 ?_
                    rotate_left
                    · (intro W hW; clear hW; go_simp; try with_reducible rfl)
                    refine gTake 15 (v := ?_) rfl (by kernel_rfl) (by kernel_rfl) (by kernel_rfl) (fun _ _ _ h => h) (by kernel_rfl) ?_ hS0 ?_
                    rotate_left
                    · (intro W hW; clear hW; go_simp; try with_reducible rfl)
                    refine gTake 16 (v := ?_) rfl (by kernel_rfl) (by kernel_rfl) (by kernel_rfl) (fun _ _ _ h => h) (by kernel_rfl) ?_ hS0 ?_
                    rotate_left
                    · (intro W hW; clear hW; go_simp; try with_reducible rfl)
                    refine gTake 17 (v := ?_) rfl (by kernel_rfl) (by kernel_rfl) (by kernel_rfl) (fun _ _ _ h => h) (by kernel_rfl) ?_ hS0 ?_
                    rotate_left
                    · (intro W hW; clear hW; go_simp; try with_reducible rfl)
                    refine gTake 18 (v := ?_) rfl (by kernel_rfl) (by kernel_rfl) (by kernel_rfl) (fun _ _ _ h => h) (by kernel_rfl) ?_ hS0 ?_
                    rotate_left
                    · (intro W hW; clear hW; go_simp; try with_reducible rfl)
                    refine gTake 19 (v := ?_) rfl (by kernel_rfl) (by kernel_rfl) (by kernel_rfl) (fun _ _ _ h => h) (by kernel_rfl) ?_ hS0 ?_
                    rotate_left
                    · (intro W hW; have q0 := hW.1; have q1 := hW.2.1; have q2 := hW.2.2.1; have q3 := hW.2.2.2.1; have q4 := hW.2.2.2.2.1; clear hW; go_simp; try with_reducible rfl)
                    refine gTake 20 (v := ?_) rfl (by kernel_rfl) (by kernel_rfl) (by kernel_rfl) (fun _ _ _ h => h) (by kernel_rfl) ?_ hS0 ?_
                    rotate_left
                    · (intro W hW; clear hW; go_simp; try with_reducible rfl)
                    refine gTake 21 (v := ?_) rfl (by kernel_rfl) (by kernel_rfl) (by kernel_rfl) (fun _ _ _ h => h) (by kernel_rfl) ?_ hS0 ?_
                    rotate_left
                    · (intro W hW; have q0 := hW.1; have q1 := hW.2.1; have q2 := hW.2.2.1; have q3 := hW.2.2.2.1; have q4 := hW.2.2.2.2.1; clear hW; go_simp; try with_reducible rfl)
                    refine gTake 22 (v := ?_) rfl (by kernel_rfl) (by kernel_rfl) (by kernel_rfl) (fun _ _ _ h => h) (by kernel_rfl) ?_ hS0 ?_
                    rotate_left
                    · (intro W hW; clear hW; go_simp; try with_reducible rfl)
                    refine gTake 23 (v := ?_) rfl (by kernel_rfl) (by kernel_rfl) (by kernel_rfl) (fun _ _ _ h => h) (by kernel_rfl) ?_ hS0 ?_
                    rotate_left
                    · (intro W hW; clear hW; go_simp; try with_reducible rfl)
                    refine gTake 24 (v := ?_) rfl (by kernel_rfl) (by kernel_rfl) (by kernel_rfl) (fun _ _ _ h => h) (by kernel_rfl) ?_ hS0 ?_
                    rotate_left
                    · (intro W hW; have q0 := hW.1; have q1 := hW.2.1; have q2 := hW.2.2.1; have q3 := hW.2.2.2.1; have q4 := hW.2.2.2.2.1; clear hW; go_simp; try with_reducible rfl)
                    refine gTake 25 (v := ?_) rfl (by kernel_rfl) (by kernel_rfl) (by kernel_rfl) (fun _ _ _ h => h) (by kernel_rfl) ?_ hS0 ?_
                    rotate_left
                    · (intro W hW; clear hW; go_simp; (try first | rw [HD2.out] | rw [HD3.out]); try with_reducible rfl)
                    refine gTake 26 (v := ?_) rfl (by kernel_rfl) (by kernel_rfl) (by kernel_rfl) (fun _ _ _ h => h) (by kernel_rfl) ?_ hS0 ?_
                    rotate_left
                    · (intro W hW; clear hW; go_simp; try with_reducible rfl)
                    refine gSkip 27 rfl (by kernel_rfl) (by kernel_rfl) (by kernel_rfl) (fun _ _ _ h => h) (by kernel_rfl) hS0 ?_
                    refine gSkip 28 rfl (by kernel_rfl) (by kernel_rfl) (by kernel_rfl) (fun _ _ _ h => h) (by kernel_rfl) hS0 ?_
                    refine gSkip 29 rfl (by kernel_rfl) (by kernel_rfl) (by kernel_rfl) (fun _ _ _ h => h) (by kernel_rfl) hS0 ?_
                    refine gSkip 30 rfl (by kernel_rfl) (by kernel_rfl) (by kernel_rfl) (fun _ _ _ h => h) (by kernel_rfl) hS0 ?_
                    refine gSkip 31 rfl (by kernel_rfl) (by kernel_rfl) (by kernel_rfl) (fun _ _ _ h => h) (by kernel_rfl) hS0 ?_
                    refine gSkip 32 rfl (by kernel_rfl) (by kernel_rfl) (by kernel_rfl) (fun _ _ _ h => h) (by kernel_rfl) hS0 ?_
                    refine gSkip 33 rfl (by kernel_rfl) (by kernel_rfl) (by kernel_rfl) (fun _ _ _ h => h) (by kernel_rfl) hS0 ?_
                    refine gSkip 34 rfl (by kernel_rfl) (by kernel_rfl) (by kernel_rfl) (fun _ _ _ h => h) (by kernel_rfl) hS0 ?_
                    refine gSkip 35 rfl (by kernel_rfl) (by kernel_rfl) (by kernel_rfl) (fun _ _ _ h => h) (by kernel_rfl) hS0 ?_
                    refine gSkip 36 rfl (by kernel_rfl) (by kernel_rfl) (by kernel_rfl) (fun _ _ _ h => h) (by kernel_rfl) hS0 ?_
                    refine gSkip 37 rfl (by kernel_rfl) (by kernel_rfl) (by kernel_rfl) (fun _ _ _ h => h) (by kernel_rfl) hS0 ?_
                    refine gTake 38 (v := ?_) rfl (by kernel_rfl) (by kernel_rfl) (by kernel_rfl) (fun _ _ _ h => h) (by kernel_rfl) ?_ hS0 ?_
                    rotate_left
                    · (intro W hW; clear hW; go_simp; try with_reducible rfl)
                    refine gTake 39 (v := ?_) rfl (by kernel_rfl) (by kernel_rfl) (by kernel_rfl) (fun _ _ _ h => h) (by kernel_rfl) ?_ hS0 ?_
                    rotate_left
                    · (intro W hW; clear hW; go_simp; try with_reducible rfl)
                    refine gTake 40 (v := ?_) rfl (by kernel_rfl) (by kernel_rfl) (by kernel_rfl) (fun _ _ _ h => h) (by kernel_rfl) ?_ hS0 ?_
                    rotate_left
                    · (intro W hW; clear hW; go_simp; try with_reducible rfl)
                    refine wpAnyH_done (by kernel_rfl) ?_ _
                    go_simp
                    go_wp2
                    go_roundw
                    case rel => exact ⟨k + 1, by omega, by go_num, Lib.hid (fun j hj => by
                      rcases Nat.lt_or_ge j k with q | q
                      · exact HG.out j q
                      · obtain rfl : j = k := by omega
                        exact HF.out), HB7.out.trans (hS0.2.2.2.2.2.mono HB7.out.size)⟩
                    case measure => simp [intOf]; omega
                  · have HD1 := Lib.hid (show decide (a < pa) = false from decide_eq_false (by omega))
                    have HD2 := Lib.hid (show decide (pa = a) = true from decide_eq_true (by omega))
                    have HD3 := Lib.hid (show (pa == a) = true from by rw [hc]; exact beq_self_eq_true a)
                    have HH := Lib.hid hc
                    clear hc
                    by_cases hd : pb < b
                    · have HD4 := Lib.hid (show decide (b ≤ pb) = false from decide_eq_false (by omega))
                      have HF := Lib.hid (show lkGood n xs k = true by rw [HGL.out, HD2.out, decide_eq_true hd]; simp)
                      have HH2 := Lib.hid hd
                      clear hd
                      go_wp2_with fail
                      refine wp_region_held (S := fun w' => w'.cell? ⟨gx, ox, none⟩ = some (.int .i64 a) ∧ w'.cell? ⟨gx, ox + 1, none⟩ = some (.int .i64 b) ∧ Below wo.heap.size wo w') (by kernel_rfl) ?_
                      try (change wpAnyH _ _ _ _ _ _ _ _ (World.drew _))
                      have hS0 := (show wo.drew.cell? ⟨gx, ox, none⟩ = some (.int .i64 a) ∧ wo.drew.cell? ⟨gx, ox + 1, none⟩ = some (.int .i64 b) ∧ Below wo.heap.size wo wo.drew from ⟨x0, x1, Below.drew (Below.refl _ _)⟩)
                      refine gTake 0 (v := ?_) rfl (by kernel_rfl) (by kernel_rfl) (by kernel_rfl) (fun _ _ _ h => h) (by kernel_rfl) ?_ hS0 ?_
                      rotate_left
                      · (intro W hW; clear hW; go_simp; try with_reducible rfl)
                      refine gTake 1 (v := ?_) rfl (by kernel_rfl) (by kernel_rfl) (by kernel_rfl) (fun _ _ _ h => h) (by kernel_rfl) ?_ hS0 ?_
                      rotate_left
                      · (intro W hW; clear hW; go_simp; try with_reducible rfl)
                      refine gTake 2 (v := ?_) rfl (by kernel_rfl) (by kernel_rfl) (by kernel_rfl) (fun _ _ _ h => h) (by kernel_rfl) ?_ hS0 ?_
                      rotate_left
                      · (intro W hW; clear hW; go_simp; (try rw [HL2.out]); try with_reducible rfl)
                      refine gTake 3 (v := ?_) rfl (by kernel_rfl) (by kernel_rfl) (by kernel_rfl) (fun _ _ _ h => h) (by kernel_rfl) ?_ hS0 ?_
                      rotate_left
                      · (intro W hW; clear hW; go_simp; try with_reducible rfl)
                      refine gTake 4 (v := ?_) rfl (by kernel_rfl) (by kernel_rfl) (by kernel_rfl) (fun _ _ _ h => h) (by kernel_rfl) ?_ hS0 ?_
                      rotate_left
                      · (intro W hW; clear hW; go_simp; try with_reducible rfl)
                      refine gTake 5 (v := ?_) rfl (by kernel_rfl) (by kernel_rfl) (by kernel_rfl) (fun _ _ _ h => h) (by kernel_rfl) ?_ hS0 ?_
                      rotate_left
                      · (intro W hW; clear hW; go_simp; try with_reducible rfl)
                      refine gTake 6 (v := ?_) rfl (by kernel_rfl) (by kernel_rfl) (by kernel_rfl) (fun _ _ _ h => h) (by kernel_rfl) ?_ hS0 ?_
                      rotate_left
                      · (intro W hW; have q0 := hW.1; have q1 := hW.2.1; clear hW; go_simp; try with_reducible rfl)
                      refine gTake 7 (v := ?_) rfl (by kernel_rfl) (by kernel_rfl) (by kernel_rfl) (fun _ _ _ h => h) (by kernel_rfl) ?_ hS0 ?_
                      rotate_left
                      · (intro W hW; clear hW; go_simp; try with_reducible rfl)
                      refine gTake 8 (v := ?_) rfl (by kernel_rfl) (by kernel_rfl) (by kernel_rfl) (fun _ _ _ h => h) (by kernel_rfl) ?_ hS0 ?_
                      rotate_left
                      · (intro W hW; clear hW; go_simp; try with_reducible rfl)
                      refine gOne 9 rfl (by kernel_rfl) (by kernel_rfl) (fun K hK => ?_)
                      go_simp
                      go_at_call 48
                      (with_reducible refine (l00In_any _ _ _ _).mono ?_)
                      rintro e w' ⟨rfl, rfl⟩
                      try go_simp
                      have hS1 := hS0
                      refine hK _ _ hS1 ?_
                      clear hK K
                      refine gTake 10 (v := ?_) rfl (by kernel_rfl) (by kernel_rfl) (by kernel_rfl) (fun _ _ _ h => h) (by kernel_rfl) ?_ hS1 ?_
                      rotate_left
                      · (intro W hW; clear hW; go_simp; try with_reducible rfl)
                      refine gTake 11 (v := ?_) rfl (by kernel_rfl) (by kernel_rfl) (by kernel_rfl) (fun _ _ _ h => h) (by kernel_rfl) ?_ hS1 ?_
                      rotate_left
                      · (intro W hW; clear hW; go_simp; try with_reducible rfl)
                      refine gTake 12 (v := ?_) rfl (by kernel_rfl) (by kernel_rfl) (by kernel_rfl) (fun _ _ _ h => h) (by kernel_rfl) ?_ hS1 ?_
                      rotate_left
                      · (intro W hW; clear hW; go_simp; try with_reducible rfl)
                      refine gTake 13 (v := ?_) rfl (by kernel_rfl) (by kernel_rfl) (by kernel_rfl) (fun _ _ _ h => h) (by kernel_rfl) ?_ hS1 ?_
                      rotate_left
                      · (intro W hW; clear hW; go_simp; try with_reducible rfl)
                      refine gTake 14 (v := ?_) rfl (by kernel_rfl) (by kernel_rfl) (by kernel_rfl) (fun _ _ _ h => h) (by kernel_rfl) ?_ hS1 ?_
                      rotate_left
                      · (intro W hW; clear hW; go_simp; try with_reducible rfl)
                      refine gTake 15 (v := ?_) rfl (by kernel_rfl) (by kernel_rfl) (by kernel_rfl) (fun _ _ _ h => h) (by kernel_rfl) ?_ hS1 ?_
                      rotate_left
                      · (intro W hW; have q0 := hW.1; have q1 := hW.2.1; clear hW; go_simp; try with_reducible rfl)
                      refine gTake 16 (v := ?_) rfl (by kernel_rfl) (by kernel_rfl) (by kernel_rfl) (fun _ _ _ h => h) (by kernel_rfl) ?_ hS1 ?_
                      rotate_left
                      · (intro W hW; clear hW; go_simp; try with_reducible rfl)
                      refine gTake 17 (v := ?_) rfl (by kernel_rfl) (by kernel_rfl) (by kernel_rfl) (fun _ _ _ h => h) (by kernel_rfl) ?_ hS1 ?_
                      rotate_left
                      · (intro W hW; clear hW; go_simp; try with_reducible rfl)
                      refine gTake 18 (v := ?_) rfl (by kernel_rfl) (by kernel_rfl) (by kernel_rfl) (fun _ _ _ h => h) (by kernel_rfl) ?_ hS1 ?_
                      rotate_left
                      · (intro W hW; have q0 := hW.1; have q1 := hW.2.1; clear hW; go_simp; try with_reducible rfl)
                      refine gTake 19 (v := ?_) rfl (by kernel_rfl) (by kernel_rfl) (by kernel_rfl) (fun _ _ _ h => h) (by kernel_rfl) ?_ hS1 ?_
                      rotate_left
                      · (intro W hW; clear hW; go_simp; try with_reducible rfl)
                      refine gOne 20 rfl (by kernel_rfl) (by kernel_rfl) (fun K hK => ?_)
                      go_simp
                      go_at_call 48
                      (with_reducible refine (l00In_any _ _ _ _).mono ?_)
                      rintro e w' ⟨rfl, rfl⟩
                      try go_simp
                      have hS2 := hS1
                      refine hK _ _ hS2 ?_
                      clear hK K
                      refine gTake 21 (v := ?_) rfl (by kernel_rfl) (by kernel_rfl) (by kernel_rfl) (fun _ _ _ h => h) (by kernel_rfl) ?_ hS2 ?_
                      rotate_left
                      · (intro W hW; clear hW; go_simp; try with_reducible rfl)
                      refine gTake 22 (v := ?_) rfl (by kernel_rfl) (by kernel_rfl) (by kernel_rfl) (fun _ _ _ h => h) (by kernel_rfl) ?_ hS2 ?_
                      rotate_left
                      · (intro W hW; clear hW; go_simp; try with_reducible rfl)
                      refine wpAnyH_done (by kernel_rfl) ?_ _
                      go_simp
                      have HB7 := Lib.hid (hbel.trans (hS2.2.2.mono hbel.size))
                      have HQ7 := Lib.hid (hS2.2.2)
                      go_wp2_with fail
                      have m0 := cellK x0 HQ7.out
                      have m1 := cellK x1 HQ7.out
                      have m2 := cellK lP HQ7.out
                      have m3 := cellK y0 HQ7.out
                      have m4 := cellK y1 HQ7.out
                      refine wp_region_held (S := fun w' => w'.cell? ⟨gx, ox, none⟩ = some (.int .i64 a) ∧ w'.cell? ⟨gx, ox + 1, none⟩ = some (.int .i64 b) ∧ w'.cell? ⟨bl, off + j1, none⟩ = some (.slice (some ⟨gp, op, none⟩) 2 cp) ∧ w'.cell? ⟨gp, op, none⟩ = some (.int .i64 pa) ∧ w'.cell? ⟨gp, op + 1, none⟩ = some (.int .i64 pb) ∧ Below wo.drew.heap.size wo.drew w') (by kernel_rfl) ?_
                      try (change wpAnyH _ _ _ _ _ _ _ _ (World.drew _))
                      have hS0 := (show wo.drew.drew.cell? ⟨gx, ox, none⟩ = some (.int .i64 a) ∧ wo.drew.drew.cell? ⟨gx, ox + 1, none⟩ = some (.int .i64 b) ∧ wo.drew.drew.cell? ⟨bl, off + j1, none⟩ = some (.slice (some ⟨gp, op, none⟩) 2 cp) ∧ wo.drew.drew.cell? ⟨gp, op, none⟩ = some (.int .i64 pa) ∧ wo.drew.drew.cell? ⟨gp, op + 1, none⟩ = some (.int .i64 pb) ∧ Below wo.drew.heap.size wo.drew wo.drew.drew from ⟨m0, m1, m2, m3, m4, Below.drew (Below.refl _ _)⟩)
                      refine gTake 0 (v := ?_) rfl (by kernel_rfl) (by kernel_rfl) (by kernel_rfl) (fun _ _ _ h => h) (by kernel_rfl) ?_ hS0 ?_
                      rotate_left
                      · (intro W hW; clear hW; go_simp; try with_reducible rfl)
                      refine gTake 1 (v := ?_) rfl (by kernel_rfl) (by kernel_rfl) (by kernel_rfl) (fun _ _ _ h => h) (by kernel_rfl) ?_ hS0 ?_
                      rotate_left
                      · (intro W hW; clear hW; go_simp; try with_reducible rfl)
                      refine gTake 2 (v := ?_) rfl (by kernel_rfl) (by kernel_rfl) (by kernel_rfl) (fun _ _ _ h => h) (by kernel_rfl) ?_ hS0 ?_
                      rotate_left
                      · (intro W hW; clear hW; go_simp; try with_reducible rfl)
                      refine gTake 3 (v := ?_) rfl (by kernel_rfl) (by kernel_rfl) (by kernel_rfl) (fun _ _ _ h => h) (by kernel_rfl) ?_ hS0 ?_
                      rotate_left
                      · (intro W hW; clear hW; go_simp; try with_reducible rfl)
                      refine gTake 4 (v := ?_) rfl (by kernel_rfl) (by kernel_rfl) (by kernel_rfl) (fun _ _ _ h => h) (by kernel_rfl) ?_ hS0 ?_
                      rotate_left
                      · (intro W hW; clear hW; go_simp; try with_reducible rfl)
                      refine gTake 5 (v := ?_) rfl (by kernel_rfl) (by kernel_rfl) (by kernel_rfl) (fun _ _ _ h => h) (by kernel_rfl) ?_ hS0 ?_
                      rotate_left
                      · (intro W hW; clear hW; go_simp; try with_reducible rfl)
                      refine gTake 6 (v := ?_) rfl (by kernel_rfl) (by kernel_rfl) (by kernel_rfl) (fun _ _ _ h => h) (by kernel_rfl) ?_ hS0 ?_
                      rotate_left
                      · (intro W hW; clear hW; go_simp; try with_reducible rfl)
                      refine gTake 7 (v := ?_) rfl (by kernel_rfl) (by kernel_rfl) (by kernel_rfl) (fun _ _ _ h => h) (by kernel_rfl) ?_ hS0 ?_
                      rotate_left
                      · (intro W hW; have q0 := hW.1; have q1 := hW.2.1; have q2 := hW.2.2.1; have q3 := hW.2.2.2.1; have q4 := hW.2.2.2.2.1; clear hW; go_simp; try with_reducible rfl)
                      refine gTake 8 (v := ?_) rfl (by kernel_rfl) (by kernel_rfl) (by kernel_rfl) (fun _ _ _ h => h) (by kernel_rfl) ?_ hS0 ?_
                      rotate_left
                      · (intro W hW; clear hW; go_simp; try with_reducible rfl)
                      refine gTake 9 (v := ?_) rfl (by kernel_rfl) (by kernel_rfl) (by kernel_rfl) (fun _ _ _ h => h) (by kernel_rfl) ?_ hS0 ?_
                      rotate_left
                      · (intro W hW; have q0 := hW.1; have q1 := hW.2.1; have q2 := hW.2.2.1; have q3 := hW.2.2.2.1; have q4 := hW.2.2.2.2.1; clear hW; go_simp; try with_reducible rfl)
                      refine gTake 10 (v := ?_) rfl (by kernel_rfl) (by kernel_rfl) (by kernel_rfl) (fun _ _ _ h => h) (by kernel_rfl) ?_ hS0 ?_
                      rotate_left
                      · (intro W hW; clear hW; go_simp; try with_reducible rfl)
                      refine gTake 11 (v := ?_) rfl (by kernel_rfl) (by kernel_rfl) (by kernel_rfl) (fun _ _ _ h => h) (by kernel_rfl) ?_ hS0 ?_
                      rotate_left
                      · (intro W hW; clear hW; go_simp; try with_reducible rfl)
                      refine gTake 12 (v := ?_) rfl (by kernel_rfl) (by kernel_rfl) (by kernel_rfl) (fun _ _ _ h => h) (by kernel_rfl) ?_ hS0 ?_
                      rotate_left
                      · (intro W hW; have q0 := hW.1; have q1 := hW.2.1; have q2 := hW.2.2.1; have q3 := hW.2.2.2.1; have q4 := hW.2.2.2.2.1; clear hW; go_simp; try with_reducible rfl)
                      refine gTake 13 (v := ?_) rfl (by kernel_rfl) (by kernel_rfl) (by kernel_rfl) (fun _ _ _ h => h) (by kernel_rfl) ?_ hS0 ?_
                      rotate_left
                      · (intro W hW; clear hW; go_simp; (try rw [HD1.out]); try with_reducible rfl)
                      refine gTake 14 (v := ?_) rfl (by kernel_rfl) (by kernel_rfl) (by kernel_rfl) (fun _ _ _ h => h) (by kernel_rfl) ?_ hS0 ?_
                      rotate_left
                      · (intro W hW; clear hW; go_simp; try with_reducible rfl)
                      refine gTake 15 (v := ?_) rfl (by kernel_rfl) (by kernel_rfl) (by kernel_rfl) (fun _ _ _ h => h) (by kernel_rfl) ?_ hS0 ?_
                      rotate_left
                      · (intro W hW; clear hW; go_simp; try with_reducible rfl)
                      refine gTake 16 (v := ?_) rfl (by kernel_rfl) (by kernel_rfl) (by kernel_rfl) (fun _ _ _ h => h) (by kernel_rfl) ?_ hS0 ?_
                      rotate_left
                      · (intro W hW; clear hW; go_simp; try with_reducible rfl)
                      refine gTake 17 (v := ?_) rfl (by kernel_rfl) (by kernel_rfl) (by kernel_rfl) (fun _ _ _ h => h) (by kernel_rfl) ?_ hS0 ?_
                      rotate_left
                      · (intro W hW; clear hW; go_simp; try with_reducible rfl)
                      refine gTake 18 (v := ?_) rfl (by kernel_rfl) (by kernel_rfl) (by kernel_rfl) (fun _ _ _ h => h) (by kernel_rfl) ?_ hS0 ?_
                      rotate_left
                      · (intro W hW; clear hW; go_simp; try with_reducible rfl)
                      refine gTake 19 (v := ?_) rfl (by kernel_rfl) (by kernel_rfl) (by kernel_rfl) (fun _ _ _ h => h) (by kernel_rfl) ?_ hS0 ?_
                      rotate_left
                      · (intro W hW; have q0 := hW.1; have q1 := hW.2.1; have q2 := hW.2.2.1; have q3 := hW.2.2.2.1; have q4 := hW.2.2.2.2.1; clear hW; go_simp; try with_reducible rfl)
                      refine gTake 20 (v := ?_) rfl (by kernel_rfl) (by kernel_rfl) (by kernel_rfl) (fun _ _ _ h => h) (by kernel_rfl) ?_ hS0 ?_
                      rotate_left
                      · (intro W hW; clear hW; go_simp; try with_reducible rfl)
                      refine gTake 21 (v := ?_) rfl (by kernel_rfl) (by kernel_rfl) (by kernel_rfl) (fun _ _ _ h => h) (by kernel_rfl) ?_ hS0 ?_
                      rotate_left
                      · (intro W hW; have q0 := hW.1; have q1 := hW.2.1; have q2 := hW.2.2.1; have q3 := hW.2.2.2.1; have q4 := hW.2.2.2.2.1; clear hW; go_simp; try with_reducible rfl)
                      refine gTake 22 (v := ?_) rfl (by kernel_rfl) (by kernel_rfl) (by kernel_rfl) (fun _ _ _ h => h) (by kernel_rfl) ?_ hS0 ?_
                      rotate_left
                      · (intro W hW; clear hW; go_simp; try with_reducible rfl)
                      refine gTake 23 (v := ?_) rfl (by kernel_rfl) (by kernel_rfl) (by kernel_rfl) (fun _ _ _ h => h) (by kernel_rfl) ?_ hS0 ?_
                      rotate_left
                      · (intro W hW; clear hW; go_simp; try with_reducible rfl)
                      refine gTake 24 (v := ?_) rfl (by kernel_rfl) (by kernel_rfl) (by kernel_rfl) (fun _ _ _ h => h) (by kernel_rfl) ?_ hS0 ?_
                      rotate_left
                      · (intro W hW; have q0 := hW.1; have q1 := hW.2.1; have q2 := hW.2.2.1; have q3 := hW.2.2.2.1; have q4 := hW.2.2.2.2.1; clear hW; go_simp; try with_reducible rfl)
                      refine gTake 25 (v := ?_) rfl (by kernel_rfl) (by kernel_rfl) (by kernel_rfl) (fun _ _ _ h => h) (by kernel_rfl) ?_ hS0 ?_
                      rotate_left
                      · (intro W hW; clear hW; go_simp; (try first | rw [HD2.out] | rw [HD3.out]); try with_reducible rfl)
                      refine gTake 26 (v := ?_) rfl (by kernel_rfl) (by kernel_rfl) (by kernel_rfl) (fun _ _ _ h => h) (by kernel_rfl) ?_ hS0 ?_
                      rotate_left
                      · (intro W hW; clear hW; go_simp; try with_reducible rfl)
                      refine gTake 27 (v := ?_) rfl (by kernel_rfl) (by kernel_rfl) (by kernel_rfl) (fun _ _ _ h => h) (by kernel_rfl) ?_ hS0 ?_
                      rotate_left
                      · (intro W hW; clear hW; go_simp; try with_reducible rfl)
                      refine gTake 28 (v := ?_) rfl (by kernel_rfl) (by kernel_rfl) (by kernel_rfl) (fun _ _ _ h => h) (by kernel_rfl) ?_ hS0 ?_
                      rotate_left
                      · (intro W hW; clear hW; go_simp; try with_reducible rfl)
                      refine gTake 29 (v := ?_) rfl (by kernel_rfl) (by kernel_rfl) (by kernel_rfl) (fun _ _ _ h => h) (by kernel_rfl) ?_ hS0 ?_
                      rotate_left
                      · (intro W hW; clear hW; go_simp; try with_reducible rfl)
                      refine gTake 30 (v := ?_) rfl (by kernel_rfl) (by kernel_rfl) (by kernel_rfl) (fun _ _ _ h => h) (by kernel_rfl) ?_ hS0 ?_
                      rotate_left
                      · (intro W hW; clear hW; go_simp; try with_reducible rfl)
                      refine gTake 31 (v := ?_) rfl (by kernel_rfl) (by kernel_rfl) (by kernel_rfl) (fun _ _ _ h => h) (by kernel_rfl) ?_ hS0 ?_
                      rotate_left
                      · (intro W hW; have q0 := hW.1; have q1 := hW.2.1; have q2 := hW.2.2.1; have q3 := hW.2.2.2.1; have q4 := hW.2.2.2.2.1; clear hW; go_simp; try with_reducible rfl)
                      refine gTake 32 (v := ?_) rfl (by kernel_rfl) (by kernel_rfl) (by kernel_rfl) (fun _ _ _ h => h) (by kernel_rfl) ?_ hS0 ?_
                      rotate_left
                      · (intro W hW; clear hW; go_simp; try with_reducible rfl)
                      refine gTake 33 (v := ?_) rfl (by kernel_rfl) (by kernel_rfl) (by kernel_rfl) (fun _ _ _ h => h) (by kernel_rfl) ?_ hS0 ?_
                      rotate_left
                      · (intro W hW; have q0 := hW.1; have q1 := hW.2.1; have q2 := hW.2.2.1; have q3 := hW.2.2.2.1; have q4 := hW.2.2.2.2.1; clear hW; go_simp; try with_reducible rfl)
                      refine gTake 34 (v := ?_) rfl (by kernel_rfl) (by kernel_rfl) (by kernel_rfl) (fun _ _ _ h => h) (by kernel_rfl) ?_ hS0 ?_
                      rotate_left
                      · (intro W hW; clear hW; go_simp; try with_reducible rfl)
                      refine gTake 35 (v := ?_) rfl (by kernel_rfl) (by kernel_rfl) (by kernel_rfl) (fun _ _ _ h => h) (by kernel_rfl) ?_ hS0 ?_
                      rotate_left
                      · (intro W hW; clear hW; go_simp; try with_reducible rfl)
                      refine gTake 36 (v := ?_) rfl (by kernel_rfl) (by kernel_rfl) (by kernel_rfl) (fun _ _ _ h => h) (by kernel_rfl) ?_ hS0 ?_
                      rotate_left
                      · (intro W hW; have q0 := hW.1; have q1 := hW.2.1; have q2 := hW.2.2.1; have q3 := hW.2.2.2.1; have q4 := hW.2.2.2.2.1; clear hW; go_simp; try with_reducible rfl)
                      refine gTake 37 (v := ?_) rfl (by kernel_rfl) (by kernel_rfl) (by kernel_rfl) (fun _ _ _ h => h) (by kernel_rfl) ?_ hS0 ?_
                      rotate_left
                      · (intro W hW; clear hW; go_simp; (try rw [HD4.out]); try with_reducible rfl)
                      refine gTake 38 (v := ?_) rfl (by kernel_rfl) (by kernel_rfl) (by kernel_rfl) (fun _ _ _ h => h) (by kernel_rfl) ?_ hS0 ?_
                      rotate_left
                      · (intro W hW; clear hW; go_simp; try with_reducible rfl)
                      refine gTake 39 (v := ?_) rfl (by kernel_rfl) (by kernel_rfl) (by kernel_rfl) (fun _ _ _ h => h) (by kernel_rfl) ?_ hS0 ?_
                      rotate_left
                      · (intro W hW; clear hW; go_simp; try with_reducible rfl)
                      refine gTake 40 (v := ?_) rfl (by kernel_rfl) (by kernel_rfl) (by kernel_rfl) (fun _ _ _ h => h) (by kernel_rfl) ?_ hS0 ?_
                      rotate_left
                      · (intro W hW; clear hW; go_simp; try with_reducible rfl)
                      refine wpAnyH_done (by kernel_rfl) ?_ _
                      go_simp
                      go_wp2
                      go_roundw
                      case rel => exact ⟨k + 1, by omega, by go_num, Lib.hid (fun j hj => by
                        rcases Nat.lt_or_ge j k with q | q
                        · exact HG.out j q
                        · obtain rfl : j = k := by omega
                          exact HF.out), HB7.out.trans (hS0.2.2.2.2.2.mono HB7.out.size)⟩
                      case measure => simp [intOf]; omega
                    · have HD4 := Lib.hid (show decide (b ≤ pb) = true from decide_eq_true (by omega))
                      have HF := Lib.hid (lksOk_bad (n := n) hlt (by rw [HGL.out, HD2.out, decide_eq_false hd, decide_eq_false (show ¬ pa < a by have := HH.out; omega)]; rfl))
                      have HH2 := Lib.hid hd
                      clear hd
                      go_wp2_with fail
                      refine wp_region_held (S := fun w' => w'.cell? ⟨gx, ox, none⟩ = some (.int .i64 a) ∧ w'.cell? ⟨gx, ox + 1, none⟩ = some (.int .i64 b) ∧ Below wo.heap.size wo w') (by kernel_rfl) ?_
                      try (change wpAnyH _ _ _ _ _ _ _ _ (World.drew _))
                      have hS0 := (show wo.drew.cell? ⟨gx, ox, none⟩ = some (.int .i64 a) ∧ wo.drew.cell? ⟨gx, ox + 1, none⟩ = some (.int .i64 b) ∧ Below wo.heap.size wo wo.drew from ⟨x0, x1, Below.drew (Below.refl _ _)⟩)
                      refine gTake 0 (v := ?_) rfl (by kernel_rfl) (by kernel_rfl) (by kernel_rfl) (fun _ _ _ h => h) (by kernel_rfl) ?_ hS0 ?_
                      rotate_left
                      · (intro W hW; clear hW; go_simp; try with_reducible rfl)
                      refine gTake 1 (v := ?_) rfl (by kernel_rfl) (by kernel_rfl) (by kernel_rfl) (fun _ _ _ h => h) (by kernel_rfl) ?_ hS0 ?_
                      rotate_left
                      · (intro W hW; clear hW; go_simp; try with_reducible rfl)
                      refine gTake 2 (v := ?_) rfl (by kernel_rfl) (by kernel_rfl) (by kernel_rfl) (fun _ _ _ h => h) (by kernel_rfl) ?_ hS0 ?_
                      rotate_left
                      · (intro W hW; clear hW; go_simp; (try rw [HL2.out]); try with_reducible rfl)
                      refine gTake 3 (v := ?_) rfl (by kernel_rfl) (by kernel_rfl) (by kernel_rfl) (fun _ _ _ h => h) (by kernel_rfl) ?_ hS0 ?_
                      rotate_left
                      · (intro W hW; clear hW; go_simp; try with_reducible rfl)
                      refine gTake 4 (v := ?_) rfl (by kernel_rfl) (by kernel_rfl) (by kernel_rfl) (fun _ _ _ h => h) (by kernel_rfl) ?_ hS0 ?_
                      rotate_left
                      · (intro W hW; clear hW; go_simp; try with_reducible rfl)
                      refine gTake 5 (v := ?_) rfl (by kernel_rfl) (by kernel_rfl) (by kernel_rfl) (fun _ _ _ h => h) (by kernel_rfl) ?_ hS0 ?_
                      rotate_left
                      · (intro W hW; clear hW; go_simp; try with_reducible rfl)
                      refine gTake 6 (v := ?_) rfl (by kernel_rfl) (by kernel_rfl) (by kernel_rfl) (fun _ _ _ h => h) (by kernel_rfl) ?_ hS0 ?_
                      rotate_left
                      · (intro W hW; have q0 := hW.1; have q1 := hW.2.1; clear hW; go_simp; try with_reducible rfl)
                      refine gTake 7 (v := ?_) rfl (by kernel_rfl) (by kernel_rfl) (by kernel_rfl) (fun _ _ _ h => h) (by kernel_rfl) ?_ hS0 ?_
                      rotate_left
                      · (intro W hW; clear hW; go_simp; try with_reducible rfl)
                      refine gTake 8 (v := ?_) rfl (by kernel_rfl) (by kernel_rfl) (by kernel_rfl) (fun _ _ _ h => h) (by kernel_rfl) ?_ hS0 ?_
                      rotate_left
                      · (intro W hW; clear hW; go_simp; try with_reducible rfl)
                      refine gOne 9 rfl (by kernel_rfl) (by kernel_rfl) (fun K hK => ?_)
                      go_simp
                      go_at_call 48
                      (with_reducible refine (l00In_any _ _ _ _).mono ?_)
                      rintro e w' ⟨rfl, rfl⟩
                      try go_simp
                      have hS1 := hS0
                      refine hK _ _ hS1 ?_
                      clear hK K
                      refine gTake 10 (v := ?_) rfl (by kernel_rfl) (by kernel_rfl) (by kernel_rfl) (fun _ _ _ h => h) (by kernel_rfl) ?_ hS1 ?_
                      rotate_left
                      · (intro W hW; clear hW; go_simp; try with_reducible rfl)
                      refine gTake 11 (v := ?_) rfl (by kernel_rfl) (by kernel_rfl) (by kernel_rfl) (fun _ _ _ h => h) (by kernel_rfl) ?_ hS1 ?_
                      rotate_left
                      · (intro W hW; clear hW; go_simp; try with_reducible rfl)
                      refine gTake 12 (v := ?_) rfl (by kernel_rfl) (by kernel_rfl) (by kernel_rfl) (fun _ _ _ h => h) (by kernel_rfl) ?_ hS1 ?_
                      rotate_left
                      · (intro W hW; clear hW; go_simp; try with_reducible rfl)
                      refine gTake 13 (v := ?_) rfl (by kernel_rfl) (by kernel_rfl) (by kernel_rfl) (fun _ _ _ h => h) (by kernel_rfl) ?_ hS1 ?_
                      rotate_left
                      · (intro W hW; clear hW; go_simp; try with_reducible rfl)
                      refine gTake 14 (v := ?_) rfl (by kernel_rfl) (by kernel_rfl) (by kernel_rfl) (fun _ _ _ h => h) (by kernel_rfl) ?_ hS1 ?_
                      rotate_left
                      · (intro W hW; clear hW; go_simp; try with_reducible rfl)
                      refine gTake 15 (v := ?_) rfl (by kernel_rfl) (by kernel_rfl) (by kernel_rfl) (fun _ _ _ h => h) (by kernel_rfl) ?_ hS1 ?_
                      rotate_left
                      · (intro W hW; have q0 := hW.1; have q1 := hW.2.1; clear hW; go_simp; try with_reducible rfl)
                      refine gTake 16 (v := ?_) rfl (by kernel_rfl) (by kernel_rfl) (by kernel_rfl) (fun _ _ _ h => h) (by kernel_rfl) ?_ hS1 ?_
                      rotate_left
                      · (intro W hW; clear hW; go_simp; try with_reducible rfl)
                      refine gTake 17 (v := ?_) rfl (by kernel_rfl) (by kernel_rfl) (by kernel_rfl) (fun _ _ _ h => h) (by kernel_rfl) ?_ hS1 ?_
                      rotate_left
                      · (intro W hW; clear hW; go_simp; try with_reducible rfl)
                      refine gTake 18 (v := ?_) rfl (by kernel_rfl) (by kernel_rfl) (by kernel_rfl) (fun _ _ _ h => h) (by kernel_rfl) ?_ hS1 ?_
                      rotate_left
                      · (intro W hW; have q0 := hW.1; have q1 := hW.2.1; clear hW; go_simp; try with_reducible rfl)
                      refine gTake 19 (v := ?_) rfl (by kernel_rfl) (by kernel_rfl) (by kernel_rfl) (fun _ _ _ h => h) (by kernel_rfl) ?_ hS1 ?_
                      rotate_left
                      · (intro W hW; clear hW; go_simp; try with_reducible rfl)
                      refine gOne 20 rfl (by kernel_rfl) (by kernel_rfl) (fun K hK => ?_)
                      go_simp
                      go_at_call 48
                      (with_reducible refine (l00In_any _ _ _ _).mono ?_)
                      rintro e w' ⟨rfl, rfl⟩
                      try go_simp
                      have hS2 := hS1
                      refine hK _ _ hS2 ?_
                      clear hK K
                      refine gTake 21 (v := ?_) rfl (by kernel_rfl) (by kernel_rfl) (by kernel_rfl) (fun _ _ _ h => h) (by kernel_rfl) ?_ hS2 ?_
                      rotate_left
                      · (intro W hW; clear hW; go_simp; try with_reducible rfl)
                      refine gTake 22 (v := ?_) rfl (by kernel_rfl) (by kernel_rfl) (by kernel_rfl) (fun _ _ _ h => h) (by kernel_rfl) ?_ hS2 ?_
                      rotate_left
                      · (intro W hW; clear hW; go_simp; try with_reducible rfl)
                      refine wpAnyH_done (by kernel_rfl) ?_ _
                      go_simp
                      have HB7 := Lib.hid (hbel.trans (hS2.2.2.mono hbel.size))
                      have HQ7 := Lib.hid (hS2.2.2)
                      go_wp2_with fail
                      have m0 := cellK x0 HQ7.out
                      have m1 := cellK x1 HQ7.out
                      have m2 := cellK lP HQ7.out
                      have m3 := cellK y0 HQ7.out
                      have m4 := cellK y1 HQ7.out
                      refine wp_region_held (S := fun w' => w'.cell? ⟨gx, ox, none⟩ = some (.int .i64 a) ∧ w'.cell? ⟨gx, ox + 1, none⟩ = some (.int .i64 b) ∧ w'.cell? ⟨bl, off + j1, none⟩ = some (.slice (some ⟨gp, op, none⟩) 2 cp) ∧ w'.cell? ⟨gp, op, none⟩ = some (.int .i64 pa) ∧ w'.cell? ⟨gp, op + 1, none⟩ = some (.int .i64 pb) ∧ Below wo.drew.heap.size wo.drew w') (by kernel_rfl) ?_
                      try (change wpAnyH _ _ _ _ _ _ _ _ (World.drew _))
                      have hS0 := (show wo.drew.drew.cell? ⟨gx, ox, none⟩ = some (.int .i64 a) ∧ wo.drew.drew.cell? ⟨gx, ox + 1, none⟩ = some (.int .i64 b) ∧ wo.drew.drew.cell? ⟨bl, off + j1, none⟩ = some (.slice (some ⟨gp, op, none⟩) 2 cp) ∧ wo.drew.drew.cell? ⟨gp, op, none⟩ = some (.int .i64 pa) ∧ wo.drew.drew.cell? ⟨gp, op + 1, none⟩ = some (.int .i64 pb) ∧ Below wo.drew.heap.size wo.drew wo.drew.drew from ⟨m0, m1, m2, m3, m4, Below.drew (Below.refl _ _)⟩)
                      refine gTake 0 (v := ?_) rfl (by kernel_rfl) (by kernel_rfl) (by kernel_rfl) (fun _ _ _ h => h) (by kernel_rfl) ?_ hS0 ?_
                      rotate_left
                      · (intro W hW; clear hW; go_simp; try with_reducible rfl)
                      refine gTake 1 (v := ?_) rfl (by kernel_rfl) (by kernel_rfl) (by kernel_rfl) (fun _ _ _ h => h) (by kernel_rfl) ?_ hS0 ?_
                      rotate_left
                      · (intro W hW; clear hW; go_simp; try with_reducible rfl)
                      refine gTake 2 (v := ?_) rfl (by kernel_rfl) (by kernel_rfl) (by kernel_rfl) (fun _ _ _ h => h) (by kernel_rfl) ?_ hS0 ?_
                      rotate_left
                      · (intro W hW; clear hW; go_simp; try with_reducible rfl)
                      refine gTake 3 (v := ?_) rfl (by kernel_rfl) (by kernel_rfl) (by kernel_rfl) (fun _ _ _ h => h) (by kernel_rfl) ?_ hS0 ?_
                      rotate_left
                      · (intro W hW; clear hW; go_simp; try with_reducible rfl)
                      refine gTake 4 (v := ?_) rfl (by kernel_rfl) (by kernel_rfl) (by kernel_rfl) (fun _ _ _ h => h) (by kernel_rfl) ?_ hS0 ?_
                      rotate_left
                      · (intro W hW; clear hW; go_simp; try with_reducible rfl)
                      refine gTake 5 (v := ?_) rfl (by kernel_rfl) (by kernel_rfl) (by kernel_rfl) (fun _ _ _ h => h) (by kernel_rfl) ?_ hS0 ?_
                      rotate_left
                      · (intro W hW; clear hW; go_simp; try with_reducible rfl)
                      refine gTake 6 (v := ?_) rfl (by kernel_rfl) (by kernel_rfl) (by kernel_rfl) (fun _ _ _ h => h) (by kernel_rfl) ?_ hS0 ?_
                      rotate_left
                      · (intro W hW; clear hW; go_simp; try with_reducible rfl)
                      refine gTake 7 (v := ?_) rfl (by kernel_rfl) (by kernel_rfl) (by kernel_rfl) (fun _ _ _ h => h) (by kernel_rfl) ?_ hS0 ?_
                      rotate_left
                      · (intro W hW; have q0 := hW.1; have q1 := hW.2.1; have q2 := hW.2.2.1; have q3 := hW.2.2.2.1; have q4 := hW.2.2.2.2.1; clear hW; go_simp; try with_reducible rfl)
                      refine gTake 8 (v := ?_) rfl (by kernel_rfl) (by kernel_rfl) (by kernel_rfl) (fun _ _ _ h => h) (by kernel_rfl) ?_ hS0 ?_
                      rotate_left
                      · (intro W hW; clear hW; go_simp; try with_reducible rfl)
                      refine gTake 9 (v := ?_) rfl (by kernel_rfl) (by kernel_rfl) (by kernel_rfl) (fun _ _ _ h => h) (by kernel_rfl) ?_ hS0 ?_
                      rotate_left
                      · (intro W hW; have q0 := hW.1; have q1 := hW.2.1; have q2 := hW.2.2.1; have q3 := hW.2.2.2.1; have q4 := hW.2.2.2.2.1; clear hW; go_simp; try with_reducible rfl)
                      refine gTake 10 (v := ?_) rfl (by kernel_rfl) (by kernel_rfl) (by kernel_rfl) (fun _ _ _ h => h) (by kernel_rfl) ?_ hS0 ?_
                      rotate_left
                      · (intro W hW; clear hW; go_simp; try with_reducible rfl)
                      refine gTake 11 (v := ?_) rfl (by kernel_rfl) (by kernel_rfl) (by kernel_rfl) (fun _ _ _ h => h) (by kernel_rfl) ?_ hS0 ?_
                      rotate_left
                      · (intro W hW; clear hW; go_simp; try with_reducible rfl)
                      refine gTake 12 (v := ?_) rfl (by kernel_rfl) (by kernel_rfl) (by kernel_rfl) (fun _ _ _ h => h) (by kernel_rfl) ?_ hS0 ?_
                      rotate_left
                      · (intro W hW; have q0 := hW.1; have q1 := hW.2.1; have q2 := hW.2.2.1; have q3 := hW.2.2.2.1; have q4 := hW.2.2.2.2.1; clear hW; go_simp; try with_reducible rfl)
                      refine gTake 13 (v := ?_) rfl (by kernel_rfl) (by kernel_rfl) (by kernel_rfl) (fun _ _ _ h => h) (by kernel_rfl) ?_ hS0 ?_
                      rotate_left
                      · (intro W hW; clear hW; go_simp; (try rw [HD1.out]); try with_reducible rfl)
                      refine gTake 14 (v := ?_) rfl (by kernel_rfl) (by kernel_rfl) (by kernel_rfl) (fun _ _ _ h => h) (by kernel_rfl) ?_ hS0 ?_
                      rotate_left
                      · (intro W hW; clear hW; go_simp; try with_reducible rfl)
                      refine gTake 15 (v := ?_) rfl (by kernel_rfl) (by kernel_rfl) (by kernel_rfl) (fun _ _ _ h => h) (by kernel_rfl) ?_ hS0 ?_
                      rotate_left
                      · (intro W hW; clear hW; go_simp; try with_reducible rfl)
                      refine gTake 16 (v := ?_) rfl (by kernel_rfl) (by kernel_rfl) (by kernel_rfl) (fun _ _ _ h => h) (by kernel_rfl) ?_ hS0 ?_
                      rotate_left
                      · (intro W hW; clear hW; go_simp; try with_reducible rfl)
                      refine gTake 17 (v := ?_) rfl (by kernel_rfl) (by kernel_rfl) (by kernel_rfl) (fun _ _ _ h => h) (by kernel_rfl) ?_ hS0 ?_
                      rotate_left
                      · (intro W hW; clear hW; go_simp; try with_reducible rfl)
                      refine gTake 18 (v := ?_) rfl (by kernel_rfl) (by kernel_rfl) (by kernel_rfl) (fun _ _ _ h => h) (by kernel_rfl) ?_ hS0 ?_
                      rotate_left
                      · (intro W hW; clear hW; go_simp; try with_reducible rfl)
                      refine gTake 19 (v := ?_) rfl (by kernel_rfl) (by kernel_rfl) (by kernel_rfl) (fun _ _ _ h => h) (by kernel_rfl) ?_ hS0 ?_
                      rotate_left
                      · (intro W hW; have q0 := hW.1; have q1 := hW.2.1; have q2 := hW.2.2.1; have q3 := hW.2.2.2.1; have q4 := hW.2.2.2.2.1; clear hW; go_simp; try with_reducible rfl)
                      refine gTake 20 (v := ?_) rfl (by kernel_rfl) (by kernel_rfl) (by kernel_rfl) (fun _ _ _ h => h) (by kernel_rfl) ?_ hS0 ?_
                      rotate_left
                      · (intro W hW; clear hW; go_simp; try with_reducible rfl)
                      refine gTake 21 (v := ?_) rfl (by kernel_rfl) (by kernel_rfl) (by kernel_rfl) (fun _ _ _ h => h) (by kernel_rfl) ?_ hS0 ?_
                      rotate_left
                      · (intro W hW; have q0 := hW.1; have q1 := hW.2.1; have q2 := hW.2.2.1; have q3 := hW.2.2.2.1; have q4 := hW.2.2.2.2.1; clear hW; go_simp; try with_reducible rfl)
                      refine gTake 22 (v := ?_) rfl (by kernel_rfl) (by kernel_rfl) (by kernel_rfl) (fun _ _ _ h => h) (by kernel_rfl) ?_ hS0 ?_
                      rotate_left
                      · (intro W hW; clear hW; go_simp; try with_reducible rfl)
                      refine gTake 23 (v := ?_) rfl (by kernel_rfl) (by kernel_rfl) (by kernel_rfl) (fun _ _ _ h => h) (by kernel_rfl) ?_ hS0 ?_
                      rotate_left
                      · (intro W hW; clear hW; go_simp; try with_reducible rfl)
                      refine gTake 24 (v := ?_) rfl (by kernel_rfl) (by kernel_rfl) (by kernel_rfl) (fun _ _ _ h => h) (by kernel_rfl) ?_ hS0 ?_
                      rotate_left
                      · (intro W hW; have q0 := hW.1; have q1 := hW.2.1; have q2 := hW.2.2.1; have q3 := hW.2.2.2.1; have q4 := hW.2.2.2.2.1; clear hW; go_simp; try with_reducible rfl)
                      refine gTake 25 (v := ?_) rfl (by kernel_rfl) (by kernel_rfl) (by kernel_rfl) (fun _ _ _ h => h) (by kernel_rfl) ?_ hS0 ?_
                      rotate_left
                      · (intro W hW; clear hW; go_simp; (try first | rw [HD2.out] | rw [HD3.out]); try with_reducible rfl)
                      refine gTake 26 (v := ?_) rfl (by kernel_rfl) (by kernel_rfl) (by kernel_rfl) (fun _ _ _ h => h) (by kernel_rfl) ?_ hS0 ?_
                      rotate_left
                      · (intro W hW; clear hW; go_simp; try with_reducible rfl)
                      refine gTake 27 (v := ?_) rfl (by kernel_rfl) (by kernel_rfl) (by kernel_rfl) (fun _ _ _ h => h) (by kernel_rfl) ?_ hS0 ?_
                      rotate_left
                      · (intro W hW; clear hW; go_simp; try with_reducible rfl)
                      refine gTake 28 (v := ?_) rfl (by kernel_rfl) (by kernel_rfl) (by kernel_rfl) (fun _ _ _ h => h) (by kernel_rfl) ?_ hS0 ?_
                      rotate_left
                      · (intro W hW; clear hW; go_simp; try with_reducible rfl)
                      refine gTake 29 (v := ?_) rfl (by kernel_rfl) (by kernel_rfl) (by kernel_rfl) (fun _ _ _ h => h) (by kernel_rfl) ?_ hS0 ?_
                      rotate_left
                      · (intro W hW; clear hW; go_simp; try with_reducible rfl)
                      refine gTake 30 (v := ?_) rfl (by kernel_rfl) (by kernel_rfl) (by kernel_rfl) (fun _ _ _ h => h) (by kernel_rfl) ?_ hS0 ?_
                      rotate_left
                      · (intro W hW; clear hW; go_simp; try with_reducible rfl)
                      refine gTake 31 (v := ?_) rfl (by kernel_rfl) (by kernel_rfl) (by kernel_rfl) (fun _ _ _ h => h) (by kernel_rfl) ?_ hS0 ?_
                      rotate_left
                      · (intro W hW; have q0 := hW.1; have q1 := hW.2.1; have q2 := hW.2.2.1; have q3 := hW.2.2.2.1; have q4 := hW.2.2.2.2.1; clear hW; go_simp; try with_reducible rfl)
                      refine gTake 32 (v := ?_) rfl (by kernel_rfl) (by kernel_rfl) (by kernel_rfl) (fun _ _ _ h => h) (by kernel_rfl) ?_ hS0 ?_
                      rotate_left
                      · (intro W hW; clear hW; go_simp; try with_reducible rfl)
                      refine gTake 33 (v := ?_) rfl (by kernel_rfl) (by kernel_rfl) (by kernel_rfl) (fun _ _ _ h => h) (by kernel_rfl) ?_ hS0 ?_
                      rotate_left
                      · (intro W hW; have q0 := hW.1; have q1 := hW.2.1; have q2 := hW.2.2.1; have q3 := hW.2.2.2.1; have q4 := hW.2.2.2.2.1; clear hW; go_simp; try with_reducible rfl)
                      refine gTake 34 (v := ?_) rfl (by kernel_rfl) (by kernel_rfl) (by kernel_rfl) (fun _ _ _ h => h) (by kernel_rfl) ?_ hS0 ?_
                      rotate_left
                      · (intro W hW; clear hW; go_simp; try with_reducible rfl)
                      refine gTake 35 (v := ?_) rfl (by kernel_rfl) (by kernel_rfl) (by kernel_rfl) (fun _ _ _ h => h) (by kernel_rfl) ?_ hS0 ?_
                      rotate_left
                      · (intro W hW; clear hW; go_simp; try with_reducible rfl)
                      refine gTake 36 (v := ?_) rfl (by kernel_rfl) (by kernel_rfl) (by kernel_rfl) (fun _ _ _ h => h) (by kernel_rfl) ?_ hS0 ?_
                      rotate_left
                      · (intro W hW; have q0 := hW.1; have q1 := hW.2.1; have q2 := hW.2.2.1; have q3 := hW.2.2.2.1; have q4 := hW.2.2.2.2.1; clear hW; go_simp; try with_reducible rfl)
                      refine gTake 37 (v := ?_) rfl (by kernel_rfl) (by kernel_rfl) (by kernel_rfl) (fun _ _ _ h => h) (by kernel_rfl) ?_ hS0 ?_
                      rotate_left
                      · (intro W hW; clear hW; go_simp; (try rw [HD4.out]); try with_reducible rfl)
                      refine gTake 38 (v := ?_) rfl (by kernel_rfl) (by kernel_rfl) (by kernel_rfl) (fun _ _ _ h => h) (by kernel_rfl) ?_ hS0 ?_
                      rotate_left
                      · (intro W hW; clear hW; go_simp; try with_reducible rfl)
                      refine gTake 39 (v := ?_) rfl (by kernel_rfl) (by kernel_rfl) (by kernel_rfl) (fun _ _ _ h => h) (by kernel_rfl) ?_ hS0 ?_
                      rotate_left
                      · (intro W hW; clear hW; go_simp; try with_reducible rfl)
                      refine gTake 40 (v := ?_) rfl (by kernel_rfl) (by kernel_rfl) (by kernel_rfl) (fun _ _ _ h => h) (by kernel_rfl) ?_ hS0 ?_
                      rotate_left
                      · (intro W hW; clear hW; go_simp; try with_reducible rfl)
                      refine wpAnyH_done (by kernel_rfl) ?_ _
                      go_simp
                      go_wp2
                      go_ret
                      exact ⟨ret_bool HF.out.symm, HB7.out.trans (hS0.2.2.2.2.2.mono HB7.out.size)⟩
                  · have HD1 := Lib.hid (show decide (a < pa) = true from decide_eq_true hc)
                    have HD2 := Lib.hid True.intro
                    have HD3 := Lib.hid True.intro
                    have HD4 := Lib.hid True.intro
                    have HF := Lib.hid (lksOk_bad (n := n) hlt (by rw [HGL.out, decide_eq_false (show ¬ pa < a by omega), decide_eq_false (show ¬ pa = a by omega)]; rfl))
                    have HH := Lib.hid hc
                    clear hc
                    go_wp2_with fail
                    refine wp_region_held (S := fun w' => w'.cell? ⟨gx, ox, none⟩ = some (.int .i64 a) ∧ w'.cell? ⟨gx, ox + 1, none⟩ = some (.int .i64 b) ∧ Below wo.heap.size wo w') (by kernel_rfl) ?_
                    try (change wpAnyH _ _ _ _ _ _ _ _ (World.drew _))
                    have hS0 := (show wo.drew.cell? ⟨gx, ox, none⟩ = some (.int .i64 a) ∧ wo.drew.cell? ⟨gx, ox + 1, none⟩ = some (.int .i64 b) ∧ Below wo.heap.size wo wo.drew from ⟨x0, x1, Below.drew (Below.refl _ _)⟩)
                    refine gTake 0 (v := ?_) rfl (by kernel_rfl) (by kernel_rfl) (by kernel_rfl) (fun _ _ _ h => h) (by kernel_rfl) ?_ hS0 ?_
                    rotate_left
                    · (intro W hW; clear hW; go_simp; try with_reducible rfl)
                    refine gTake 1 (v := ?_) rfl (by kernel_rfl) (by kernel_rfl) (by kernel_rfl) (fun _ _ _ h => h) (by kernel_rfl) ?_ hS0 ?_
                    rotate_left
                    · (intro W hW; clear hW; go_simp; try with_reducible rfl)
                    refine gTake 2 (v := ?_) rfl (by kernel_rfl) (by kernel_rfl) (by kernel_rfl) (fun _ _ _ h => h) (by kernel_rfl) ?_ hS0 ?_
                    rotate_left
                    · (intro W hW; clear hW; go_simp; (try rw [HL2.out]); try with_reducible rfl)
                    refine gTake 3 (v := ?_) rfl (by kernel_rfl) (by kernel_rfl) (by kernel_rfl) (fun _ _ _ h => h) (by kernel_rfl) ?_ hS0 ?_
                    rotate_left
                    · (intro W hW; clear hW; go_simp; try with_reducible rfl)
                    refine gTake 4 (v := ?_) rfl (by kernel_rfl) (by kernel_rfl) (by kernel_rfl) (fun _ _ _ h => h) (by kernel_rfl) ?_ hS0 ?_
                    rotate_left
                    · (intro W hW; clear hW; go_simp; try with_reducible rfl)
                    refine gTake 5 (v := ?_) rfl (by kernel_rfl) (by kernel_rfl) (by kernel_rfl) (fun _ _ _ h => h) (by kernel_rfl) ?_ hS0 ?_
                    rotate_left
                    · (intro W hW; clear hW; go_simp; try with_reducible rfl)
                    refine gTake 6 (v := ?_) rfl (by kernel_rfl) (by kernel_rfl) (by kernel_rfl) (fun _ _ _ h => h) (by kernel_rfl) ?_ hS0 ?_
                    rotate_left
                    · (intro W hW; have q0 := hW.1; have q1 := hW.2.1; clear hW; go_simp; try with_reducible rfl)
                    refine gTake 7 (v := ?_) rfl (by kernel_rfl) (by kernel_rfl) (by kernel_rfl) (fun _ _ _ h => h) (by kernel_rfl) ?_ hS0 ?_
                    rotate_left
                    · (intro W hW; clear hW; go_simp; try with_reducible rfl)
                    refine gTake 8 (v := ?_) rfl (by kernel_rfl) (by kernel_rfl) (by kernel_rfl) (fun _ _ _ h => h) (by kernel_rfl) ?_ hS0 ?_
                    rotate_left
                    · (intro W hW; clear hW; go_simp; try with_reducible rfl)
                    refine gOne 9 rfl (by kernel_rfl) (by kernel_rfl) (fun K hK => ?_)
                    go_simp
                    go_at_call 48
                    (with_reducible refine (l00In_any _ _ _ _).mono ?_)
                    rintro e w' ⟨rfl, rfl⟩
                    try go_simp
                    have hS1 := hS0
                    refine hK _ _ hS1 ?_
                    clear hK K
                    refine gTake 10 (v := ?_) rfl (by kernel_rfl) (by kernel_rfl) (by kernel_rfl) (fun _ _ _ h => h) (by kernel_rfl) ?_ hS1 ?_
                    rotate_left
                    · (intro W hW; clear hW; go_simp; try with_reducible rfl)
                    refine gTake 11 (v := ?_) rfl (by kernel_rfl) (by kernel_rfl) (by kernel_rfl) (fun _ _ _ h => h) (by kernel_rfl) ?_ hS1 ?_
                    rotate_left
                    · (intro W hW; clear hW; go_simp; try with_reducible rfl)
                    refine gTake 12 (v := ?_) rfl (by kernel_rfl) (by kernel_rfl) (by kernel_rfl) (fun _ _ _ h => h) (by kernel_rfl) ?_ hS1 ?_
                    rotate_left
                    · (intro W hW; clear hW; go_simp; try with_reducible rfl)
                    refine gTake 13 (v := ?_) rfl (by kernel_rfl) (by kernel_rfl) (by kernel_rfl) (fun _ _ _ h => h) (by kernel_rfl) ?_ hS1 ?_
                    rotate_left
                    · (intro W hW; clear hW; go_simp; try with_reducible rfl)
                    refine gTake 14 (v := ?_) rfl (by kernel_rfl) (by kernel_rfl) (by kernel_rfl) (fun _ _ _ h => h) (by kernel_rfl) ?_ hS1 ?_
                    rotate_left
                    · (intro W hW; clear hW; go_simp; try with_reducible rfl)
                    refine gTake 15 (v := ?_) rfl (by kernel_rfl) (by kernel_rfl) (by kernel_rfl) (fun _ _ _ h => h) (by kernel_rfl) ?_ hS1 ?_
                    rotate_left
                    · (intro W hW; have q0 := hW.1; have q1 := hW.2.1; clear hW; go_simp; try with_reducible rfl)
                    refine gTake 16 (v := ?_) rfl (by kernel_rfl) (by kernel_rfl) (by kernel_rfl) (fun _ _ _ h => h) (by kernel_rfl) ?_ hS1 ?_
                    rotate_left
                    · (intro W hW; clear hW; go_simp; try with_reducible rfl)
                    refine gTake 17 (v := ?_) rfl (by kernel_rfl) (by kernel_rfl) (by kernel_rfl) (fun _ _ _ h => h) (by kernel_rfl) ?_ hS1 ?_
                    rotate_left
                    · (intro W hW; clear hW; go_simp; try with_reducible rfl)
                    refine gTake 18 (v := ?_) rfl (by kernel_rfl) (by kernel_rfl) (by kernel_rfl) (fun _ _ _ h => h) (by kernel_rfl) ?_ hS1 ?_
                    rotate_left
                    · (intro W hW; have q0 := hW.1; have q1 := hW.2.1; clear hW; go_simp; try with_reducible rfl)
                    refine gTake 19 (v := ?_) rfl (by kernel_rfl) (by kernel_rfl) (by kernel_rfl) (fun _ _ _ h => h) (by kernel_rfl) ?_ hS1 ?_
                    rotate_left
                    · (intro W hW; clear hW; go_simp; try with_reducible rfl)
                    refine gOne 20 rfl (by kernel_rfl) (by kernel_rfl) (fun K hK => ?_)
                    go_simp
                    go_at_call 48
                    (with_reducible refine (l00In_any _ _ _ _).mono ?_)
                    rintro e w' ⟨rfl, rfl⟩
                    try go_simp
                    have hS2 := hS1
                    refine hK _ _ hS2 ?_
                    clear hK K
                    refine gTake 21 (v := ?_) rfl (by kernel_rfl) (by kernel_rfl) (by kernel_rfl) (fun _ _ _ h => h) (by kernel_rfl) ?_ hS2 ?_
                    rotate_left
                    · (intro W hW; clear hW; go_simp; try with_reducible rfl)
                    refine gTake 22 (v := ?_) rfl (by kernel_rfl) (by kernel_rfl) (by kernel_rfl) (fun _ _ _ h => h) (by kernel_rfl) ?_ hS2 ?_
                    rotate_left
                    · (intro W hW; clear hW; go_simp; try with_reducible rfl)
                    refine wpAnyH_done (by kernel_rfl) ?_ _
                    go_simp
                    have HB7 := Lib.hid (hbel.trans (hS2.2.2.mono hbel.size))
                    have HQ7 := Lib.hid (hS2.2.2)
                    go_wp2_with fail
                    have m0 := cellK x0 HQ7.out
                    have m1 := cellK x1 HQ7.out
                    have m2 := cellK lP HQ7.out
                    have m3 := cellK y0 HQ7.out
                    have m4 := cellK y1 HQ7.out
                    refine wp_region_held (S := fun w' => w'.cell? ⟨gx, ox, none⟩ = some (.int .i64 a) ∧ w'.cell? ⟨gx, ox + 1, none⟩ = some (.int .i64 b) ∧ w'.cell? ⟨bl, off + j1, none⟩ = some (.slice (some ⟨gp, op, none⟩) 2 cp) ∧ w'.cell? ⟨gp, op, none⟩ = some (.int .i64 pa) ∧ w'.cell? ⟨gp, op + 1, none⟩ = some (.int .i64 pb) ∧ Below wo.drew.heap.size wo.drew w') (by kernel_rfl) ?_
                    try (change wpAnyH _ _ _ _ _ _ _ _ (World.drew _))
                    have hS0 := (show wo.drew.drew.cell? ⟨gx, ox, none⟩ = some (.int .i64 a) ∧ wo.drew.drew.cell? ⟨gx, ox + 1, none⟩ = some (.int .i64 b) ∧ wo.drew.drew.cell? ⟨bl, off + j1, none⟩ = some (.slice (some ⟨gp, op, none⟩) 2 cp) ∧ wo.drew.drew.cell? ⟨gp, op, none⟩ = some (.int .i64 pa) ∧ wo.drew.drew.cell? ⟨gp, op + 1, none⟩ = some (.int .i64 pb) ∧ Below wo.drew.heap.size wo.drew wo.drew.drew from ⟨m0, m1, m2, m3, m4, Below.drew (Below.refl _ _)⟩)
                    refine gTake 0 (v := ?_) rfl (by kernel_rfl) (by kernel_rfl) (by kernel_rfl) (fun _ _ _ h => h) (by kernel_rfl) ?_ hS0 ?_
                    rotate_left
                    · (intro W hW; clear hW; go_simp; try with_reducible rfl)
                    refine gTake 1 (v := ?_) rfl (by kernel_rfl) (by kernel_rfl) (by kernel_rfl) (fun _ _ _ h => h) (by kernel_rfl) ?_ hS0 ?_
                    rotate_left
                    · (intro W hW; clear hW; go_simp; try with_reducible rfl)
                    refine gTake 2 (v := ?_) rfl (by kernel_rfl) (by kernel_rfl) (by kernel_rfl) (fun _ _ _ h => h) (by kernel_rfl) ?_ hS0 ?_
                    rotate_left
                    · (intro W hW; clear hW; go_simp; try with_reducible rfl)
                    refine gTake 3 (v := ?_) rfl (by kernel_rfl) (by kernel_rfl) (by kernel_rfl) (fun _ _ _ h => h) (by kernel_rfl) ?_ hS0 ?_
                    rotate_left
                    · (intro W hW; clear hW; go_simp; try with_reducible rfl)
                    refine gTake 4 (v := ?_) rfl (by kernel_rfl) (by kernel_rfl) (by kernel_rfl) (fun _ _ _ h => h) (by kernel_rfl) ?_ hS0 ?_
                    rotate_left
                    · (intro W hW; clear hW; go_simp; try with_reducible rfl)
                    refine gTake 5 (v := ?_) rfl (by kernel_rfl) (by kernel_rfl) (by kernel_rfl) (fun _ _ _ h => h) (by kernel_rfl) ?_ hS0 ?_
                    rotate_left
                    · (intro W hW; clear hW; go_simp; try with_reducible rfl)
                    refine gTake 6 (v := ?_) rfl (by kernel_rfl) (by kernel_rfl) (by kernel_rfl) (fun _ _ _ h => h) (by kernel_rfl) ?_ hS0 ?_
                    rotate_left
                    · (intro W hW; clear hW; go_simp; try with_reducible rfl)
                    refine gTake 7 (v := ?_) rfl (by kernel_rfl) (by kernel_rfl) (by kernel_rfl) (fun _ _ _ h => h) (by kernel_rfl) ?_ hS0 ?_
                    rotate_left
                    · (intro W hW; have q0 := hW.1; have q1 := hW.2.1; have q2 := hW.2.2.1; have q3 := hW.2.2.2.1; have q4 := hW.2.2.2.2.1; clear hW; go_simp; try with_reducible rfl)
                    refine gTake 8 (v := ?_) rfl (by kernel_rfl) (by kernel_rfl) (by kernel_rfl) (fun _ _ _ h => h) (by kernel_rfl) ?_ hS0 ?_
                    rotate_left
                    · (intro W hW; clear hW; go_simp; try with_reducible rfl)
                    refine gTake 9 (v := ?_) rfl (by kernel_rfl) (by kernel_rfl) (by kernel_rfl) (fun _ _ _ h => h) (by kernel_rfl) ?_ hS0 ?_
                    rotate_left
                    · (intro W hW; have q0 := hW.1; have q1 := hW.2.1; have q2 := hW.2.2.1; have q3 := hW.2.2.2.1; have q4 := hW.2.2.2.2.1; clear hW; go_simp; try with_reducible rfl)
                    refine gTake 10 (v := ?_) rfl (by kernel_rfl) (by kernel_rfl) (by kernel_rfl) (fun _ _ _ h => h) (by kernel_rfl) ?_ hS0 ?_
                    rotate_left
                    · (intro W hW; clear hW; go_simp; try with_reducible rfl)
                    refine gTake 11 (v := ?_) rfl (by kernel_rfl) (by kernel_rfl) (by kernel_rfl) (fun _ _ _ h => h) (by kernel_rfl) ?_ hS0 ?_
                    rotate_left
                    · (intro W hW; clear hW; go_simp; try with_reducible rfl)
                    refine gTake 12 (v := ?_) rfl (by kernel_rfl) (by kernel_rfl) (by kernel_rfl) (fun _ _ _ h => h) (by kernel_rfl) ?_ hS0 ?_
                    rotate_left
                    · (intro W hW; have q0 := hW.1; have q1 := hW.2.1; have q2 := hW.2.2.1; have q3 := hW.2.2.2.1; have q4 := hW.2.2.2.2.1; clear hW; go_simp; try with_reducible rfl)
                    refine gTake 13 (v := ?_) rfl (by kernel_rfl) (by kernel_rfl) (by kernel_rfl) (fun _ _ _ h => h) (by kernel_rfl) ?_ hS0 ?_
                    rotate_left
                    · (intro W hW; clear hW; go_simp; (try rw [HD1.out]); try with_reducible rfl)
                    refine gTake 14 (v := ?_) rfl (by kernel_rfl) (by kernel_rfl) (by kernel_rfl) (fun _ _ _ h => h) (by kernel_rfl) ?_ hS0 ?_
                    rotate_left
                    · (intro W hW; clear hW; go_simp; try with_reducible rfl)
                    refine gSkip 15 rfl (by kernel_rfl) (by kernel_rfl) (by kernel_rfl) (fun _ _ _ h => h) (by kernel_rfl) hS0 ?_
                    refine gSkip 16 rfl (by kernel_rfl) (by kernel_rfl) (by kernel_rfl) (fun _ _ _ h => h) (by kernel_rfl) hS0 ?_
                    refine gSkip 17 rfl (by kernel_rfl) (by kernel_rfl) (by kernel_rfl) (fun _ _ _ h => h) (by kernel_rfl) hS0 ?_
                    refine gSkip 18 rfl (by kernel_rfl) (by kernel_rfl) (by kernel_rfl) (fun _ _ _ h => h) (by kernel_rfl) hS0 ?_
                    refine gSkip 19 rfl (by kernel_rfl) (by kernel_rfl) (by kernel_rfl) (fun _ _ _ h => h) (by kernel_rfl) hS0 ?_
                    refine gSkip 20 rfl (by kernel_rfl) (by kernel_rfl) (by kernel_rfl) (fun _ _ _ h => h) (by kernel_rfl) hS0 ?_
                    refine gSkip 21 rfl (by kernel_rfl) (by kernel_rfl) (by kernel_rfl) (fun _ _ _ h => h) (by kernel_rfl) hS0 ?_
                    refine gSkip 22 rfl (by kernel_rfl) (by kernel_rfl) (by kernel_rfl) (fun _ _ _ h => h) (by kernel_rfl) hS0 ?_
                    refine gSkip 23 rfl (by kernel_rfl) (by kernel_rfl) (by kernel_rfl) (fun _ _ _ h => h) (by kernel_rfl) hS0 ?_
                    refine gSkip 24 rfl (by kernel_rfl) (by kernel_rfl) (by kernel_rfl) (fun _ _ _ h => h) (by kernel_rfl) hS0 ?_
                    refine gSkip 25 rfl (by kernel_rfl) (by kernel_rfl) (by kernel_rfl) (fun _ _ _ h => h) (by kernel_rfl) hS0 ?_
                    refine gSkip 26 rfl (by kernel_rfl) (by kernel_rfl) (by kernel_rfl) (fun _ _ _ h => h) (by kernel_rfl) hS0 ?_
                    refine gSkip 27 rfl (by kernel_rfl) (by kernel_rfl) (by kernel_rfl) (fun _ _ _ h => h) (by kernel_rfl) hS0 ?_
                    refine gSkip 28 rfl (by kernel_rfl) (by kernel_rfl) (by kernel_rfl) (fun _ _ _ h => h) (by kernel_rfl) hS0 ?_
                    refine gSkip 29 rfl (by kernel_rfl) (by kernel_rfl) (by kernel_rfl) (fun _ _ _ h => h) (by kernel_rfl) hS0 ?_
                    refine gSkip 30 rfl (by kernel_rfl) (by kernel_rfl) (by kernel_rfl) (fun _ _ _ h => h) (by kernel_rfl) hS0 ?_
                    refine gSkip 31 rfl (by kernel_rfl) (by kernel_rfl) (by kernel_rfl) (fun _ _ _ h => h) (by kernel_rfl) hS0 ?_
                    refine gSkip 32 rfl (by kernel_rfl) (by kernel_rfl) (by kernel_rfl) (fun _ _ _ h => h) (by kernel_rfl) hS0 ?_
                    refine gSkip 33 rfl (by kernel_rfl) (by kernel_rfl) (by kernel_rfl) (fun _ _ _ h => h) (by kernel_rfl) hS0 ?_
                    refine gSkip 34 rfl (by kernel_rfl) (by kernel_rfl) (by kernel_rfl) (fun _ _ _ h => h) (by kernel_rfl) hS0 ?_
                    refine gSkip 35 rfl (by kernel_rfl) (by kernel_rfl) (by kernel_rfl) (fun _ _ _ h => h) (by kernel_rfl) hS0 ?_
                    refine gSkip 36 rfl (by kernel_rfl) (by kernel_rfl) (by kernel_rfl) (fun _ _ _ h => h) (by kernel_rfl) hS0 ?_
                    refine gSkip 37 rfl (by kernel_rfl) (by kernel_rfl) (by kernel_rfl) (fun _ _ _ h => h) (by kernel_rfl) hS0 ?_
                    refine gSkip 38 rfl (by kernel_rfl) (by kernel_rfl) (by kernel_rfl) (fun _ _ _ h => h) (by kernel_rfl) hS0 ?_
                    refine gTake 39 (v := ?_) rfl (by kernel_rfl) (by kernel_rfl) (by kernel_rfl) (fun _ _ _ h => h) (by kernel_rfl) ?_ hS0 ?_
                    rotate_left
                    · (intro W hW; clear hW; go_simp; try with_reducible rfl)
                    refine gTake 40 (v := ?_) rfl (by kernel_rfl) (by kernel_rfl) (by kernel_rfl) (fun _ _ _ h => h) (by kernel_rfl) ?_ hS0 ?_
                    rotate_left
                    · (intro W hW; clear hW; go_simp; try with_reducible rfl)
                    refine wpAnyH_done (by kernel_rfl) ?_ _
                    go_simp
                    go_wp2
                    go_ret
                    exact ⟨ret_bool HF.out.symm, HB7.out.trans (hS0.2.2.2.2.2.mono HB7.out.size)⟩
              · have i3 := inB_false ha
                have HF := Lib.hid (lksOk_bad (n := n) hlt (by rw [HGE.out, i3]; simp))
                go_wp2_with fail
                refine wp_region_held (S := fun w' => w'.cell? ⟨gx, ox, none⟩ = some (.int .i64 a) ∧ w'.cell? ⟨gx, ox + 1, none⟩ = some (.int .i64 b) ∧ Below wo.heap.size wo w') (by kernel_rfl) ?_
                try (change wpAnyH _ _ _ _ _ _ _ _ (World.drew _))
                have hS0 := (show wo.drew.cell? ⟨gx, ox, none⟩ = some (.int .i64 a) ∧ wo.drew.cell? ⟨gx, ox + 1, none⟩ = some (.int .i64 b) ∧ Below wo.heap.size wo wo.drew from ⟨x0, x1, Below.drew (Below.refl _ _)⟩)
                refine gTake 0 (v := ?_) rfl (by kernel_rfl) (by kernel_rfl) (by kernel_rfl) (fun _ _ _ h => h) (by kernel_rfl) ?_ hS0 ?_
                rotate_left
                · (intro W hW; clear hW; go_simp; try with_reducible rfl)
                refine gTake 1 (v := ?_) rfl (by kernel_rfl) (by kernel_rfl) (by kernel_rfl) (fun _ _ _ h => h) (by kernel_rfl) ?_ hS0 ?_
                rotate_left
                · (intro W hW; clear hW; go_simp; try with_reducible rfl)
                refine gTake 2 (v := ?_) rfl (by kernel_rfl) (by kernel_rfl) (by kernel_rfl) (fun _ _ _ h => h) (by kernel_rfl) ?_ hS0 ?_
                rotate_left
                · (intro W hW; clear hW; go_simp; (try rw [HL2.out]); try with_reducible rfl)
                refine gTake 3 (v := ?_) rfl (by kernel_rfl) (by kernel_rfl) (by kernel_rfl) (fun _ _ _ h => h) (by kernel_rfl) ?_ hS0 ?_
                rotate_left
                · (intro W hW; clear hW; go_simp; try with_reducible rfl)
                refine gTake 4 (v := ?_) rfl (by kernel_rfl) (by kernel_rfl) (by kernel_rfl) (fun _ _ _ h => h) (by kernel_rfl) ?_ hS0 ?_
                rotate_left
                · (intro W hW; clear hW; go_simp; try with_reducible rfl)
                refine gTake 5 (v := ?_) rfl (by kernel_rfl) (by kernel_rfl) (by kernel_rfl) (fun _ _ _ h => h) (by kernel_rfl) ?_ hS0 ?_
                rotate_left
                · (intro W hW; clear hW; go_simp; try with_reducible rfl)
                refine gTake 6 (v := ?_) rfl (by kernel_rfl) (by kernel_rfl) (by kernel_rfl) (fun _ _ _ h => h) (by kernel_rfl) ?_ hS0 ?_
                rotate_left
                · (intro W hW; have q0 := hW.1; have q1 := hW.2.1; clear hW; go_simp; try with_reducible rfl)
                refine gTake 7 (v := ?_) rfl (by kernel_rfl) (by kernel_rfl) (by kernel_rfl) (fun _ _ _ h => h) (by kernel_rfl) ?_ hS0 ?_
                rotate_left
                · (intro W hW; clear hW; go_simp; try with_reducible rfl)
                refine gTake 8 (v := ?_) rfl (by kernel_rfl) (by kernel_rfl) (by kernel_rfl) (fun _ _ _ h => h) (by kernel_rfl) ?_ hS0 ?_
                rotate_left
                · (intro W hW; clear hW; go_simp; try with_reducible rfl)
                refine gOne 9 rfl (by kernel_rfl) (by kernel_rfl) (fun K hK => ?_)
                go_simp
                go_at_call 48
                (with_reducible refine (l00In_any _ _ _ _).mono ?_)
                rintro e w' ⟨rfl, rfl⟩
                try go_simp
                have hS1 := hS0
                refine hK _ _ hS1 ?_
                clear hK K
                refine gTake 10 (v := ?_) rfl (by kernel_rfl) (by kernel_rfl) (by kernel_rfl) (fun _ _ _ h => h) (by kernel_rfl) ?_ hS1 ?_
                rotate_left
                · (intro W hW; clear hW; go_simp; try with_reducible rfl)
                refine gTake 11 (v := ?_) rfl (by kernel_rfl) (by kernel_rfl) (by kernel_rfl) (fun _ _ _ h => h) (by kernel_rfl) ?_ hS1 ?_
                rotate_left
                · (intro W hW; clear hW; go_simp; try with_reducible rfl)
                refine gTake 12 (v := ?_) rfl (by kernel_rfl) (by kernel_rfl) (by kernel_rfl) (fun _ _ _ h => h) (by kernel_rfl) ?_ hS1 ?_
                rotate_left
                · (intro W hW; clear hW; go_simp; try with_reducible rfl)
                refine gTake 13 (v := ?_) rfl (by kernel_rfl) (by kernel_rfl) (by kernel_rfl) (fun _ _ _ h => h) (by kernel_rfl) ?_ hS1 ?_
                rotate_left
                · (intro W hW; clear hW; go_simp; try with_reducible rfl)
                refine gTake 14 (v := ?_) rfl (by kernel_rfl) (by kernel_rfl) (by kernel_rfl) (fun _ _ _ h => h) (by kernel_rfl) ?_ hS1 ?_
                rotate_left
                · (intro W hW; clear hW; go_simp; try with_reducible rfl)
                refine gTake 15 (v := ?_) rfl (by kernel_rfl) (by kernel_rfl) (by kernel_rfl) (fun _ _ _ h => h) (by kernel_rfl) ?_ hS1 ?_
                rotate_left
                · (intro W hW; have q0 := hW.1; have q1 := hW.2.1; clear hW; go_simp; try with_reducible rfl)
                refine gTake 16 (v := ?_) rfl (by kernel_rfl) (by kernel_rfl) (by kernel_rfl) (fun _ _ _ h => h) (by kernel_rfl) ?_ hS1 ?_
                rotate_left
                · (intro W hW; clear hW; go_simp; try with_reducible rfl)
                refine gTake 17 (v := ?_) rfl (by kernel_rfl) (by kernel_rfl) (by kernel_rfl) (fun _ _ _ h => h) (by kernel_rfl) ?_ hS1 ?_
                rotate_left
                · (intro W hW; clear hW; go_simp; try with_reducible rfl)
                refine gTake 18 (v := ?_) rfl (by kernel_rfl) (by kernel_rfl) (by kernel_rfl) (fun _ _ _ h => h) (by kernel_rfl) ?_ hS1 ?_
                rotate_left
                · (intro W hW; have q0 := hW.1; have q1 := hW.2.1; clear hW; go_simp; try with_reducible rfl)
                refine gTake 19 (v := ?_) rfl (by kernel_rfl) (by kernel_rfl) (by kernel_rfl) (fun _ _ _ h => h) (by kernel_rfl) ?_ hS1 ?_
                rotate_left
                · (intro W hW; clear hW; go_simp; try with_reducible rfl)
                refine gOne 20 rfl (by kernel_rfl) (by kernel_rfl) (fun K hK => ?_)
                go_simp
                go_at_call 48
                (with_reducible refine (l00In_any _ _ _ _).mono ?_)
                rintro e w' ⟨rfl, rfl⟩
                try go_simp
                have hS2 := hS1
                refine hK _ _ hS2 ?_
                clear hK K
                refine gTake 21 (v := ?_) rfl (by kernel_rfl) (by kernel_rfl) (by kernel_rfl) (fun _ _ _ h => h) (by kernel_rfl) ?_ hS2 ?_
                rotate_left
                · (intro W hW; clear hW; go_simp; try with_reducible rfl)
                refine gTake 22 (v := ?_) rfl (by kernel_rfl) (by kernel_rfl) (by kernel_rfl) (fun _ _ _ h => h) (by kernel_rfl) ?_ hS2 ?_
                rotate_left
                · (intro W hW; clear hW; go_simp; try with_reducible rfl)
                refine wpAnyH_done (by kernel_rfl) ?_ _
                go_simp
                go_wp2
                go_ret
                exact ⟨ret_bool HF.out.symm, hbel.trans (hS2.2.2.mono hbel.size)⟩
            · have i2 := inB_false hb
              have HF := Lib.hid (lksOk_bad (n := n) hlt (by rw [HGE.out, i2]; simp))
              go_wp2_with fail
              refine wp_region_held (S := fun w' => w'.cell? ⟨gx, ox, none⟩ = some (.int .i64 a) ∧ w'.cell? ⟨gx, ox + 1, none⟩ = some (.int .i64 b) ∧ Below wo.heap.size wo w') (by kernel_rfl) ?_
              try (change wpAnyH _ _ _ _ _ _ _ _ (World.drew _))
              have hS0 := (show wo.drew.cell? ⟨gx, ox, none⟩ = some (.int .i64 a) ∧ wo.drew.cell? ⟨gx, ox + 1, none⟩ = some (.int .i64 b) ∧ Below wo.heap.size wo wo.drew from ⟨x0, x1, Below.drew (Below.refl _ _)⟩)
              refine gTake 0 (v := ?_) rfl (by kernel_rfl) (by kernel_rfl) (by kernel_rfl) (fun _ _ _ h => h) (by kernel_rfl) ?_ hS0 ?_
              rotate_left
              · (intro W hW; clear hW; go_simp; try with_reducible rfl)
              refine gTake 1 (v := ?_) rfl (by kernel_rfl) (by kernel_rfl) (by kernel_rfl) (fun _ _ _ h => h) (by kernel_rfl) ?_ hS0 ?_
              rotate_left
              · (intro W hW; clear hW; go_simp; try with_reducible rfl)
              refine gTake 2 (v := ?_) rfl (by kernel_rfl) (by kernel_rfl) (by kernel_rfl) (fun _ _ _ h => h) (by kernel_rfl) ?_ hS0 ?_
              rotate_left
              · (intro W hW; clear hW; go_simp; (try rw [HL2.out]); try with_reducible rfl)
              refine gTake 3 (v := ?_) rfl (by kernel_rfl) (by kernel_rfl) (by kernel_rfl) (fun _ _ _ h => h) (by kernel_rfl) ?_ hS0 ?_
              rotate_left
              · (intro W hW; clear hW; go_simp; try with_reducible rfl)
              refine gTake 4 (v := ?_) rfl (by kernel_rfl) (by kernel_rfl) (by kernel_rfl) (fun _ _ _ h => h) (by kernel_rfl) ?_ hS0 ?_
              rotate_left
              · (intro W hW; clear hW; go_simp; try with_reducible rfl)
              refine gTake 5 (v := ?_) rfl (by kernel_rfl) (by kernel_rfl) (by kernel_rfl) (fun _ _ _ h => h) (by kernel_rfl) ?_ hS0 ?_
              rotate_left
              · (intro W hW; clear hW; go_simp; try with_reducible rfl)
              refine gTake 6 (v := ?_) rfl (by kernel_rfl) (by kernel_rfl) (by kernel_rfl) (fun _ _ _ h => h) (by kernel_rfl) ?_ hS0 ?_
              rotate_left
              · (intro W hW; have q0 := hW.1; have q1 := hW.2.1; clear hW; go_simp; try with_reducible rfl)
              refine gTake 7 (v := ?_) rfl (by kernel_rfl) (by kernel_rfl) (by kernel_rfl) (fun _ _ _ h => h) (by kernel_rfl) ?_ hS0 ?_
              rotate_left
              · (intro W hW; clear hW; go_simp; try with_reducible rfl)
              refine gTake 8 (v := ?_) rfl (by kernel_rfl) (by kernel_rfl) (by kernel_rfl) (fun _ _ _ h => h) (by kernel_rfl) ?_ hS0 ?_
              rotate_left
              · (intro W hW; clear hW; go_simp; try with_reducible rfl)
              refine gOne 9 rfl (by kernel_rfl) (by kernel_rfl) (fun K hK => ?_)
              go_simp
              go_at_call 48
              (with_reducible refine (l00In_any _ _ _ _).mono ?_)
              rintro e w' ⟨rfl, rfl⟩
              try go_simp
              have hS1 := hS0
              refine hK _ _ hS1 ?_
              clear hK K
              refine gTake 10 (v := ?_) rfl (by kernel_rfl) (by kernel_rfl) (by kernel_rfl) (fun _ _ _ h => h) (by kernel_rfl) ?_ hS1 ?_
              rotate_left
              · (intro W hW; clear hW; go_simp; try with_reducible rfl)
              refine gTake 11 (v := ?_) rfl (by kernel_rfl) (by kernel_rfl) (by kernel_rfl) (fun _ _ _ h => h) (by kernel_rfl) ?_ hS1 ?_
              rotate_left
              · (intro W hW; clear hW; go_simp; try with_reducible rfl)
              refine gTake 12 (v := ?_) rfl (by kernel_rfl) (by kernel_rfl) (by kernel_rfl) (fun _ _ _ h => h) (by kernel_rfl) ?_ hS1 ?_
              rotate_left
              · (intro W hW; clear hW; go_simp; try with_reducible rfl)
              refine gSkip 13 rfl (by kernel_rfl) (by kernel_rfl) (by kernel_rfl) (fun _ _ _ h => h) (by kernel_rfl) hS1 ?_
              refine gSkip 14 rfl (by kernel_rfl) (by kernel_rfl) (by kernel_rfl) (fun _ _ _ h => h) (by kernel_rfl) hS1 ?_
              refine gSkip 15 rfl (by kernel_rfl) (by kernel_rfl) (by kernel_rfl) (fun _ _ _ h => h) (by kernel_rfl) hS1 ?_
              refine gSkip 16 rfl (by kernel_rfl) (by kernel_rfl) (by kernel_rfl) (fun _ _ _ h => h) (by kernel_rfl) hS1 ?_
              refine gSkip 17 rfl (by kernel_rfl) (by kernel_rfl) (by kernel_rfl) (fun _ _ _ h => h) (by kernel_rfl) hS1 ?_
              refine gSkip 18 rfl (by kernel_rfl) (by kernel_rfl) (by kernel_rfl) (fun _ _ _ h => h) (by kernel_rfl) hS1 ?_
              refine gSkip 19 rfl (by kernel_rfl) (by kernel_rfl) (by kernel_rfl) (fun _ _ _ h => h) (by kernel_rfl) hS1 ?_
              refine gSkip 20 rfl (by kernel_rfl) (by kernel_rfl) (by kernel_rfl) (fun _ _ _ h => h) (by kernel_rfl) hS1 ?_
              refine gSkip 21 rfl (by kernel_rfl) (by kernel_rfl) (by kernel_rfl) (fun _ _ _ h => h) (by kernel_rfl) hS1 ?_
              refine gTake 22 (v := ?_) rfl (by kernel_rfl) (by kernel_rfl) (by kernel_rfl) (fun _ _ _ h => h) (by kernel_rfl) ?_ hS1 ?_
              rotate_left
              · (intro W hW; clear hW; go_simp; try with_reducible rfl)
              refine wpAnyH_done (by kernel_rfl) ?_ _
              go_simp
              go_wp2
              go_ret
              exact ⟨ret_bool HF.out.symm, hbel.trans (hS1.2.2.mono hbel.size)⟩
          · have HL2 := Lib.hid (show ((x.length : Int) != 2) = true by simp; omega)
            have HF := Lib.hid (lksOk_bad (n := n) hlt (by rw [HGD.out, show lkRow n x = false by simp [lkRow, h2]]; rfl))
            have hxl0 : (x.length : Int) ≤ 1048576 := by omega
            clear HGD HXL
            go_wp2_with fail
            refine wp_region_held (S := fun w' => Below wo.heap.size wo w') (by kernel_rfl) ?_
            try (change wpAnyH _ _ _ _ _ _ _ _ (World.drew _))
            have hS0 := (show Below wo.heap.size wo wo.drew from Below.drew (Below.refl _ _))
            refine gTake 0 (v := ?_) rfl (by kernel_rfl) (by kernel_rfl) (by kernel_rfl) (fun _ _ _ h => h) (by kernel_rfl) ?_ hS0 ?_
            rotate_left
            · (intro W hW; clear hW; go_simp; try with_reducible rfl)
            refine gTake 1 (v := ?_) rfl (by kernel_rfl) (by kernel_rfl) (by kernel_rfl) (fun _ _ _ h => h) (by kernel_rfl) ?_ hS0 ?_
            rotate_left
            · (intro W hW; clear hW; go_simp; try with_reducible rfl)
            refine gTake 2 (v := ?_) rfl (by kernel_rfl) (by kernel_rfl) (by kernel_rfl) (fun _ _ _ h => h) (by kernel_rfl) ?_ hS0 ?_
            rotate_left
            · (intro W hW; clear hW; go_simp; (try rw [HL2.out]); try with_reducible rfl)
            refine gTake 3 (v := ?_) rfl (by kernel_rfl) (by kernel_rfl) (by kernel_rfl) (fun _ _ _ h => h) (by kernel_rfl) ?_ hS0 ?_
            rotate_left
            · (intro W hW; clear hW; go_simp; try with_reducible rfl)
            refine gSkip 4 rfl (by kernel_rfl) (by kernel_rfl) (by kernel_rfl) (fun _ _ _ h => h) (by kernel_rfl) hS0 ?_
            refine gSkip 5 rfl (by kernel_rfl) (by kernel_rfl) (by kernel_rfl) (fun _ _ _ h => h) (by kernel_rfl) hS0 ?_
            refine gSkip 6 rfl (by kernel_rfl) (by kernel_rfl) (by kernel_rfl) (fun _ _ _ h => h) (by kernel_rfl) hS0 ?_
            refine gSkip 7 rfl (by kernel_rfl) (by kernel_rfl) (by kernel_rfl) (fun _ _ _ h => h) (by kernel_rfl) hS0 ?_
            refine gSkip 8 rfl (by kernel_rfl) (by kernel_rfl) (by kernel_rfl) (fun _ _ _ h => h) (by kernel_rfl) hS0 ?_
            refine gSkip 9 rfl (by kernel_rfl) (by kernel_rfl) (by kernel_rfl) (fun _ _ _ h => h) (by kernel_rfl) hS0 ?_
            refine gSkip 10 rfl (by kernel_rfl) (by kernel_rfl) (by kernel_rfl) (fun _ _ _ h => h) (by kernel_rfl) hS0 ?_
            refine gTake 11 (v := ?_) rfl (by kernel_rfl) (by kernel_rfl) (by kernel_rfl) (fun _ _ _ h => h) (by kernel_rfl) ?_ hS0 ?_
            rotate_left
            · (intro W hW; clear hW; go_simp; try with_reducible rfl)
            refine gTake 12 (v := ?_) rfl (by kernel_rfl) (by kernel_rfl) (by kernel_rfl) (fun _ _ _ h => h) (by kernel_rfl) ?_ hS0 ?_
            rotate_left
            · (intro W hW; clear hW; go_simp; try with_reducible rfl)
            refine gSkip 13 rfl (by kernel_rfl) (by kernel_rfl) (by kernel_rfl) (fun _ _ _ h => h) (by kernel_rfl) hS0 ?_
            refine gSkip 14 rfl (by kernel_rfl) (by kernel_rfl) (by kernel_rfl) (fun _ _ _ h => h) (by kernel_rfl) hS0 ?_
            refine gSkip 15 rfl (by kernel_rfl) (by kernel_rfl) (by kernel_rfl) (fun _ _ _ h => h) (by kernel_rfl) hS0 ?_
            refine gSkip 16 rfl (by kernel_rfl) (by kernel_rfl) (by kernel_rfl) (fun _ _ _ h => h) (by kernel_rfl) hS0 ?_
            refine gSkip 17 rfl (by kernel_rfl) (by kernel_rfl) (by kernel_rfl) (fun _ _ _ h => h) (by kernel_rfl) hS0 ?_
            refine gSkip 18 rfl (by kernel_rfl) (by kernel_rfl) (by kernel_rfl) (fun _ _ _ h => h) (by kernel_rfl) hS0 ?_
            refine gSkip 19 rfl (by kernel_rfl) (by kernel_rfl) (by kernel_rfl) (fun _ _ _ h => h) (by kernel_rfl) hS0 ?_
            refine gSkip 20 rfl (by kernel_rfl) (by kernel_rfl) (by kernel_rfl) (fun _ _ _ h => h) (by kernel_rfl) hS0 ?_
            refine gSkip 21 rfl (by kernel_rfl) (by kernel_rfl) (by kernel_rfl) (fun _ _ _ h => h) (by kernel_rfl) hS0 ?_
            refine gTake 22 (v := ?_) rfl (by kernel_rfl) (by kernel_rfl) (by kernel_rfl) (fun _ _ _ h => h) (by kernel_rfl) ?_ hS0 ?_
            rotate_left
            · (intro W hW; clear hW; go_simp; try with_reducible rfl)
            refine wpAnyH_done (by kernel_rfl) ?_ _
            go_simp
            go_wp2
            go_ret
            exact ⟨ret_bool HF.out.symm, hbel.trans (hS0.mono hbel.size)⟩
        · obtain rfl : k = xs.length := by omega
          have HF := Lib.hid (show lksOk n xs = true from lksOk_iff.2 ⟨hn, h12, fun j hj => HG.out j hj⟩)
          go_wp2
          go_ret
          exact ⟨ret_bool HF.out.symm, hbel⟩
    · have HF := Lib.hid (show lksOk n xs = false by rw [← Bool.not_eq_true, lksOk_iff]; exact fun hh => h12 hh.2.1)
      have t12 : (12 : Int) < (xs.length : Int) := by omega
      go_enter Try.func89, Try.ntmps89
      go_wp2_with (go_at_call 48; refine (l00In_any _ _ _ _).mono ?_; rintro e w' ⟨rfl, rfl⟩)
      go_ret
      exact ⟨ret_bool HF.out.symm, Below.refl _ _⟩
  · have i1 := inB_false hn
    have HF := Lib.hid (show lksOk n xs = false by rw [← Bool.not_eq_true, lksOk_iff]; exact fun hh => hn hh.1)
    go_enter Try.func89, Try.ntmps89
    go_wp2_with (go_at_call 48; refine (l00In_any _ _ _ _).mono ?_; rintro e w' ⟨rfl, rfl⟩)
    go_ret
    exact ⟨ret_bool HF.out.symm, Below.refl _ _⟩
/-- What slices.Compare tells. -/
def cmpL : List Int → List Int → Int
  | [], [] => 0
  | [], _ :: _ => -1
  | _ :: _, [] => 1
  | a :: s, b :: t => if a < b then -1 else if b < a then 1 else cmpL s t
theorem isNaN_any (a : Int) (w : World) : Calls Try.prog 108 #[.int .i64 a] w fun e w' => e = .returned (.bool false) ∧ w = w' := by
  go_enter Try.func108, Try.ntmps108
  go_wp2
  go_ret
  exact ⟨by first | rfl | simp, rfl⟩
theorem cmpI_any (a b : Int) (w : World) : Calls Try.prog 106 #[.int .i64 a, .int .i64 b] w fun e w' => e = .returned (.int .i64 (if a < b then -1 else if b < a then 1 else 0)) ∧ w = w' := by
  rcases Int.lt_trichotomy a b with h | h | h
  · rw [if_pos h]
    go_enter Try.func106, Try.ntmps106
    go_wp2_with (go_at_call 108; refine (isNaN_any _ _).mono ?_; rintro e w' ⟨rfl, rfl⟩)
    go_ret
    exact ⟨rfl, rfl⟩
  · rw [if_neg (by omega), if_neg (by omega)]
    subst h
    go_enter Try.func106, Try.ntmps106
    go_wp2_with (go_at_call 108; refine (isNaN_any _ _).mono ?_; rintro e w' ⟨rfl, rfl⟩)
    go_ret
    exact ⟨rfl, rfl⟩
  · rw [if_neg (by omega), if_pos h]
    have h2 : ¬ a < b := by omega
    go_enter Try.func106, Try.ntmps106
    go_wp2_with (go_at_call 108; refine (isNaN_any _ _).mono ?_; rintro e w' ⟨rfl, rfl⟩)
    go_ret
    exact ⟨rfl, rfl⟩
theorem cmpL_end {p x : List Int} : ∀ {k : Nat}, k = p.length → cmpL (p.drop k) (x.drop k) = if p.length < x.length then -1 else 0 := by
  rintro k rfl
  rw [List.drop_length]
  split
  · rename_i h
    rw [List.drop_eq_getElem_cons h]; rfl
  · rename_i h
    rw [List.drop_of_length_le (by omega)]; rfl
set_option maxHeartbeats 1000000 in
theorem sCompare_any (v v' : Value) (p x : List Int) (w : World) (hv : RowW .i64 w v p) (hv' : RowW .i64 w v' x) (hp : p.length ≤ 1048576) (hx : x.length ≤ 1048576) :
    Calls Try.prog 97 #[v, v'] w fun e w' => e = .returned (.int .i64 (cmpL p x)) ∧ w = w' := by
  obtain ⟨A, cap, rfl, -⟩ := id hv
  obtain ⟨A', cap', rfl, -⟩ := id hv'
  have HV := Lib.hid (And.intro hv hv')
  clear hv hv'
  go_enter Try.func97, Try.ntmps97
  go_wp2
  go_loop [11] (fun i => ∃ k : Nat, k ≤ p.length ∧ i = .int .i64 k ∧ Hid (cmpL (p.drop k) (x.drop k) = cmpL p x)) (fun i => p.length - (intOf i).toNat)
  case atStart => exact ⟨0, by omega, rfl, Lib.hid rfl⟩
  case round =>
    obtain ⟨k, hk, rfl, HC⟩ := hrel
    by_cases hlt : k < p.length
    · obtain ⟨b, off, rfl, -, hc⟩ := RowW.cell HV.out.1 hlt
      by_cases hlx : k < x.length
      · obtain ⟨b', off', rfl, -, hc'⟩ := RowW.cell HV.out.2 hlx
        have HE := Lib.hid (show cmpL (p.drop k) (x.drop k) = if p.getD k 0 < x.getD k 0 then -1 else if x.getD k 0 < p.getD k 0 then 1 else cmpL (p.drop (k + 1)) (x.drop (k + 1)) by
          rw [List.drop_eq_getElem_cons hlt, List.drop_eq_getElem_cons hlx, show p.getD k 0 = p[k] by simp [List.getD, hlt], show x.getD k 0 = x[k] by simp [List.getD, hlx]]; rfl)
        have hnx : ¬ ((x.length : Int) ≤ (k : Int)) := by omega
        generalize p.getD k 0 = a at *
        generalize x.getD k 0 = b2 at *
        have HCM := Lib.hid (fun W => cmpI_any a b2 W)
        rcases Int.lt_trichotomy a b2 with h | h | h
        · have HF := Lib.hid (show cmpL p x = -1 by rw [← HC.out, HE.out, if_pos h])
          rw [if_pos h] at HCM
          have HH := Lib.hid h
          clear h
          go_wp2_with (go_at_call 106; (with_reducible refine (HCM.out _).mono ?_); rintro e w' ⟨rfl, rfl⟩)
          go_ret
          exact ⟨ret_int HF.out.symm, rfl⟩
        · have HF := Lib.hid (show cmpL (p.drop (k + 1)) (x.drop (k + 1)) = cmpL p x by rw [← HC.out, HE.out, if_neg (by omega), if_neg (by omega)])
          rw [if_neg (by omega), if_neg (by omega)] at HCM
          have HH := Lib.hid h
          clear h
          go_wp2_with (go_at_call 106; (with_reducible refine (HCM.out _).mono ?_); rintro e w' ⟨rfl, rfl⟩)
          go_round
          case rel => exact ⟨k + 1, by omega, by go_num, HF⟩
          case measure => simp [intOf]; omega
        · have HF := Lib.hid (show cmpL p x = 1 by rw [← HC.out, HE.out, if_neg (by omega), if_pos h])
          rw [if_neg (by omega), if_pos h] at HCM
          have HH := Lib.hid h
          clear h
          go_wp2_with (go_at_call 106; (with_reducible refine (HCM.out _).mono ?_); rintro e w' ⟨rfl, rfl⟩)
          go_ret
          exact ⟨ret_int HF.out.symm, rfl⟩
      · have HF := Lib.hid (show cmpL p x = 1 by rw [← HC.out, List.drop_eq_getElem_cons hlt, List.drop_of_length_le (show x.length ≤ k by omega)]; rfl)
        have hnx : (x.length : Int) ≤ (k : Int) := by omega
        go_wp2
        go_ret
        exact ⟨ret_int HF.out.symm, rfl⟩
    · obtain rfl : k = p.length := by omega
      have HF := Lib.hid (show cmpL p x = if p.length < x.length then -1 else 0 by rw [← HC.out]; exact cmpL_end rfl)
      by_cases h : p.length < x.length
      · rw [if_pos h] at HF
        have h2 : (p.length : Int) < (x.length : Int) := by omega
        go_wp2
        go_ret
        exact ⟨ret_int HF.out.symm, rfl⟩
      · rw [if_neg h] at HF
        have h2 : ¬ (p.length : Int) < (x.length : Int) := by omega
        go_wp2
        go_ret
        exact ⟨ret_int HF.out.symm, rfl⟩
theorem cmpL_two (a b c d : Int) : cmpL [a, b] [c, d] = if a < c then -1 else if c < a then 1 else if b < d then -1 else if d < b then 1 else 0 := rfl
set_option maxHeartbeats 4000000 in
theorem iValidLocks_any (n : Int) (A : Option Addr) (cap : Nat) (xs : List (List Int)) (w : World) (hr : RowsR w A xs) (hl : xs.length ≤ 1048576) (hls : ∀ r ∈ xs, r.length ≤ 1048576) :
    Calls Try.prog 90 #[.int .i64 n, .slice A xs.length cap] w fun e w' => e = .returned (.bool (lksOk n xs)) ∧ Below w.heap.size w w' := by
  have HR := Lib.hid hr
  have HS := Lib.hid hls
  clear hr hls
  by_cases hn : 0 ≤ n ∧ n ≤ 8
  · have i1 := inB_true hn.1 hn.2
    by_cases h12 : xs.length ≤ 12
    · have t12 : ¬ ((12 : Int) < (xs.length : Int)) := by omega
      have hw1 : IntKind.i64.wrap (n - 1) = n - 1 := IntWalk.i64_in _ (by omega)
      go_enter Try.func90, Try.ntmps90
      go_wp2_with (first
  | (go_at_call 54; (with_reducible refine (within64_one _ _ _ _ _ _ (by simp)).mono ?_); rintro e w' ⟨rfl, rfl⟩)
)
      go_loopw [18] (fun i wr => ∃ k : Nat, k ≤ xs.length ∧ i = .int .i64 k ∧ Hid (∀ j, j < k → lkGood n xs j = true) ∧ Below w.heap.size w wr) (fun i wr => xs.length - (intOf i).toNat)
      case atStart => exact ⟨0, by omega, rfl, Lib.hid (fun j hj => absurd hj (by omega)), below_box _ _⟩
      case round =>
        obtain ⟨k, hk, rfl, HG, hbel⟩ := hrel
        obtain ⟨wo, rfl⟩ : ∃ wo : World, wo = wr := ⟨_, rfl⟩
        by_cases hlt : k < xs.length
        · obtain ⟨bl, off, Ax, cx, rfl, lX, hrw⟩ := (HR.out.below hbel).row hlt
          have HGD := Lib.hid (show lkGood n xs k = (lkRow n xs[k] && (decide (k = 0) || lkLt (lkAt xs (k - 1)) xs[k])) by unfold lkGood; rw [lkAt_lt hlt])
          have HXL := Lib.hid (HS.out xs[k] (List.getElem_mem hlt))
          have HRW := Lib.hid hrw
          clear hrw
          generalize xs[k] = x at *
          have hxl : x.length ≤ 1048576 := HXL.out
          by_cases h2 : x.length = 2
          · obtain ⟨a, b, rfl⟩ := two_of h2
            clear h2 hxl HXL
            have HWI := Lib.hid (within64_any 0 (n - 1) _ [a, b] wo (row_ofW HRW.out (by simp)) (by simp))
            have HAI := Lib.hid (areIncreasing_any _ [a, b] wo (row_ofW HRW.out (by simp)) (by simp))
            rw [allR_two] at HWI
            rw [incB_two] at HAI
            simp only [List.length_cons, List.length_nil, Nat.zero_add, Nat.reduceAdd] at lX HWI HAI HRW
            have HL2 := Lib.hid (show ((2 : Int) != 2) = false from rfl)
            have HGE := Lib.hid (show lkGood n xs k = ((inB b 0 (n - 1) && inB a 0 (b - 1)) && (decide (k = 0) || lkLt (lkAt xs (k - 1)) [a, b])) from by rw [HGD.out, lkRow_two])
            by_cases hab : (0 ≤ a ∧ a ≤ n - 1) ∧ (0 ≤ b ∧ b ≤ n - 1)
            · have i2 := inB_true hab.2.1 hab.2.2
              rw [inB_true hab.1.1 hab.1.2, i2, Bool.and_self] at HWI
              by_cases ha : a < b
              · have i3 : inB a 0 (b - 1) = true := inB_true hab.1.1 (by omega)
                rw [decide_eq_true ha] at HAI
                have HGF := Lib.hid (show lkGood n xs k = (decide (k = 0) || lkLt (lkAt xs (k - 1)) [a, b]) by rw [HGE.out, i2, i3]; rfl)
                clear hab ha i2 i3
                by_cases k0 : k = 0
                · have HF := Lib.hid (show lkGood n xs k = true by rw [HGF.out, decide_eq_true k0]; rfl)
                  have hki : ¬ (0 < (k : Int)) := by omega
                  have hkn : ¬ (0 < k) := by omega
                  clear k0
                  go_wp2_with (first
  | (go_at_call 54; (with_reducible refine (HWI.out).mono ?_); rintro e w' ⟨rfl, rfl⟩)
  | (go_at_call 88; (with_reducible refine (HAI.out).mono ?_); rintro e w' ⟨rfl, rfl⟩)
)
                  go_roundw
                  case rel => exact ⟨k + 1, by omega, by go_num, Lib.hid (fun j hj => by
                    rcases Nat.lt_or_ge j k with q | q
                    · exact HG.out j q
                    · obtain rfl : j = k := by omega
                      exact HF.out), hbel⟩
                  case measure => simp [intOf]; omega
                · have hkl : k - 1 < xs.length := by omega
                  have HGP := Lib.hid (HG.out (k - 1) (by omega))
                  obtain ⟨pa, pb, hpe, -, -⟩ : ∃ pa pb : Int, xs[k - 1] = [pa, pb] ∧ (0 ≤ pa ∧ pa ≤ pb - 1) ∧ (0 ≤ pb ∧ pb ≤ n - 1) := by
                    have h1 := HGP.out
                    simp only [lkGood, Bool.and_eq_true] at h1
                    rw [lkAt_lt hkl] at h1
                    exact lkRow_iff.1 h1.1
                  obtain ⟨bl2, off2, Ap, cp, e2, lP, hrp⟩ := (HR.out.below hbel).row hkl
                  injection e2 with e2
                  injection e2 with e21 e22
                  subst e21
                  subst e22
                  rw [hpe] at lP hrp
                  have HCM := Lib.hid (sCompare_any _ _ [pa, pb] [a, b] wo hrp HRW.out (by simp) (by simp))
                  simp only [List.length_cons, List.length_nil, Nat.zero_add, Nat.reduceAdd] at lP HCM
                  rw [cmpL_two] at HCM
                  have HGL := Lib.hid (show lkGood n xs k = (decide (pa < a) || (decide (pa = a) && decide (pb < b))) by rw [HGF.out, decide_eq_false k0, lkAt_lt hkl, hpe, lkLt_two]; rfl)
                  clear hrp hpe
                  have hki : (0 < (k : Int)) := by omega
                  have hkn : 0 < k := by omega
                  have hkj : (k : Int) - 1 = ((k - 1 : Nat) : Int) := by omega
                  clear k0 HGP
                  generalize hj1 : k - 1 = j1 at *
                  have HJ1 := Lib.hid hj1
                  clear hj1
                  have hkw : IntKind.i64.wrap ((k : Int) - 1) = (j1 : Int) := by rw [hkj]; exact IntWalk.i64_in _ (by omega)
                  have HK := Lib.hid hkj
                  clear hkj
                  obtain ⟨c, hc0⟩ : ∃ c : Int, (if pa < a then (-1 : Int) else if a < pa then 1 else if pb < b then -1 else if b < pb then 1 else 0) = c := ⟨_, rfl⟩
                  rw [hc0] at HCM
                  have HGC := Lib.hid (show lkGood n xs k = decide (c < 0) by
                    rw [HGL.out, ← hc0]
                    rcases Int.lt_trichotomy pa a with q | q | q
                    · simp [q]
                    · subst q
                      by_cases q2 : pb < b
                      · simp [q2]
                      · by_cases q3 : b < pb <;> simp [q2, q3]
                    · have q1 : ¬ pa < a := by omega
                      have q2 : ¬ pa = a := by omega
                      simp [q, q1, q2])
                  have hcb : -1 ≤ c ∧ c ≤ 1 := by rw [← hc0]; repeat (first | split | omega)
                  clear hc0
                  by_cases hc : c < 0
                  · have HF := Lib.hid (show lkGood n xs k = true by rw [HGC.out, decide_eq_true hc])
                    have hc2 : ¬ (0 ≤ c) := by omega
                    go_wp2_with (first
  | (go_at_call 54; (with_reducible refine (HWI.out).mono ?_); rintro e w' ⟨rfl, rfl⟩)
  | (go_at_call 88; (with_reducible refine (HAI.out).mono ?_); rintro e w' ⟨rfl, rfl⟩)
  | (go_at_call 97; (with_reducible refine (HCM.out).mono ?_); rintro e w' ⟨rfl, rfl⟩)
)
                    go_roundw
                    case rel => exact ⟨k + 1, by omega, by go_num, Lib.hid (fun j hj => by
                      rcases Nat.lt_or_ge j k with q | q
                      · exact HG.out j q
                      · obtain rfl : j = k := by omega
                        exact HF.out), hbel⟩
                    case measure => simp [intOf]; omega
                  · have HF := Lib.hid (lksOk_bad (n := n) hlt (by rw [HGC.out, decide_eq_false hc]))
                    have hc2 : 0 ≤ c := by omega
                    go_wp2_with (first
  | (go_at_call 54; (with_reducible refine (HWI.out).mono ?_); rintro e w' ⟨rfl, rfl⟩)
  | (go_at_call 88; (with_reducible refine (HAI.out).mono ?_); rintro e w' ⟨rfl, rfl⟩)
  | (go_at_call 97; (with_reducible refine (HCM.out).mono ?_); rintro e w' ⟨rfl, rfl⟩)
)
                    go_ret
                    exact ⟨ret_bool HF.out.symm, hbel⟩
              · have i3 : inB a 0 (b - 1) = false := inB_false (fun h => ha (by omega))
                rw [decide_eq_false ha] at HAI
                have HF := Lib.hid (lksOk_bad (n := n) hlt (by rw [HGE.out, i3]; simp))
                clear hab ha i2 i3
                go_wp2_with (first
  | (go_at_call 54; (with_reducible refine (HWI.out).mono ?_); rintro e w' ⟨rfl, rfl⟩)
  | (go_at_call 88; (with_reducible refine (HAI.out).mono ?_); rintro e w' ⟨rfl, rfl⟩)
)
                go_ret
                exact ⟨ret_bool HF.out.symm, hbel⟩
            · have i2 : (inB b 0 (n - 1) && inB a 0 (b - 1)) = false := by
                cases q : inB b 0 (n - 1)
                · rfl
                · have := inB_iff.1 q
                  exact inB_false (fun h => hab ⟨⟨h.1, by omega⟩, this⟩)
              have i4 : (inB a 0 (n - 1) && inB b 0 (n - 1)) = false := by
                cases q : inB a 0 (n - 1)
                · rfl
                · exact inB_false (fun h => hab ⟨inB_iff.1 q, h⟩)
              rw [i4] at HWI
              have HF := Lib.hid (lksOk_bad (n := n) hlt (by rw [HGE.out, i2]; simp))
              clear hab i2 i4
              go_wp2_with (first
  | (go_at_call 54; (with_reducible refine (HWI.out).mono ?_); rintro e w' ⟨rfl, rfl⟩)
  | (go_at_call 88; (with_reducible refine (HAI.out).mono ?_); rintro e w' ⟨rfl, rfl⟩)
)
              go_ret
              exact ⟨ret_bool HF.out.symm, hbel⟩
          · have HL2 : ((x.length : Int) != 2) = true := by simp; omega
            have HF := Lib.hid (lksOk_bad (n := n) hlt (by rw [HGD.out, show lkRow n x = false by simp [lkRow, h2]]; rfl))
            have hxl0 : (x.length : Int) ≤ 1048576 := by omega
            clear HGD HXL
            go_wp2
            go_ret
            exact ⟨ret_bool HF.out.symm, hbel⟩
        · obtain rfl : k = xs.length := by omega
          have HF := Lib.hid (show lksOk n xs = true from lksOk_iff.2 ⟨hn, h12, fun j hj => HG.out j hj⟩)
          go_wp2
          go_ret
          exact ⟨ret_bool HF.out.symm, hbel⟩
    · have HF := Lib.hid (show lksOk n xs = false by rw [← Bool.not_eq_true, lksOk_iff]; exact fun hh => h12 hh.2.1)
      have t12 : (12 : Int) < (xs.length : Int) := by omega
      go_enter Try.func90, Try.ntmps90
      go_wp2_with (first
  | (go_at_call 54; (with_reducible refine (within64_one _ _ _ _ _ _ (by simp)).mono ?_); rintro e w' ⟨rfl, rfl⟩)
)
      go_ret
      exact ⟨ret_bool HF.out.symm, below_box _ _⟩
  · have i1 := inB_false hn
    have HF := Lib.hid (show lksOk n xs = false by rw [← Bool.not_eq_true, lksOk_iff]; exact fun hh => hn hh.1)
    go_enter Try.func90, Try.ntmps90
    go_wp2_with (first
  | (go_at_call 54; (with_reducible refine (within64_one _ _ _ _ _ _ (by simp)).mono ?_); rintro e w' ⟨rfl, rfl⟩)
)
    go_ret
    exact ⟨ret_bool HF.out.symm, below_box _ _⟩
end Go.Proofs.Ythbofhlfggkolaa
