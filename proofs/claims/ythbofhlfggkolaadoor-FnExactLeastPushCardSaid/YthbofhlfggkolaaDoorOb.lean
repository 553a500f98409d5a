/-
  Contracts of chapter 12: what is asked of drops, push and regulators; the model's. Conditions: those that each theorem states.
-/
import Derived.Test.YthbofhlfggkolaaDoorWa
import Derived.Test.YthbofhlfggkolaaDoorJo
import Derived.Test.YthbofhlfggkolaaDoorOa
namespace Go.Proofs.YthbofhlfggkolaaDoor
open Go.RowKit
set_option linter.unusedVariables false
set_option linter.unusedSimpArgs false

/-- Drops, push and regulators are as stated; the code of a mine with them. -/
def dmOk (n : Nat) (dr pu : List Int) (rg : List Bool) : Bool := flOk (-1000000) 1000000 n dr && (flOk (-20000) 20000 n pu && decide (rg.length = n))
theorem dmOk_iff {n : Nat} {dr pu : List Int} {rg : List Bool} : dmOk n dr pu rg = true ↔ flOk (-1000000) 1000000 n dr = true ∧ flOk (-20000) 20000 n pu = true ∧ rg.length = n := by simp [dmOk]
def dmC (J : Int) (xs : List Aw) (dr pu : List Int) (rg : List Bool) : Int := if mineOk J xs then (if dmOk xs.length dr pu rg then 0 else 2) else 1
theorem dm_not {J : Int} {xs : List Aw} {dr pu : List Int} {rg : List Bool} (h : mineOk J xs = false) : dmC J xs dr pu rg = 1 := by simp [dmC, h]
theorem dm_no {J : Int} {xs : List Aw} {dr pu : List Int} {rg : List Bool} (hok : mineOk J xs = true) (h : ¬ (flOk (-1000000) 1000000 xs.length dr = true ∧ flOk (-20000) 20000 xs.length pu = true ∧ rg.length = xs.length)) : dmC J xs dr pu rg = 2 := by
  have : dmOk xs.length dr pu rg = false := by rw [← Bool.not_eq_true, dmOk_iff]; exact h
  simp [dmC, hok, this]
theorem dm_yes {J : Int} {xs : List Aw} {dr pu : List Int} {rg : List Bool} (hok : mineOk J xs = true) (h : flOk (-1000000) 1000000 xs.length dr = true ∧ flOk (-20000) 20000 xs.length pu = true ∧ rg.length = xs.length) : dmC J xs dr pu rg = 0 := by
  simp [dmC, hok, dmOk_iff.2 h]
theorem dmC_ok {J : Int} {xs : List Aw} {dr pu : List Int} {rg : List Bool} (h : dmC J xs dr pu rg = 0) : mineOk J xs = true ∧ flOk (-1000000) 1000000 xs.length dr = true ∧ flOk (-20000) 20000 xs.length pu = true ∧ rg.length = xs.length := by
  unfold dmC at h
  cases h1 : mineOk J xs
  · simp [h1] at h
  · cases h2 : dmOk xs.length dr pu rg
    · simp [h1, h2] at h
    · exact ⟨rfl, dmOk_iff.1 h2⟩
theorem wf_allO {lo hi : Int} {n : Nat} {l : List Int} (h : flOk lo hi n l = true) {k : Nat} (hk : k < l.length) : lo ≤ l.getD k 0 ∧ l.getD k 0 ≤ hi := by
  rw [show l.getD k 0 = l[k] by simp [List.getD, hk]]; exact (flOk_iff.1 h).2 _ (List.getElem_mem hk)
theorem l12Push_any (q : Int) (w : World) : Calls Tryd.prog 67 #[.int .i64 q] w fun e w' => e = .returned (.bool (inB q (-20000) 20000)) ∧ w = w' := by
  go_enter Tryd.func67, Tryd.ntmps67
  go_wp2_with (go_at_call 49; (with_reducible refine (l00In_any _ _ _ _).mono ?_); rintro e w' ⟨rfl, rfl⟩)
  go_ret
  exact ⟨rfl, rfl⟩
set_option maxHeartbeats 2000000 in
theorem l12Ask_any (b : Nat) (J : Int) (A : Option Addr) (cap : Nat) (xs : List Aw) (D : Value) (dr : List Int) (U : Value) (pu : List Int) (G : Option Addr) (gcap : Nat) (rg : List Bool) (w : World) (hJ : w.cell? ⟨b, 0, none⟩ = some (.int .i64 J)) (hA : w.cell? ⟨b, 1, none⟩ = some (.slice A xs.length cap)) (hr : AwR w A xs) (hs : ∀ a ∈ xs, a.s.size ≤ maxLen) (hl : xs.length ≤ 1048576) (hd : Row .i64 w D dr) (hdl : dr.length ≤ 1048576) (hu : Row .i64 w U pu) (hul : pu.length ≤ 1048576) (hgl : rg.length ≤ 1048576) :
    Calls Tryd.prog 41 #[.pointer (some ⟨b, 0, none⟩), D, U, .slice G rg.length gcap] w fun e w' => e = .returned (.int .i64 (dmC J xs dr pu rg)) ∧ Below w.heap.size w w' := by
  obtain ⟨D, dcap, rfl⟩ := hd.form
  obtain ⟨U, ucap, rfl⟩ := hu.form
  have HOKC := Lib.hid (l04Ok_any b J A cap xs w hJ hA hr hs hl)
  have HD := Lib.hid hd
  have HU := Lib.hid hu
  have HA := Lib.hid hA
  clear hr hs hd hu hA hJ
  cases hok : mineOk J xs
  · have HE := Lib.hid (dm_not (dr := dr) (pu := pu) (rg := rg) hok)
    go_enter Tryd.func41, Tryd.ntmps41
    go_wp2_with fail
    (with_reducible refine (HOKC.out).mono ?_)
    rintro e w1 ⟨rfl, n, rfl⟩
    rw [hok]
    have HD1 := Lib.hid (show Row .i64 (w.drewN n) (.slice D dr.length dcap) dr from HD.out)
    have HU1 := Lib.hid (show Row .i64 (w.drewN n) (.slice U pu.length ucap) pu from HU.out)
    have m1 : (w.drewN n).cell? ⟨b, 1, none⟩ = some (.slice A xs.length cap) := HA.out
    have HB1 := Lib.hid (show Below w.heap.size w (w.drewN n) from below_drewN' (Below.refl _ _) n)
    generalize w.drewN n = W1 at *
    go_wp2
    go_ret
    exact ⟨ret_int HE.out.symm, HB1.out⟩
  · have h24 := (mineOk_iff.1 hok).2.2
    by_cases h1 : dr.length = xs.length
    · by_cases h2 : pu.length = xs.length
      · by_cases h3 : rg.length = xs.length
        · have HH := Lib.hid (And.intro h1 (And.intro h2 h3))
          have e1 : ((dr.length : Int) != (xs.length : Int)) = false := by simp [h1]
          have e2 : ((pu.length : Int) != (xs.length : Int)) = false := by simp [h2]
          have e3 : ((rg.length : Int) != (xs.length : Int)) = false := by simp [h3]
          have h1a := Nat.le_of_eq h1
          have h1b := Nat.le_of_eq h1.symm
          have h2a := Nat.le_of_eq h2
          have h2b := Nat.le_of_eq h2.symm
          clear h1 h2 h3
          go_enter Tryd.func41, Tryd.ntmps41
          go_wp2_with fail
          (with_reducible refine (HOKC.out).mono ?_)
          rintro e w1 ⟨rfl, n, rfl⟩
          rw [hok]
          have HD1 := Lib.hid (show Row .i64 (w.drewN n) (.slice D dr.length dcap) dr from HD.out)
          have HU1 := Lib.hid (show Row .i64 (w.drewN n) (.slice U pu.length ucap) pu from HU.out)
          have m1 : (w.drewN n).cell? ⟨b, 1, none⟩ = some (.slice A xs.length cap) := HA.out
          have HB1 := Lib.hid (show Below w.heap.size w (w.drewN n) from below_drewN' (Below.refl _ _) n)
          generalize w.drewN n = W1 at *
          go_wp2
          go_loop [10] (fun i => ∃ k : Nat, k ≤ xs.length ∧ i = .int .i64 (k : Int) ∧ Hid (∀ j : Nat, j < k → (-1000000 ≤ dr.getD j 0 ∧ dr.getD j 0 ≤ 1000000) ∧ (-20000 ≤ pu.getD j 0 ∧ pu.getD j 0 ≤ 20000))) (fun i => xs.length - (intOf i).toNat)
          case atStart => exact ⟨0, by omega, rfl, Lib.hid (fun j h => absurd h (by omega))⟩
          case round =>
            obtain ⟨k, hk, rfl, HA2⟩ := hrel
            by_cases hlt : k < xs.length
            · have hkd : k < dr.length := by omega
              have hku : k < pu.length := by omega
              obtain ⟨db, dof, ed, -, c0⟩ := Row.cell HD1.out hkd
              obtain ⟨ub, uof, eu, -, c1⟩ := Row.cell HU1.out hku
              subst ed eu
              have hk1 : (k : Int) < (dr.length : Int) := by omega
              have hk2 : (k : Int) < (pu.length : Int) := by omega
              by_cases hr1 : -1000000 ≤ dr.getD k 0 ∧ dr.getD k 0 ≤ 1000000
              · by_cases hq1 : -20000 ≤ pu.getD k 0 ∧ pu.getD k 0 ≤ 20000
                · have ir := inB_true hr1.1 hr1.2
                  have iq := inB_true hq1.1 hq1.2
                  have HN := Lib.hid (show ∀ j : Nat, j < k + 1 → (-1000000 ≤ dr.getD j 0 ∧ dr.getD j 0 ≤ 1000000) ∧ (-20000 ≤ pu.getD j 0 ∧ pu.getD j 0 ≤ 20000) from fun j h => by
                    rcases Nat.lt_or_ge j k with q | q
                    · exact HA2.out j q
                    · obtain rfl : j = k := by omega
                      exact ⟨hr1, hq1⟩)
                  clear hr1 hq1
                  generalize dr.getD k 0 = y at *
                  generalize pu.getD k 0 = z at *
                  go_wp2_with (first
      | (go_at_call 49; (with_reducible refine (l00In_any _ _ _ _).mono ?_); rintro e w' ⟨rfl, rfl⟩)
      | (go_at_call 67; (with_reducible refine (l12Push_any _ _).mono ?_); rintro e w' ⟨rfl, rfl⟩))
                  go_round
                  case rel => exact ⟨k + 1, by omega, by go_num, HN⟩
                  case measure => simp [intOf]; omega
                · have ir := inB_true hr1.1 hr1.2
                  have iq := inB_false hq1
                  have HE := Lib.hid (dm_no (rg := rg) (dr := dr) (pu := pu) hok (fun hh => hq1 (wf_allO hh.2.1 hku)))
                  clear hr1 hq1
                  generalize dr.getD k 0 = y at *
                  generalize pu.getD k 0 = z at *
                  go_wp2_with (first
      | (go_at_call 49; (with_reducible refine (l00In_any _ _ _ _).mono ?_); rintro e w' ⟨rfl, rfl⟩)
      | (go_at_call 67; (with_reducible refine (l12Push_any _ _).mono ?_); rintro e w' ⟨rfl, rfl⟩))
                  go_ret
                  exact ⟨ret_int HE.out.symm, HB1.out⟩
              · have ir := inB_false hr1
                have HE := Lib.hid (dm_no (rg := rg) (dr := dr) (pu := pu) hok (fun hh => hr1 (wf_allO hh.1 hkd)))
                clear hr1
                generalize dr.getD k 0 = y at *
                generalize pu.getD k 0 = z at *
                go_wp2_with (first
      | (go_at_call 49; (with_reducible refine (l00In_any _ _ _ _).mono ?_); rintro e w' ⟨rfl, rfl⟩)
      | (go_at_call 67; (with_reducible refine (l12Push_any _ _).mono ?_); rintro e w' ⟨rfl, rfl⟩))
                go_ret
                exact ⟨ret_int HE.out.symm, HB1.out⟩
            · obtain rfl : k = xs.length := by omega
              have HE := Lib.hid (dm_yes hok ⟨flOk_iff.2 ⟨HH.out.1, fun y hy => by
                obtain ⟨j, hj, rfl⟩ := List.mem_iff_getElem.1 hy
                have := (HA2.out j (by omega)).1
                rwa [show dr.getD j 0 = dr[j] by simp [List.getD, hj]] at this⟩, flOk_iff.2 ⟨HH.out.2.1, fun y hy => by
                obtain ⟨j, hj, rfl⟩ := List.mem_iff_getElem.1 hy
                have := (HA2.out j (by omega)).2
                rwa [show pu.getD j 0 = pu[j] by simp [List.getD, hj]] at this⟩, HH.out.2.2⟩)
              go_wp2
              go_ret
              exact ⟨ret_int HE.out.symm, HB1.out⟩
        · have HE := Lib.hid (dm_no (dr := dr) (pu := pu) hok (fun hh => h3 hh.2.2))
          have e1 : ((dr.length : Int) != (xs.length : Int)) = false := by simp [h1]
          have e2 : ((pu.length : Int) != (xs.length : Int)) = false := by simp [h2]
          have e3 : ((rg.length : Int) != (xs.length : Int)) = true := by simp; omega
          clear h1 h2 h3
          go_enter Tryd.func41, Tryd.ntmps41
          go_wp2_with fail
          (with_reducible refine (HOKC.out).mono ?_)
          rintro e w1 ⟨rfl, n, rfl⟩
          rw [hok]
          have HD1 := Lib.hid (show Row .i64 (w.drewN n) (.slice D dr.length dcap) dr from HD.out)
          have HU1 := Lib.hid (show Row .i64 (w.drewN n) (.slice U pu.length ucap) pu from HU.out)
          have m1 : (w.drewN n).cell? ⟨b, 1, none⟩ = some (.slice A xs.length cap) := HA.out
          have HB1 := Lib.hid (show Below w.heap.size w (w.drewN n) from below_drewN' (Below.refl _ _) n)
          generalize w.drewN n = W1 at *
          go_wp2
          go_ret
          exact ⟨ret_int HE.out.symm, HB1.out⟩
      · have HE := Lib.hid (dm_no (rg := rg) (dr := dr) (pu := pu) hok (fun hh => h2 (flOk_iff.1 hh.2.1).1))
        have e1 : ((dr.length : Int) != (xs.length : Int)) = false := by simp [h1]
        have e2 : ((pu.length : Int) != (xs.length : Int)) = true := by simp; omega
        clear h1 h2
        go_enter Tryd.func41, Tryd.ntmps41
        go_wp2_with fail
        (with_reducible refine (HOKC.out).mono ?_)
        rintro e w1 ⟨rfl, n, rfl⟩
        rw [hok]
        have HD1 := Lib.hid (show Row .i64 (w.drewN n) (.slice D dr.length dcap) dr from HD.out)
        have HU1 := Lib.hid (show Row .i64 (w.drewN n) (.slice U pu.length ucap) pu from HU.out)
        have m1 : (w.drewN n).cell? ⟨b, 1, none⟩ = some (.slice A xs.length cap) := HA.out
        have HB1 := Lib.hid (show Below w.heap.size w (w.drewN n) from below_drewN' (Below.refl _ _) n)
        generalize w.drewN n = W1 at *
        go_wp2
        go_ret
        exact ⟨ret_int HE.out.symm, HB1.out⟩
    · have HE := Lib.hid (dm_no (rg := rg) (dr := dr) (pu := pu) hok (fun hh => h1 (flOk_iff.1 hh.1).1))
      have e1 : ((dr.length : Int) != (xs.length : Int)) = true := by simp; omega
      clear h1
      go_enter Tryd.func41, Tryd.ntmps41
      go_wp2_with fail
      (with_reducible refine (HOKC.out).mono ?_)
      rintro e w1 ⟨rfl, n, rfl⟩
      rw [hok]
      have HD1 := Lib.hid (show Row .i64 (w.drewN n) (.slice D dr.length dcap) dr from HD.out)
      have HU1 := Lib.hid (show Row .i64 (w.drewN n) (.slice U pu.length ucap) pu from HU.out)
      have m1 : (w.drewN n).cell? ⟨b, 1, none⟩ = some (.slice A xs.length cap) := HA.out
      have HB1 := Lib.hid (show Below w.heap.size w (w.drewN n) from below_drewN' (Below.refl _ _) n)
      generalize w.drewN n = W1 at *
      go_wp2
      go_ret
      exact ⟨ret_int HE.out.symm, HB1.out⟩
end Go.Proofs.YthbofhlfggkolaaDoor
