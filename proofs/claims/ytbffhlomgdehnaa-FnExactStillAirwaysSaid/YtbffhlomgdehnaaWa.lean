/-
  Contracts of chapter 7: lists with a number for each airway; what comes to a junction; the model's and the program's. Conditions: those that each theorem states.
-/
import Derived.Test.YtbffhlomgdehnaaGf
import Derived.Test.YtbffhlomgdehnaaNh
import Derived.Test.YtbffhlomgdehnaaDa
import Derived.Laws.CopyOwn
import Derived.RegionTactic
namespace Go.Proofs.Ytbffhlomgdehnaa
open Go.RowKit
set_option linter.unusedVariables false
set_option linter.unusedSimpArgs false

/-- A list with one number for each of n airways, from lo to hi. -/
def flOk (lo hi : Int) (n : Nat) (fl : List Int) : Bool := decide (fl.length = n) && allR lo hi fl
theorem flOk_iff {lo hi : Int} {n : Nat} {fl : List Int} : flOk lo hi n fl = true ↔ fl.length = n ∧ ∀ y ∈ fl, lo ≤ y ∧ y ≤ hi := by
  simp [flOk, allR_iff]
/-- What comes to a junction less what leaves it, of the first k airways. -/
def exc (xs : List Aw) (fl : List Int) (j : Int) : Nat → Int
  | 0 => 0
  | k + 1 => exc xs fl j k + (if (xs.getD k Aw.none).t = j then fl.getD k 0 else 0) - (if (xs.getD k Aw.none).f = j then fl.getD k 0 else 0)
theorem exc_bd {xs : List Aw} {fl : List Int} {j : Int} (h : ∀ y ∈ fl, -100000 ≤ y ∧ y ≤ 100000) : ∀ k : Nat, -200000 * (k : Int) ≤ exc xs fl j k ∧ exc xs fl j k ≤ 200000 * (k : Int)
  | 0 => by simp [exc]
  | k + 1 => by
    have ih := exc_bd (xs := xs) (j := j) h k
    have hy : -100000 ≤ fl.getD k 0 ∧ fl.getD k 0 ≤ 100000 := by
      by_cases hk : k < fl.length
      · rw [show fl.getD k 0 = fl[k] by simp [List.getD, hk]]; exact h _ (List.getElem_mem hk)
      · rw [show fl.getD k 0 = 0 by simp [List.getD, hk]]; omega
    rw [exc]
    split <;> split <;> omega
def imbL (xs : List Aw) (fl : List Int) (J k : Nat) : List Int := (List.range J).map (fun (j : Nat) => exc xs fl (j : Int) k)
theorem imbL_len (xs : List Aw) (fl : List Int) (J k : Nat) : (imbL xs fl J k).length = J := by simp [imbL]
theorem imb_put {xs : List Aw} {fl : List Int} {J k tn fn : Nat} {z : Int} (ht : (xs.getD k Aw.none).t = tn) (hf : (xs.getD k Aw.none).f = fn) (hz : fl.getD k 0 = z) (hne : tn ≠ fn) (h1 : tn < J) (h2 : fn < J) :
    ((intsV (imbL xs fl J k)).set tn (.int .i64 (exc xs fl tn k + z))).set fn (.int .i64 (exc xs fl fn k - z)) = intsV (imbL xs fl J (k + 1)) := by
  unfold intsV
  rw [← List.map_set, ← List.map_set]
  congr 1
  apply List.ext_getElem (by simp [imbL])
  intro j h3 h4
  have hj : j < J := by simpa [imbL] using h4
  simp only [List.getElem_set, imbL, List.getElem_map, List.getElem_range, exc, ht, hf, hz]
  by_cases e1 : fn = j
  · subst e1
    rw [if_pos rfl, if_neg (by omega), if_pos rfl]
    omega
  · rw [if_neg e1]
    by_cases e2 : tn = j
    · subst e2
      rw [if_pos rfl, if_pos rfl, if_neg (by omega)]
      omega
    · rw [if_neg e2, if_neg (by omega), if_neg (by omega)]
      omega
theorem imb_at {xs : List Aw} {fl : List Int} {J k j : Nat} (h : j < J) : (intsV (imbL xs fl J k))[j]? = some (.int .i64 (exc xs fl j k)) := by
  simp [intsV, imbL, h]
/-- Flows are balanced. -/
def balR (J : Int) (xs : List Aw) (fl : List Int) : Bool := allR 0 0 (imbL xs fl J.toNat xs.length)
theorem balR_iff {J : Int} {xs : List Aw} {fl : List Int} : balR J xs fl = true ↔ ∀ j : Nat, (j : Int) < J → exc xs fl j xs.length = 0 := by
  unfold balR
  rw [allR_iff]
  constructor
  · intro h j hj
    have := h (exc xs fl j xs.length) (List.mem_map.2 ⟨j, List.mem_range.2 (by omega), rfl⟩)
    omega
  · intro h y hy
    obtain ⟨j, hj, rfl⟩ := List.mem_map.1 hy
    have := h j (by have := List.mem_range.1 hj; omega)
    omega
/-- The ends of an airway of a mine. -/
theorem ends_in {J : Int} {xs : List Aw} (h : mineOk J xs = true) {k : Nat} (hk : k < xs.length) : (0 ≤ xs[k].f ∧ xs[k].f < J) ∧ (0 ≤ xs[k].t ∧ xs[k].t < J) ∧ xs[k].f ≠ xs[k].t := by
  have h1 := upTo_all _ (mineOk_iff.1 h).2.1 k hk
  unfold stepOk at h1
  rw [getD_of_lt hk] at h1
  simp only [Bool.and_eq_true, inB_iff] at h1
  obtain ⟨⟨⟨h2, h3⟩, h4⟩, -⟩ := h1
  have h5 := (awOk_bd (show awOk xs[k].s xs[k].f xs[k].t xs[k].l xs[k].se xs[k].fr xs[k].sh = true from h2)).1.2
  exact ⟨by omega, by omega, h5⟩
theorem l07Flows_any (b n cap : Nat) (A : Option Addr) (v : Value) (fl : List Int) (w : World) (hA : w.cell? ⟨b, 1, none⟩ = some (.slice A n cap)) (hv : RowW .i64 w v fl) (hl : fl.length ≤ 4000000000000000000) (hn : n ≤ 1048576) :
    Calls Try.prog 82 #[.pointer (some ⟨b, 0, none⟩), v] w fun e w' => e = .returned (.bool (flOk (-100000) 100000 n fl)) ∧ w = w' := by
  obtain ⟨F, fcap, rfl, _⟩ := id hv
  have HV := Lib.hid hv
  clear hv
  go_enter Try.func82, Try.ntmps82
  go_wp2
  go_loop [5] (fun i => ∃ k : Nat, k ≤ fl.length ∧ Hid (∀ j (h : j < fl.length), j < k → -100000 ≤ fl[j] ∧ fl[j] ≤ 100000) ∧ i = .int .i64 k) (fun i => fl.length - (intOf i).toNat)
  case atStart => exact ⟨0, by omega, Lib.hid (fun j _ h => absurd h (by omega)), rfl⟩
  case round =>
    obtain ⟨k, hk, HA, rfl⟩ := hrel
    by_cases hlt : k < fl.length
    · obtain ⟨fb, fo, rfl, _, hc⟩ := RowW.cell HV.out hlt
      rw [show fl.getD k 0 = fl[k] by simp [List.getD, hlt]] at hc
      by_cases hin : -100000 ≤ fl[k] ∧ fl[k] ≤ 100000
      · have hi := inB_true hin.1 hin.2
        have HR := Lib.hid hin
        clear hin
        go_wp2_with (go_at_call 57; refine (l03Flow_any _ _).mono ?_; rintro e w' ⟨rfl, rfl⟩)
        go_round
        case rel => exact ⟨k + 1, by omega, Lib.hid (fun j h hj => by
          rcases Nat.lt_or_ge j k with q | q
          · exact HA.out j h q
          · obtain rfl : j = k := by omega
            exact HR.out), by go_num⟩
        case measure => simp [intOf]; omega
      · have hi := inB_false hin
        have HR := Lib.hid (show flOk (-100000) 100000 n fl = false by
          rw [← Bool.not_eq_true, flOk_iff]
          exact fun hh => hin (hh.2 _ (List.getElem_mem hlt)))
        clear hin
        go_wp2_with (go_at_call 57; refine (l03Flow_any _ _).mono ?_; rintro e w' ⟨rfl, rfl⟩)
        go_ret
        exact ⟨ret_bool HR.out.symm, rfl⟩
    · obtain rfl : k = fl.length := by omega
      have HR := Lib.hid (show flOk (-100000) 100000 n fl = decide (fl.length = n) by
        unfold flOk
        rw [allR_iff.2 (fun y hy => by obtain ⟨j, h, rfl⟩ := List.mem_iff_getElem.1 hy; exact HA.out j h h), Bool.and_true])
      by_cases he : fl.length = n
      · have t0 : (fl.length : Int) = (n : Int) := by omega
        have HR2 := Lib.hid (show flOk (-100000) 100000 n fl = true by rw [HR.out, decide_eq_true he])
        have t1 : ((fl.length : Int) == (n : Int)) = true := by simp [he]
        clear he
        go_wp2
        go_ret
        exact ⟨ret_bool (by rw [HR2.out]), rfl⟩
      · have t0 : ¬ (fl.length : Int) = (n : Int) := by omega
        have HR2 := Lib.hid (show flOk (-100000) 100000 n fl = false by rw [HR.out, decide_eq_false he])
        have t1 : ((fl.length : Int) == (n : Int)) = false := by simp; omega
        clear he
        go_wp2
        go_ret
        exact ⟨ret_bool (by rw [HR2.out]), rfl⟩
set_option maxHeartbeats 1000000 in
theorem l07Excess_any (b cap : Nat) (A : Option Addr) (xs : List Aw) (v : Value) (fl : List Int) (j : Int) (w : World) (hA : w.cell? ⟨b, 1, none⟩ = some (.slice A xs.length cap)) (hr : AwR w A xs) (hv : RowW .i64 w v fl)
    (hfl : ∀ y ∈ fl, -100000 ≤ y ∧ y ≤ 100000) (hle : fl.length = xs.length) (hn : xs.length ≤ 24) :
    Calls Try.prog 87 #[.pointer (some ⟨b, 0, none⟩), v, .int .i64 j] w fun e w' => e = .returned (.int .i64 (exc xs fl j xs.length)) ∧ w = w' := by
  obtain ⟨F, fcap, rfl, _⟩ := id hv
  have HV := Lib.hid hv
  have HR := Lib.hid hr
  have HF := Lib.hid hfl
  have HA := Lib.hid hA
  clear hv hr hfl hA
  go_enter Try.func87, Try.ntmps87
  go_wp2
  go_loop [7, 8] (fun t i => ∃ k : Nat, k ≤ xs.length ∧ i = .int .i64 k ∧ t = .int .i64 (exc xs fl j k)) (fun _ i => xs.length - (intOf i).toNat)
  case atStart => exact ⟨0, by omega, rfl, rfl⟩
  case round =>
    obtain ⟨k, hk, rfl, rfl⟩ := hrel
    have hm := HA.out
    by_cases hlt : k < xs.length
    · obtain ⟨fb, fo, rfl, -, hc⟩ := RowW.cell HV.out (show k < fl.length by omega)
      have hlf : k < fl.length := by omega
      obtain ⟨g, off, rfl, hrg⟩ := HR.out k hlt
      obtain ⟨⟨c0, c1, c2, c3⟩, c4, c5, c6⟩ := lay_row hrg
      obtain ⟨b1, b2⟩ := exc_bd (xs := xs) (j := j) HF.out k
      obtain ⟨b3, b4⟩ := HF.out _ (List.getElem_mem hlf)
      have HS := Lib.hid (show exc xs fl j (k + 1) = exc xs fl j k + (if xs[k].t = j then fl[k] else 0) - (if xs[k].f = j then fl[k] else 0) by
        rw [exc, getD_of_lt hlt, show fl.getD k 0 = fl[k] by simp [List.getD, hlf]])
      rw [show fl.getD k 0 = fl[k] by simp [List.getD, hlf]] at hc
      generalize exc xs fl j k = s at *
      generalize xs[k] = a at *
      obtain ⟨sa, f, t, l, se, fr, sh⟩ := a
      dsimp only at c0 c1 c2 c3 c4 c5 c6 HS
      generalize fl[k] = z at *
      clear hrg
      by_cases e1 : t = j
      · by_cases e2 : f = j
        · have HS2 := HS.out
          rw [if_pos e1, if_pos e2] at HS2
          have HS3 := Lib.hid HS2
          clear HS HS2
          go_wp2
          go_round
          case rel => exact ⟨k + 1, by omega, by go_num, by rw [HS3.out]; first | done | rfl | (congr 1; omega)⟩
          case measure => simp [intOf]; omega
        · have HS2 := HS.out
          rw [if_pos e1, if_neg e2, Int.sub_zero] at HS2
          have HS3 := Lib.hid HS2
          clear HS HS2
          go_wp2
          go_round
          case rel => exact ⟨k + 1, by omega, by go_num, by rw [HS3.out]; first | done | rfl | (congr 1; omega)⟩
          case measure => simp [intOf]; omega
      · by_cases e2 : f = j
        · have HS2 := HS.out
          rw [if_neg e1, if_pos e2, Int.add_zero] at HS2
          have HS3 := Lib.hid HS2
          clear HS HS2
          go_wp2
          go_round
          case rel => exact ⟨k + 1, by omega, by go_num, by rw [HS3.out]; first | done | rfl | (congr 1; omega)⟩
          case measure => simp [intOf]; omega
        · have HS2 := HS.out
          rw [if_neg e1, if_neg e2, Int.sub_zero, Int.add_zero] at HS2
          have HS3 := Lib.hid HS2
          clear HS HS2
          go_wp2
          go_round
          case rel => exact ⟨k + 1, by omega, by go_num, by rw [HS3.out]; first | done | rfl | (congr 1; omega)⟩
          case measure => simp [intOf]; omega
    · obtain rfl : k = xs.length := by omega
      go_wp2
      go_ret
      exact ⟨rfl, rfl⟩
theorem l07Balanced_any (b cap : Nat) (J : Int) (A : Option Addr) (xs : List Aw) (v : Value) (fl : List Int) (w : World) (hJ : w.cell? ⟨b, 0, none⟩ = some (.int .i64 J)) (hA : w.cell? ⟨b, 1, none⟩ = some (.slice A xs.length cap)) (hr : AwR w A xs) (hv : RowW .i64 w v fl)
    (hfl : ∀ y ∈ fl, -100000 ≤ y ∧ y ≤ 100000) (hle : fl.length = xs.length) (hn : xs.length ≤ 24) (hj : 1 ≤ J ∧ J ≤ 16) :
    Calls Try.prog 83 #[.pointer (some ⟨b, 0, none⟩), v] w fun e w' => e = .returned (.bool (balR J xs fl)) ∧ w = w' := by
  have HX := Lib.hid (fun j => l07Excess_any b cap A xs v fl j w hA hr hv hfl hle hn)
  clear hA hr hv hfl
  go_enter Try.func83, Try.ntmps83
  go_wp2
  go_loop [5] (fun i => ∃ k : Nat, (k : Int) ≤ J ∧ i = .int .i64 k ∧ Hid (∀ j : Nat, j < k → exc xs fl j xs.length = 0)) (fun i => J.toNat - (intOf i).toNat)
  case atStart => exact ⟨0, by omega, rfl, Lib.hid (fun j h => absurd h (by omega))⟩
  case round =>
    obtain ⟨k, hk, rfl, HA⟩ := hrel
    by_cases hlt : (k : Int) < J
    · have HXk := Lib.hid (HX.out k)
      by_cases hz : exc xs fl k xs.length = 0
      · rw [hz] at HXk
        have HZ := Lib.hid hz
        clear hz
        go_wp2_with (go_at_call 87; refine HXk.out.mono ?_; rintro e w' ⟨rfl, rfl⟩)
        go_round
        case rel => exact ⟨k + 1, by omega, by go_num, Lib.hid (fun j h => by
          rcases Nat.lt_or_ge j k with q | q
          · exact HA.out j q
          · obtain rfl : j = k := by omega
            exact HZ.out)⟩
        case measure => simp [intOf]; omega
      · have HE := Lib.hid (show balR J xs fl = false by
          rw [← Bool.not_eq_true, balR_iff]
          exact fun hh => hz (hh k hlt))
        generalize exc xs fl k xs.length = z at *
        have t1 : decide (z = 0) = false := decide_eq_false hz
        go_wp2_with (go_at_call 87; refine HXk.out.mono ?_; rintro e w' ⟨rfl, rfl⟩)
        go_ret
        exact ⟨ret_bool HE.out.symm, rfl⟩
    · have HE := Lib.hid (show balR J xs fl = true by
        rw [balR_iff]
        exact fun j h => HA.out j (by omega))
      go_wp2
      go_ret
      exact ⟨ret_bool HE.out.symm, rfl⟩
theorem hasOneEach_any (J lo hi : Int) (A : Option Addr) (n cap : Nat) (v : Value) (fl : List Int) (w : World) (hv : Row .i64 w v fl) (hl : fl.length ≤ 4000000000000000000) (hn : n ≤ 1048576) :
    Calls Try.prog 111 #[.agg #[.int .i64 J, .slice A n cap], .int .i64 lo, .int .i64 hi, v] w fun e w' => e = .returned (.bool (flOk lo hi n fl)) ∧ Below w.heap.size w w' := by
  obtain ⟨F, fcap, rfl⟩ := hv.form
  have HB0 := Lib.hid (below_box w (.cells #[.int .i64 J, .slice A n cap] 44))
  have HV := Lib.hid (hv.below HB0.out)
  clear hv
  by_cases he : fl.length = n
  · have t0 : (fl.length : Int) = (n : Int) := by omega
    have HE := Lib.hid (show flOk lo hi n fl = allR lo hi fl by unfold flOk; rw [decide_eq_true he, Bool.true_and])
    clear he
    go_enter Try.func111, Try.ntmps111
    go_wp2_with (go_at_call 92; refine (within64_any _ _ _ fl _ HV.out hl).mono ?_; rintro e w' ⟨rfl, rfl⟩)
    go_ret
    exact ⟨ret_bool HE.out.symm, HB0.out⟩
  · have t0 : ¬ (fl.length : Int) = (n : Int) := by omega
    have HE := Lib.hid (show flOk lo hi n fl = false by unfold flOk; rw [decide_eq_false he, Bool.false_and])
    clear he
    go_enter Try.func111, Try.ntmps111
    go_wp2
    go_ret
    exact ⟨ret_bool HE.out.symm, HB0.out⟩
theorem areFlows_any (J : Int) (A : Option Addr) (n cap : Nat) (v : Value) (fl : List Int) (w : World) (hv : Row .i64 w v fl) (hl : fl.length ≤ 4000000000000000000) (hn : n ≤ 1048576) :
    Calls Try.prog 84 #[.agg #[.int .i64 J, .slice A n cap], v] w fun e w' => e = .returned (.bool (flOk (-100000) 100000 n fl)) ∧ Below w.heap.size w w' := by
  obtain ⟨F, fcap, rfl⟩ := hv.form
  have HB0 := Lib.hid (below_box w (.cells #[.int .i64 J, .slice A n cap] 44))
  have HV := Lib.hid (hv.below HB0.out)
  clear hv
  go_enter Try.func84, Try.ntmps84
  go_wp2_with (go_at_call 111; refine (hasOneEach_any J _ _ A n cap _ fl _ HV.out hl hn).mono ?_; rintro e w1 ⟨rfl, hb1⟩)
  go_ret
  exact ⟨rfl, HB0.out.trans (hb1.mono (by simp))⟩
set_option maxHeartbeats 2000000 in
set_option maxRecDepth 100000 in
theorem imbalances_any (J : Int) (A : Option Addr) (cap : Nat) (xs : List Aw) (v : Value) (fl : List Int) (w : World) (hr : AwR w A xs) (hv : Row .i64 w v fl)
    (hfl : ∀ y ∈ fl, -100000 ≤ y ∧ y ≤ 100000) (hle : fl.length = xs.length) (hok : mineOk J xs = true) :
    Calls Try.prog 89 #[.agg #[.int .i64 J, .slice A xs.length cap], v] w fun e w' => ∃ u, e = .returned u ∧ OwnI w' w.heap.size u (imbL xs fl J.toNat xs.length) ∧ Below w.heap.size w w' := by
  obtain ⟨hj, -, hn⟩ := mineOk_iff.1 hok
  obtain ⟨Jn, rfl⟩ : ∃ Jn : Nat, J = Jn := ⟨J.toNat, by omega⟩
  obtain ⟨F, fcap, rfl⟩ := hv.form
  have HOK := Lib.hid hok
  have HFL := Lib.hid hfl
  have HB0 := Lib.hid (below_box w (.cells #[.int .i64 (Jn : Int), .slice A xs.length cap] 44))
  have HR := Lib.hid (hr.below HB0.out)
  have HV := Lib.hid (hv.below HB0.out)
  have HC := Lib.hid (show (w.alloc (.cells #[.int .i64 (Jn : Int), .slice A xs.length cap] 44)).cell? ⟨w.heap.size, 0, none⟩ = some (.int .i64 (Jn : Int)) ∧ (w.alloc (.cells #[.int .i64 (Jn : Int), .slice A xs.length cap] 44)).cell? ⟨w.heap.size, 1, none⟩ = some (.slice A xs.length cap) from ⟨by simp, by simp⟩)
  have hsz : w.heap.size < (w.alloc (.cells #[.int .i64 (Jn : Int), .slice A xs.length cap] 44)).heap.size := by simp
  have hmk := run_make_row' (P := Try.prog) 22 2 (.int .i64 0) 8 Try.underlying22 info_i64 rfl .i64 .i64 Jn (by omega) (by omega)
  clear hr hv hok hfl
  go_enter Try.func89, Try.ntmps89
  go_wp2_with fail
  clear hmk
  have hWC : (w.alloc (.cells #[.int .i64 (Jn : Int), .slice A xs.length cap] 44)).heap.size = w.heap.size + 1 := by simp
  generalize w.alloc (.cells #[.int .i64 (Jn : Int), .slice A xs.length cap] 44) = WC at *
  go_loopw [14] (fun i wr => ∃ k : Nat, k ≤ xs.length ∧ i = .int .i64 k ∧ wr.ownsRow w.heap.size 2 1 (.slice (some ⟨w.heap.size + 1, 0, none⟩) Jn Jn) Jn (intsV (imbL xs fl Jn k)) ∧ Below WC.heap.size WC wr) (fun i wr => xs.length - (intOf i).toNat)
  case atStart =>
    refine ⟨0, by omega, rfl, ?_, (Below.refl _ _).alloc (Nat.le_refl _) _⟩
    have h := World.ownsRow_lit (base := w.heap.size) (e := 2) (size := 1) WC (madeCells #[.int .i64 0] Jn) Jn (by omega) (by unfold maxLen; omega) (by simp [madeCells])
    have e : (madeCells #[.int .i64 0] Jn).toList = intsV (imbL xs fl Jn 0) := by
      have e2 : imbL xs fl Jn 0 = List.replicate Jn 0 := by
        apply List.ext_getElem (by simp [imbL])
        intro j h1 h2
        simp [imbL, exc]
      rw [e2]
      simp [madeCells, intsV, Nat.mod_one, List.map_const']
    rw [e, hWC] at h
    exact h
  case round =>
    obtain ⟨k, hk, rfl, hown, hbel⟩ := hrel
    have hwz := hbel.size
    by_cases hlt : k < xs.length
    · have hlf : k < fl.length := by omega
      obtain ⟨fb, fo, rfl, -, hcf⟩ := Row.cell (HV.out.below hbel) hlf
      have hfb : fb < WC.heap.size := by
        obtain ⟨fb', fo', e', -, hc'⟩ := Row.cell HV.out hlf
        injection e' with e'
        injection e' with e1 e2
        subst e1
        exact World.block_lt_of_cell? _ _ hc'
      rw [show fl.getD k 0 = fl[k] by simp [List.getD, hlf]] at hcf
      obtain ⟨g, off, rfl, hrg⟩ := HR.out.below hbel k hlt
      obtain ⟨⟨c0, c1, c2, c3⟩, c4, c5, c6⟩ := lay_row hrg
      have hen := ends_in HOK.out hlt
      have HGD := Lib.hid (And.intro (getD_of_lt hlt) (show fl.getD k 0 = fl[k] by simp [List.getD, hlf]))
      obtain ⟨b3, b4⟩ := HFL.out _ (List.getElem_mem hlf)
      generalize xs[k] = a at *
      obtain ⟨sa, f, t, l, se, fr, sh⟩ := a
      dsimp only at c0 c1 c2 c3 c4 c5 c6 hen
      generalize fl[k] = z at *
      clear hrg
      obtain ⟨fn, rfl⟩ : ∃ fn : Nat, f = fn := ⟨f.toNat, by omega⟩
      obtain ⟨tn, rfl⟩ : ∃ tn : Nat, t = tn := ⟨t.toNat, by omega⟩
      have hf1 : fn < Jn := by omega
      have ht1 : tn < Jn := by omega
      have hne : tn ≠ fn := by omega
      have HPUT := Lib.hid (imb_put (J := Jn) (xs := xs) (fl := fl) (k := k) (tn := tn) (fn := fn) (z := z) (by rw [HGD.out.1]) (by rw [HGD.out.1]) HGD.out.2 hne ht1 hf1)
      have d1 : wr.cell? ⟨w.heap.size + 1, tn, none⟩ = some (.int .i64 (exc xs fl tn k)) := by rw [hown.cellAt tn (by omega), imb_at ht1]
      have d2 : wr.cell? ⟨w.heap.size + 1, fn, none⟩ = some (.int .i64 (exc xs fl fn k)) := by rw [hown.cellAt fn (by omega), imb_at hf1]
      have d3 := hown.frozenAt tn
      have d4 := hown.frozenAt fn
      obtain ⟨b5, b6⟩ := exc_bd (xs := xs) (j := (tn : Int)) HFL.out k
      obtain ⟨b7, b8⟩ := exc_bd (xs := xs) (j := (fn : Int)) HFL.out k
      have hs1 : w.heap.size + 1 < wr.heap.size := World.block_lt_of_cell? _ _ d1
      generalize exc xs fl tn k = p at *
      generalize exc xs fl fn k = q at *
      have HO := Lib.hid hown
      have HBL := Lib.hid hbel
      clear hown hbel
      go_wp2_with fail
      have q0 : (wr.alloc (.cells #[.string sa, .int .i64 (fn : Int), .int .i64 (tn : Int), .int .i64 l, .int .i64 se, .int .i64 fr, .int .i64 sh] 67)).cell? ⟨wr.heap.size, 2, none⟩ = some (.int .i64 (tn : Int)) := by simp
      have q1 : (wr.alloc (.cells #[.string sa, .int .i64 (fn : Int), .int .i64 (tn : Int), .int .i64 l, .int .i64 se, .int .i64 fr, .int .i64 sh] 67)).cell? ⟨wr.heap.size, 1, none⟩ = some (.int .i64 (fn : Int)) := by simp
      have HBA := below_box wr (.cells #[.string sa, .int .i64 (fn : Int), .int .i64 (tn : Int), .int .i64 l, .int .i64 se, .int .i64 fr, .int .i64 sh] 67)
      have hsa : (wr.alloc (.cells #[.string sa, .int .i64 (fn : Int), .int .i64 (tn : Int), .int .i64 l, .int .i64 se, .int .i64 fr, .int .i64 sh] 67)).heap.size = wr.heap.size + 1 := by simp
      have q2 := (HBA.cell (World.block_lt_of_cell? _ _ d1)).trans d1
      have q3 := (HBA.cell (World.block_lt_of_cell? _ _ d2)).trans d2
      have q4 := (HBA.cell (World.block_lt_of_cell? _ _ hcf)).trans hcf
      have q5 := (HBA.frozen (World.block_lt_of_cell? _ _ d1)).trans d3
      have q6 := (HBA.frozen (World.block_lt_of_cell? _ _ d2)).trans d4
      have HO1 := Lib.hid (own_below HO.out HBA)
      have HB1 := Lib.hid (HBL.out.alloc HBL.out.size (.cells #[.string sa, .int .i64 (fn : Int), .int .i64 (tn : Int), .int .i64 l, .int .i64 se, .int .i64 fr, .int .i64 sh] 67))
      have hne1 : w.heap.size + 1 ≠ wr.heap.size := by omega
      have hne2 : w.heap.size + 1 ≠ fb := by omega
      generalize wr.heap.size = m at *
      generalize wr.alloc (.cells #[.string sa, .int .i64 (fn : Int), .int .i64 (tn : Int), .int .i64 l, .int .i64 se, .int .i64 fr, .int .i64 sh] 67) = W1 at *
      clear d1 d2 d3 d4 c0 c1 c2 c3 c4 c5 c6 HBA HO HBL
      have t0 : (tn : Int) < (Jn : Int) := by omega
      have t1 : (fn : Int) < (Jn : Int) := by omega
      have t2 : (k : Int) < (fl.length : Int) := by omega
      go_region
      have r1 : (W1.setCell ⟨w.heap.size + 1, tn, none⟩ (.int .i64 (p + z))).drew.cell? ⟨m, 1, none⟩ = some (.int .i64 (fn : Int)) := (World.cell?_setCell_other _ _ _ _ (fun e => hne1 (by injection e))).trans q1
      have r3 : (W1.setCell ⟨w.heap.size + 1, tn, none⟩ (.int .i64 (p + z))).drew.cell? ⟨w.heap.size + 1, fn, none⟩ = some (.int .i64 q) := (World.cell?_setCell_other _ _ _ _ (fun e => hne (by injection e))).trans q3
      have r4 : (W1.setCell ⟨w.heap.size + 1, tn, none⟩ (.int .i64 (p + z))).drew.cell? ⟨fb, fo + k, none⟩ = some (.int .i64 z) := (World.cell?_setCell_other _ _ _ _ (fun e => hne2 (by injection e))).trans q4
      have r6 : (W1.setCell ⟨w.heap.size + 1, tn, none⟩ (.int .i64 (p + z))).drew.frozen? ⟨w.heap.size + 1, fn, none⟩ = false := (World.frozen?_setCell _ _ _ _).trans q6
      have HO2 := Lib.hid (show (W1.setCell ⟨w.heap.size + 1, tn, none⟩ (.int .i64 (p + z))).drew.ownsRow w.heap.size 2 1 (.slice (some ⟨w.heap.size + 1, 0, none⟩) Jn Jn) Jn ((intsV (imbL xs fl Jn k)).set tn (.int .i64 (p + z))) from (HO1.out.stored tn (.int .i64 (p + z))).1)
      have HB2 := Lib.hid (show Below WC.heap.size WC (W1.setCell ⟨w.heap.size + 1, tn, none⟩ (.int .i64 (p + z))).drew from Below.drew (HB1.out.setCell (by show WC.heap.size ≤ w.heap.size + 1; omega) _))
      generalize (W1.setCell ⟨w.heap.size + 1, tn, none⟩ (.int .i64 (p + z))).drew = W2 at *
      clear q0 q1 q2 q3 q4 q5 q6 HO1 HB1
      go_wp2
      go_region
      go_wp2
      go_roundw
      case rel =>
        refine ⟨k + 1, by omega, by go_num, ?_, Below.drew (HB2.out.setCell (by show WC.heap.size ≤ w.heap.size + 1; omega) _)⟩
        have h := (HO2.out.stored fn (.int .i64 (q - z))).1
        rw [HPUT.out] at h
        exact h
      case measure => simp [intOf]; omega
    · obtain rfl : k = xs.length := by omega
      go_wp2
      go_ret
      exact ⟨_, rfl, by unfold OwnI; rw [imbL_len]; exact hown, HB0.out.trans (hbel.mono (by omega))⟩
theorem row_ownI {w : World} {B : Nat} {v : Value} {xs : List Int} (h : OwnI w B v xs) : Row .i64 w v xs := by
  have h' := h
  unfold OwnI at h'
  rcases h.2 with ⟨rfl, h0⟩ | ⟨g, cap, cur, rfl, -⟩
  · exact .inl ⟨List.eq_nil_of_length_eq_zero h0, rfl⟩
  · exact Row.of_own h'
theorem isBalanced_any (J : Int) (A : Option Addr) (cap : Nat) (xs : List Aw) (v : Value) (fl : List Int) (w : World) (hr : AwR w A xs) (hv : Row .i64 w v fl)
    (hfl : ∀ y ∈ fl, -100000 ≤ y ∧ y ≤ 100000) (hle : fl.length = xs.length) (hok : mineOk J xs = true) :
    Calls Try.prog 85 #[.agg #[.int .i64 J, .slice A xs.length cap], v] w fun e w' => e = .returned (.bool (balR J xs fl)) ∧ Below w.heap.size w w' := by
  obtain ⟨F, fcap, rfl⟩ := hv.form
  have HB0 := Lib.hid (below_box w (.cells #[.int .i64 J, .slice A xs.length cap] 44))
  have HX := Lib.hid (imbalances_any J A cap xs (.slice F fl.length fcap) fl (w.alloc (.cells #[.int .i64 J, .slice A xs.length cap] 44)) (hr.below HB0.out) (hv.below HB0.out) hfl hle hok)
  have hJ := (mineOk_iff.1 hok).1
  have HE := Lib.hid (And.intro (show balR J xs fl = allR 0 0 (imbL xs fl J.toNat xs.length) from rfl) (show (imbL xs fl J.toNat xs.length).length ≤ 4000000000000000000 by rw [imbL_len]; exact Nat.le_trans (show J.toNat ≤ 16 by omega) (by decide)))
  clear hr hv hfl hok hle
  go_enter Try.func85, Try.ntmps85
  go_wp2_with (first
    | (go_at_call 89; with_reducible refine HX.out.mono ?_; rintro e w1 ⟨u, rfl, ho, hb⟩; have HO := Lib.hid (row_ownI ho); have HB := Lib.hid hb; clear ho hb)
    | (go_at_call 92; refine (within64_any _ _ _ (imbL xs fl J.toNat xs.length) _ (show Row .i64 w1 u (imbL xs fl J.toNat xs.length) from HO.out) HE.out.2).mono ?_; rintro e w' ⟨rfl, rfl⟩))
  go_ret
  exact ⟨ret_bool HE.out.1.symm, HB0.out.trans (HB.out.mono (by simp))⟩
/-- What IsBalanced and ImbalanceAt return. -/
def ibR (J : Int) (xs : List Aw) (fl : List Int) : Bool := mineOk J xs && flOk (-100000) 100000 xs.length fl && balR J xs fl
def imOk (J : Int) (xs : List Aw) (fl : List Int) (j : Int) : Int := if mineOk J xs then (if inB j 0 (J - 1) then (if flOk (-100000) 100000 xs.length fl then 0 else 7) else 2) else 1
def imA (J : Int) (xs : List Aw) (fl : List Int) (j : Int) : Int := if imOk J xs fl j = 0 then exc xs fl j xs.length else 0
theorem ret_im {a b c d : Int} (h : a = c) (k : b = d) : Ending.returned (.tuple #[.int .i64 a, .int .i64 b]) = .returned (.tuple #[.int .i64 c, .int .i64 d]) := by rw [h, k]
set_option maxHeartbeats 1000000 in
theorem sIsBalanced_any (J : Int) (A : Option Addr) (cap : Nat) (xs : List Aw) (v : Value) (fl : List Int) (w : World) (hr : AwR w A xs) (hs : ∀ a ∈ xs, a.s.size ≤ maxLen) (hl : xs.length ≤ 1048576) (hv : Row .i64 w v fl) (hfl : fl.length ≤ 1048576) :
    Calls Try.prog 41 #[.agg #[.int .i64 J, .slice A xs.length cap], v] w fun e w' => e = .returned (.bool (ibR J xs fl)) ∧ Below w.heap.size w w' := by
  obtain ⟨F, fcap, rfl⟩ := hv.form
  have HB0 := Lib.hid (below_box w (.cells #[.int .i64 J, .slice A xs.length cap] 44))
  have HOKC := Lib.hid (l04Ok_any w.heap.size J A cap xs (w.alloc (.cells #[.int .i64 J, .slice A xs.length cap] 44)) (by simp) (by simp) (hr.below HB0.out) hs hl)
  have HK := Lib.hid (show (w.alloc (.cells #[.int .i64 J, .slice A xs.length cap] 44)).cell? ⟨w.heap.size, 0, none⟩ = some (.int .i64 J) ∧ (w.alloc (.cells #[.int .i64 J, .slice A xs.length cap] 44)).cell? ⟨w.heap.size, 1, none⟩ = some (.slice A xs.length cap) ∧ AwR (w.alloc (.cells #[.int .i64 J, .slice A xs.length cap] 44)) A xs ∧ Row .i64 (w.alloc (.cells #[.int .i64 J, .slice A xs.length cap] 44)) (.slice F fl.length fcap) fl from ⟨by simp, by simp, hr.below HB0.out, hv.below HB0.out⟩)
  clear hr hv hs
  cases hok : mineOk J xs
  · have HE := Lib.hid (show ibR J xs fl = false by simp [ibR, hok])
    go_enter Try.func41, Try.ntmps41
    go_wp2_with fail
    (with_reducible refine (HOKC.out).mono ?_)
    rintro e w1 ⟨rfl, n, rfl⟩
    rw [hok]
    have HK1 := Lib.hid (show ((w.alloc (.cells #[.int .i64 J, .slice A xs.length cap] 44)).drewN n).cell? ⟨w.heap.size, 0, none⟩ = some (.int .i64 J) ∧ ((w.alloc (.cells #[.int .i64 J, .slice A xs.length cap] 44)).drewN n).cell? ⟨w.heap.size, 1, none⟩ = some (.slice A xs.length cap) ∧ AwR ((w.alloc (.cells #[.int .i64 J, .slice A xs.length cap] 44)).drewN n) A xs ∧ Row .i64 ((w.alloc (.cells #[.int .i64 J, .slice A xs.length cap] 44)).drewN n) (.slice F fl.length fcap) fl from HK.out)
    have HB1 := Lib.hid (show Below w.heap.size w ((w.alloc (.cells #[.int .i64 J, .slice A xs.length cap] 44)).drewN n) from below_drewN' HB0.out n)
    generalize (w.alloc (.cells #[.int .i64 J, .slice A xs.length cap] 44)).drewN n = W1 at *
    go_wp2
    go_ret
    exact ⟨ret_bool HE.out.symm, HB1.out⟩
  · obtain ⟨hj, -, h24⟩ := mineOk_iff.1 hok
    cases hf : flOk (-100000) 100000 xs.length fl
    · have HE := Lib.hid (show ibR J xs fl = false by simp [ibR, hf])
      go_enter Try.func41, Try.ntmps41
      go_wp2_with fail
      (with_reducible refine (HOKC.out).mono ?_)
      rintro e w1 ⟨rfl, n, rfl⟩
      rw [hok]
      have HK1 := Lib.hid (show ((w.alloc (.cells #[.int .i64 J, .slice A xs.length cap] 44)).drewN n).cell? ⟨w.heap.size, 0, none⟩ = some (.int .i64 J) ∧ ((w.alloc (.cells #[.int .i64 J, .slice A xs.length cap] 44)).drewN n).cell? ⟨w.heap.size, 1, none⟩ = some (.slice A xs.length cap) ∧ AwR ((w.alloc (.cells #[.int .i64 J, .slice A xs.length cap] 44)).drewN n) A xs ∧ Row .i64 ((w.alloc (.cells #[.int .i64 J, .slice A xs.length cap] 44)).drewN n) (.slice F fl.length fcap) fl from HK.out)
      have HB1 := Lib.hid (show Below w.heap.size w ((w.alloc (.cells #[.int .i64 J, .slice A xs.length cap] 44)).drewN n) from below_drewN' HB0.out n)
      generalize (w.alloc (.cells #[.int .i64 J, .slice A xs.length cap] 44)).drewN n = W1 at *
      go_wp2_with (first
        | (go_at_call 82; refine (l07Flows_any w.heap.size xs.length cap A _ fl _ HK1.out.2.1 (RowW.of_row HK1.out.2.2.2) (by omega) (by omega)).mono ?_; rintro e w' ⟨rfl, rfl⟩; rw [hf])
      )
      go_ret
      exact ⟨ret_bool HE.out.symm, HB1.out⟩
    · have HE := Lib.hid (show ibR J xs fl = balR J xs fl by simp [ibR, hok, hf])
      have HF := Lib.hid (flOk_iff.1 hf)
      go_enter Try.func41, Try.ntmps41
      go_wp2_with fail
      (with_reducible refine (HOKC.out).mono ?_)
      rintro e w1 ⟨rfl, n, rfl⟩
      rw [hok]
      have HK1 := Lib.hid (show ((w.alloc (.cells #[.int .i64 J, .slice A xs.length cap] 44)).drewN n).cell? ⟨w.heap.size, 0, none⟩ = some (.int .i64 J) ∧ ((w.alloc (.cells #[.int .i64 J, .slice A xs.length cap] 44)).drewN n).cell? ⟨w.heap.size, 1, none⟩ = some (.slice A xs.length cap) ∧ AwR ((w.alloc (.cells #[.int .i64 J, .slice A xs.length cap] 44)).drewN n) A xs ∧ Row .i64 ((w.alloc (.cells #[.int .i64 J, .slice A xs.length cap] 44)).drewN n) (.slice F fl.length fcap) fl from HK.out)
      have HB1 := Lib.hid (show Below w.heap.size w ((w.alloc (.cells #[.int .i64 J, .slice A xs.length cap] 44)).drewN n) from below_drewN' HB0.out n)
      generalize (w.alloc (.cells #[.int .i64 J, .slice A xs.length cap] 44)).drewN n = W1 at *
      go_wp2_with (first
        | (go_at_call 82; refine (l07Flows_any w.heap.size xs.length cap A _ fl _ HK1.out.2.1 (RowW.of_row HK1.out.2.2.2) (by omega) (by omega)).mono ?_; rintro e w' ⟨rfl, rfl⟩; rw [hf])
        | (go_at_call 83; refine (l07Balanced_any w.heap.size cap J A xs _ fl _ HK1.out.1 HK1.out.2.1 HK1.out.2.2.1 (RowW.of_row HK1.out.2.2.2) HF.out.2 HF.out.1 h24 hj).mono ?_; rintro e w' ⟨rfl, rfl⟩)
      )
      go_ret
      exact ⟨ret_bool HE.out.symm, HB1.out⟩
set_option maxHeartbeats 1000000 in
theorem sImbalanceAt_any (J : Int) (A : Option Addr) (cap : Nat) (xs : List Aw) (v : Value) (fl : List Int) (j : Int) (w : World) (hr : AwR w A xs) (hs : ∀ a ∈ xs, a.s.size ≤ maxLen) (hl : xs.length ≤ 1048576) (hv : Row .i64 w v fl) (hfl : fl.length ≤ 1048576) :
    Calls Try.prog 43 #[.agg #[.int .i64 J, .slice A xs.length cap], v, .int .i64 j] w fun e w' => e = .returned (.tuple #[.int .i64 (imA J xs fl j), .int .i64 (imOk J xs fl j)]) ∧ Below w.heap.size w w' := by
  obtain ⟨F, fcap, rfl⟩ := hv.form
  have HB0 := Lib.hid (below_box w (.cells #[.int .i64 J, .slice A xs.length cap] 44))
  have HOKC := Lib.hid (l04Ok_any w.heap.size J A cap xs (w.alloc (.cells #[.int .i64 J, .slice A xs.length cap] 44)) (by simp) (by simp) (hr.below HB0.out) hs hl)
  have HK := Lib.hid (show (w.alloc (.cells #[.int .i64 J, .slice A xs.length cap] 44)).cell? ⟨w.heap.size, 0, none⟩ = some (.int .i64 J) ∧ (w.alloc (.cells #[.int .i64 J, .slice A xs.length cap] 44)).cell? ⟨w.heap.size, 1, none⟩ = some (.slice A xs.length cap) ∧ AwR (w.alloc (.cells #[.int .i64 J, .slice A xs.length cap] 44)) A xs ∧ Row .i64 (w.alloc (.cells #[.int .i64 J, .slice A xs.length cap] 44)) (.slice F fl.length fcap) fl from ⟨by simp, by simp, hr.below HB0.out, hv.below HB0.out⟩)
  clear hr hv hs
  cases hok : mineOk J xs
  · have HE := Lib.hid (show imA J xs fl j = 0 ∧ imOk J xs fl j = 1 by simp [imA, imOk, hok])
    go_enter Try.func43, Try.ntmps43
    go_wp2_with fail
    (with_reducible refine (HOKC.out).mono ?_)
    rintro e w1 ⟨rfl, n, rfl⟩
    rw [hok]
    have HK1 := Lib.hid (show ((w.alloc (.cells #[.int .i64 J, .slice A xs.length cap] 44)).drewN n).cell? ⟨w.heap.size, 0, none⟩ = some (.int .i64 J) ∧ ((w.alloc (.cells #[.int .i64 J, .slice A xs.length cap] 44)).drewN n).cell? ⟨w.heap.size, 1, none⟩ = some (.slice A xs.length cap) ∧ AwR ((w.alloc (.cells #[.int .i64 J, .slice A xs.length cap] 44)).drewN n) A xs ∧ Row .i64 ((w.alloc (.cells #[.int .i64 J, .slice A xs.length cap] 44)).drewN n) (.slice F fl.length fcap) fl from HK.out)
    have HB1 := Lib.hid (show Below w.heap.size w ((w.alloc (.cells #[.int .i64 J, .slice A xs.length cap] 44)).drewN n) from below_drewN' HB0.out n)
    generalize (w.alloc (.cells #[.int .i64 J, .slice A xs.length cap] 44)).drewN n = W1 at *
    go_wp2
    go_ret2
    exact ⟨ret_im HE.out.1.symm HE.out.2.symm, HB1.out⟩
  · obtain ⟨hj, -, h24⟩ := mineOk_iff.1 hok
    cases hx : inB j 0 (J - 1)
    · have HE := Lib.hid (show imA J xs fl j = 0 ∧ imOk J xs fl j = 2 by simp [imA, imOk, hok, hx])
      go_enter Try.func43, Try.ntmps43
      go_wp2_with fail
      (with_reducible refine (HOKC.out).mono ?_)
      rintro e w1 ⟨rfl, n, rfl⟩
      rw [hok]
      have HK1 := Lib.hid (show ((w.alloc (.cells #[.int .i64 J, .slice A xs.length cap] 44)).drewN n).cell? ⟨w.heap.size, 0, none⟩ = some (.int .i64 J) ∧ ((w.alloc (.cells #[.int .i64 J, .slice A xs.length cap] 44)).drewN n).cell? ⟨w.heap.size, 1, none⟩ = some (.slice A xs.length cap) ∧ AwR ((w.alloc (.cells #[.int .i64 J, .slice A xs.length cap] 44)).drewN n) A xs ∧ Row .i64 ((w.alloc (.cells #[.int .i64 J, .slice A xs.length cap] 44)).drewN n) (.slice F fl.length fcap) fl from HK.out)
      have HB1 := Lib.hid (show Below w.heap.size w ((w.alloc (.cells #[.int .i64 J, .slice A xs.length cap] 44)).drewN n) from below_drewN' HB0.out n)
      generalize (w.alloc (.cells #[.int .i64 J, .slice A xs.length cap] 44)).drewN n = W1 at *
      go_wp2_with (first
        | (go_at_call 86; refine (l04Junction_any w.heap.size J j _ HK1.out.1 hj).mono ?_; rw [hx]; rintro e w' ⟨rfl, rfl⟩)
      )
      go_ret2
      exact ⟨ret_im HE.out.1.symm HE.out.2.symm, HB1.out⟩
    · cases hf : flOk (-100000) 100000 xs.length fl
      · have HE := Lib.hid (show imA J xs fl j = 0 ∧ imOk J xs fl j = 7 by simp [imA, imOk, hok, hx, hf])
        go_enter Try.func43, Try.ntmps43
        go_wp2_with fail
        (with_reducible refine (HOKC.out).mono ?_)
        rintro e w1 ⟨rfl, n, rfl⟩
        rw [hok]
        have HK1 := Lib.hid (show ((w.alloc (.cells #[.int .i64 J, .slice A xs.length cap] 44)).drewN n).cell? ⟨w.heap.size, 0, none⟩ = some (.int .i64 J) ∧ ((w.alloc (.cells #[.int .i64 J, .slice A xs.length cap] 44)).drewN n).cell? ⟨w.heap.size, 1, none⟩ = some (.slice A xs.length cap) ∧ AwR ((w.alloc (.cells #[.int .i64 J, .slice A xs.length cap] 44)).drewN n) A xs ∧ Row .i64 ((w.alloc (.cells #[.int .i64 J, .slice A xs.length cap] 44)).drewN n) (.slice F fl.length fcap) fl from HK.out)
        have HB1 := Lib.hid (show Below w.heap.size w ((w.alloc (.cells #[.int .i64 J, .slice A xs.length cap] 44)).drewN n) from below_drewN' HB0.out n)
        generalize (w.alloc (.cells #[.int .i64 J, .slice A xs.length cap] 44)).drewN n = W1 at *
        go_wp2_with (first
          | (go_at_call 86; refine (l04Junction_any w.heap.size J j _ HK1.out.1 hj).mono ?_; rw [hx]; rintro e w' ⟨rfl, rfl⟩)
          | (go_at_call 82; refine (l07Flows_any w.heap.size xs.length cap A _ fl _ HK1.out.2.1 (RowW.of_row HK1.out.2.2.2) (by omega) (by omega)).mono ?_; rintro e w' ⟨rfl, rfl⟩; rw [hf])
        )
        go_ret2
        exact ⟨ret_im HE.out.1.symm HE.out.2.symm, HB1.out⟩
      · have HE := Lib.hid (show imA J xs fl j = exc xs fl j xs.length ∧ imOk J xs fl j = 0 by simp [imA, imOk, hok, hx, hf])
        have HF := Lib.hid (flOk_iff.1 hf)
        go_enter Try.func43, Try.ntmps43
        go_wp2_with fail
        (with_reducible refine (HOKC.out).mono ?_)
        rintro e w1 ⟨rfl, n, rfl⟩
        rw [hok]
        have HK1 := Lib.hid (show ((w.alloc (.cells #[.int .i64 J, .slice A xs.length cap] 44)).drewN n).cell? ⟨w.heap.size, 0, none⟩ = some (.int .i64 J) ∧ ((w.alloc (.cells #[.int .i64 J, .slice A xs.length cap] 44)).drewN n).cell? ⟨w.heap.size, 1, none⟩ = some (.slice A xs.length cap) ∧ AwR ((w.alloc (.cells #[.int .i64 J, .slice A xs.length cap] 44)).drewN n) A xs ∧ Row .i64 ((w.alloc (.cells #[.int .i64 J, .slice A xs.length cap] 44)).drewN n) (.slice F fl.length fcap) fl from HK.out)
        have HB1 := Lib.hid (show Below w.heap.size w ((w.alloc (.cells #[.int .i64 J, .slice A xs.length cap] 44)).drewN n) from below_drewN' HB0.out n)
        generalize (w.alloc (.cells #[.int .i64 J, .slice A xs.length cap] 44)).drewN n = W1 at *
        go_wp2_with (first
          | (go_at_call 86; refine (l04Junction_any w.heap.size J j _ HK1.out.1 hj).mono ?_; rw [hx]; rintro e w' ⟨rfl, rfl⟩)
          | (go_at_call 82; refine (l07Flows_any w.heap.size xs.length cap A _ fl _ HK1.out.2.1 (RowW.of_row HK1.out.2.2.2) (by omega) (by omega)).mono ?_; rintro e w' ⟨rfl, rfl⟩; rw [hf])
          | (go_at_call 87; refine (l07Excess_any w.heap.size cap A xs _ fl j _ HK1.out.2.1 HK1.out.2.2.1 (RowW.of_row HK1.out.2.2.2) HF.out.2 HF.out.1 h24).mono ?_; rintro e w' ⟨rfl, rfl⟩)
        )
        go_ret2
        exact ⟨ret_im HE.out.1.symm HE.out.2.symm, HB1.out⟩
theorem imb_form {w : World} {B : Nat} {u : Value} {xs : List Aw} {fl : List Int} {Jn jn : Nat} {n : Nat} (h : OwnI w B u (imbL xs fl ((Jn : Nat) : Int).toNat n)) (hx : jn < Jn) :
    ∃ g cap, u = .slice (some ⟨g, 0, none⟩) Jn cap ∧ w.cell? ⟨g, jn, none⟩ = some (.int .i64 (exc xs fl jn n)) := by
  have h' := h
  unfold OwnI at h'
  rw [imbL_len, Int.toNat_natCast] at h'
  rcases h'.2 with ⟨-, h0⟩ | ⟨g, cap, cur, rfl, -⟩
  · omega
  · refine ⟨g, cap, rfl, ?_⟩
    rw [World.ownsRow.cellAt h' jn (by omega), imb_at hx]
set_option maxHeartbeats 1000000 in
theorem iIsBalanced_any (J : Int) (A : Option Addr) (cap : Nat) (xs : List Aw) (v : Value) (fl : List Int) (w : World) (hr : AwR w A xs) (hs : ∀ a ∈ xs, a.s.size ≤ maxLen) (hl : xs.length ≤ 1048576) (hv : Row .i64 w v fl) (hfl : fl.length ≤ 1048576) :
    Calls Try.prog 42 #[.agg #[.int .i64 J, .slice A xs.length cap], v] w fun e w' => e = .returned (.bool (ibR J xs fl)) ∧ Below w.heap.size w w' := by
  obtain ⟨F, fcap, rfl⟩ := hv.form
  have HB0 := Lib.hid (below_box w (.cells #[.int .i64 J, .slice A xs.length cap] 44))
  have HK0 := Lib.hid (show (w.alloc (.cells #[.int .i64 J, .slice A xs.length cap] 44)).cell? ⟨w.heap.size, 0, none⟩ = some (.int .i64 J) ∧ (w.alloc (.cells #[.int .i64 J, .slice A xs.length cap] 44)).cell? ⟨w.heap.size, 1, none⟩ = some (.slice A xs.length cap) ∧ AwR (w.alloc (.cells #[.int .i64 J, .slice A xs.length cap] 44)) A xs ∧ Row .i64 (w.alloc (.cells #[.int .i64 J, .slice A xs.length cap] 44)) (.slice F fl.length fcap) fl from ⟨by simp, by simp, hr.below HB0.out, hv.below HB0.out⟩)
  have HS := Lib.hid hs
  have c0 := HK0.out.1
  have c1 := HK0.out.2.1
  clear hr hv hs
  cases hok : mineOk J xs
  · have HE := Lib.hid (show ibR J xs fl = false by simp [ibR, hok])
    go_enter Try.func42, Try.ntmps42
    go_wp2_with (first
      | (go_at_call 78; refine (iValidMine_any J A cap xs _ HK0.out.2.2.1 HS.out hl).mono ?_; rintro e w1 ⟨rfl, hd1⟩; rw [hok]; have HB1 := Lib.hid (HB0.out.trans (hd1.mono HB0.out.size)); have HK1 := Lib.hid (show w1.cell? ⟨w.heap.size, 0, none⟩ = some (.int .i64 J) ∧ w1.cell? ⟨w.heap.size, 1, none⟩ = some (.slice A xs.length cap) ∧ AwR w1 A xs ∧ Row .i64 w1 (.slice F fl.length fcap) fl from ⟨cell_keep HK0.out.1 hd1, cell_keep HK0.out.2.1 hd1, HK0.out.2.2.1.below hd1, HK0.out.2.2.2.below hd1⟩); have c0_1 := HK1.out.1; have c1_1 := HK1.out.2.1; clear hd1)
    )
    go_ret
    exact ⟨ret_bool HE.out.symm, HB1.out⟩
  · obtain ⟨hj, -, h24⟩ := mineOk_iff.1 hok
    cases hf : flOk (-100000) 100000 xs.length fl
    · have HE := Lib.hid (show ibR J xs fl = false by simp [ibR, hf])
      go_enter Try.func42, Try.ntmps42
      go_wp2_with (first
        | (go_at_call 78; refine (iValidMine_any J A cap xs _ HK0.out.2.2.1 HS.out hl).mono ?_; rintro e w1 ⟨rfl, hd1⟩; rw [hok]; have HB1 := Lib.hid (HB0.out.trans (hd1.mono HB0.out.size)); have HK1 := Lib.hid (show w1.cell? ⟨w.heap.size, 0, none⟩ = some (.int .i64 J) ∧ w1.cell? ⟨w.heap.size, 1, none⟩ = some (.slice A xs.length cap) ∧ AwR w1 A xs ∧ Row .i64 w1 (.slice F fl.length fcap) fl from ⟨cell_keep HK0.out.1 hd1, cell_keep HK0.out.2.1 hd1, HK0.out.2.2.1.below hd1, HK0.out.2.2.2.below hd1⟩); have c0_1 := HK1.out.1; have c1_1 := HK1.out.2.1; clear hd1)
        | (go_at_call 84; refine (areFlows_any J A xs.length cap _ fl _ HK1.out.2.2.2 (Nat.le_trans hfl (by decide)) hl).mono ?_; rintro e w2 ⟨rfl, hd2⟩; rw [hf]; have HB2 := Lib.hid (HB1.out.trans (hd2.mono HB1.out.size)); have HK2 := Lib.hid (show w2.cell? ⟨w.heap.size, 0, none⟩ = some (.int .i64 J) ∧ w2.cell? ⟨w.heap.size, 1, none⟩ = some (.slice A xs.length cap) ∧ AwR w2 A xs ∧ Row .i64 w2 (.slice F fl.length fcap) fl from ⟨cell_keep HK1.out.1 hd2, cell_keep HK1.out.2.1 hd2, HK1.out.2.2.1.below hd2, HK1.out.2.2.2.below hd2⟩); have c0_2 := HK2.out.1; have c1_2 := HK2.out.2.1; clear hd2)
      )
      go_ret
      exact ⟨ret_bool HE.out.symm, HB2.out⟩
    · have HE := Lib.hid (show ibR J xs fl = balR J xs fl by simp [ibR, hok, hf])
      have HF := Lib.hid (flOk_iff.1 hf)
      go_enter Try.func42, Try.ntmps42
      go_wp2_with (first
        | (go_at_call 78; refine (iValidMine_any J A cap xs _ HK0.out.2.2.1 HS.out hl).mono ?_; rintro e w1 ⟨rfl, hd1⟩; rw [hok]; have HB1 := Lib.hid (HB0.out.trans (hd1.mono HB0.out.size)); have HK1 := Lib.hid (show w1.cell? ⟨w.heap.size, 0, none⟩ = some (.int .i64 J) ∧ w1.cell? ⟨w.heap.size, 1, none⟩ = some (.slice A xs.length cap) ∧ AwR w1 A xs ∧ Row .i64 w1 (.slice F fl.length fcap) fl from ⟨cell_keep HK0.out.1 hd1, cell_keep HK0.out.2.1 hd1, HK0.out.2.2.1.below hd1, HK0.out.2.2.2.below hd1⟩); have c0_1 := HK1.out.1; have c1_1 := HK1.out.2.1; clear hd1)
        | (go_at_call 84; refine (areFlows_any J A xs.length cap _ fl _ HK1.out.2.2.2 (Nat.le_trans hfl (by decide)) hl).mono ?_; rintro e w2 ⟨rfl, hd2⟩; rw [hf]; have HB2 := Lib.hid (HB1.out.trans (hd2.mono HB1.out.size)); have HK2 := Lib.hid (show w2.cell? ⟨w.heap.size, 0, none⟩ = some (.int .i64 J) ∧ w2.cell? ⟨w.heap.size, 1, none⟩ = some (.slice A xs.length cap) ∧ AwR w2 A xs ∧ Row .i64 w2 (.slice F fl.length fcap) fl from ⟨cell_keep HK1.out.1 hd2, cell_keep HK1.out.2.1 hd2, HK1.out.2.2.1.below hd2, HK1.out.2.2.2.below hd2⟩); have c0_2 := HK2.out.1; have c1_2 := HK2.out.2.1; clear hd2)
        | (go_at_call 85; refine (isBalanced_any J A cap xs _ fl _ HK2.out.2.2.1 HK2.out.2.2.2 HF.out.2 HF.out.1 hok).mono ?_; rintro e w3 ⟨rfl, hd3⟩; have HB3 := Lib.hid (HB2.out.trans (hd3.mono HB2.out.size)); have HK3 := Lib.hid (show w3.cell? ⟨w.heap.size, 0, none⟩ = some (.int .i64 J) ∧ w3.cell? ⟨w.heap.size, 1, none⟩ = some (.slice A xs.length cap) ∧ AwR w3 A xs ∧ Row .i64 w3 (.slice F fl.length fcap) fl from ⟨cell_keep HK2.out.1 hd3, cell_keep HK2.out.2.1 hd3, HK2.out.2.2.1.below hd3, HK2.out.2.2.2.below hd3⟩); have c0_3 := HK3.out.1; have c1_3 := HK3.out.2.1; clear hd3)
      )
      go_ret
      exact ⟨ret_bool HE.out.symm, HB3.out⟩
set_option maxHeartbeats 1000000 in
theorem iImbalanceAt_any (J : Int) (A : Option Addr) (cap : Nat) (xs : List Aw) (v : Value) (fl : List Int) (j : Int) (w : World) (hr : AwR w A xs) (hs : ∀ a ∈ xs, a.s.size ≤ maxLen) (hl : xs.length ≤ 1048576) (hv : Row .i64 w v fl) (hfl : fl.length ≤ 1048576) :
    Calls Try.prog 44 #[.agg #[.int .i64 J, .slice A xs.length cap], v, .int .i64 j] w fun e w' => e = .returned (.tuple #[.int .i64 (imA J xs fl j), .int .i64 (imOk J xs fl j)]) ∧ Below w.heap.size w w' := by
  obtain ⟨F, fcap, rfl⟩ := hv.form
  have HB0 := Lib.hid (below_box w (.cells #[.int .i64 J, .slice A xs.length cap] 44))
  have HK0 := Lib.hid (show (w.alloc (.cells #[.int .i64 J, .slice A xs.length cap] 44)).cell? ⟨w.heap.size, 0, none⟩ = some (.int .i64 J) ∧ (w.alloc (.cells #[.int .i64 J, .slice A xs.length cap] 44)).cell? ⟨w.heap.size, 1, none⟩ = some (.slice A xs.length cap) ∧ AwR (w.alloc (.cells #[.int .i64 J, .slice A xs.length cap] 44)) A xs ∧ Row .i64 (w.alloc (.cells #[.int .i64 J, .slice A xs.length cap] 44)) (.slice F fl.length fcap) fl from ⟨by simp, by simp, hr.below HB0.out, hv.below HB0.out⟩)
  have HS := Lib.hid hs
  have c0 := HK0.out.1
  have c1 := HK0.out.2.1
  clear hr hv hs
  cases hok : mineOk J xs
  · have HE := Lib.hid (show imA J xs fl j = 0 ∧ imOk J xs fl j = 1 by simp [imA, imOk, hok])
    go_enter Try.func44, Try.ntmps44
    go_wp2_with (first
      | (go_at_call 78; refine (iValidMine_any J A cap xs _ HK0.out.2.2.1 HS.out hl).mono ?_; rintro e w1 ⟨rfl, hd1⟩; rw [hok]; have HB1 := Lib.hid (HB0.out.trans (hd1.mono HB0.out.size)); have HK1 := Lib.hid (show w1.cell? ⟨w.heap.size, 0, none⟩ = some (.int .i64 J) ∧ w1.cell? ⟨w.heap.size, 1, none⟩ = some (.slice A xs.length cap) ∧ AwR w1 A xs ∧ Row .i64 w1 (.slice F fl.length fcap) fl from ⟨cell_keep HK0.out.1 hd1, cell_keep HK0.out.2.1 hd1, HK0.out.2.2.1.below hd1, HK0.out.2.2.2.below hd1⟩); have c0_1 := HK1.out.1; have c1_1 := HK1.out.2.1; clear hd1)
    )
    go_ret2
    exact ⟨ret_im HE.out.1.symm HE.out.2.symm, HB1.out⟩
  · obtain ⟨hj, -, h24⟩ := mineOk_iff.1 hok
    cases hx : inB j 0 (J - 1)
    · have HE := Lib.hid (show imA J xs fl j = 0 ∧ imOk J xs fl j = 2 by simp [imA, imOk, hok, hx])
      go_enter Try.func44, Try.ntmps44
      go_wp2_with (first
        | (go_at_call 78; refine (iValidMine_any J A cap xs _ HK0.out.2.2.1 HS.out hl).mono ?_; rintro e w1 ⟨rfl, hd1⟩; rw [hok]; have HB1 := Lib.hid (HB0.out.trans (hd1.mono HB0.out.size)); have HK1 := Lib.hid (show w1.cell? ⟨w.heap.size, 0, none⟩ = some (.int .i64 J) ∧ w1.cell? ⟨w.heap.size, 1, none⟩ = some (.slice A xs.length cap) ∧ AwR w1 A xs ∧ Row .i64 w1 (.slice F fl.length fcap) fl from ⟨cell_keep HK0.out.1 hd1, cell_keep HK0.out.2.1 hd1, HK0.out.2.2.1.below hd1, HK0.out.2.2.2.below hd1⟩); have c0_1 := HK1.out.1; have c1_1 := HK1.out.2.1; clear hd1)
        | (go_at_call 88; refine (hasJunctions_one J A xs.length cap j (w1.alloc (.cells #[.int .i64 j] 2)) hj _ (row_here .i64 w1 [j] _ _ 1 1 rfl rfl)).mono ?_; rintro e w2 ⟨rfl, hd2'⟩; rw [hx]; have hd2 : Below w1.heap.size w1 w2 := (below_box w1 (.cells #[.int .i64 j] 2)).trans (hd2'.mono (by simp)); clear hd2'; have HB2 := Lib.hid (HB1.out.trans (hd2.mono HB1.out.size)); have HK2 := Lib.hid (show w2.cell? ⟨w.heap.size, 0, none⟩ = some (.int .i64 J) ∧ w2.cell? ⟨w.heap.size, 1, none⟩ = some (.slice A xs.length cap) ∧ AwR w2 A xs ∧ Row .i64 w2 (.slice F fl.length fcap) fl from ⟨cell_keep HK1.out.1 hd2, cell_keep HK1.out.2.1 hd2, HK1.out.2.2.1.below hd2, HK1.out.2.2.2.below hd2⟩); have c0_2 := HK2.out.1; have c1_2 := HK2.out.2.1; clear hd2)
      )
      go_ret2
      exact ⟨ret_im HE.out.1.symm HE.out.2.symm, HB2.out⟩
    · cases hf : flOk (-100000) 100000 xs.length fl
      · have HE := Lib.hid (show imA J xs fl j = 0 ∧ imOk J xs fl j = 7 by simp [imA, imOk, hok, hx, hf])
        go_enter Try.func44, Try.ntmps44
        go_wp2_with (first
          | (go_at_call 78; refine (iValidMine_any J A cap xs _ HK0.out.2.2.1 HS.out hl).mono ?_; rintro e w1 ⟨rfl, hd1⟩; rw [hok]; have HB1 := Lib.hid (HB0.out.trans (hd1.mono HB0.out.size)); have HK1 := Lib.hid (show w1.cell? ⟨w.heap.size, 0, none⟩ = some (.int .i64 J) ∧ w1.cell? ⟨w.heap.size, 1, none⟩ = some (.slice A xs.length cap) ∧ AwR w1 A xs ∧ Row .i64 w1 (.slice F fl.length fcap) fl from ⟨cell_keep HK0.out.1 hd1, cell_keep HK0.out.2.1 hd1, HK0.out.2.2.1.below hd1, HK0.out.2.2.2.below hd1⟩); have c0_1 := HK1.out.1; have c1_1 := HK1.out.2.1; clear hd1)
          | (go_at_call 88; refine (hasJunctions_one J A xs.length cap j (w1.alloc (.cells #[.int .i64 j] 2)) hj _ (row_here .i64 w1 [j] _ _ 1 1 rfl rfl)).mono ?_; rintro e w2 ⟨rfl, hd2'⟩; rw [hx]; have hd2 : Below w1.heap.size w1 w2 := (below_box w1 (.cells #[.int .i64 j] 2)).trans (hd2'.mono (by simp)); clear hd2'; have HB2 := Lib.hid (HB1.out.trans (hd2.mono HB1.out.size)); have HK2 := Lib.hid (show w2.cell? ⟨w.heap.size, 0, none⟩ = some (.int .i64 J) ∧ w2.cell? ⟨w.heap.size, 1, none⟩ = some (.slice A xs.length cap) ∧ AwR w2 A xs ∧ Row .i64 w2 (.slice F fl.length fcap) fl from ⟨cell_keep HK1.out.1 hd2, cell_keep HK1.out.2.1 hd2, HK1.out.2.2.1.below hd2, HK1.out.2.2.2.below hd2⟩); have c0_2 := HK2.out.1; have c1_2 := HK2.out.2.1; clear hd2)
          | (go_at_call 84; refine (areFlows_any J A xs.length cap _ fl _ HK2.out.2.2.2 (Nat.le_trans hfl (by decide)) hl).mono ?_; rintro e w3 ⟨rfl, hd3⟩; rw [hf]; have HB3 := Lib.hid (HB2.out.trans (hd3.mono HB2.out.size)); have HK3 := Lib.hid (show w3.cell? ⟨w.heap.size, 0, none⟩ = some (.int .i64 J) ∧ w3.cell? ⟨w.heap.size, 1, none⟩ = some (.slice A xs.length cap) ∧ AwR w3 A xs ∧ Row .i64 w3 (.slice F fl.length fcap) fl from ⟨cell_keep HK2.out.1 hd3, cell_keep HK2.out.2.1 hd3, HK2.out.2.2.1.below hd3, HK2.out.2.2.2.below hd3⟩); have c0_3 := HK3.out.1; have c1_3 := HK3.out.2.1; clear hd3)
        )
        go_ret2
        exact ⟨ret_im HE.out.1.symm HE.out.2.symm, HB3.out⟩
      · have HE := Lib.hid (show imA J xs fl j = exc xs fl j xs.length ∧ imOk J xs fl j = 0 by simp [imA, imOk, hok, hx, hf])
        have HF := Lib.hid (flOk_iff.1 hf)
        obtain ⟨jn, rfl⟩ : ∃ jn : Nat, j = jn := ⟨j.toNat, by have := (inB_iff.1 hx).1; omega⟩
        obtain ⟨Jn, rfl⟩ : ∃ Jn : Nat, J = Jn := ⟨J.toNat, by omega⟩
        have hjl : jn < Jn := by have := (inB_iff.1 hx).2; omega
        have hjb : (jn : Int) < (Jn : Int) := by omega
        go_enter Try.func44, Try.ntmps44
        go_wp2_with (first
          | (go_at_call 78; refine (iValidMine_any _ A cap xs _ HK0.out.2.2.1 HS.out hl).mono ?_; rintro e w1 ⟨rfl, hd1⟩; rw [hok]; have HB1 := Lib.hid (HB0.out.trans (hd1.mono HB0.out.size)); have HK1 := Lib.hid (show w1.cell? ⟨w.heap.size, 0, none⟩ = some (.int .i64 (Jn : Int)) ∧ w1.cell? ⟨w.heap.size, 1, none⟩ = some (.slice A xs.length cap) ∧ AwR w1 A xs ∧ Row .i64 w1 (.slice F fl.length fcap) fl from ⟨cell_keep HK0.out.1 hd1, cell_keep HK0.out.2.1 hd1, HK0.out.2.2.1.below hd1, HK0.out.2.2.2.below hd1⟩); have c0_1 := HK1.out.1; have c1_1 := HK1.out.2.1; clear hd1)
          | (go_at_call 88; refine (hasJunctions_one _ A xs.length cap _ (w1.alloc (.cells #[.int .i64 (jn : Int)] 2)) hj _ (row_here .i64 w1 [(jn : Int)] _ _ 1 1 rfl rfl)).mono ?_; rintro e w2 ⟨rfl, hd2'⟩; rw [hx]; have hd2 : Below w1.heap.size w1 w2 := (below_box w1 (.cells #[.int .i64 (jn : Int)] 2)).trans (hd2'.mono (by simp)); clear hd2'; have HB2 := Lib.hid (HB1.out.trans (hd2.mono HB1.out.size)); have HK2 := Lib.hid (show w2.cell? ⟨w.heap.size, 0, none⟩ = some (.int .i64 (Jn : Int)) ∧ w2.cell? ⟨w.heap.size, 1, none⟩ = some (.slice A xs.length cap) ∧ AwR w2 A xs ∧ Row .i64 w2 (.slice F fl.length fcap) fl from ⟨cell_keep HK1.out.1 hd2, cell_keep HK1.out.2.1 hd2, HK1.out.2.2.1.below hd2, HK1.out.2.2.2.below hd2⟩); have c0_2 := HK2.out.1; have c1_2 := HK2.out.2.1; clear hd2)
          | (go_at_call 84; refine (areFlows_any _ A xs.length cap _ fl _ HK2.out.2.2.2 (Nat.le_trans hfl (by decide)) hl).mono ?_; rintro e w3 ⟨rfl, hd3⟩; rw [hf]; have HB3 := Lib.hid (HB2.out.trans (hd3.mono HB2.out.size)); have HK3 := Lib.hid (show w3.cell? ⟨w.heap.size, 0, none⟩ = some (.int .i64 (Jn : Int)) ∧ w3.cell? ⟨w.heap.size, 1, none⟩ = some (.slice A xs.length cap) ∧ AwR w3 A xs ∧ Row .i64 w3 (.slice F fl.length fcap) fl from ⟨cell_keep HK2.out.1 hd3, cell_keep HK2.out.2.1 hd3, HK2.out.2.2.1.below hd3, HK2.out.2.2.2.below hd3⟩); have c0_3 := HK3.out.1; have c1_3 := HK3.out.2.1; clear hd3)
          | (go_at_call 89; refine (imbalances_any _ A cap xs _ fl _ HK3.out.2.2.1 HK3.out.2.2.2 HF.out.2 HF.out.1 hok).mono ?_; rintro e w4 ⟨u, rfl, ho4, hd4⟩; have HO := Lib.hid ho4; clear ho4; have HB4 := Lib.hid (HB3.out.trans (hd4.mono HB3.out.size)); have HK4 := Lib.hid (show w4.cell? ⟨w.heap.size, 0, none⟩ = some (.int .i64 (Jn : Int)) ∧ w4.cell? ⟨w.heap.size, 1, none⟩ = some (.slice A xs.length cap) ∧ AwR w4 A xs ∧ Row .i64 w4 (.slice F fl.length fcap) fl from ⟨cell_keep HK3.out.1 hd4, cell_keep HK3.out.2.1 hd4, HK3.out.2.2.1.below hd4, HK3.out.2.2.2.below hd4⟩); have c0_4 := HK4.out.1; have c1_4 := HK4.out.2.1; clear hd4; obtain ⟨ug, ucap, rfl, hcu⟩ := imb_form HO.out hjl)
        )
        go_ret2
        exact ⟨ret_im HE.out.1.symm HE.out.2.symm, HB4.out⟩
end Go.Proofs.Ytbffhlomgdehnaa
