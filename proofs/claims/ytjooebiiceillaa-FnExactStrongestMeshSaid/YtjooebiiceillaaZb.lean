/-
  Contracts of chapter 9: levels and temperatures of a mine; the model's and the program's. Conditions: those that each theorem states.
-/
import Derived.Test.YtjooebiiceillaaWa
import Derived.Test.YtjooebiiceillaaZa
import Derived.Test.YtjooebiiceillaaRg
namespace Go.Proofs.Ytjooebiiceillaa
open Go.RowKit
set_option linter.unusedVariables false
set_option linter.unusedSimpArgs false

/-- A level for each junction. -/
def lvOk (J : Int) (lv : List Int) : Bool := decide ((lv.length : Int) = J) && allR (-3000) 3000 lv
theorem lvOk_iff {J : Int} {lv : List Int} : lvOk J lv = true ↔ (lv.length : Int) = J ∧ ∀ y ∈ lv, -3000 ≤ y ∧ y ≤ 3000 := by
  simp [lvOk, allR_iff]
/-- The code of a mine and levels; of a mine, levels and temperatures. -/
def rlB (J : Int) (xs : List Aw) (lv : List Int) : Int := if mineOk J xs then (if lvOk J lv then 0 else 7) else 1
def askC (J : Int) (xs : List Aw) (lv tp : List Int) : Int := if mineOk J xs then (if lvOk J lv && flOk (-300) 600 xs.length tp then 0 else 7) else 1
theorem rlB_ok {J : Int} {xs : List Aw} {lv : List Int} (h : rlB J xs lv = 0) : mineOk J xs = true ∧ lvOk J lv = true := by
  unfold rlB at h
  cases h1 : mineOk J xs <;> cases h2 : lvOk J lv <;> simp [h1, h2] at h ⊢
theorem askC_ok {J : Int} {xs : List Aw} {lv tp : List Int} (h : askC J xs lv tp = 0) : mineOk J xs = true ∧ lvOk J lv = true ∧ flOk (-300) 600 xs.length tp = true := by
  unfold askC at h
  cases h1 : mineOk J xs <;> cases h2 : lvOk J lv <;> cases h3 : flOk (-300) 600 xs.length tp <;> simp [h1, h2, h3] at h ⊢
/-- How far an airway rises. -/
def riR (xs : List Aw) (lv : List Int) (k : Nat) : Int := lv.getD (xs.getD k Aw.none).t.toNat 0 - lv.getD (xs.getD k Aw.none).f.toNat 0
/-- The draught of an airway. -/
def draR (xs : List Aw) (lv tp : List Int) (k : Nat) : Int := colR (riR xs lv k) (tp.getD k 0)
theorem lv_bd {J : Int} {lv : List Int} (h : lvOk J lv = true) (j : Nat) : -3000 ≤ lv.getD j 0 ∧ lv.getD j 0 ≤ 3000 := by
  by_cases hj : j < lv.length
  · rw [show lv.getD j 0 = lv[j] by simp [List.getD, hj]]; exact (lvOk_iff.1 h).2 _ (List.getElem_mem hj)
  · rw [show lv.getD j 0 = 0 by simp [List.getD, hj]]; omega
theorem riR_bd {J : Int} {xs : List Aw} {lv : List Int} (h : lvOk J lv = true) (k : Nat) : -6000 ≤ riR xs lv k ∧ riR xs lv k ≤ 6000 := by
  have a := lv_bd h (xs.getD k Aw.none).t.toNat
  have b := lv_bd h (xs.getD k Aw.none).f.toNat
  unfold riR
  omega
theorem tp_bd {n : Nat} {tp : List Int} (h : flOk (-300) 600 n tp = true) {k : Nat} (hk : k < n) : -300 ≤ tp.getD k 0 ∧ tp.getD k 0 ≤ 600 := by
  obtain ⟨a, b⟩ := flOk_iff.1 h
  rw [show tp.getD k 0 = tp[k] by simp [List.getD, show k < tp.length by omega]]
  exact b _ (List.getElem_mem _)
theorem l09Temps_any (b n cap : Nat) (A : Option Addr) (v : Value) (fl : List Int) (w : World) (hA : w.cell? ⟨b, 1, none⟩ = some (.slice A n cap)) (hv : RowW .i64 w v fl) (hl : fl.length ≤ 4000000000000000000) (hn : n ≤ 1048576) :
    Calls Try.prog 73 #[.pointer (some ⟨b, 0, none⟩), v] w fun e w' => e = .returned (.bool (flOk (-300) 600 n fl)) ∧ w = w' := by
  obtain ⟨F, fcap, rfl, _⟩ := id hv
  have HV := Lib.hid hv
  clear hv
  go_enter Try.func73, Try.ntmps73
  go_wp2
  go_loop [5] (fun i => ∃ k : Nat, k ≤ fl.length ∧ Hid (∀ j (h : j < fl.length), j < k → -300 ≤ fl[j] ∧ fl[j] ≤ 600) ∧ i = .int .i64 k) (fun i => fl.length - (intOf i).toNat)
  case atStart => exact ⟨0, by omega, Lib.hid (fun j _ h => absurd h (by omega)), rfl⟩
  case round =>
    obtain ⟨k, hk, HA, rfl⟩ := hrel
    by_cases hlt : k < fl.length
    · obtain ⟨fb, fo, rfl, _, hc⟩ := RowW.cell HV.out hlt
      rw [show fl.getD k 0 = fl[k] by simp [List.getD, hlt]] at hc
      by_cases hin : -300 ≤ fl[k] ∧ fl[k] ≤ 600
      · have hi := inB_true hin.1 hin.2
        have HR := Lib.hid hin
        clear hin
        go_wp2_with (go_at_call 50; refine (l09Temp_any _ _).mono ?_; rintro e w' ⟨rfl, rfl⟩)
        go_round
        case rel => exact ⟨k + 1, by omega, Lib.hid (fun j h hj => by
          rcases Nat.lt_or_ge j k with q | q
          · exact HA.out j h q
          · obtain rfl : j = k := by omega
            exact HR.out), by go_num⟩
        case measure => simp [intOf]; omega
      · have hi := inB_false hin
        have HR := Lib.hid (show flOk (-300) 600 n fl = false by
          rw [← Bool.not_eq_true, flOk_iff]
          exact fun hh => hin (hh.2 _ (List.getElem_mem hlt)))
        clear hin
        go_wp2_with (go_at_call 50; refine (l09Temp_any _ _).mono ?_; rintro e w' ⟨rfl, rfl⟩)
        go_ret
        exact ⟨ret_bool HR.out.symm, rfl⟩
    · obtain rfl : k = fl.length := by omega
      have HR := Lib.hid (show flOk (-300) 600 n fl = decide (fl.length = n) by
        unfold flOk
        rw [allR_iff.2 (fun y hy => by obtain ⟨j, h, rfl⟩ := List.mem_iff_getElem.1 hy; exact HA.out j h h), Bool.and_true])
      by_cases he : fl.length = n
      · have t0 : (fl.length : Int) = (n : Int) := by omega
        have HR2 := Lib.hid (show flOk (-300) 600 n fl = true by rw [HR.out, decide_eq_true he])
        have t1 : ((fl.length : Int) == (n : Int)) = true := by simp [he]
        clear he
        go_wp2
        go_ret
        exact ⟨ret_bool (by rw [HR2.out]), rfl⟩
      · have t0 : ¬ (fl.length : Int) = (n : Int) := by omega
        have HR2 := Lib.hid (show flOk (-300) 600 n fl = false by rw [HR.out, decide_eq_false he])
        have t1 : ((fl.length : Int) == (n : Int)) = false := by simp; omega
        clear he
        go_wp2
        go_ret
        exact ⟨ret_bool (by rw [HR2.out]), rfl⟩
theorem l09Levels_any (b : Nat) (J : Int) (v : Value) (lv : List Int) (w : World) (hJ : w.cell? ⟨b, 0, none⟩ = some (.int .i64 J)) (hv : RowW .i64 w v lv) (hl : lv.length ≤ 4000000000000000000) :
    Calls Try.prog 80 #[.pointer (some ⟨b, 0, none⟩), v] w fun e w' => e = .returned (.bool (lvOk J lv)) ∧ w = w' := by
  obtain ⟨F, fcap, rfl, _⟩ := id hv
  have HV := Lib.hid hv
  clear hv
  go_enter Try.func80, Try.ntmps80
  go_wp2
  go_loop [5] (fun i => ∃ k : Nat, k ≤ lv.length ∧ Hid (∀ j (h : j < lv.length), j < k → -3000 ≤ lv[j] ∧ lv[j] ≤ 3000) ∧ i = .int .i64 k) (fun i => lv.length - (intOf i).toNat)
  case atStart => exact ⟨0, by omega, Lib.hid (fun j _ h => absurd h (by omega)), rfl⟩
  case round =>
    obtain ⟨k, hk, HA, rfl⟩ := hrel
    by_cases hlt : k < lv.length
    · obtain ⟨fb, fo, rfl, _, hc⟩ := RowW.cell HV.out hlt
      rw [show lv.getD k 0 = lv[k] by simp [List.getD, hlt]] at hc
      by_cases hin : -3000 ≤ lv[k] ∧ lv[k] ≤ 3000
      · have hi := inB_true hin.1 hin.2
        have HR := Lib.hid hin
        clear hin
        go_wp2_with (go_at_call 58; (with_reducible refine (l00In_any _ _ _ _).mono ?_); rintro e w' ⟨rfl, rfl⟩)
        go_round
        case rel => exact ⟨k + 1, by omega, Lib.hid (fun j h hj => by
          rcases Nat.lt_or_ge j k with q | q
          · exact HA.out j h q
          · obtain rfl : j = k := by omega
            exact HR.out), by go_num⟩
        case measure => simp [intOf]; omega
      · have hi := inB_false hin
        have HR := Lib.hid (show lvOk J lv = false by
          rw [← Bool.not_eq_true, lvOk_iff]
          exact fun hh => hin (hh.2 _ (List.getElem_mem hlt)))
        clear hin
        go_wp2_with (go_at_call 58; (with_reducible refine (l00In_any _ _ _ _).mono ?_); rintro e w' ⟨rfl, rfl⟩)
        go_ret
        exact ⟨ret_bool HR.out.symm, rfl⟩
    · obtain rfl : k = lv.length := by omega
      have HR := Lib.hid (show lvOk J lv = decide ((lv.length : Int) = J) by
        unfold lvOk
        rw [allR_iff.2 (fun y hy => by obtain ⟨j, h, rfl⟩ := List.mem_iff_getElem.1 hy; exact HA.out j h h), Bool.and_true])
      by_cases he : (lv.length : Int) = J
      · have HR2 := Lib.hid (show lvOk J lv = true by rw [HR.out, decide_eq_true he])
        have t1 : ((lv.length : Int) == J) = true := by simp [he]
        go_wp2
        go_ret
        exact ⟨ret_bool (by rw [HR2.out]; first | done | simp [he]), rfl⟩
      · have HR2 := Lib.hid (show lvOk J lv = false by rw [HR.out, decide_eq_false he])
        have t1 : ((lv.length : Int) == J) = false := by simp; omega
        go_wp2
        go_ret
        exact ⟨ret_bool (by rw [HR2.out]; first | done | simp [he]), rfl⟩
theorem l09Ask_any (b : Nat) (J : Int) (A : Option Addr) (cap : Nat) (xs : List Aw) (V T : Value) (lv tp : List Int) (w : World) (hJ : w.cell? ⟨b, 0, none⟩ = some (.int .i64 J)) (hA : w.cell? ⟨b, 1, none⟩ = some (.slice A xs.length cap)) (hr : AwR w A xs) (hs : ∀ a ∈ xs, a.s.size ≤ maxLen) (hl : xs.length ≤ 1048576) (hv : RowW .i64 w V lv) (hvl : lv.length ≤ 1048576) (ht : RowW .i64 w T tp) (htl : tp.length ≤ 1048576) :
    Calls Try.prog 61 #[.pointer (some ⟨b, 0, none⟩), V, T] w fun e w' => e = .returned (.int .i64 (askC J xs lv tp)) ∧ ∃ n, w' = w.drewN n := by
  cases hok : mineOk J xs
  · have HE := Lib.hid (show askC J xs lv tp = 1 by simp [askC, hok])
    go_enter Try.func61, Try.ntmps61
    go_wp2_with (go_at_call 72; (with_reducible refine (l04Ok_any b J A cap xs w hJ hA hr hs hl).mono ?_); rintro e w1 ⟨rfl, n, rfl⟩; rw [hok])
    go_ret
    exact ⟨ret_int HE.out.symm, n, rfl⟩
  · have HV := Lib.hid (fun n => show RowW .i64 (w.drewN n) V lv from hv)
    have HJ := Lib.hid (fun n => show (w.drewN n).cell? ⟨b, 0, none⟩ = some (.int .i64 J) from hJ)
    have HA := Lib.hid (fun n => show (w.drewN n).cell? ⟨b, 1, none⟩ = some (.slice A xs.length cap) from hA)
    have HT := Lib.hid (fun n => show RowW .i64 (w.drewN n) T tp from ht)
    cases hlv : lvOk J lv
    · have HE := Lib.hid (show askC J xs lv tp = 7 by simp [askC, hok, hlv])
      go_enter Try.func61, Try.ntmps61
      go_wp2_with (first
        | (go_at_call 72; (with_reducible refine (l04Ok_any b J A cap xs w hJ hA hr hs hl).mono ?_); rintro e w1 ⟨rfl, n, rfl⟩; rw [hok])
        | (go_at_call 80; (with_reducible refine (l09Levels_any b J V lv _ (HJ.out n) (HV.out n) (by omega)).mono ?_); rintro e w' ⟨rfl, rfl⟩; rw [hlv]))
      go_ret
      exact ⟨ret_int HE.out.symm, n, rfl⟩
    · cases htp : flOk (-300) 600 xs.length tp
      · have HE := Lib.hid (show askC J xs lv tp = 7 by simp [askC, hok, hlv, htp])
        go_enter Try.func61, Try.ntmps61
        go_wp2_with (first
          | (go_at_call 72; (with_reducible refine (l04Ok_any b J A cap xs w hJ hA hr hs hl).mono ?_); rintro e w1 ⟨rfl, n, rfl⟩; rw [hok])
          | (go_at_call 80; (with_reducible refine (l09Levels_any b J V lv _ (HJ.out n) (HV.out n) (by omega)).mono ?_); rintro e w' ⟨rfl, rfl⟩; rw [hlv])
          | (go_at_call 73; (with_reducible refine (l09Temps_any b xs.length cap A T tp _ (HA.out n) (HT.out n) (by omega) hl).mono ?_); rintro e w' ⟨rfl, rfl⟩; rw [htp]))
        go_ret
        exact ⟨ret_int HE.out.symm, n, rfl⟩
      · have HE := Lib.hid (show askC J xs lv tp = 0 by simp [askC, hok, hlv, htp])
        go_enter Try.func61, Try.ntmps61
        go_wp2_with (first
          | (go_at_call 72; (with_reducible refine (l04Ok_any b J A cap xs w hJ hA hr hs hl).mono ?_); rintro e w1 ⟨rfl, n, rfl⟩; rw [hok])
          | (go_at_call 80; (with_reducible refine (l09Levels_any b J V lv _ (HJ.out n) (HV.out n) (by omega)).mono ?_); rintro e w' ⟨rfl, rfl⟩; rw [hlv])
          | (go_at_call 73; (with_reducible refine (l09Temps_any b xs.length cap A T tp _ (HA.out n) (HT.out n) (by omega) hl).mono ?_); rintro e w' ⟨rfl, rfl⟩; rw [htp]))
        go_ret
        exact ⟨ret_int HE.out.symm, n, rfl⟩
theorem areTemperatures_any (J : Int) (A : Option Addr) (n cap : Nat) (v : Value) (fl : List Int) (w : World) (hv : Row .i64 w v fl) (hl : fl.length ≤ 4000000000000000000) (hn : n ≤ 1048576) :
    Calls Try.prog 77 #[.agg #[.int .i64 J, .slice A n cap], v] w fun e w' => e = .returned (.bool (flOk (-300) 600 n fl)) ∧ Below w.heap.size w w' := by
  obtain ⟨F, fcap, rfl⟩ := hv.form
  have HB0 := Lib.hid (below_box w (.cells #[.int .i64 J, .slice A n cap] 36))
  have HV := Lib.hid (hv.below HB0.out)
  clear hv
  go_enter Try.func77, Try.ntmps77
  go_wp2_with (go_at_call 115; (with_reducible refine (hasOneEach_any J _ _ A n cap _ fl _ HV.out hl hn).mono ?_); rintro e w1 ⟨rfl, hd⟩; have HB1 := Lib.hid (HB0.out.trans (hd.mono (by simp))); clear hd)
  go_ret
  exact ⟨rfl, HB1.out⟩
set_option maxHeartbeats 1000000 in
theorem reliefOf_bad (J : Int) (A : Option Addr) (cap : Nat) (xs : List Aw) (v : Value) (lv : List Int) (w : World) (hr : AwR w A xs) (hs : ∀ a ∈ xs, a.s.size ≤ maxLen) (hl : xs.length ≤ 1048576) (hv : Row .i64 w v lv) (hvl : lv.length ≤ 1048576) (hb : rlB J xs lv ≠ 0) :
    Calls Try.prog 82 #[.agg #[.int .i64 J, .slice A xs.length cap], v] w fun e w' => e = .returned (.tuple #[.agg #[.int .i64 0, .slice none 0 0, .slice none 0 0], .int .i64 (rlB J xs lv)]) ∧ Below w.heap.size w w' := by
  obtain ⟨F, fcap, rfl⟩ := hv.form
  have HB0 := Lib.hid (show Below w.heap.size w ((w.alloc (.cells #[.int .i64 J, .slice A xs.length cap] 36)).alloc (.cells #[.int .i64 0, .slice none 0 0, .slice none 0 0] 72)) from (below_box _ _).alloc (by simp) _)
  have HR := Lib.hid (hr.below HB0.out)
  have HV := Lib.hid (hv.below HB0.out)
  have HS := Lib.hid hs
  have HC := Lib.hid (show ((w.alloc (.cells #[.int .i64 J, .slice A xs.length cap] 36)).alloc (.cells #[.int .i64 0, .slice none 0 0, .slice none 0 0] 72)).cell? ⟨w.heap.size, 0, none⟩ = some (.int .i64 J) ∧ ((w.alloc (.cells #[.int .i64 J, .slice A xs.length cap] 36)).alloc (.cells #[.int .i64 0, .slice none 0 0, .slice none 0 0] 72)).cell? ⟨w.heap.size, 1, none⟩ = some (.slice A xs.length cap) ∧ ((w.alloc (.cells #[.int .i64 J, .slice A xs.length cap] 36)).alloc (.cells #[.int .i64 0, .slice none 0 0, .slice none 0 0] 72)).cell? ⟨w.heap.size + 1, 0, none⟩ = some (.int .i64 0) ∧ ((w.alloc (.cells #[.int .i64 J, .slice A xs.length cap] 36)).alloc (.cells #[.int .i64 0, .slice none 0 0, .slice none 0 0] 72)).cell? ⟨w.heap.size + 1, 1, none⟩ = some (.slice none 0 0) ∧ ((w.alloc (.cells #[.int .i64 J, .slice A xs.length cap] 36)).alloc (.cells #[.int .i64 0, .slice none 0 0, .slice none 0 0] 72)).cell? ⟨w.heap.size + 1, 2, none⟩ = some (.slice none 0 0) ∧ ((w.alloc (.cells #[.int .i64 J, .slice A xs.length cap] 36)).alloc (.cells #[.int .i64 0, .slice none 0 0, .slice none 0 0] 72)).frozen? ⟨w.heap.size + 1, 0, none⟩ = false ∧ ((w.alloc (.cells #[.int .i64 J, .slice A xs.length cap] 36)).alloc (.cells #[.int .i64 0, .slice none 0 0, .slice none 0 0] 72)).frozen? ⟨w.heap.size + 1, 1, none⟩ = false ∧ ((w.alloc (.cells #[.int .i64 J, .slice A xs.length cap] 36)).alloc (.cells #[.int .i64 0, .slice none 0 0, .slice none 0 0] 72)).frozen? ⟨w.heap.size + 1, 2, none⟩ = false from ⟨by simp, by simp, by simp, by simp, by simp, by simp, by simp, by simp⟩)
  clear hr hv hs
  cases hok : mineOk J xs
  · have HE := Lib.hid (show rlB J xs lv = 1 by simp [rlB, hok])
    go_enter Try.func82, Try.ntmps82
    go_wp2_with fail
    (with_reducible refine (iValidMine_any J A cap xs _ HR.out HS.out hl).mono ?_)
    rintro e w1 ⟨rfl, hd⟩
    rw [hok]
    have HB1 := Lib.hid (HB0.out.trans (hd.mono HB0.out.size))
    have c0 := cell_keep HC.out.1 hd
    have c1 := cell_keep HC.out.2.1 hd
    have k0 := cell_keep HC.out.2.2.1 hd
    have k1 := cell_keep HC.out.2.2.2.1 hd
    have k2 := cell_keep HC.out.2.2.2.2.1 hd
    have f0 := (hd.frozen (p := ⟨w.heap.size + 1, 0, none⟩) (World.block_lt_of_cell? _ _ HC.out.2.2.1)).trans HC.out.2.2.2.2.2.1
    have f1 := (hd.frozen (p := ⟨w.heap.size + 1, 1, none⟩) (World.block_lt_of_cell? _ _ HC.out.2.2.2.1)).trans HC.out.2.2.2.2.2.2.1
    have f2 := (hd.frozen (p := ⟨w.heap.size + 1, 2, none⟩) (World.block_lt_of_cell? _ _ HC.out.2.2.2.2.1)).trans HC.out.2.2.2.2.2.2.2
    have m0 : (w1.cell? ⟨w.heap.size + 1, 0, none⟩).isSome = true := by rw [k0]; rfl
    have m1 : (w1.cell? ⟨w.heap.size + 1, 1, none⟩).isSome = true := by rw [k1]; rfl
    have m2 : (w1.cell? ⟨w.heap.size + 1, 2, none⟩).isSome = true := by rw [k2]; rfl
    have HV1 := Lib.hid (HV.out.below hd)
    clear hd
    go_wp2
    refine bodyPost_ret (v := .tuple #[.agg #[.int .i64 0, .slice none 0 0, .slice none 0 0], .int .i64 1]) (by simp [results, Try.results82, go_sem, World.cell?_setCell_same', World.cell?_setCell_other, c0, c1, m0, m1, m2]) rfl ⟨by rw [HE.out], ?_⟩
    have hB := HB1.out
    repeat (first | (with_reducible exact hB) | (with_reducible refine below_drewN' ?_ _) | (with_reducible refine Below.alloc ?_ (by first | omega | (simp <;> omega)) _) | (with_reducible refine Below.setCell ?_ (by simp) _))
  · have hlv : lvOk J lv = false := by
      cases h : lvOk J lv
      · rfl
      · exact absurd (show rlB J xs lv = 0 by simp [rlB, hok, h]) hb
    have HE := Lib.hid (show rlB J xs lv = 7 by simp [rlB, hok, hlv])
    by_cases hle : (lv.length : Int) = J
    · have hin : allR (-3000) 3000 lv = false := by
        rw [← hlv]; unfold lvOk; rw [decide_eq_true hle, Bool.true_and]
      have t1 : ((lv.length : Int) == J) = true := by simp [hle]
      clear hlv hb
      go_enter Try.func82, Try.ntmps82
      go_wp2_with fail
      (with_reducible refine (iValidMine_any J A cap xs _ HR.out HS.out hl).mono ?_)
      rintro e w1 ⟨rfl, hd⟩
      rw [hok]
      have HB1 := Lib.hid (HB0.out.trans (hd.mono HB0.out.size))
      have c0 := cell_keep HC.out.1 hd
      have c1 := cell_keep HC.out.2.1 hd
      have k0 := cell_keep HC.out.2.2.1 hd
      have k1 := cell_keep HC.out.2.2.2.1 hd
      have k2 := cell_keep HC.out.2.2.2.2.1 hd
      have f0 := (hd.frozen (p := ⟨w.heap.size + 1, 0, none⟩) (World.block_lt_of_cell? _ _ HC.out.2.2.1)).trans HC.out.2.2.2.2.2.1
      have f1 := (hd.frozen (p := ⟨w.heap.size + 1, 1, none⟩) (World.block_lt_of_cell? _ _ HC.out.2.2.2.1)).trans HC.out.2.2.2.2.2.2.1
      have f2 := (hd.frozen (p := ⟨w.heap.size + 1, 2, none⟩) (World.block_lt_of_cell? _ _ HC.out.2.2.2.2.1)).trans HC.out.2.2.2.2.2.2.2
      have m0 : (w1.cell? ⟨w.heap.size + 1, 0, none⟩).isSome = true := by rw [k0]; rfl
      have m1 : (w1.cell? ⟨w.heap.size + 1, 1, none⟩).isSome = true := by rw [k1]; rfl
      have m2 : (w1.cell? ⟨w.heap.size + 1, 2, none⟩).isSome = true := by rw [k2]; rfl
      have HV1 := Lib.hid (HV.out.below hd)
      clear hd
      go_wp2_with (go_at_call 59; (with_reducible refine (within64_any _ _ _ lv _ HV1.out (by omega)).mono ?_); rintro e w' ⟨rfl, rfl⟩; rw [hin])
      refine bodyPost_ret (v := .tuple #[.agg #[.int .i64 0, .slice none 0 0, .slice none 0 0], .int .i64 7]) (by simp [results, Try.results82, go_sem, World.cell?_setCell_same', World.cell?_setCell_other, c0, c1, m0, m1, m2]) rfl ⟨by rw [HE.out], ?_⟩
      have hB := HB1.out
      repeat (first | (with_reducible exact hB) | (with_reducible refine below_drewN' ?_ _) | (with_reducible refine Below.alloc ?_ (by first | omega | (simp <;> omega)) _) | (with_reducible refine Below.setCell ?_ (by simp) _))
    · have t1 : ((lv.length : Int) == J) = false := by simp; omega
      have t2 : ((lv.length : Int) != J) = true := by simp; omega
      clear hlv hb
      go_enter Try.func82, Try.ntmps82
      go_wp2_with fail
      (with_reducible refine (iValidMine_any J A cap xs _ HR.out HS.out hl).mono ?_)
      rintro e w1 ⟨rfl, hd⟩
      rw [hok]
      have HB1 := Lib.hid (HB0.out.trans (hd.mono HB0.out.size))
      have c0 := cell_keep HC.out.1 hd
      have c1 := cell_keep HC.out.2.1 hd
      have k0 := cell_keep HC.out.2.2.1 hd
      have k1 := cell_keep HC.out.2.2.2.1 hd
      have k2 := cell_keep HC.out.2.2.2.2.1 hd
      have f0 := (hd.frozen (p := ⟨w.heap.size + 1, 0, none⟩) (World.block_lt_of_cell? _ _ HC.out.2.2.1)).trans HC.out.2.2.2.2.2.1
      have f1 := (hd.frozen (p := ⟨w.heap.size + 1, 1, none⟩) (World.block_lt_of_cell? _ _ HC.out.2.2.2.1)).trans HC.out.2.2.2.2.2.2.1
      have f2 := (hd.frozen (p := ⟨w.heap.size + 1, 2, none⟩) (World.block_lt_of_cell? _ _ HC.out.2.2.2.2.1)).trans HC.out.2.2.2.2.2.2.2
      have m0 : (w1.cell? ⟨w.heap.size + 1, 0, none⟩).isSome = true := by rw [k0]; rfl
      have m1 : (w1.cell? ⟨w.heap.size + 1, 1, none⟩).isSome = true := by rw [k1]; rfl
      have m2 : (w1.cell? ⟨w.heap.size + 1, 2, none⟩).isSome = true := by rw [k2]; rfl
      have HV1 := Lib.hid (HV.out.below hd)
      clear hd
      go_wp2
      refine bodyPost_ret (v := .tuple #[.agg #[.int .i64 0, .slice none 0 0, .slice none 0 0], .int .i64 7]) (by simp [results, Try.results82, go_sem, World.cell?_setCell_same', World.cell?_setCell_other, c0, c1, m0, m1, m2]) rfl ⟨by rw [HE.out], ?_⟩
      have hB := HB1.out
      repeat (first | (with_reducible exact hB) | (with_reducible refine below_drewN' ?_ _) | (with_reducible refine Below.alloc ?_ (by first | omega | (simp <;> omega)) _) | (with_reducible refine Below.setCell ?_ (by simp) _))
set_option maxHeartbeats 1000000 in
theorem reliefOf_ok (J : Int) (A : Option Addr) (cap : Nat) (xs : List Aw) (v : Value) (lv : List Int) (w : World) (hr : AwR w A xs) (hs : ∀ a ∈ xs, a.s.size ≤ maxLen) (hl : xs.length ≤ 1048576) (hv : Row .i64 w v lv) (hvl : lv.length ≤ 1048576) (hb : rlB J xs lv = 0) :
    Calls Try.prog 82 #[.agg #[.int .i64 J, .slice A xs.length cap], v] w fun e w' => e = .returned (.tuple #[.agg #[.int .i64 J, .slice A xs.length cap, v], .int .i64 0]) ∧ Below w.heap.size w w' := by
  obtain ⟨F, fcap, rfl⟩ := hv.form
  have HB0 := Lib.hid (show Below w.heap.size w ((w.alloc (.cells #[.int .i64 J, .slice A xs.length cap] 36)).alloc (.cells #[.int .i64 0, .slice none 0 0, .slice none 0 0] 72)) from (below_box _ _).alloc (by simp) _)
  have HR := Lib.hid (hr.below HB0.out)
  have HV := Lib.hid (hv.below HB0.out)
  have HS := Lib.hid hs
  have HC := Lib.hid (show ((w.alloc (.cells #[.int .i64 J, .slice A xs.length cap] 36)).alloc (.cells #[.int .i64 0, .slice none 0 0, .slice none 0 0] 72)).cell? ⟨w.heap.size, 0, none⟩ = some (.int .i64 J) ∧ ((w.alloc (.cells #[.int .i64 J, .slice A xs.length cap] 36)).alloc (.cells #[.int .i64 0, .slice none 0 0, .slice none 0 0] 72)).cell? ⟨w.heap.size, 1, none⟩ = some (.slice A xs.length cap) ∧ ((w.alloc (.cells #[.int .i64 J, .slice A xs.length cap] 36)).alloc (.cells #[.int .i64 0, .slice none 0 0, .slice none 0 0] 72)).cell? ⟨w.heap.size + 1, 0, none⟩ = some (.int .i64 0) ∧ ((w.alloc (.cells #[.int .i64 J, .slice A xs.length cap] 36)).alloc (.cells #[.int .i64 0, .slice none 0 0, .slice none 0 0] 72)).cell? ⟨w.heap.size + 1, 1, none⟩ = some (.slice none 0 0) ∧ ((w.alloc (.cells #[.int .i64 J, .slice A xs.length cap] 36)).alloc (.cells #[.int .i64 0, .slice none 0 0, .slice none 0 0] 72)).cell? ⟨w.heap.size + 1, 2, none⟩ = some (.slice none 0 0) ∧ ((w.alloc (.cells #[.int .i64 J, .slice A xs.length cap] 36)).alloc (.cells #[.int .i64 0, .slice none 0 0, .slice none 0 0] 72)).frozen? ⟨w.heap.size + 1, 0, none⟩ = false ∧ ((w.alloc (.cells #[.int .i64 J, .slice A xs.length cap] 36)).alloc (.cells #[.int .i64 0, .slice none 0 0, .slice none 0 0] 72)).frozen? ⟨w.heap.size + 1, 1, none⟩ = false ∧ ((w.alloc (.cells #[.int .i64 J, .slice A xs.length cap] 36)).alloc (.cells #[.int .i64 0, .slice none 0 0, .slice none 0 0] 72)).frozen? ⟨w.heap.size + 1, 2, none⟩ = false from ⟨by simp, by simp, by simp, by simp, by simp, by simp, by simp, by simp⟩)
  clear hr hv hs
  obtain ⟨hok, hlv⟩ := rlB_ok hb
  have HE := Lib.hid hb
  have hle := (lvOk_iff.1 hlv).1
  have hin : allR (-3000) 3000 lv = true := allR_iff.2 (lvOk_iff.1 hlv).2
  have t1 : ((lv.length : Int) == J) = true := by simp [hle]
  have t2 : ((lv.length : Int) != J) = false := by simp [hle]
  clear hlv hb
  go_enter Try.func82, Try.ntmps82
  go_wp2_with fail
  (with_reducible refine (iValidMine_any J A cap xs _ HR.out HS.out hl).mono ?_)
  rintro e w1 ⟨rfl, hd⟩
  rw [hok]
  have HB1 := Lib.hid (HB0.out.trans (hd.mono HB0.out.size))
  have c0 := cell_keep HC.out.1 hd
  have c1 := cell_keep HC.out.2.1 hd
  have k0 := cell_keep HC.out.2.2.1 hd
  have k1 := cell_keep HC.out.2.2.2.1 hd
  have k2 := cell_keep HC.out.2.2.2.2.1 hd
  have f0 := (hd.frozen (p := ⟨w.heap.size + 1, 0, none⟩) (World.block_lt_of_cell? _ _ HC.out.2.2.1)).trans HC.out.2.2.2.2.2.1
  have f1 := (hd.frozen (p := ⟨w.heap.size + 1, 1, none⟩) (World.block_lt_of_cell? _ _ HC.out.2.2.2.1)).trans HC.out.2.2.2.2.2.2.1
  have f2 := (hd.frozen (p := ⟨w.heap.size + 1, 2, none⟩) (World.block_lt_of_cell? _ _ HC.out.2.2.2.2.1)).trans HC.out.2.2.2.2.2.2.2
  have m0 : (w1.cell? ⟨w.heap.size + 1, 0, none⟩).isSome = true := by rw [k0]; rfl
  have m1 : (w1.cell? ⟨w.heap.size + 1, 1, none⟩).isSome = true := by rw [k1]; rfl
  have m2 : (w1.cell? ⟨w.heap.size + 1, 2, none⟩).isSome = true := by rw [k2]; rfl
  have HV1 := Lib.hid (HV.out.below hd)
  clear hd
  go_wp2_with (go_at_call 59; (with_reducible refine (within64_any _ _ _ lv _ HV1.out (by omega)).mono ?_); rintro e w' ⟨rfl, rfl⟩; rw [hin])
  refine bodyPost_ret (v := .tuple #[.agg #[.int .i64 J, .slice A xs.length cap, .slice F lv.length fcap], .int .i64 0]) (by simp [results, Try.results82, go_sem, World.cell?_setCell_same', World.cell?_setCell_other, c0, c1, m0, m1, m2]) rfl ⟨rfl, ?_⟩
  have hB := HB1.out
  repeat (first | (with_reducible exact hB) | (with_reducible refine below_drewN' ?_ _) | (with_reducible refine Below.alloc ?_ (by first | omega | (simp <;> omega)) _) | (with_reducible refine Below.setCell ?_ (by simp) _))
set_option maxHeartbeats 2000000 in
theorem climateOf_bad (J : Int) (A : Option Addr) (cap : Nat) (xs : List Aw) (v t : Value) (lv tp : List Int) (w : World) (hr : AwR w A xs) (hs : ∀ a ∈ xs, a.s.size ≤ maxLen) (hl : xs.length ≤ 1048576) (hv : Row .i64 w v lv) (hvl : lv.length ≤ 1048576) (ht : Row .i64 w t tp) (htl : tp.length ≤ 1048576) (hb : askC J xs lv tp ≠ 0) :
    Calls Try.prog 64 #[.agg #[.int .i64 J, .slice A xs.length cap], v, t] w fun e w' => e = .returned (.tuple #[.agg #[.int .i64 0, .slice none 0 0, .slice none 0 0, .slice none 0 0], .int .i64 (askC J xs lv tp)]) ∧ Below w.heap.size w w' := by
  obtain ⟨F, fcap, rfl⟩ := hv.form
  obtain ⟨G, gcap, rfl⟩ := ht.form
  have HB0 := Lib.hid (show Below w.heap.size w ((w.alloc (.cells #[.int .i64 J, .slice A xs.length cap] 36)).alloc (.cells #[.int .i64 0, .slice none 0 0, .slice none 0 0, .slice none 0 0] 74)) from (below_box _ _).alloc (by simp) _)
  have HR := Lib.hid (hr.below HB0.out)
  have HV := Lib.hid (hv.below HB0.out)
  have HT := Lib.hid (ht.below HB0.out)
  have HS := Lib.hid hs
  have HC := Lib.hid (show ((w.alloc (.cells #[.int .i64 J, .slice A xs.length cap] 36)).alloc (.cells #[.int .i64 0, .slice none 0 0, .slice none 0 0, .slice none 0 0] 74)).cell? ⟨w.heap.size, 0, none⟩ = some (.int .i64 J) ∧ ((w.alloc (.cells #[.int .i64 J, .slice A xs.length cap] 36)).alloc (.cells #[.int .i64 0, .slice none 0 0, .slice none 0 0, .slice none 0 0] 74)).cell? ⟨w.heap.size, 1, none⟩ = some (.slice A xs.length cap) ∧ ((w.alloc (.cells #[.int .i64 J, .slice A xs.length cap] 36)).alloc (.cells #[.int .i64 0, .slice none 0 0, .slice none 0 0, .slice none 0 0] 74)).cell? ⟨w.heap.size + 1, 0, none⟩ = some (.int .i64 0) ∧ ((w.alloc (.cells #[.int .i64 J, .slice A xs.length cap] 36)).alloc (.cells #[.int .i64 0, .slice none 0 0, .slice none 0 0, .slice none 0 0] 74)).cell? ⟨w.heap.size + 1, 1, none⟩ = some (.slice none 0 0) ∧ ((w.alloc (.cells #[.int .i64 J, .slice A xs.length cap] 36)).alloc (.cells #[.int .i64 0, .slice none 0 0, .slice none 0 0, .slice none 0 0] 74)).cell? ⟨w.heap.size + 1, 2, none⟩ = some (.slice none 0 0) ∧ ((w.alloc (.cells #[.int .i64 J, .slice A xs.length cap] 36)).alloc (.cells #[.int .i64 0, .slice none 0 0, .slice none 0 0, .slice none 0 0] 74)).cell? ⟨w.heap.size + 1, 3, none⟩ = some (.slice none 0 0) ∧ ((w.alloc (.cells #[.int .i64 J, .slice A xs.length cap] 36)).alloc (.cells #[.int .i64 0, .slice none 0 0, .slice none 0 0, .slice none 0 0] 74)).frozen? ⟨w.heap.size + 1, 0, none⟩ = false ∧ ((w.alloc (.cells #[.int .i64 J, .slice A xs.length cap] 36)).alloc (.cells #[.int .i64 0, .slice none 0 0, .slice none 0 0, .slice none 0 0] 74)).frozen? ⟨w.heap.size + 1, 1, none⟩ = false ∧ ((w.alloc (.cells #[.int .i64 J, .slice A xs.length cap] 36)).alloc (.cells #[.int .i64 0, .slice none 0 0, .slice none 0 0, .slice none 0 0] 74)).frozen? ⟨w.heap.size + 1, 2, none⟩ = false ∧ ((w.alloc (.cells #[.int .i64 J, .slice A xs.length cap] 36)).alloc (.cells #[.int .i64 0, .slice none 0 0, .slice none 0 0, .slice none 0 0] 74)).frozen? ⟨w.heap.size + 1, 3, none⟩ = false from ⟨by simp, by simp, by simp, by simp, by simp, by simp, by simp, by simp, by simp, by simp⟩)
  clear hr hv hs ht
  by_cases hrl : rlB J xs lv = 0
  · obtain ⟨hok, hlv⟩ := rlB_ok hrl
    have htp : flOk (-300) 600 xs.length tp = false := by
      cases h : flOk (-300) 600 xs.length tp
      · rfl
      · exact absurd (show askC J xs lv tp = 0 by simp [askC, hok, hlv, h]) hb
    have HE := Lib.hid (show askC J xs lv tp = 7 by simp [askC, hok, hlv, htp])
    clear hok hlv hb
    go_enter Try.func64, Try.ntmps64
    go_wp2_with fail
    (with_reducible refine (reliefOf_ok J A cap xs _ lv _ HR.out HS.out hl HV.out hvl hrl).mono ?_)
    rintro e w1 ⟨rfl, hd1⟩
    have hd : Below ((w.alloc (.cells #[.int .i64 J, .slice A xs.length cap] 36)).alloc (.cells #[.int .i64 0, .slice none 0 0, .slice none 0 0, .slice none 0 0] 74)).heap.size ((w.alloc (.cells #[.int .i64 J, .slice A xs.length cap] 36)).alloc (.cells #[.int .i64 0, .slice none 0 0, .slice none 0 0, .slice none 0 0] 74)) (w1.alloc (.cells #[.int .i64 J, .slice A xs.length cap, .slice F lv.length fcap] 72)) := hd1.alloc hd1.size _
    obtain ⟨w2, hL⟩ : ∃ x, x = w1.alloc (.cells #[.int .i64 J, .slice A xs.length cap, .slice F lv.length fcap] 72) := ⟨_, rfl⟩
    have r0 : w2.cell? ⟨w1.heap.size, 0, none⟩ = some (.int .i64 J) := by rw [hL]; simp
    have r1 : w2.cell? ⟨w1.heap.size, 1, none⟩ = some (.slice A xs.length cap) := by rw [hL]; simp
    have r2 : w2.cell? ⟨w1.heap.size, 2, none⟩ = some (.slice F lv.length fcap) := by rw [hL]; simp
    rw [← hL] at hd
    have HB1 := Lib.hid (HB0.out.trans (hd.mono HB0.out.size))
    have c0 := cell_keep HC.out.1 hd
    have c1 := cell_keep HC.out.2.1 hd
    have k0 := cell_keep HC.out.2.2.1 hd
    have k1 := cell_keep HC.out.2.2.2.1 hd
    have k2 := cell_keep HC.out.2.2.2.2.1 hd
    have k3 := cell_keep HC.out.2.2.2.2.2.1 hd
    have f0 := (hd.frozen (p := ⟨w.heap.size + 1, 0, none⟩) (World.block_lt_of_cell? _ _ HC.out.2.2.1)).trans HC.out.2.2.2.2.2.2.1
    have f1 := (hd.frozen (p := ⟨w.heap.size + 1, 1, none⟩) (World.block_lt_of_cell? _ _ HC.out.2.2.2.1)).trans HC.out.2.2.2.2.2.2.2.1
    have f2 := (hd.frozen (p := ⟨w.heap.size + 1, 2, none⟩) (World.block_lt_of_cell? _ _ HC.out.2.2.2.2.1)).trans HC.out.2.2.2.2.2.2.2.2.1
    have f3 := (hd.frozen (p := ⟨w.heap.size + 1, 3, none⟩) (World.block_lt_of_cell? _ _ HC.out.2.2.2.2.2.1)).trans HC.out.2.2.2.2.2.2.2.2.2
    have hzw : w.heap.size + 1 < w2.heap.size := World.block_lt_of_cell? _ _ k0
    have HT1 := Lib.hid (HT.out.below hd)
    have hne : ¬ (w1.heap.size = w.heap.size + 1) := by have h := Nat.lt_of_lt_of_le (World.block_lt_of_cell? _ _ HC.out.2.2.1) hd1.size; simp only at h; omega
    have hne2 : ¬ (w.heap.size + 1 = w1.heap.size) := fun h => hne h.symm
    have hlt1 : w.heap.size + 1 < w1.heap.size := by have h := Nat.lt_of_lt_of_le (World.block_lt_of_cell? _ _ HC.out.2.2.1) hd1.size; simp only at h; omega
    have b0 := cell_keep HC.out.1 hd1
    have b1 := cell_keep HC.out.2.1 hd1
    have b2 := cell_keep HC.out.2.2.1 hd1
    have b3 := cell_keep HC.out.2.2.2.1 hd1
    have b4 := cell_keep HC.out.2.2.2.2.1 hd1
    have b5 := cell_keep HC.out.2.2.2.2.2.1 hd1
    have g0 := (hd1.frozen (p := ⟨w.heap.size + 1, 0, none⟩) (World.block_lt_of_cell? _ _ HC.out.2.2.1)).trans HC.out.2.2.2.2.2.2.1
    have g1 := (hd1.frozen (p := ⟨w.heap.size + 1, 1, none⟩) (World.block_lt_of_cell? _ _ HC.out.2.2.2.1)).trans HC.out.2.2.2.2.2.2.2.1
    have g2 := (hd1.frozen (p := ⟨w.heap.size + 1, 2, none⟩) (World.block_lt_of_cell? _ _ HC.out.2.2.2.2.1)).trans HC.out.2.2.2.2.2.2.2.2.1
    have g3 := (hd1.frozen (p := ⟨w.heap.size + 1, 3, none⟩) (World.block_lt_of_cell? _ _ HC.out.2.2.2.2.2.1)).trans HC.out.2.2.2.2.2.2.2.2.2
    have HBw := Lib.hid (HB0.out.trans (hd1.mono HB0.out.size))
    have hlt0 : w.heap.size < w1.heap.size := World.block_lt_of_cell? _ _ b0
    have hne0 : ¬ (w.heap.size = w1.heap.size) := Nat.ne_of_lt hlt0
    clear hd hd1
    go_wp2_with fail
    rw [← hL]
    clear hL
    (with_reducible refine (areTemperatures_any J A xs.length cap _ tp _ HT1.out (by omega) hl).mono ?_)
    rintro e w3 ⟨rfl, hd⟩
    rw [htp]
    have HB2 := Lib.hid (HB1.out.trans (hd.mono HB1.out.size))
    have s0 := cell_keep r0 hd
    have s1 := cell_keep r1 hd
    have s2 := cell_keep r2 hd
    replace k0 := cell_keep k0 hd
    replace k1 := cell_keep k1 hd
    replace k2 := cell_keep k2 hd
    replace f0 := (hd.frozen (p := ⟨w.heap.size + 1, 0, none⟩) hzw).trans f0
    replace f1 := (hd.frozen (p := ⟨w.heap.size + 1, 1, none⟩) hzw).trans f1
    replace f2 := (hd.frozen (p := ⟨w.heap.size + 1, 2, none⟩) hzw).trans f2
    replace f3 := (hd.frozen (p := ⟨w.heap.size + 1, 3, none⟩) hzw).trans f3
    replace k3 := cell_keep k3 hd
    clear hd c0 c1 r0 r1 r2 b0 b1 b2 b3 b4 b5 g0 g1 g2 g3
    have m0 : (w3.cell? ⟨w.heap.size + 1, 0, none⟩).isSome = true := by rw [k0]; rfl
    have m1 : (w3.cell? ⟨w.heap.size + 1, 1, none⟩).isSome = true := by rw [k1]; rfl
    have m2 : (w3.cell? ⟨w.heap.size + 1, 2, none⟩).isSome = true := by rw [k2]; rfl
    have m3 : (w3.cell? ⟨w.heap.size + 1, 3, none⟩).isSome = true := by rw [k3]; rfl
    go_wp2
    refine bodyPost_ret (v := .tuple #[.agg #[.int .i64 0, .slice none 0 0, .slice none 0 0, .slice none 0 0], .int .i64 7]) (by simp [results, Try.results64, go_sem, World.cell?_setCell_same', World.cell?_setCell_other, m0, m1, m2, m3]) rfl ⟨by rw [HE.out], ?_⟩
    have hB := HB2.out
    repeat (first | (with_reducible exact hB) | (with_reducible refine below_drewN' ?_ _) | (with_reducible refine Below.alloc ?_ (by first | omega | (simp <;> omega)) _) | (with_reducible refine Below.setCell ?_ (by simp) _))
  · have HE := Lib.hid (show askC J xs lv tp = rlB J xs lv by
      unfold askC rlB
      unfold rlB at hrl
      cases h1 : mineOk J xs <;> cases h2 : lvOk J lv <;> simp [h1, h2] at hrl ⊢)
    have hc : rlB J xs lv = 1 ∨ rlB J xs lv = 7 := by
      unfold rlB at hrl ⊢
      cases h1 : mineOk J xs <;> cases h2 : lvOk J lv <;> simp [h1, h2] at hrl ⊢
    clear hb
    go_enter Try.func64, Try.ntmps64
    go_wp2_with fail
    (with_reducible refine (reliefOf_bad J A cap xs _ lv _ HR.out HS.out hl HV.out hvl hrl).mono ?_)
    rintro e w1 ⟨rfl, hd1⟩
    have hd : Below ((w.alloc (.cells #[.int .i64 J, .slice A xs.length cap] 36)).alloc (.cells #[.int .i64 0, .slice none 0 0, .slice none 0 0, .slice none 0 0] 74)).heap.size ((w.alloc (.cells #[.int .i64 J, .slice A xs.length cap] 36)).alloc (.cells #[.int .i64 0, .slice none 0 0, .slice none 0 0, .slice none 0 0] 74)) (w1.alloc (.cells #[.int .i64 0, .slice none 0 0, .slice none 0 0] 72)) := hd1.alloc hd1.size _
    obtain ⟨w2, hL⟩ : ∃ x, x = w1.alloc (.cells #[.int .i64 0, .slice none 0 0, .slice none 0 0] 72) := ⟨_, rfl⟩
    have r0 : w2.cell? ⟨w1.heap.size, 0, none⟩ = some (.int .i64 0) := by rw [hL]; simp
    have r1 : w2.cell? ⟨w1.heap.size, 1, none⟩ = some (.slice none 0 0) := by rw [hL]; simp
    have r2 : w2.cell? ⟨w1.heap.size, 2, none⟩ = some (.slice none 0 0) := by rw [hL]; simp
    rw [← hL] at hd
    have HB1 := Lib.hid (HB0.out.trans (hd.mono HB0.out.size))
    have c0 := cell_keep HC.out.1 hd
    have c1 := cell_keep HC.out.2.1 hd
    have k0 := cell_keep HC.out.2.2.1 hd
    have k1 := cell_keep HC.out.2.2.2.1 hd
    have k2 := cell_keep HC.out.2.2.2.2.1 hd
    have k3 := cell_keep HC.out.2.2.2.2.2.1 hd
    have f0 := (hd.frozen (p := ⟨w.heap.size + 1, 0, none⟩) (World.block_lt_of_cell? _ _ HC.out.2.2.1)).trans HC.out.2.2.2.2.2.2.1
    have f1 := (hd.frozen (p := ⟨w.heap.size + 1, 1, none⟩) (World.block_lt_of_cell? _ _ HC.out.2.2.2.1)).trans HC.out.2.2.2.2.2.2.2.1
    have f2 := (hd.frozen (p := ⟨w.heap.size + 1, 2, none⟩) (World.block_lt_of_cell? _ _ HC.out.2.2.2.2.1)).trans HC.out.2.2.2.2.2.2.2.2.1
    have f3 := (hd.frozen (p := ⟨w.heap.size + 1, 3, none⟩) (World.block_lt_of_cell? _ _ HC.out.2.2.2.2.2.1)).trans HC.out.2.2.2.2.2.2.2.2.2
    have hzw : w.heap.size + 1 < w2.heap.size := World.block_lt_of_cell? _ _ k0
    have HT1 := Lib.hid (HT.out.below hd)
    have hne : ¬ (w1.heap.size = w.heap.size + 1) := by have h := Nat.lt_of_lt_of_le (World.block_lt_of_cell? _ _ HC.out.2.2.1) hd1.size; simp only at h; omega
    have hne2 : ¬ (w.heap.size + 1 = w1.heap.size) := fun h => hne h.symm
    have hlt1 : w.heap.size + 1 < w1.heap.size := by have h := Nat.lt_of_lt_of_le (World.block_lt_of_cell? _ _ HC.out.2.2.1) hd1.size; simp only at h; omega
    have b0 := cell_keep HC.out.1 hd1
    have b1 := cell_keep HC.out.2.1 hd1
    have b2 := cell_keep HC.out.2.2.1 hd1
    have b3 := cell_keep HC.out.2.2.2.1 hd1
    have b4 := cell_keep HC.out.2.2.2.2.1 hd1
    have b5 := cell_keep HC.out.2.2.2.2.2.1 hd1
    have g0 := (hd1.frozen (p := ⟨w.heap.size + 1, 0, none⟩) (World.block_lt_of_cell? _ _ HC.out.2.2.1)).trans HC.out.2.2.2.2.2.2.1
    have g1 := (hd1.frozen (p := ⟨w.heap.size + 1, 1, none⟩) (World.block_lt_of_cell? _ _ HC.out.2.2.2.1)).trans HC.out.2.2.2.2.2.2.2.1
    have g2 := (hd1.frozen (p := ⟨w.heap.size + 1, 2, none⟩) (World.block_lt_of_cell? _ _ HC.out.2.2.2.2.1)).trans HC.out.2.2.2.2.2.2.2.2.1
    have g3 := (hd1.frozen (p := ⟨w.heap.size + 1, 3, none⟩) (World.block_lt_of_cell? _ _ HC.out.2.2.2.2.2.1)).trans HC.out.2.2.2.2.2.2.2.2.2
    have HBw := Lib.hid (HB0.out.trans (hd1.mono HB0.out.size))
    have hlt0 : w.heap.size < w1.heap.size := World.block_lt_of_cell? _ _ b0
    have hne0 : ¬ (w.heap.size = w1.heap.size) := Nat.ne_of_lt hlt0
    clear hd hd1
    have m0 : (w2.cell? ⟨w.heap.size + 1, 0, none⟩).isSome = true := by rw [k0]; rfl
    have m1 : (w2.cell? ⟨w.heap.size + 1, 1, none⟩).isSome = true := by rw [k1]; rfl
    have m2 : (w2.cell? ⟨w.heap.size + 1, 2, none⟩).isSome = true := by rw [k2]; rfl
    have m3 : (w2.cell? ⟨w.heap.size + 1, 3, none⟩).isSome = true := by rw [k3]; rfl
    obtain ⟨z, hz⟩ : ∃ z, rlB J xs lv = z := ⟨_, rfl⟩
    rw [hz] at HE hc ⊢
    clear hz hrl c0 c1 r0 r1 r2
    have hz0 : ¬ z = 0 := by omega
    have hz1 : (z != 0) = true := by simp [hz0]
    have hz2 : (z == 0) = false := by simp [hz0]
    rw [hL] at HB1
    clear k0 k1 k2 k3 f0 f1 f2 f3 m0 m1 m2 m3 HT1 hzw hL
    have m0 : (w1.cell? ⟨w.heap.size + 1, 0, none⟩).isSome = true := by rw [b2]; rfl
    have m1 : (w1.cell? ⟨w.heap.size + 1, 1, none⟩).isSome = true := by rw [b3]; rfl
    have m2 : (w1.cell? ⟨w.heap.size + 1, 2, none⟩).isSome = true := by rw [b4]; rfl
    have m3 : (w1.cell? ⟨w.heap.size + 1, 3, none⟩).isSome = true := by rw [b5]; rfl
    go_wp2
    refine bodyPost_ret (v := .tuple #[.agg #[.int .i64 0, .slice none 0 0, .slice none 0 0, .slice none 0 0], .int .i64 z]) (by simp [results, Try.results64, go_sem, World.cell?_setCell_same', World.cell?_setCell_other, m0, m1, m2, m3, hne2, hlt1, World.cell?_alloc_old]) rfl ⟨by rw [HE.out], ?_⟩
    have hB := HBw.out
    repeat (first | (with_reducible exact hB) | (with_reducible refine below_drewN' ?_ _) | (with_reducible refine Below.alloc ?_ (by first | omega | (simp <;> omega)) _) | (with_reducible refine Below.setCell ?_ (by simp) _))
set_option maxHeartbeats 2000000 in
theorem climateOf_ok (J : Int) (A : Option Addr) (cap : Nat) (xs : List Aw) (v t : Value) (lv tp : List Int) (w : World) (hr : AwR w A xs) (hs : ∀ a ∈ xs, a.s.size ≤ maxLen) (hl : xs.length ≤ 1048576) (hv : Row .i64 w v lv) (hvl : lv.length ≤ 1048576) (ht : Row .i64 w t tp) (htl : tp.length ≤ 1048576) (hb : askC J xs lv tp = 0) :
    Calls Try.prog 64 #[.agg #[.int .i64 J, .slice A xs.length cap], v, t] w fun e w' => e = .returned (.tuple #[.agg #[.int .i64 J, .slice A xs.length cap, v, t], .int .i64 0]) ∧ Below w.heap.size w w' := by
  obtain ⟨F, fcap, rfl⟩ := hv.form
  obtain ⟨G, gcap, rfl⟩ := ht.form
  have HB0 := Lib.hid (show Below w.heap.size w ((w.alloc (.cells #[.int .i64 J, .slice A xs.length cap] 36)).alloc (.cells #[.int .i64 0, .slice none 0 0, .slice none 0 0, .slice none 0 0] 74)) from (below_box _ _).alloc (by simp) _)
  have HR := Lib.hid (hr.below HB0.out)
  have HV := Lib.hid (hv.below HB0.out)
  have HT := Lib.hid (ht.below HB0.out)
  have HS := Lib.hid hs
  have HC := Lib.hid (show ((w.alloc (.cells #[.int .i64 J, .slice A xs.length cap] 36)).alloc (.cells #[.int .i64 0, .slice none 0 0, .slice none 0 0, .slice none 0 0] 74)).cell? ⟨w.heap.size, 0, none⟩ = some (.int .i64 J) ∧ ((w.alloc (.cells #[.int .i64 J, .slice A xs.length cap] 36)).alloc (.cells #[.int .i64 0, .slice none 0 0, .slice none 0 0, .slice none 0 0] 74)).cell? ⟨w.heap.size, 1, none⟩ = some (.slice A xs.length cap) ∧ ((w.alloc (.cells #[.int .i64 J, .slice A xs.length cap] 36)).alloc (.cells #[.int .i64 0, .slice none 0 0, .slice none 0 0, .slice none 0 0] 74)).cell? ⟨w.heap.size + 1, 0, none⟩ = some (.int .i64 0) ∧ ((w.alloc (.cells #[.int .i64 J, .slice A xs.length cap] 36)).alloc (.cells #[.int .i64 0, .slice none 0 0, .slice none 0 0, .slice none 0 0] 74)).cell? ⟨w.heap.size + 1, 1, none⟩ = some (.slice none 0 0) ∧ ((w.alloc (.cells #[.int .i64 J, .slice A xs.length cap] 36)).alloc (.cells #[.int .i64 0, .slice none 0 0, .slice none 0 0, .slice none 0 0] 74)).cell? ⟨w.heap.size + 1, 2, none⟩ = some (.slice none 0 0) ∧ ((w.alloc (.cells #[.int .i64 J, .slice A xs.length cap] 36)).alloc (.cells #[.int .i64 0, .slice none 0 0, .slice none 0 0, .slice none 0 0] 74)).cell? ⟨w.heap.size + 1, 3, none⟩ = some (.slice none 0 0) ∧ ((w.alloc (.cells #[.int .i64 J, .slice A xs.length cap] 36)).alloc (.cells #[.int .i64 0, .slice none 0 0, .slice none 0 0, .slice none 0 0] 74)).frozen? ⟨w.heap.size + 1, 0, none⟩ = false ∧ ((w.alloc (.cells #[.int .i64 J, .slice A xs.length cap] 36)).alloc (.cells #[.int .i64 0, .slice none 0 0, .slice none 0 0, .slice none 0 0] 74)).frozen? ⟨w.heap.size + 1, 1, none⟩ = false ∧ ((w.alloc (.cells #[.int .i64 J, .slice A xs.length cap] 36)).alloc (.cells #[.int .i64 0, .slice none 0 0, .slice none 0 0, .slice none 0 0] 74)).frozen? ⟨w.heap.size + 1, 2, none⟩ = false ∧ ((w.alloc (.cells #[.int .i64 J, .slice A xs.length cap] 36)).alloc (.cells #[.int .i64 0, .slice none 0 0, .slice none 0 0, .slice none 0 0] 74)).frozen? ⟨w.heap.size + 1, 3, none⟩ = false from ⟨by simp, by simp, by simp, by simp, by simp, by simp, by simp, by simp, by simp, by simp⟩)
  clear hr hv hs ht
  obtain ⟨hok, hlv, htp⟩ := askC_ok hb
  have hrl : rlB J xs lv = 0 := by simp [rlB, hok, hlv]
  have HE := Lib.hid hb
  clear hok hlv hb
  go_enter Try.func64, Try.ntmps64
  go_wp2_with fail
  (with_reducible refine (reliefOf_ok J A cap xs _ lv _ HR.out HS.out hl HV.out hvl hrl).mono ?_)
  rintro e w1 ⟨rfl, hd1⟩
  have hd : Below ((w.alloc (.cells #[.int .i64 J, .slice A xs.length cap] 36)).alloc (.cells #[.int .i64 0, .slice none 0 0, .slice none 0 0, .slice none 0 0] 74)).heap.size ((w.alloc (.cells #[.int .i64 J, .slice A xs.length cap] 36)).alloc (.cells #[.int .i64 0, .slice none 0 0, .slice none 0 0, .slice none 0 0] 74)) (w1.alloc (.cells #[.int .i64 J, .slice A xs.length cap, .slice F lv.length fcap] 72)) := hd1.alloc hd1.size _
  obtain ⟨w2, hL⟩ : ∃ x, x = w1.alloc (.cells #[.int .i64 J, .slice A xs.length cap, .slice F lv.length fcap] 72) := ⟨_, rfl⟩
  have r0 : w2.cell? ⟨w1.heap.size, 0, none⟩ = some (.int .i64 J) := by rw [hL]; simp
  have r1 : w2.cell? ⟨w1.heap.size, 1, none⟩ = some (.slice A xs.length cap) := by rw [hL]; simp
  have r2 : w2.cell? ⟨w1.heap.size, 2, none⟩ = some (.slice F lv.length fcap) := by rw [hL]; simp
  rw [← hL] at hd
  have HB1 := Lib.hid (HB0.out.trans (hd.mono HB0.out.size))
  have c0 := cell_keep HC.out.1 hd
  have c1 := cell_keep HC.out.2.1 hd
  have k0 := cell_keep HC.out.2.2.1 hd
  have k1 := cell_keep HC.out.2.2.2.1 hd
  have k2 := cell_keep HC.out.2.2.2.2.1 hd
  have k3 := cell_keep HC.out.2.2.2.2.2.1 hd
  have f0 := (hd.frozen (p := ⟨w.heap.size + 1, 0, none⟩) (World.block_lt_of_cell? _ _ HC.out.2.2.1)).trans HC.out.2.2.2.2.2.2.1
  have f1 := (hd.frozen (p := ⟨w.heap.size + 1, 1, none⟩) (World.block_lt_of_cell? _ _ HC.out.2.2.2.1)).trans HC.out.2.2.2.2.2.2.2.1
  have f2 := (hd.frozen (p := ⟨w.heap.size + 1, 2, none⟩) (World.block_lt_of_cell? _ _ HC.out.2.2.2.2.1)).trans HC.out.2.2.2.2.2.2.2.2.1
  have f3 := (hd.frozen (p := ⟨w.heap.size + 1, 3, none⟩) (World.block_lt_of_cell? _ _ HC.out.2.2.2.2.2.1)).trans HC.out.2.2.2.2.2.2.2.2.2
  have hzw : w.heap.size + 1 < w2.heap.size := World.block_lt_of_cell? _ _ k0
  have HT1 := Lib.hid (HT.out.below hd)
  have hne : ¬ (w1.heap.size = w.heap.size + 1) := by have h := Nat.lt_of_lt_of_le (World.block_lt_of_cell? _ _ HC.out.2.2.1) hd1.size; simp only at h; omega
  have hne2 : ¬ (w.heap.size + 1 = w1.heap.size) := fun h => hne h.symm
  have hlt1 : w.heap.size + 1 < w1.heap.size := by have h := Nat.lt_of_lt_of_le (World.block_lt_of_cell? _ _ HC.out.2.2.1) hd1.size; simp only at h; omega
  have b0 := cell_keep HC.out.1 hd1
  have b1 := cell_keep HC.out.2.1 hd1
  have b2 := cell_keep HC.out.2.2.1 hd1
  have b3 := cell_keep HC.out.2.2.2.1 hd1
  have b4 := cell_keep HC.out.2.2.2.2.1 hd1
  have b5 := cell_keep HC.out.2.2.2.2.2.1 hd1
  have g0 := (hd1.frozen (p := ⟨w.heap.size + 1, 0, none⟩) (World.block_lt_of_cell? _ _ HC.out.2.2.1)).trans HC.out.2.2.2.2.2.2.1
  have g1 := (hd1.frozen (p := ⟨w.heap.size + 1, 1, none⟩) (World.block_lt_of_cell? _ _ HC.out.2.2.2.1)).trans HC.out.2.2.2.2.2.2.2.1
  have g2 := (hd1.frozen (p := ⟨w.heap.size + 1, 2, none⟩) (World.block_lt_of_cell? _ _ HC.out.2.2.2.2.1)).trans HC.out.2.2.2.2.2.2.2.2.1
  have g3 := (hd1.frozen (p := ⟨w.heap.size + 1, 3, none⟩) (World.block_lt_of_cell? _ _ HC.out.2.2.2.2.2.1)).trans HC.out.2.2.2.2.2.2.2.2.2
  have HBw := Lib.hid (HB0.out.trans (hd1.mono HB0.out.size))
  have hlt0 : w.heap.size < w1.heap.size := World.block_lt_of_cell? _ _ b0
  have hne0 : ¬ (w.heap.size = w1.heap.size) := Nat.ne_of_lt hlt0
  clear hd hd1
  go_wp2_with fail
  rw [← hL]
  clear hL
  (with_reducible refine (areTemperatures_any J A xs.length cap _ tp _ HT1.out (by omega) hl).mono ?_)
  rintro e w3 ⟨rfl, hd⟩
  rw [htp]
  have HB2 := Lib.hid (HB1.out.trans (hd.mono HB1.out.size))
  have s0 := cell_keep r0 hd
  have s1 := cell_keep r1 hd
  have s2 := cell_keep r2 hd
  replace k0 := cell_keep k0 hd
  replace k1 := cell_keep k1 hd
  replace k2 := cell_keep k2 hd
  replace f0 := (hd.frozen (p := ⟨w.heap.size + 1, 0, none⟩) hzw).trans f0
  replace f1 := (hd.frozen (p := ⟨w.heap.size + 1, 1, none⟩) hzw).trans f1
  replace f2 := (hd.frozen (p := ⟨w.heap.size + 1, 2, none⟩) hzw).trans f2
  replace f3 := (hd.frozen (p := ⟨w.heap.size + 1, 3, none⟩) hzw).trans f3
  replace k3 := cell_keep k3 hd
  clear hd c0 c1 r0 r1 r2 b0 b1 b2 b3 b4 b5 g0 g1 g2 g3
  have m0 : (w3.cell? ⟨w.heap.size + 1, 0, none⟩).isSome = true := by rw [k0]; rfl
  have m1 : (w3.cell? ⟨w.heap.size + 1, 1, none⟩).isSome = true := by rw [k1]; rfl
  have m2 : (w3.cell? ⟨w.heap.size + 1, 2, none⟩).isSome = true := by rw [k2]; rfl
  have m3 : (w3.cell? ⟨w.heap.size + 1, 3, none⟩).isSome = true := by rw [k3]; rfl
  go_wp2
  refine bodyPost_ret (v := .tuple #[.agg #[.int .i64 J, .slice A xs.length cap, .slice F lv.length fcap, .slice G tp.length gcap], .int .i64 0]) (by simp [results, Try.results64, go_sem, World.cell?_setCell_same', World.cell?_setCell_other, m0, m1, m2, m3]) rfl ⟨rfl, ?_⟩
  have hB := HB2.out
  repeat (first | (with_reducible exact hB) | (with_reducible refine below_drewN' ?_ _) | (with_reducible refine Below.alloc ?_ (by first | omega | (simp <;> omega)) _) | (with_reducible refine Below.setCell ?_ (by simp) _))
end Go.Proofs.Ytjooebiiceillaa
