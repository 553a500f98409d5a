/-
  Contracts of chapter 9: the draughts of all airways; the model's and the program's. Conditions: those that each theorem states.
-/
import Derived.Test.YtjooebiiceillaaZc
namespace Go.Proofs.Ytjooebiiceillaa
open Go.RowKit
set_option linter.unusedVariables false
set_option linter.unusedSimpArgs false

/-- A row that is filled from the left: the first k numbers are there, zeros behind. -/
def fillL (n : Nat) (f : Nat → Int) (k : Nat) : List Int := (List.range n).map (fun j => if j < k then f j else 0)
theorem fillL_len (n : Nat) (f : Nat → Int) (k : Nat) : (fillL n f k).length = n := by simp [fillL]
theorem fillL_zero (n : Nat) (f : Nat → Int) : fillL n f 0 = List.replicate n 0 := by
  apply List.ext_getElem (by simp [fillL])
  intro j h1 h2
  simp [fillL]
theorem fillL_full (n : Nat) (f : Nat → Int) : fillL n f n = (List.range n).map f := by
  apply List.ext_getElem (by simp [fillL])
  intro j h1 h2
  have : j < n := by simpa [fillL] using h1
  simp [fillL, this]
theorem fillL_put {n : Nat} (f : Nat → Int) {k : Nat} (h : k < n) : (intsV (fillL n f k)).set k (.int .i64 (f k)) = intsV (fillL n f (k + 1)) := by
  unfold intsV
  rw [← List.map_set]
  congr 1
  apply List.ext_getElem (by simp [fillL])
  intro j h1 h2
  have hj : j < n := by simpa [fillL] using h2
  simp only [List.getElem_set, fillL, List.getElem_map, List.getElem_range]
  by_cases e : k = j
  · subst e; rw [if_pos rfl, if_pos (by omega)]
  · rw [if_neg e]
    by_cases q : j < k
    · rw [if_pos q, if_pos (by omega)]
    · rw [if_neg q, if_neg (by omega)]
theorem fillL_at {n : Nat} (f : Nat → Int) {k : Nat} (h : k < n) : (intsV (fillL n f k))[k]? = some (.int .i64 0) := by
  simp [intsV, fillL, h]
theorem fillL_made (n : Nat) (f : Nat → Int) : (madeCells #[.int .i64 0] n).toList = intsV (fillL n f 0) := by
  rw [fillL_zero]
  simp [madeCells, intsV, Nat.mod_one, List.map_const']
theorem ret_vz {v : Value} {b b' : Int} (h : b = b') : Ending.returned (.tuple #[v, .int .i64 b]) = .returned (.tuple #[v, .int .i64 b']) := by rw [h]
theorem own_lez {w : World} {B B' : Nat} {v : Value} {xs : List Int} (h : OwnI w B v xs) (hb : B' ≤ B) : OwnI w B' v xs := by
  obtain ⟨hl, h⟩ := h
  refine ⟨hl, ?_⟩
  rcases h with h | ⟨g, cap, cur, e, hg, r⟩
  · exact .inl h
  · exact .inr ⟨g, cap, cur, e, Nat.le_trans hb hg, r⟩
theorem own_nilz (w : World) (B : Nat) : OwnI w B (.slice none 0 0) [] := World.ownsRow_nil _ _ _ _
set_option maxHeartbeats 1000000 in
theorem sDraughtsOf_any (J : Int) (A : Option Addr) (cap : Nat) (xs : List Aw) (V : Value) (lv : List Int) (T : Value) (tp : List Int) (w : World) (hr : AwR w A xs) (hs : ∀ a ∈ xs, a.s.size ≤ maxLen) (hl : xs.length ≤ 1048576) (hv : Row .i64 w V lv) (hvl : lv.length ≤ 1048576) (ht : Row .i64 w T tp) (htl : tp.length ≤ 1048576) :
    Calls Try.prog 22 #[.agg #[.int .i64 J, .slice A xs.length cap], V, T] w fun e w' => ∃ u, e = .returned (.tuple #[u, .int .i64 (askC J xs lv tp)]) ∧ OwnI w' w.heap.size u (drR J xs lv tp) ∧ Below w.heap.size w w' := by
  obtain ⟨F, fcap, rfl⟩ := hv.form
  obtain ⟨G, gcap, rfl⟩ := ht.form
  have HB0 := Lib.hid (below_box w (.cells #[.int .i64 J, .slice A xs.length cap] 36))
  have HR := Lib.hid (hr.below HB0.out)
  have HV := Lib.hid (RowW.of_row (hv.below HB0.out))
  have HT := Lib.hid (RowW.of_row (ht.below HB0.out))
  have HA := Lib.hid (show (w.alloc (.cells #[.int .i64 J, .slice A xs.length cap] 36)).cell? ⟨w.heap.size, 1, none⟩ = some (.slice A xs.length cap) by simp)
  have HS := Lib.hid hs
  clear hr hv ht hs
  by_cases hc : askC J xs lv tp = 0
  · have HE := Lib.hid (show drR J xs lv tp = draT xs lv tp xs.length by simp [drR, hc])
    have HOK := Lib.hid (askC_ok hc)
    go_enter Try.func22, Try.ntmps22
    go_wp2_with fail
    (with_reducible refine (l09Ask_any w.heap.size J A cap xs _ _ lv tp (w.alloc (.cells #[.int .i64 J, .slice A xs.length cap] 36)) (by simp) (by simp) HR.out HS.out hl HV.out hvl HT.out htl).mono ?_)
    rintro e w1 ⟨rfl, n, rfl⟩
    have HB1 := Lib.hid (show Below w.heap.size w ((w.alloc (.cells #[.int .i64 J, .slice A xs.length cap] 36)).drewN n) from below_drewN' HB0.out n)
    have HR1 := Lib.hid (show AwR ((w.alloc (.cells #[.int .i64 J, .slice A xs.length cap] 36)).drewN n) A xs from HR.out)
    have HV1 := Lib.hid (show RowW .i64 ((w.alloc (.cells #[.int .i64 J, .slice A xs.length cap] 36)).drewN n) _ lv from HV.out)
    have HT1 := Lib.hid (show RowW .i64 ((w.alloc (.cells #[.int .i64 J, .slice A xs.length cap] 36)).drewN n) _ tp from HT.out)
    have HA1 := Lib.hid (show ((w.alloc (.cells #[.int .i64 J, .slice A xs.length cap] 36)).drewN n).cell? ⟨w.heap.size, 1, none⟩ = some (.slice A xs.length cap) from HA.out)
    generalize (w.alloc (.cells #[.int .i64 J, .slice A xs.length cap] 36)).drewN n = W1 at *
    rw [hc]
    go_wp2_with (go_at_call 62; (with_reducible refine (l09Draughts_any w.heap.size cap J A xs _ _ lv tp W1 HA1.out HR1.out HV1.out HT1.out HOK.out.1 HOK.out.2.1 HOK.out.2.2).mono ?_); rintro e w2 ⟨u, rfl, ho, hd⟩; have HO := Lib.hid ho; have HB2 := Lib.hid (HB1.out.trans (hd.mono HB1.out.size)); clear ho hd)
    go_ret2
    exact ⟨_, ret_vz hc.symm, by rw [HE.out]; exact own_lez HO.out HB1.out.size, HB2.out⟩
  · have HE := Lib.hid (show drR J xs lv tp = [] by simp [drR, hc])
    have hz1 : (askC J xs lv tp != 0) = true := by simp [hc]
    have hz2 : (askC J xs lv tp == 0) = false := by simp [hc]
    generalize hzz : askC J xs lv tp = z at *
    go_enter Try.func22, Try.ntmps22
    go_wp2_with fail
    (with_reducible refine (l09Ask_any w.heap.size J A cap xs _ _ lv tp (w.alloc (.cells #[.int .i64 J, .slice A xs.length cap] 36)) (by simp) (by simp) HR.out HS.out hl HV.out hvl HT.out htl).mono ?_)
    rintro e w1 ⟨rfl, n, rfl⟩
    have HB1 := Lib.hid (show Below w.heap.size w ((w.alloc (.cells #[.int .i64 J, .slice A xs.length cap] 36)).drewN n) from below_drewN' HB0.out n)
    have HR1 := Lib.hid (show AwR ((w.alloc (.cells #[.int .i64 J, .slice A xs.length cap] 36)).drewN n) A xs from HR.out)
    have HV1 := Lib.hid (show RowW .i64 ((w.alloc (.cells #[.int .i64 J, .slice A xs.length cap] 36)).drewN n) _ lv from HV.out)
    have HT1 := Lib.hid (show RowW .i64 ((w.alloc (.cells #[.int .i64 J, .slice A xs.length cap] 36)).drewN n) _ tp from HT.out)
    have HA1 := Lib.hid (show ((w.alloc (.cells #[.int .i64 J, .slice A xs.length cap] 36)).drewN n).cell? ⟨w.heap.size, 1, none⟩ = some (.slice A xs.length cap) from HA.out)
    generalize (w.alloc (.cells #[.int .i64 J, .slice A xs.length cap] 36)).drewN n = W1 at *
    rw [hzz]
    go_wp2
    go_ret2
    exact ⟨_, rfl, by rw [HE.out]; exact own_nilz _ _, HB1.out⟩
set_option maxHeartbeats 2000000 in
set_option maxRecDepth 100000 in
theorem iDraughtsOf_any (J : Int) (A : Option Addr) (cap : Nat) (xs : List Aw) (V : Value) (lv : List Int) (T : Value) (tp : List Int) (w : World) (hr : AwR w A xs) (hs : ∀ a ∈ xs, a.s.size ≤ maxLen) (hl : xs.length ≤ 1048576) (hv : Row .i64 w V lv) (hvl : lv.length ≤ 1048576) (ht : Row .i64 w T tp) (htl : tp.length ≤ 1048576) :
    Calls Try.prog 25 #[.agg #[.int .i64 J, .slice A xs.length cap], V, T] w fun e w' => ∃ u, e = .returned (.tuple #[u, .int .i64 (askC J xs lv tp)]) ∧ OwnI w' w.heap.size u (drR J xs lv tp) ∧ Below w.heap.size w w' := by
  obtain ⟨F, fcap, rfl⟩ := hv.form
  obtain ⟨G, gcap, rfl⟩ := ht.form
  have HB0 := Lib.hid (below_box w (.cells #[.int .i64 J, .slice A xs.length cap] 36))
  have HR := Lib.hid (hr.below HB0.out)
  have HV := Lib.hid (hv.below HB0.out)
  have HT := Lib.hid (ht.below HB0.out)
  have HA := Lib.hid (show (w.alloc (.cells #[.int .i64 J, .slice A xs.length cap] 36)).cell? ⟨w.heap.size, 1, none⟩ = some (.slice A xs.length cap) by simp)
  have HS := Lib.hid hs
  clear hr hv ht hs
  by_cases hc : askC J xs lv tp = 0
  · have HE := Lib.hid (show drR J xs lv tp = draT xs lv tp xs.length by simp [drR, hc])
    have HOK := Lib.hid (askC_ok hc)
    have h24 := (mineOk_iff.1 HOK.out.1).2.2
    have hmk := run_make_row' (P := Try.prog) 30 2 (.int .i64 0) 8 Try.underlying30 info_i64 rfl .i64 .i64 xs.length (by omega) (by omega)
    go_enter Try.func25, Try.ntmps25
    go_wp2_with fail
    (with_reducible refine (climateOf_ok J A cap xs _ _ lv tp (w.alloc (.cells #[.int .i64 J, .slice A xs.length cap] 36)) HR.out HS.out hl HV.out hvl HT.out htl hc).mono ?_)
    rintro e w1 ⟨rfl, hd1⟩
    have HB1 := Lib.hid (HB0.out.trans (hd1.mono HB0.out.size))
    have hm := cell_keep HA.out hd1
    have hw1 : w.heap.size < w1.heap.size := World.block_lt_of_cell? _ _ hm
    have hwn : ¬ (w.heap.size = w1.heap.size) := Nat.ne_of_lt hw1
    have HR1 := Lib.hid (HR.out.below hd1)
    have HV1 := Lib.hid (RowW.of_row (HV.out.below hd1))
    have HT1 := Lib.hid (RowW.of_row (HT.out.below hd1))
    clear hd1
    go_wp2_with fail
    clear hmk
    have k0 : (w1.alloc (.cells #[.int .i64 J, .slice A xs.length cap, .slice F lv.length fcap, .slice G tp.length gcap] 74)).cell? ⟨w1.heap.size, 0, none⟩ = some (.int .i64 J) := by simp
    have k1 : (w1.alloc (.cells #[.int .i64 J, .slice A xs.length cap, .slice F lv.length fcap, .slice G tp.length gcap] 74)).cell? ⟨w1.heap.size, 1, none⟩ = some (.slice A xs.length cap) := by simp
    have k2 : (w1.alloc (.cells #[.int .i64 J, .slice A xs.length cap, .slice F lv.length fcap, .slice G tp.length gcap] 74)).cell? ⟨w1.heap.size, 2, none⟩ = some (.slice F lv.length fcap) := by simp
    have k3 : (w1.alloc (.cells #[.int .i64 J, .slice A xs.length cap, .slice F lv.length fcap, .slice G tp.length gcap] 74)).cell? ⟨w1.heap.size, 3, none⟩ = some (.slice G tp.length gcap) := by simp
    have hB2 := below_box w1 (.cells #[.int .i64 J, .slice A xs.length cap, .slice F lv.length fcap, .slice G tp.length gcap] 74)
    have hsz : (w1.alloc (.cells #[.int .i64 J, .slice A xs.length cap, .slice F lv.length fcap, .slice G tp.length gcap] 74)).heap.size = w1.heap.size + 1 := by simp
    have HR2 := Lib.hid (HR1.out.below hB2)
    have HV2 := Lib.hid (HV1.out.below hB2)
    have HT2 := Lib.hid (HT1.out.below hB2)
    generalize w1.alloc (.cells #[.int .i64 J, .slice A xs.length cap, .slice F lv.length fcap, .slice G tp.length gcap] 74) = w2 at *
    have HK := Lib.hid (And.intro k0 (And.intro k1 (And.intro k2 k3)))
    have HB2 := Lib.hid (HB1.out.trans (hB2.mono HB1.out.size))
    clear k0 k1 k2 k3 hB2 hm
    go_loopw [28] (fun i wr => ∃ k : Nat, k ≤ xs.length ∧ i = .int .i64 k ∧ wr.ownsRow w2.heap.size 2 1 (.slice (some ⟨w1.heap.size + 1, 0, none⟩) xs.length xs.length) xs.length (intsV (fillL xs.length (draR xs lv tp) k)) ∧ Below w2.heap.size w2 wr) (fun i wr => xs.length - (intOf i).toNat)
    case atStart =>
      refine ⟨0, by omega, rfl, ?_, (Below.refl _ _).alloc (Nat.le_refl _) _⟩
      have h := World.ownsRow_lit (base := w2.heap.size) (e := 2) (size := 1) w2 (madeCells #[.int .i64 0] xs.length) xs.length (by omega) (by unfold maxLen; omega) (by simp [madeCells])
      rw [fillL_made _ (draR xs lv tp), hsz] at h
      rw [hsz]
      exact h
    case round =>
      obtain ⟨k, hk, rfl, hown, hbel⟩ := hrel
      have hwz := hbel.size
      by_cases hlt : k < xs.length
      · have k0 := cell_keep HK.out.1 hbel
        have k1 := cell_keep HK.out.2.1 hbel
        have k2 := cell_keep HK.out.2.2.1 hbel
        have k3 := cell_keep HK.out.2.2.2 hbel
        have HX := Lib.hid (draught_any J A cap xs _ _ lv tp k wr (HR2.out.below hbel) (HV2.out.below hbel) (HT2.out.below hbel) HOK.out.1 HOK.out.2.1 HOK.out.2.2 hlt)
        have HP := Lib.hid (fillL_put (draR xs lv tp) hlt)
        have HO := Lib.hid hown
        have HBL := Lib.hid hbel
        have hlI : (k : Int) < (xs.length : Int) := by omega
        clear hown hbel
        generalize draR xs lv tp k = y at *
        go_wp2_with fail
        (with_reducible refine (HX.out).mono ?_)
        rintro e w3 ⟨rfl, hd3⟩
        have HO3 := Lib.hid (own_below HO.out hd3)
        have HB3 := Lib.hid (HBL.out.trans (hd3.mono HBL.out.size))
        have dz : w3.cell? ⟨w1.heap.size + 1, k, none⟩ = some (.int .i64 0) := by rw [HO3.out.cellAt k (by omega), fillL_at _ hlt]
        have fz := HO3.out.frozenAt k
        clear hd3 k0 k1 k2 k3
        go_wp2
        go_roundw
        case rel => exact ⟨k + 1, by omega, by go_num, by
          have h := (HO3.out.stored k (.int .i64 y)).1
          rwa [HP.out] at h, HB3.out.setCell (by show w2.heap.size ≤ w1.heap.size + 1; omega) _⟩
        case measure => simp [intOf]; omega
      · obtain rfl : k = xs.length := by omega
        rw [fillL_full] at hown
        have HOW := Lib.hid (show OwnI wr w2.heap.size _ (draT xs lv tp xs.length) by unfold OwnI; rw [draT_len]; exact hown)
        have HBz := Lib.hid hbel
        clear hown hbel
        go_wp2
        go_ret2
        exact ⟨_, ret_vz hc.symm, by rw [HE.out]; exact own_lez HOW.out HB2.out.size, HB2.out.trans (HBz.out.mono HB2.out.size)⟩
  · have HE := Lib.hid (show drR J xs lv tp = [] by simp [drR, hc])
    have hz1 : (askC J xs lv tp != 0) = true := by simp [hc]
    have hz2 : (askC J xs lv tp == 0) = false := by simp [hc]
    generalize hzz : askC J xs lv tp = z at *
    go_enter Try.func25, Try.ntmps25
    go_wp2_with fail
    (with_reducible refine (climateOf_bad J A cap xs _ _ lv tp (w.alloc (.cells #[.int .i64 J, .slice A xs.length cap] 36)) HR.out HS.out hl HV.out hvl HT.out htl (by rw [hzz]; exact hc)).mono ?_)
    rw [hzz]
    rintro e w1 ⟨rfl, hd1⟩
    have HB1 := Lib.hid (HB0.out.trans (hd1.mono HB0.out.size))
    clear hd1
    go_wp2
    go_ret2
    exact ⟨_, rfl, by rw [HE.out]; exact own_nilz _ _, HB1.out.alloc HB1.out.size _⟩
end Go.Proofs.Ytjooebiiceillaa
