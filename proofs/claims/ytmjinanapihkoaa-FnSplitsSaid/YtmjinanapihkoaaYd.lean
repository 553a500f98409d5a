/-
  Contracts of chapter 8: the parts of a flow and their drops; the model's and the program's. Conditions: those that each theorem states.
-/
import Derived.Test.YtmjinanapihkoaaYc
namespace Go.Proofs.Ytmjinanapihkoaa
open Go.RowKit
set_option linter.unusedVariables false
set_option linter.unusedSimpArgs false

theorem quiet_y {P : Program} {f : FuncId} {args : Array Value} {w : World} {n : Nat} {v : Value}
    (h : Calls P f args (w.drewN n) fun e w' => e = .returned v ∧ w.drewN n = w') : Calls P f args (w.drewN n) fun e w'' => e = .returned v ∧ ∃ m, w'' = w.drewN m :=
  h.mono fun _ _ ⟨he, hm⟩ => ⟨he, n, hm.symm⟩
theorem own_form {w : World} {B : Nat} {v : Value} {xs : List Int} (h : OwnI w B v xs) (h1 : 1 ≤ xs.length) : ∃ g cap, v = .slice (some ⟨g, 0, none⟩) xs.length cap ∧ B ≤ g := by
  rcases h.2 with ⟨-, h0⟩ | ⟨g, cap, cur, e, hg, -⟩
  · omega
  · exact ⟨g, cap, e, hg⟩
theorem condS_mono {xs : List Int} (hr : ∀ y ∈ xs, 1 ≤ y ∧ y ≤ 1000000) (k : Nat) : ((condL xs).take k).sum ≤ ((condL xs).take (k + 1)).sum := by
  by_cases h : k < xs.length
  · rw [condS_snoc h]
    have := condR_bd (hr _ (List.getElem_mem h)).1 (hr _ (List.getElem_mem h)).2
    omega
  · rw [List.take_of_length_le (by rw [condL_len]; omega), List.take_of_length_le (by rw [condL_len]; omega)]
    exact Int.le_refl _
theorem splitS_pos {xs : List Int} {q : Int} (hr : resL xs = true) (h0 : 0 ≤ q) (k : Nat) : splitS xs q k ≤ splitS xs q (k + 1) := by
  have HR := resL_iff.1 hr
  have hp := condS_pos HR.2 HR.1.1
  have m0 := condS_nonneg HR.2 k
  have m1 := condS_mono HR.2 k
  have a0 := Int.mul_nonneg h0 m0
  have a1 := Int.mul_le_mul_of_nonneg_left m1 h0
  unfold splitS
  rw [divR_pp _ _ a0 (by omega), divR_pp _ _ (by omega) (by omega)]
  exact Int.ediv_le_ediv (by omega) (by omega)
theorem splitS_end {xs : List Int} {q : Int} (hr : resL xs = true) (h0 : 0 ≤ q) : splitS xs q xs.length = q := by
  have HR := resL_iff.1 hr
  have hp := condS_pos HR.2 HR.1.1
  unfold splitS
  rw [List.take_of_length_le (by rw [condL_len]; exact Nat.le_refl _), show (condL xs).sum = condS xs from rfl]
  generalize condS xs = s at *
  have a0 : 0 ≤ q * s := Int.mul_nonneg h0 (by omega)
  rw [divR_pp _ _ a0 (by omega)]
  rw [show 2 * (q * s) + s = s + q * (2 * s) by rw [Int.mul_left_comm]; omega, Int.add_mul_ediv_right _ _ (by omega), Int.ediv_eq_zero_of_lt (by omega) (by omega)]
  omega
theorem splitS_neg {xs : List Int} {q : Int} (k : Nat) : splitS xs q k = -splitS xs (-q) k := by
  unfold splitS
  rw [show q * ((condL xs).take k).sum = -(-q * ((condL xs).take k).sum) by rw [Int.neg_mul]; omega]
  by_cases h : -q * ((condL xs).take k).sum = 0
  · rw [h]; simp [divR_zero]
  · rw [divR_neg_left _ _ h]
theorem splitS_le {xs : List Int} {q : Int} (hr : resL xs = true) (h0 : 0 ≤ q) : ∀ k, 0 ≤ splitS xs q k ∧ splitS xs q k ≤ splitS xs q (k + xs.length)
  | 0 => by
    have : ∀ j, 0 ≤ splitS xs q j := by
      intro j
      induction j with
      | zero => rw [splitS_zero]; exact Int.le_refl _
      | succ j ih => have := splitS_pos (xs := xs) hr h0 j; omega
    rw [splitS_zero]
    exact ⟨Int.le_refl _, this _⟩
  | k + 1 => by
    have : ∀ j, splitS xs q (k + 1) ≤ splitS xs q (k + 1 + j) := by
      intro j
      induction j with
      | zero => exact Int.le_refl _
      | succ j ih => have := splitS_pos (xs := xs) hr h0 (k + 1 + j); rw [show k + 1 + (j + 1) = k + 1 + j + 1 by omega]; omega
    have h1 := (splitS_le hr h0 k).1
    have h2 := splitS_pos (xs := xs) hr h0 k
    exact ⟨by omega, this _⟩
theorem splitS_past (xs : List Int) (q : Int) (k : Nat) (h : xs.length ≤ k) : splitS xs q k = splitS xs q xs.length := by
  unfold splitS
  rw [List.take_of_length_le (by rw [condL_len]; exact h), List.take_of_length_le (by rw [condL_len]; exact Nat.le_refl _)]
theorem splitF_pos {xs : List Int} {q : Int} (hr : resL xs = true) (h0 : 0 ≤ q) (k : Nat) : 0 ≤ splitF xs q k ∧ splitF xs q k ≤ q := by
  have h1 := splitS_pos (xs := xs) hr h0 k
  have h2 := (splitS_le hr h0 k).1
  have h3 := (splitS_le hr h0 (k + 1)).2
  rw [splitS_past xs q (k + 1 + xs.length) (by omega), splitS_end hr h0] at h3
  unfold splitF
  omega
theorem splitF_neg (xs : List Int) (q : Int) (k : Nat) : splitF xs q k = -splitF xs (-q) k := by
  unfold splitF
  rw [splitS_neg (q := q), splitS_neg (q := q) (k := k)]
  omega
/-- A part has the sign of the flow, and is not greater. -/
theorem splitF_sign {xs : List Int} {q : Int} (hr : resL xs = true) (k : Nat) : (0 ≤ q → 0 ≤ splitF xs q k ∧ splitF xs q k ≤ q) ∧ (q ≤ 0 → q ≤ splitF xs q k ∧ splitF xs q k ≤ 0) := by
  refine ⟨fun h => splitF_pos hr h k, fun h => ?_⟩
  have := splitF_pos (q := -q) hr (by omega) k
  rw [splitF_neg]
  omega
theorem splitF_bd {xs : List Int} {q : Int} (hr : resL xs = true) (hq : -100000 ≤ q ∧ q ≤ 100000) (k : Nat) : -100000 ≤ splitF xs q k ∧ splitF xs q k ≤ 100000 := by
  have := splitF_sign (q := q) hr k
  rcases Int.le_total 0 q with h | h
  · have := this.1 h; omega
  · have := this.2 h; omega
/-- The parts add up to the flow. -/
theorem split_sum (xs : List Int) (q : Int) : ∀ k, k ≤ xs.length → ((splitL xs q).take k).sum = splitS xs q k
  | 0, _ => by rw [splitS_zero]; simp
  | k + 1, h => by
    rw [splitL_take (by omega), List.sum_append, split_sum xs q k (by omega)]
    simp
    omega
theorem split_all {xs : List Int} {q : Int} (hr : resL xs = true) : (splitL xs q).sum = q := by
  have h := split_sum xs q xs.length (Nat.le_refl _)
  rw [List.take_of_length_le (by rw [splitL_len]; exact Nat.le_refl _)] at h
  rw [h]
  rcases Int.le_total 0 q with h | h
  · exact splitS_end hr h
  · rw [splitS_neg, splitS_end hr (by omega)]; omega

/-- The drops of the parts. -/
def spdF (xs : List Int) (q : Int) (k : Nat) : Int := dropR (xs.getD k 0) (splitF xs q k)
def spdL (xs : List Int) (q : Int) : List Int := (List.range xs.length).map (spdF xs q)
theorem spdL_len (xs : List Int) (q : Int) : (spdL xs q).length = xs.length := by simp [spdL]
theorem spdL_get (xs : List Int) (q : Int) (k : Nat) (h : k < (spdL xs q).length) : (spdL xs q)[k] = spdF xs q k := by simp [spdL]
theorem spdF_bd {xs : List Int} {q : Int} (hr : resL xs = true) (hq : -100000 ≤ q ∧ q ≤ 100000) {k : Nat} (h : k < xs.length) : -10000000000000000 ≤ spdF xs q k ∧ spdF xs q k ≤ 10000000000000000 := by
  have HR := resL_iff.1 hr
  have h1 := HR.2 _ (List.getElem_mem h)
  have h2 := splitF_bd (q := q) hr hq k
  have h3 := drop_bd h1.1 h1.2 h2.1 h2.2
  have h4 := divR_bd (xs[k] * splitF xs q k * absR (splitF xs q k)) 10000000000
  unfold spdF dropR
  rw [show xs.getD k 0 = xs[k] by simp [List.getD, h]]
  omega
theorem spdL_put {xs : List Int} {q : Int} {k : Nat} (h : k < xs.length) (z : Int) (hz : z = spdF xs q k) :
    (intsV ((spdL xs q).take k ++ (splitL xs q).drop k)).set k (.int .i64 z) = intsV ((spdL xs q).take (k + 1) ++ (splitL xs q).drop (k + 1)) := by
  subst hz
  have hl : ((spdL xs q).take k).length = k := by rw [List.length_take, spdL_len]; omega
  unfold intsV
  rw [← List.map_set, List.set_append_right _ _ (by rw [hl]; exact Nat.le_refl _), hl, Nat.sub_self, List.drop_eq_getElem_cons (by rw [splitL_len]; exact h), List.set_cons_zero, List.take_succ_eq_append_getElem (by rw [spdL_len]; exact h), spdL_get, List.append_assoc]
  rfl
theorem spdL_at {xs : List Int} {q : Int} {k : Nat} (h : k < xs.length) : (intsV ((spdL xs q).take k ++ (splitL xs q).drop k))[k]? = some (.int .i64 (splitF xs q k)) := by
  have hl : ((spdL xs q).take k).length = k := by rw [List.length_take, spdL_len]; omega
  unfold intsV
  rw [List.getElem?_map, List.getElem?_append_right (by rw [hl]; exact Nat.le_refl _), hl, Nat.sub_self, List.drop_eq_getElem_cons (by rw [splitL_len]; exact h), splitL_get]
  rfl
def loT (f : Nat → Int) : Nat → Int
  | 0 => f 0
  | k + 1 => if loT f k < f (k + 1) then loT f k else f (k + 1)
def hiT (f : Nat → Int) : Nat → Int
  | 0 => f 0
  | k + 1 => if f (k + 1) < hiT f k then hiT f k else f (k + 1)
theorem loT_max (f : Nat → Int) (k : Nat) : hiT f (k + 1) = max (hiT f k) (f (k + 1)) ∧ loT f (k + 1) = min (loT f k) (f (k + 1)) := by
  rw [hiT, loT]
  constructor
  · split <;> omega
  · split <;> omega
theorem hiT_bd (f : Nat → Int) (B : Int) : ∀ k, (∀ j, j ≤ k → -B ≤ f j ∧ f j ≤ B) → (-B ≤ hiT f k ∧ hiT f k ≤ B) ∧ -B ≤ loT f k ∧ loT f k ≤ B
  | 0, h => ⟨h 0 (Nat.le_refl _), h 0 (Nat.le_refl _)⟩
  | k + 1, h => by
    have h1 := hiT_bd f B k (fun j hj => h j (by omega))
    have h2 := h (k + 1) (Nat.le_refl _)
    rw [hiT, loT]
    constructor
    · split <;> omega
    · split <;> omega
theorem loT_le (f : Nat → Int) : ∀ k, loT f k ≤ hiT f k
  | 0 => Int.le_refl _
  | k + 1 => by
    have h1 := loT_le f k
    rw [hiT, loT]
    split <;> split <;> omega
/-- What SplitError returns. -/
def speA (xs : List Int) (q : Int) : Int := if spOk xs q then hiT (spdF xs q) (xs.length - 1) - loT (spdF xs q) (xs.length - 1) else 0

set_option maxHeartbeats 400000 in
theorem slicesMax_any (v : Value) (xs : List Int) (f : Nat → Int) (w : World) (hv : RowW .i64 w v xs) (hf : ∀ k, k < xs.length → xs.getD k 0 = f k) (h1 : 1 ≤ xs.length) (hl : xs.length ≤ 1048576) :
    Calls Try.prog 87 #[v] w fun e w' => e = .returned (.int .i64 (hiT f (xs.length - 1))) ∧ w = w' := by
  obtain ⟨A, cap, rfl, _⟩ := id hv
  have HV := Lib.hid hv
  clear hv
  obtain ⟨b, off, rfl, -, hc⟩ := RowW.cell HV.out (show 0 < xs.length by omega)
  rw [Nat.add_zero, hf 0 (by omega)] at hc
  have HF := Lib.hid hf
  have t0 : ¬ (xs.length : Int) < 1 := by omega
  have t1 : (0 : Int) < (xs.length : Int) := by omega
  have HT := Lib.hid (show hiT f 0 = f 0 from rfl)
  clear hf
  go_enter Try.func87, Try.ntmps87
  go_wp2
  go_loop [3, 4] (fun t i => ∃ k m : Nat, Hid (m = k + 1) ∧ m ≤ xs.length ∧ i = .int .i64 m ∧ t = .int .i64 (hiT f k)) (fun _ i => xs.length - (intOf i).toNat)
  case atStart => exact ⟨0, 1, rfl, h1, rfl, by rw [HT.out]⟩
  case round =>
    obtain ⟨k, m, HM, hk, rfl, rfl⟩ := hrel
    by_cases hlt : m < xs.length
    · obtain ⟨b', off', e1, -, hc⟩ := RowW.cell HV.out hlt
      injection e1 with e1
      injection e1 with e1 e3
      subst e1 e3
      rw [HF.out m hlt] at hc
      have HS := Lib.hid (show hiT f m = max (hiT f k) (f m) by rw [HM.out]; exact (loT_max _ k).1)
      generalize f m = z at *
      generalize hiT f k = t at *
      go_wp2
      go_round
      case rel => exact ⟨m, m + 1, rfl, by omega, by go_num, by rw [HS.out]⟩
      case measure => simp [intOf]; omega
    · obtain rfl : m = xs.length := by omega
      have hkx : xs.length - 1 = k := by have := HM.out; omega
      have HK := Lib.hid hkx
      generalize ht : hiT f k = t at *
      go_wp2
      go_ret
      exact ⟨ret_int (by first | rfl | rw [HK.out, ht]), rfl⟩
set_option maxHeartbeats 400000 in
theorem slicesMin_any (v : Value) (xs : List Int) (f : Nat → Int) (w : World) (hv : RowW .i64 w v xs) (hf : ∀ k, k < xs.length → xs.getD k 0 = f k) (h1 : 1 ≤ xs.length) (hl : xs.length ≤ 1048576) :
    Calls Try.prog 88 #[v] w fun e w' => e = .returned (.int .i64 (loT f (xs.length - 1))) ∧ w = w' := by
  obtain ⟨A, cap, rfl, _⟩ := id hv
  have HV := Lib.hid hv
  clear hv
  obtain ⟨b, off, rfl, -, hc⟩ := RowW.cell HV.out (show 0 < xs.length by omega)
  rw [Nat.add_zero, hf 0 (by omega)] at hc
  have HF := Lib.hid hf
  have t0 : ¬ (xs.length : Int) < 1 := by omega
  have t1 : (0 : Int) < (xs.length : Int) := by omega
  have HT := Lib.hid (show loT f 0 = f 0 from rfl)
  clear hf
  go_enter Try.func88, Try.ntmps88
  go_wp2
  go_loop [3, 4] (fun t i => ∃ k m : Nat, Hid (m = k + 1) ∧ m ≤ xs.length ∧ i = .int .i64 m ∧ t = .int .i64 (loT f k)) (fun _ i => xs.length - (intOf i).toNat)
  case atStart => exact ⟨0, 1, rfl, h1, rfl, by rw [HT.out]⟩
  case round =>
    obtain ⟨k, m, HM, hk, rfl, rfl⟩ := hrel
    by_cases hlt : m < xs.length
    · obtain ⟨b', off', e1, -, hc⟩ := RowW.cell HV.out hlt
      injection e1 with e1
      injection e1 with e1 e3
      subst e1 e3
      rw [HF.out m hlt] at hc
      have HS := Lib.hid (show loT f m = min (loT f k) (f m) by rw [HM.out]; exact (loT_max _ k).2)
      generalize f m = z at *
      generalize loT f k = t at *
      go_wp2
      go_round
      case rel => exact ⟨m, m + 1, rfl, by omega, by go_num, by rw [HS.out]⟩
      case measure => simp [intOf]; omega
    · obtain rfl : m = xs.length := by omega
      have hkx : xs.length - 1 = k := by have := HM.out; omega
      have HK := Lib.hid hkx
      generalize ht : loT f k = t at *
      go_wp2
      go_ret
      exact ⟨ret_int (by first | rfl | rw [HK.out, ht]), rfl⟩
set_option maxHeartbeats 1000000 in
theorem iSplitError_any (v : Value) (xs : List Int) (q : Int) (w : World) (hv : Row .i64 w v xs) (hl : xs.length ≤ 1048576) :
    Calls Try.prog 21 #[v, .int .i64 q] w fun e w' => e = .returned (.tuple #[.int .i64 (speA xs q), .int .i64 (spB xs q)]) ∧ Below w.heap.size w w' := by
  have HV := Lib.hid hv
  cases hd : spOk xs q
  · have HE := Lib.hid (show speA xs q = 0 ∧ spB xs q = 2 by simp [speA, spB, hd])
    clear hv
    go_enter Try.func21, Try.ntmps21
    go_wp2_with (go_at_call 20; refine (iSplitFlow_any _ xs q _ HV.out hl).mono ?_; rintro e w2 ⟨u, rfl, ho, hb⟩; rw [HE.out.2]; have HO := Lib.hid (And.intro (show OwnI w2 w.heap.size u (spR xs q) from ho) hb); clear ho hb)
    go_ret2
    exact ⟨ret_ii HE.out.1.symm HE.out.2.symm, HO.out.2⟩
  · have HE := Lib.hid (show speA xs q = hiT (spdF xs q) (xs.length - 1) - loT (spdF xs q) (xs.length - 1) ∧ spB xs q = 0 by simp [speA, spB, hd])
    have hd2 : resL xs = true ∧ inB q (-100000) 100000 = true := by simpa [spOk] using hd
    have HR := Lib.hid (resL_iff.1 hd2.1)
    have HQ := Lib.hid (inB_iff.1 hd2.2)
    have HT := Lib.hid (fun k (h : k < xs.length) => And.intro (splitF_bd hd2.1 HQ.out k) (spdF_bd hd2.1 HQ.out h))
    have HP := Lib.hid (show spR xs q = splitL xs q by simp [spR, hd])
    have hl1 := HR.out.1.1
    have hl24 := HR.out.1.2
    have HX := Lib.hid (fun (w1 : World) (u : Value) (h : RowW .i64 w1 u (spdL xs q)) => slicesMax_any u (spdL xs q) (spdF xs q) w1 h (fun k hk => by rw [spdL_len] at hk; simp [List.getD, spdL, hk]) (by rw [spdL_len]; exact hl1) (by rw [spdL_len]; omega))
    have HN := Lib.hid (fun (w1 : World) (u : Value) (h : RowW .i64 w1 u (spdL xs q)) => slicesMin_any u (spdL xs q) (spdF xs q) w1 h (fun k hk => by rw [spdL_len] at hk; simp [List.getD, spdL, hk]) (by rw [spdL_len]; exact hl1) (by rw [spdL_len]; omega))
    rw [spdL_len] at HX HN
    obtain ⟨⟨c1, c2⟩, c3, c4⟩ := hiT_bd (spdF xs q) 10000000000000000 (xs.length - 1) (fun j hj => (HT.out j (by omega)).2)
    have HPU := Lib.hid (fun k (h : k < xs.length) (z : Int) (hz : z = spdF xs q k) => And.intro (spdL_put (q := q) h z hz) (spdL_at (q := q) h))
    have HLE := Lib.hid (And.intro (spdL_len xs q) (splitL_len xs q))
    obtain ⟨A, cap, rfl⟩ := hv.form
    clear hv hd2
    generalize hiT (spdF xs q) (xs.length - 1) = hi1 at *
    generalize loT (spdF xs q) (xs.length - 1) = lo1 at *
    go_enter Try.func21, Try.ntmps21
    go_wp2_with (go_at_call 20; refine (iSplitFlow_any _ xs q _ HV.out hl).mono ?_; rintro e w2 ⟨u, rfl, ho, hb⟩; rw [HE.out.2]; have HO := Lib.hid (And.intro (show OwnI w2 w.heap.size u (spR xs q) from ho) hb); clear ho hb; rw [HP.out] at HO; have HG := Lib.hid (own_form HO.out.1 (by rw [HLE.out.2]; exact hl1)); obtain ⟨g, gcap, hge, hgB⟩ := HG.out; clear HG; rw [HLE.out.2] at hge; subst hge)
    go_loopw [21] (fun i wr => ∃ k : Nat, k ≤ xs.length ∧ i = .int .i64 k ∧ wr.ownsRow w.heap.size 2 1 (.slice (some ⟨g, 0, none⟩) xs.length gcap) xs.length (intsV ((spdL xs q).take k ++ (splitL xs q).drop k)) ∧ Below w.heap.size w wr) (fun i wr => xs.length - (intOf i).toNat)
    case atStart => exact ⟨0, by omega, rfl, by have h := HO.out.1; unfold OwnI at h; rw [HLE.out.2] at h; simpa using h, HO.out.2⟩
    case round =>
      obtain ⟨k, hk, rfl, hout, hbel⟩ := hrel
      by_cases hlt : k < xs.length
      · obtain ⟨b, off, rfl, -, hc⟩ := Row.cell (HV.out.below hbel) hlt
        rw [show xs.getD k 0 = xs[k] by simp [List.getD, hlt]] at hc
        obtain ⟨b1, b2⟩ := HR.out.2 _ (List.getElem_mem hlt)
        obtain ⟨⟨b3, b4⟩, b5, b6⟩ := HT.out k hlt
        have HS := Lib.hid (And.intro (HPU.out k hlt) (show dropR xs[k] (splitF xs q k) = spdF xs q k by unfold spdF; rw [show xs.getD k 0 = xs[k] by simp [List.getD, hlt]]))
        have hcd : wr.cell? ⟨g, k, none⟩ = some (.int .i64 (splitF xs q k)) := by rw [hout.cellAt k (by omega)]; exact (HS.out.1 _ rfl).2
        have hfz := hout.frozenAt k
        have HO2 := Lib.hid hout
        have HBL := Lib.hid hbel
        clear hout hbel
        have hd1 := HS.out.2
        generalize xs[k] = x1 at *
        generalize splitF xs q k = y1 at *
        generalize hf1 : spdF xs q k = d1 at *
        go_wp2_with (go_at_call 86; refine (dropAt_any _ _ _ b1 b2 b3 b4).mono ?_; rintro e w' ⟨rfl, n, rfl⟩; rw [hd1])
        go_roundw
        case rel => exact ⟨k + 1, by omega, by go_num, by
          have h := (World.ownsRow.stored (w := wr.drewN n) HO2.out k (.int .i64 d1)).1
          rwa [(HS.out.1 d1 rfl).1] at h, (below_drewN HBL.out n).setCell (by omega) _⟩
        case measure => simp [intOf]; omega
      · obtain rfl : k = xs.length := by omega
        rw [List.take_of_length_le (by rw [spdL_len]; exact Nat.le_refl _), List.drop_of_length_le (by rw [splitL_len]; exact Nat.le_refl _), List.append_nil] at hout
        have HO2 := Lib.hid (RowW.of_ownI (show OwnI wr w.heap.size _ (spdL xs q) by unfold OwnI; rw [HLE.out.1]; exact hout))
        clear hout
        go_wp2_with (first
          | (go_at_call 87; refine (HX.out _ _ HO2.out).mono ?_; rintro e w' ⟨rfl, rfl⟩)
          | (go_at_call 88; refine (HN.out _ _ HO2.out).mono ?_; rintro e w' ⟨rfl, rfl⟩))
        go_ret2
        exact ⟨ret_ii HE.out.1.symm HE.out.2.symm, hbel⟩
end Go.Proofs.Ytmjinanapihkoaa
