/-
  Contracts of chapter 8: the parts of a flow; the model's and the program's. Conditions: those that each theorem states.
-/
import Derived.Test.YtmjinanapihkoaaYb
import Derived.Laws.CopyOwn
namespace Go.Proofs.Ytmjinanapihkoaa
open Go.RowKit
set_option linter.unusedVariables false
set_option linter.unusedSimpArgs false

theorem own_mono {w : World} {B B' e size n : Nat} {v : Value} {xs : List Value} (h : w.ownsRow B e size v n xs) (hb : B' ≤ B) : w.ownsRow B' e size v n xs := by
  obtain ⟨hl, h⟩ := h
  refine ⟨hl, ?_⟩
  rcases h with h | ⟨g, cap, cur, e, hg, r⟩
  · exact .inl h
  · exact .inr ⟨g, cap, cur, e, Nat.le_trans hb hg, r⟩
/-- What has passed behind the first k airways. -/
def splitS (xs : List Int) (q : Int) (k : Nat) : Int := divR (q * ((condL xs).take k).sum) (condS xs)
def splitF (xs : List Int) (q : Int) (k : Nat) : Int := splitS xs q (k + 1) - splitS xs q k
def splitL (xs : List Int) (q : Int) : List Int := (List.range xs.length).map (splitF xs q)
theorem splitL_len (xs : List Int) (q : Int) : (splitL xs q).length = xs.length := by simp [splitL]
theorem splitL_get (xs : List Int) (q : Int) (k : Nat) (h : k < (splitL xs q).length) : (splitL xs q)[k] = splitF xs q k := by simp [splitL]
theorem splitS_zero (xs : List Int) (q : Int) : splitS xs q 0 = 0 := by unfold splitS; rw [List.take_zero, List.sum_nil, Int.mul_zero]; exact divR_zero _
theorem splitL_take {xs : List Int} {q : Int} {k : Nat} (h : k < xs.length) : (splitL xs q).take (k + 1) = (splitL xs q).take k ++ [splitS xs q (k + 1) - splitS xs q k] := by
  rw [List.take_succ_eq_append_getElem (by rw [splitL_len]; exact h), splitL_get, splitF]
theorem splitL_put {xs : List Int} {q : Int} {k : Nat} (h : k < xs.length) (z : Int) (hz : z = splitS xs q (k + 1) - splitS xs q k) :
    (intsV ((splitL xs q).take k ++ (condL xs).drop k)).set k (.int .i64 z) = intsV ((splitL xs q).take (k + 1) ++ (condL xs).drop (k + 1)) := by
  subst hz
  have hl : ((splitL xs q).take k).length = k := by rw [List.length_take, splitL_len]; omega
  unfold intsV
  rw [← List.map_set, List.set_append_right _ _ (by rw [hl]; exact Nat.le_refl _), hl, Nat.sub_self, List.drop_eq_getElem_cons (by rw [condL_len]; exact h), List.set_cons_zero, splitL_take h, List.append_assoc]
  rfl
theorem splitL_at {xs : List Int} {q : Int} {k : Nat} (h : k < xs.length) : (intsV ((splitL xs q).take k ++ (condL xs).drop k))[k]? = some (.int .i64 (condR xs[k])) := by
  have hl : ((splitL xs q).take k).length = k := by rw [List.length_take, splitL_len]; omega
  unfold intsV
  rw [List.getElem?_map, List.getElem?_append_right (by rw [hl]; exact Nat.le_refl _), hl, Nat.sub_self, List.drop_eq_getElem_cons (by rw [condL_len]; exact h)]
  simp [condL]
theorem splitS_bd {xs : List Int} {q : Int} (hr : ∀ y ∈ xs, 1 ≤ y ∧ y ≤ 1000000) (hl : xs.length ≤ 24) (hq : -100000 ≤ q ∧ q ≤ 100000) (k : Nat) :
    (-240000000000000 ≤ q * ((condL xs).take k).sum ∧ q * ((condL xs).take k).sum ≤ 240000000000000) ∧ -240000000000000 ≤ splitS xs q k ∧ splitS xs q k ≤ 240000000000000 := by
  obtain ⟨a, b⟩ := condS_bd hr hl k
  have c := mul_bd q ((condL xs).take k).sum 100000 2400000000 hq.1 hq.2 (by omega) b
  have d := divR_bd (q * ((condL xs).take k).sum) (condS xs)
  unfold splitS
  omega
/-- What SplitFlow returns. -/
def spOk (xs : List Int) (q : Int) : Bool := resL xs && inB q (-100000) 100000
def spR (xs : List Int) (q : Int) : List Int := if spOk xs q then splitL xs q else []
def spB (xs : List Int) (q : Int) : Int := if spOk xs q then 0 else 2
theorem ret_vi {v : Value} {b b' : Int} (h : b = b') : Ending.returned (.tuple #[v, .int .i64 b]) = .returned (.tuple #[v, .int .i64 b']) := by rw [h]

set_option maxHeartbeats 2000000 in
set_option maxRecDepth 100000 in
theorem iSplitFlow_any (v : Value) (xs : List Int) (q : Int) (w : World) (hv : Row .i64 w v xs) (hl : xs.length ≤ 1048576) :
    Calls Try.prog 20 #[v, .int .i64 q] w fun e w' => ∃ u, e = .returned (.tuple #[u, .int .i64 (spB xs q)]) ∧ OwnI w' w.heap.size u (spR xs q) ∧ Below w.heap.size w w' := by
  have HV := Lib.hid hv
  clear hv
  cases hd : resL xs
  · have HE := Lib.hid (show spR xs q = [] ∧ spB xs q = 2 by simp [spR, spB, spOk, hd])
    go_enter Try.func20, Try.ntmps20
    go_wp2_with (first
      | (go_at_call 62; refine (areSome_any _ xs _ HV.out (by omega)).mono ?_; rintro e w1 ⟨rfl, hb1⟩)
      | (go_at_call 82; refine (isFlow_any _ _).mono ?_; rintro e w2 ⟨rfl, hb2⟩))
    go_ret2
    exact ⟨_, ret_vi HE.out.2.symm, by rw [HE.out.1]; exact World.ownsRow_nil _ _ _ _, hb1⟩
  · cases hq : inB q (-100000) 100000
    · have HE := Lib.hid (show spR xs q = [] ∧ spB xs q = 2 by simp [spR, spB, spOk, hd, hq])
      go_enter Try.func20, Try.ntmps20
      go_wp2_with (first
        | (go_at_call 62; refine (areSome_any _ xs _ HV.out (by omega)).mono ?_; rintro e w1 ⟨rfl, hb1⟩)
        | (go_at_call 82; refine (isFlow_any _ _).mono ?_; rintro e w2 ⟨rfl, hb2⟩))
      go_ret2
      exact ⟨_, ret_vi HE.out.2.symm, by rw [HE.out.1]; exact World.ownsRow_nil _ _ _ _, hb1.trans (hb2.mono hb1.size)⟩
    · have HE := Lib.hid (show spR xs q = splitL xs q ∧ spB xs q = 0 by simp [spR, spB, spOk, hd, hq])
      have HR := Lib.hid (resL_iff.1 hd)
      have hl24 := HR.out.1.2
      have HQ := Lib.hid (inB_iff.1 hq)
      have hq1 := HQ.out.1
      have hq2 := HQ.out.2
      have HL := Lib.hid (condL_len xs)
      have hp := condS_pos HR.out.2 HR.out.1.1
      have hu := (condS_all HR.out.2 HR.out.1.2).2
      have HC := Lib.hid (fun (w1 : World) (u : Value) (h : RowW .i64 w1 u (condL xs)) => sumOfC_any u (condL xs) w1 h (condL_bd' HR.out.2) (by rw [condL_len]; exact HR.out.1.2))
      rw [show (condL xs).sum = condS xs from rfl] at HC
      have HSZ := Lib.hid (And.intro (splitS_zero xs q) (show ((condL xs).take 0).sum = 0 by simp))
      go_enter Try.func20, Try.ntmps20
      go_wp2_with (first
        | (go_at_call 62; refine (areSome_any _ xs _ HV.out (by omega)).mono ?_; rintro e w1 ⟨rfl, hb1⟩)
        | (go_at_call 82; refine (isFlow_any _ _).mono ?_; rintro e w2 ⟨rfl, hb2'⟩; have hb2 := hb1.trans (hb2'.mono hb1.size); clear hb2')
        | (go_at_call 83; refine (conductances_any _ xs _ (RowW.of_row (Row.below HV.out hb2)) HR.out.2 (by omega)).mono ?_; rintro e w3 ⟨rfl, ho3, hb3'⟩; have hb3 := hb2.trans (hb3'.mono hb2.size); have HO := Lib.hid ho3; clear ho3 hb3')
        | (go_at_call 84; refine (HC.out _ _ (RowW.of_ownI (show OwnI w3 w2.heap.size _ (condL xs) by unfold OwnI; rw [HL.out]; exact HO.out))).mono ?_; rintro e w' ⟨rfl, rfl⟩))
      have HB3 := Lib.hid hb3
      have hz2 := hb2.size
      clear hb3
      go_loopw [8, 9, 27] (fun t last i wr => ∃ k : Nat, k ≤ xs.length ∧ i = .int .i64 k ∧ t = .int .i64 (((condL xs).take k).sum) ∧ last = .int .i64 (splitS xs q k) ∧ wr.ownsRow w2.heap.size 2 1 (.slice (some ⟨w2.heap.size, 0, none⟩) xs.length xs.length) xs.length (intsV ((splitL xs q).take k ++ (condL xs).drop k)) ∧ Below w.heap.size w wr) (fun _ _ i wr => xs.length - (intOf i).toNat)
      case atStart => exact ⟨0, by omega, rfl, by rw [HSZ.out.2], by rw [HSZ.out.1], by simpa using HO.out, HB3.out⟩
      case round =>
        obtain ⟨k, hk, rfl, rfl, rfl, hout, hbel⟩ := hrel
        by_cases hlt : k < xs.length
        · have hcd : wr.cell? ⟨w2.heap.size, k, none⟩ = some (.int .i64 (condR xs[k])) := by rw [hout.cellAt k (by omega), splitL_at hlt]
          have hfz := hout.frozenAt k
          obtain ⟨b1, b2⟩ := condS_bd HR.out.2 HR.out.1.2 k
          obtain ⟨b3, b4⟩ := HR.out.2 _ (mem_getD hlt)
          obtain ⟨b5, b6⟩ := condR_bd b3 b4
          obtain ⟨-, c1, c2⟩ := splitS_bd HR.out.2 HR.out.1.2 HQ.out k
          obtain ⟨⟨c3, c4⟩, c5, c6⟩ := splitS_bd HR.out.2 HR.out.1.2 HQ.out (k + 1)
          have HD := Lib.hid (show divR (q * ((condL xs).take (k + 1)).sum) (condS xs) = splitS xs q (k + 1) from rfl)
          have HS := Lib.hid (And.intro (fun z hz => splitL_put (q := q) hlt z hz) (condS_snoc hlt))
          rw [HS.out.2] at c3 c4 HD
          have HO2 := Lib.hid hout
          have HBL := Lib.hid hbel
          clear hout hbel
          obtain ⟨s, hs⟩ : ∃ s, ((condL xs).take k).sum = s := ⟨_, rfl⟩
          rw [hs] at b1 b2 HS HD c3 c4 ⊢
          clear hs
          generalize condR xs[k] = z at *
          generalize hS1 : splitS xs q (k + 1) = s1 at *
          generalize hS0 : splitS xs q k = s0 at *
          go_wp2_with (go_at_call 85; refine (nearest_any _ _ _ (by omega) (by omega) (by omega) (by omega)).mono ?_; rintro e w' ⟨rfl, n, rfl⟩; rw [HD.out])
          go_roundw
          case rel => exact ⟨k + 1, by omega, by go_num, by rw [HS.out.2], by rw [hS1], by
            have h := (World.ownsRow.stored (w := wr.drewN n) HO2.out k (.int .i64 (s1 - s0))).1
            rwa [HS.out.1 _ rfl] at h, (below_drewN HBL.out n).setCell (by omega) _⟩
          case measure => simp [intOf]; omega
        · obtain rfl : k = xs.length := by omega
          rw [List.take_of_length_le (by rw [splitL_len]; exact Nat.le_refl _), List.drop_of_length_le (by rw [condL_len]; exact Nat.le_refl _), List.append_nil] at hout
          have HO2 := Lib.hid hout
          clear hout
          go_wp2
          go_ret2
          exact ⟨_, ret_vi HE.out.2.symm, by rw [HE.out.1]; unfold OwnI; rw [splitL_len]; exact own_mono HO2.out hz2, hbel⟩
end Go.Proofs.Ytmjinanapihkoaa
