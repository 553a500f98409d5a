/-
  Contracts of chapter 7: the power of all drops; the model's and the program's. Conditions: those that each theorem states.
-/
import Derived.Test.YtmjinanapihkoaaWa
namespace Go.Proofs.Ytmjinanapihkoaa
open Go.RowKit
set_option linter.unusedVariables false
set_option linter.unusedSimpArgs false

theorem quiet_w {P : Program} {f : FuncId} {args : Array Value} {w : World} {n : Nat} {v : Value}
    (h : Calls P f args (w.drewN n) fun e w' => e = .returned v ∧ w.drewN n = w') : Calls P f args (w.drewN n) fun e w'' => e = .returned v ∧ ∃ m, w'' = w.drewN m :=
  h.mono fun _ _ ⟨he, hm⟩ => ⟨he, n, hm.symm⟩
/-- The power of the first k drops. -/
def losT (rs fl : List Int) : Nat → Int
  | 0 => 0
  | k + 1 => losT rs fl k + powA (rs.getD k 0) (fl.getD k 0)
def losOk (J : Int) (xs : List Aw) (rs fl : List Int) : Int := if mineOk J xs then (if flOk 1 1000000 xs.length rs then (if flOk (-100000) 100000 xs.length fl then 0 else 7) else 7) else 1
def losA (J : Int) (xs : List Aw) (rs fl : List Int) : Int := if losOk J xs rs fl = 0 then losT rs fl xs.length else 0
theorem powA_in {r q : Int} (h : (1 ≤ r ∧ r ≤ 1000000) ∧ (-100000 ≤ q ∧ q ≤ 100000)) : powA r q = divR (dropR r (absR q) * absR q) 100 := by
  unfold powA; rw [inB_true h.1.1 h.1.2, inB_true h.2.1 h.2.2]; rfl
theorem pw_bd {r q : Int} (h1 : 1 ≤ r) (h2 : r ≤ 1000000) (h3 : -100000 ≤ q) (h4 : q ≤ 100000) : -1000000000000 ≤ dropR r (absR q) * absR q ∧ dropR r (absR q) * absR q ≤ 1000000000000 := by
  have hc := absR_cases q
  have hb := drop_bd (q := absR q) h1 h2 (by omega) (by omega)
  have hd : -10000000 ≤ dropR r (absR q) ∧ dropR r (absR q) ≤ 10000000 := by
    unfold dropR
    have h0 : 0 ≤ r * absR q * absR (absR q) := Int.mul_nonneg (Int.mul_nonneg (by omega) (absR_nonneg q)) (absR_nonneg _)
    rw [divR_pp _ _ h0 (by omega)]
    omega
  have := mul_bd (dropR r (absR q)) (absR q) 10000000 100000 (by omega) (by omega) (by omega) (by omega)
  omega
theorem powA_bd {r q : Int} (h : (1 ≤ r ∧ r ≤ 1000000) ∧ (-100000 ≤ q ∧ q ≤ 100000)) : -1000000000000 ≤ powA r q ∧ powA r q ≤ 1000000000000 := by
  rw [powA_in h]
  have h1 := pw_bd h.1.1 h.1.2 h.2.1 h.2.2
  have h2 := divR_bd (dropR r (absR q) * absR q) 100
  omega
theorem losT_bd {rs fl : List Int} (h1 : ∀ y ∈ rs, 1 ≤ y ∧ y ≤ 1000000) (h2 : ∀ y ∈ fl, -100000 ≤ y ∧ y ≤ 100000) : ∀ k : Nat, k ≤ rs.length → k ≤ fl.length → -1000000000000 * (k : Int) ≤ losT rs fl k ∧ losT rs fl k ≤ 1000000000000 * (k : Int)
  | 0, _, _ => by simp [losT]
  | k + 1, ha, hb => by
    have ih := losT_bd h1 h2 k (by omega) (by omega)
    have hp := powA_bd (And.intro (h1 _ (List.getElem_mem (show k < rs.length by omega))) (h2 _ (List.getElem_mem (show k < fl.length by omega))))
    rw [losT, show rs.getD k 0 = rs[k] by simp [List.getD, show k < rs.length by omega], show fl.getD k 0 = fl[k] by simp [List.getD, show k < fl.length by omega]]
    omega
set_option maxHeartbeats 2000000 in
theorem sLossPower_any (J : Int) (A : Option Addr) (cap : Nat) (xs : List Aw) (v : Value) (rs : List Int) (u : Value) (fl : List Int) (w : World) (hr : AwR w A xs) (hs : ∀ a ∈ xs, a.s.size ≤ maxLen) (hl : xs.length ≤ 1048576) (hv : Row .i64 w v rs) (hrl : rs.length ≤ 1048576) (hu : Row .i64 w u fl) (hfl : fl.length ≤ 1048576) :
    Calls Try.prog 26 #[.agg #[.int .i64 J, .slice A xs.length cap], v, u] w fun e w' => e = .returned (.tuple #[.int .i64 (losA J xs rs fl), .int .i64 (losOk J xs rs fl)]) ∧ Below w.heap.size w w' := by
  obtain ⟨R, rcap, rfl⟩ := hv.form
  obtain ⟨F, fcap, rfl⟩ := hu.form
  have HB0 := Lib.hid (below_box w (.cells #[.int .i64 J, .slice A xs.length cap] 32))
  have HOKC := Lib.hid (l04Ok_any w.heap.size J A cap xs (w.alloc (.cells #[.int .i64 J, .slice A xs.length cap] 32)) (by simp) (by simp) (hr.below HB0.out) hs hl)
  have HK := Lib.hid (show (w.alloc (.cells #[.int .i64 J, .slice A xs.length cap] 32)).cell? ⟨w.heap.size, 0, none⟩ = some (.int .i64 J) ∧ (w.alloc (.cells #[.int .i64 J, .slice A xs.length cap] 32)).cell? ⟨w.heap.size, 1, none⟩ = some (.slice A xs.length cap) ∧ AwR (w.alloc (.cells #[.int .i64 J, .slice A xs.length cap] 32)) A xs ∧ Row .i64 (w.alloc (.cells #[.int .i64 J, .slice A xs.length cap] 32)) (.slice R rs.length rcap) rs ∧ Row .i64 (w.alloc (.cells #[.int .i64 J, .slice A xs.length cap] 32)) (.slice F fl.length fcap) fl from ⟨by simp, by simp, hr.below HB0.out, hv.below HB0.out, hu.below HB0.out⟩)
  clear hr hv hs hu
  cases hok : mineOk J xs
  · have HE := Lib.hid (show losA J xs rs fl = 0 ∧ losOk J xs rs fl = 1 by simp [losA, losOk, hok])
    go_enter Try.func26, Try.ntmps26
    go_wp2_with fail
    (with_reducible refine (HOKC.out).mono ?_)
    rintro e w1 ⟨rfl, n, rfl⟩
    rw [hok]
    have HK1 := Lib.hid (show ((w.alloc (.cells #[.int .i64 J, .slice A xs.length cap] 32)).drewN n).cell? ⟨w.heap.size, 0, none⟩ = some (.int .i64 J) ∧ ((w.alloc (.cells #[.int .i64 J, .slice A xs.length cap] 32)).drewN n).cell? ⟨w.heap.size, 1, none⟩ = some (.slice A xs.length cap) ∧ AwR ((w.alloc (.cells #[.int .i64 J, .slice A xs.length cap] 32)).drewN n) A xs ∧ Row .i64 ((w.alloc (.cells #[.int .i64 J, .slice A xs.length cap] 32)).drewN n) (.slice R rs.length rcap) rs ∧ Row .i64 ((w.alloc (.cells #[.int .i64 J, .slice A xs.length cap] 32)).drewN n) (.slice F fl.length fcap) fl from HK.out)
    have HB1 := Lib.hid (show Below w.heap.size w ((w.alloc (.cells #[.int .i64 J, .slice A xs.length cap] 32)).drewN n) from below_drewN' HB0.out n)
    generalize (w.alloc (.cells #[.int .i64 J, .slice A xs.length cap] 32)).drewN n = W1 at *
    go_wp2
    go_ret2
    exact ⟨ret_im HE.out.1.symm HE.out.2.symm, HB1.out⟩
  · obtain ⟨hj, -, h24⟩ := mineOk_iff.1 hok
    cases hg : flOk 1 1000000 xs.length rs
    · have HE := Lib.hid (show losA J xs rs fl = 0 ∧ losOk J xs rs fl = 7 by simp [losA, losOk, hok, hg])
      go_enter Try.func26, Try.ntmps26
      go_wp2_with fail
      (with_reducible refine (HOKC.out).mono ?_)
      rintro e w1 ⟨rfl, n, rfl⟩
      rw [hok]
      have HK1 := Lib.hid (show ((w.alloc (.cells #[.int .i64 J, .slice A xs.length cap] 32)).drewN n).cell? ⟨w.heap.size, 0, none⟩ = some (.int .i64 J) ∧ ((w.alloc (.cells #[.int .i64 J, .slice A xs.length cap] 32)).drewN n).cell? ⟨w.heap.size, 1, none⟩ = some (.slice A xs.length cap) ∧ AwR ((w.alloc (.cells #[.int .i64 J, .slice A xs.length cap] 32)).drewN n) A xs ∧ Row .i64 ((w.alloc (.cells #[.int .i64 J, .slice A xs.length cap] 32)).drewN n) (.slice R rs.length rcap) rs ∧ Row .i64 ((w.alloc (.cells #[.int .i64 J, .slice A xs.length cap] 32)).drewN n) (.slice F fl.length fcap) fl from HK.out)
      have HB1 := Lib.hid (show Below w.heap.size w ((w.alloc (.cells #[.int .i64 J, .slice A xs.length cap] 32)).drewN n) from below_drewN' HB0.out n)
      generalize (w.alloc (.cells #[.int .i64 J, .slice A xs.length cap] 32)).drewN n = W1 at *
      go_wp2_with (first
        | (go_at_call 93; refine (l07Res_any w.heap.size xs.length cap A _ rs _ HK1.out.2.1 (RowW.of_row HK1.out.2.2.2.1) (by omega) (by omega)).mono ?_; rintro e w' ⟨rfl, rfl⟩; rw [hg])
      )
      go_ret2
      exact ⟨ret_im HE.out.1.symm HE.out.2.symm, HB1.out⟩
    · cases hf : flOk (-100000) 100000 xs.length fl
      · have HE := Lib.hid (show losA J xs rs fl = 0 ∧ losOk J xs rs fl = 7 by simp [losA, losOk, hok, hg, hf])
        go_enter Try.func26, Try.ntmps26
        go_wp2_with fail
        (with_reducible refine (HOKC.out).mono ?_)
        rintro e w1 ⟨rfl, n, rfl⟩
        rw [hok]
        have HK1 := Lib.hid (show ((w.alloc (.cells #[.int .i64 J, .slice A xs.length cap] 32)).drewN n).cell? ⟨w.heap.size, 0, none⟩ = some (.int .i64 J) ∧ ((w.alloc (.cells #[.int .i64 J, .slice A xs.length cap] 32)).drewN n).cell? ⟨w.heap.size, 1, none⟩ = some (.slice A xs.length cap) ∧ AwR ((w.alloc (.cells #[.int .i64 J, .slice A xs.length cap] 32)).drewN n) A xs ∧ Row .i64 ((w.alloc (.cells #[.int .i64 J, .slice A xs.length cap] 32)).drewN n) (.slice R rs.length rcap) rs ∧ Row .i64 ((w.alloc (.cells #[.int .i64 J, .slice A xs.length cap] 32)).drewN n) (.slice F fl.length fcap) fl from HK.out)
        have HB1 := Lib.hid (show Below w.heap.size w ((w.alloc (.cells #[.int .i64 J, .slice A xs.length cap] 32)).drewN n) from below_drewN' HB0.out n)
        generalize (w.alloc (.cells #[.int .i64 J, .slice A xs.length cap] 32)).drewN n = W1 at *
        go_wp2_with (first
          | (go_at_call 93; refine (l07Res_any w.heap.size xs.length cap A _ rs _ HK1.out.2.1 (RowW.of_row HK1.out.2.2.2.1) (by omega) (by omega)).mono ?_; rintro e w' ⟨rfl, rfl⟩; rw [hg])
          | (go_at_call 94; refine (l07Flows_any w.heap.size xs.length cap A _ fl _ HK1.out.2.1 (RowW.of_row HK1.out.2.2.2.2) (by omega) (by omega)).mono ?_; rintro e w' ⟨rfl, rfl⟩; rw [hf])
        )
        go_ret2
        exact ⟨ret_im HE.out.1.symm HE.out.2.symm, HB1.out⟩
      · have HE := Lib.hid (show losA J xs rs fl = losT rs fl xs.length ∧ losOk J xs rs fl = 0 by simp [losA, losOk, hok, hg, hf])
        have HG := Lib.hid (flOk_iff.1 hg)
        have HF := Lib.hid (flOk_iff.1 hf)
        go_enter Try.func26, Try.ntmps26
        go_wp2_with fail
        (with_reducible refine (HOKC.out).mono ?_)
        rintro e w1 ⟨rfl, n, rfl⟩
        rw [hok]
        have HK1 := Lib.hid (show ((w.alloc (.cells #[.int .i64 J, .slice A xs.length cap] 32)).drewN n).cell? ⟨w.heap.size, 0, none⟩ = some (.int .i64 J) ∧ ((w.alloc (.cells #[.int .i64 J, .slice A xs.length cap] 32)).drewN n).cell? ⟨w.heap.size, 1, none⟩ = some (.slice A xs.length cap) ∧ AwR ((w.alloc (.cells #[.int .i64 J, .slice A xs.length cap] 32)).drewN n) A xs ∧ Row .i64 ((w.alloc (.cells #[.int .i64 J, .slice A xs.length cap] 32)).drewN n) (.slice R rs.length rcap) rs ∧ Row .i64 ((w.alloc (.cells #[.int .i64 J, .slice A xs.length cap] 32)).drewN n) (.slice F fl.length fcap) fl from HK.out)
        have HB1 := Lib.hid (show Below w.heap.size w ((w.alloc (.cells #[.int .i64 J, .slice A xs.length cap] 32)).drewN n) from below_drewN' HB0.out n)
        generalize (w.alloc (.cells #[.int .i64 J, .slice A xs.length cap] 32)).drewN n = W1 at *
        go_wp2_with (first
          | (go_at_call 93; refine (l07Res_any w.heap.size xs.length cap A _ rs _ HK1.out.2.1 (RowW.of_row HK1.out.2.2.2.1) (by omega) (by omega)).mono ?_; rintro e w' ⟨rfl, rfl⟩; rw [hg])
          | (go_at_call 94; refine (l07Flows_any w.heap.size xs.length cap A _ fl _ HK1.out.2.1 (RowW.of_row HK1.out.2.2.2.2) (by omega) (by omega)).mono ?_; rintro e w' ⟨rfl, rfl⟩; rw [hf])
        )
        have hlf0 := Nat.le_of_eq HF.out.1
        have hlr0 := Nat.le_of_eq HG.out.1
        have hlf1 := Nat.le_of_eq HF.out.1.symm
        have hlr1 := Nat.le_of_eq HG.out.1.symm
        go_loopw [8, 9] (fun t i wr => ∃ k n : Nat, k ≤ xs.length ∧ i = .int .i64 k ∧ t = .int .i64 (losT rs fl k) ∧ wr = W1.drewN n) (fun t i wr => xs.length - (intOf i).toNat)
        case atStart => exact ⟨0, 0, by omega, rfl, rfl, rfl⟩
        case round =>
          obtain ⟨k, m, hk, rfl, rfl, hwr⟩ := hrel
          have HW := Lib.hid hwr
          by_cases hlt : k < xs.length
          · have hlf : k < fl.length := by omega
            have hlr : k < rs.length := by omega
            obtain ⟨fb, fo, e1, -, hcf⟩ := Row.cell HK1.out.2.2.2.2 hlf
            obtain ⟨rb, ro, e2, -, hcr⟩ := Row.cell HK1.out.2.2.2.1 hlr
            subst e1 e2
            rw [show fl.getD k 0 = fl[k] by simp [List.getD, hlf]] at hcf
            rw [show rs.getD k 0 = rs[k] by simp [List.getD, hlr]] at hcr
            have hq1 : wr.cell? ⟨fb, fo + k, none⟩ = some (.int .i64 fl[k]) := by rw [hwr]; exact hcf
            have hq2 : wr.cell? ⟨rb, ro + k, none⟩ = some (.int .i64 rs[k]) := by rw [hwr]; exact hcr
            have hin := And.intro (HG.out.2 _ (List.getElem_mem hlr)) (HF.out.2 _ (List.getElem_mem hlf))
            obtain ⟨b1, b2⟩ := losT_bd HG.out.2 HF.out.2 k (by omega) (by omega)
            have HS := Lib.hid (show losT rs fl (k + 1) = losT rs fl k + divR (dropR rs[k] (absR fl[k]) * absR fl[k]) 100 by
              rw [losT, show fl.getD k 0 = fl[k] by simp [List.getD, hlf], show rs.getD k 0 = rs[k] by simp [List.getD, hlr], powA_in hin])
            have hpb := powA_bd hin
            rw [powA_in hin] at hpb
            obtain ⟨⟨d1, d2⟩, d3, d4⟩ := pow_bd hin.1.1 hin.1.2 hin.2.1 hin.2.2
            have hac := absR_cases fl[k]
            obtain ⟨⟨c1, c2⟩, c3, c4⟩ := hin
            obtain ⟨p1, p2⟩ := hpb
            generalize rs[k] = r at *
            generalize fl[k] = q at *
            generalize losT rs fl k = s at *
            clear hcf hcr hwr
            have t0 : (k : Int) < (fl.length : Int) := by omega
            have t1 : (k : Int) < (rs.length : Int) := by omega
            go_wp2
            go_quiet ((first
              | (go_at_call 97; exact quiet_w (l03Abs_any q _ (by omega) (by omega)))
              | (go_at_call 96; exact quiet_w (l03Drop_any r (absR q) _ (by omega) (by omega) (by omega) (by omega)))
              | (go_at_call 95; exact quiet_w (l01Div_any _ _ _ (by omega) (by omega) (by omega) (by omega) (by omega)))))
            go_wp2
            go_roundw
            case rel => exact ⟨k + 1, _, by omega, by go_num, by rw [HS.out], by rw [HW.out, World.drewN_drewN]⟩
            case measure => simp [intOf]; omega
          · subst hwr
            obtain rfl : k = xs.length := by omega
            have t0 : ¬ (xs.length : Int) < (fl.length : Int) := by omega
            go_wp2
            go_ret2
            exact ⟨ret_im HE.out.1.symm HE.out.2.symm, below_drewN' HB1.out _⟩
set_option maxHeartbeats 2000000 in
theorem iLossPower_any (J : Int) (A : Option Addr) (cap : Nat) (xs : List Aw) (v : Value) (rs : List Int) (u : Value) (fl : List Int) (w : World) (hr : AwR w A xs) (hs : ∀ a ∈ xs, a.s.size ≤ maxLen) (hl : xs.length ≤ 1048576) (hv : Row .i64 w v rs) (hrl : rs.length ≤ 1048576) (hu : Row .i64 w u fl) (hfl : fl.length ≤ 1048576) :
    Calls Try.prog 29 #[.agg #[.int .i64 J, .slice A xs.length cap], v, u] w fun e w' => e = .returned (.tuple #[.int .i64 (losA J xs rs fl), .int .i64 (losOk J xs rs fl)]) ∧ Below w.heap.size w w' := by
  obtain ⟨R, rcap, rfl⟩ := hv.form
  obtain ⟨F, fcap, rfl⟩ := hu.form
  have HB0 := Lib.hid (below_box w (.cells #[.int .i64 J, .slice A xs.length cap] 32))
  have HK0 := Lib.hid (show (w.alloc (.cells #[.int .i64 J, .slice A xs.length cap] 32)).cell? ⟨w.heap.size, 0, none⟩ = some (.int .i64 J) ∧ (w.alloc (.cells #[.int .i64 J, .slice A xs.length cap] 32)).cell? ⟨w.heap.size, 1, none⟩ = some (.slice A xs.length cap) ∧ AwR (w.alloc (.cells #[.int .i64 J, .slice A xs.length cap] 32)) A xs ∧ Row .i64 (w.alloc (.cells #[.int .i64 J, .slice A xs.length cap] 32)) (.slice R rs.length rcap) rs ∧ Row .i64 (w.alloc (.cells #[.int .i64 J, .slice A xs.length cap] 32)) (.slice F fl.length fcap) fl from ⟨by simp, by simp, hr.below HB0.out, hv.below HB0.out, hu.below HB0.out⟩)
  have HS0 := Lib.hid hs
  have c0 := HK0.out.1
  have c1 := HK0.out.2.1
  clear hr hv hs hu
  cases hok : mineOk J xs
  · have HE := Lib.hid (show losA J xs rs fl = 0 ∧ losOk J xs rs fl = 1 by simp [losA, losOk, hok])
    go_enter Try.func29, Try.ntmps29
    go_wp2_with (first
      | (go_at_call 75; refine (iValidMine_any J A cap xs _ HK0.out.2.2.1 HS0.out hl).mono ?_; rintro e w1 ⟨rfl, hd1⟩; rw [hok]; have HB1 := Lib.hid (HB0.out.trans (hd1.mono HB0.out.size)); have HK1 := Lib.hid (show w1.cell? ⟨w.heap.size, 0, none⟩ = some (.int .i64 J) ∧ w1.cell? ⟨w.heap.size, 1, none⟩ = some (.slice A xs.length cap) ∧ AwR w1 A xs ∧ Row .i64 w1 (.slice R rs.length rcap) rs ∧ Row .i64 w1 (.slice F fl.length fcap) fl from ⟨cell_keep HK0.out.1 hd1, cell_keep HK0.out.2.1 hd1, HK0.out.2.2.1.below hd1, HK0.out.2.2.2.1.below hd1, HK0.out.2.2.2.2.below hd1⟩); have c0_1 := HK1.out.1; have c1_1 := HK1.out.2.1; clear hd1)
    )
    go_ret2
    exact ⟨ret_im HE.out.1.symm HE.out.2.symm, HB1.out⟩
  · obtain ⟨hj, -, h24⟩ := mineOk_iff.1 hok
    cases hg : flOk 1 1000000 xs.length rs
    · have HE := Lib.hid (show losA J xs rs fl = 0 ∧ losOk J xs rs fl = 7 by simp [losA, losOk, hok, hg])
      go_enter Try.func29, Try.ntmps29
      go_wp2_with (first
        | (go_at_call 75; refine (iValidMine_any J A cap xs _ HK0.out.2.2.1 HS0.out hl).mono ?_; rintro e w1 ⟨rfl, hd1⟩; rw [hok]; have HB1 := Lib.hid (HB0.out.trans (hd1.mono HB0.out.size)); have HK1 := Lib.hid (show w1.cell? ⟨w.heap.size, 0, none⟩ = some (.int .i64 J) ∧ w1.cell? ⟨w.heap.size, 1, none⟩ = some (.slice A xs.length cap) ∧ AwR w1 A xs ∧ Row .i64 w1 (.slice R rs.length rcap) rs ∧ Row .i64 w1 (.slice F fl.length fcap) fl from ⟨cell_keep HK0.out.1 hd1, cell_keep HK0.out.2.1 hd1, HK0.out.2.2.1.below hd1, HK0.out.2.2.2.1.below hd1, HK0.out.2.2.2.2.below hd1⟩); have c0_1 := HK1.out.1; have c1_1 := HK1.out.2.1; clear hd1)
        | (go_at_call 76; refine (areResistances_any J A xs.length cap _ rs _ HK1.out.2.2.2.1 (Nat.le_trans hrl (by decide)) hl).mono ?_; rintro e w2 ⟨rfl, hd2⟩; rw [hg]; have HB2 := Lib.hid (HB1.out.trans (hd2.mono HB1.out.size)); have HK2 := Lib.hid (show w2.cell? ⟨w.heap.size, 0, none⟩ = some (.int .i64 J) ∧ w2.cell? ⟨w.heap.size, 1, none⟩ = some (.slice A xs.length cap) ∧ AwR w2 A xs ∧ Row .i64 w2 (.slice R rs.length rcap) rs ∧ Row .i64 w2 (.slice F fl.length fcap) fl from ⟨cell_keep HK1.out.1 hd2, cell_keep HK1.out.2.1 hd2, HK1.out.2.2.1.below hd2, HK1.out.2.2.2.1.below hd2, HK1.out.2.2.2.2.below hd2⟩); have c0_2 := HK2.out.1; have c1_2 := HK2.out.2.1; clear hd2)
      )
      go_ret2
      exact ⟨ret_im HE.out.1.symm HE.out.2.symm, HB2.out⟩
    · cases hf : flOk (-100000) 100000 xs.length fl
      · have HE := Lib.hid (show losA J xs rs fl = 0 ∧ losOk J xs rs fl = 7 by simp [losA, losOk, hok, hg, hf])
        go_enter Try.func29, Try.ntmps29
        go_wp2_with (first
          | (go_at_call 75; refine (iValidMine_any J A cap xs _ HK0.out.2.2.1 HS0.out hl).mono ?_; rintro e w1 ⟨rfl, hd1⟩; rw [hok]; have HB1 := Lib.hid (HB0.out.trans (hd1.mono HB0.out.size)); have HK1 := Lib.hid (show w1.cell? ⟨w.heap.size, 0, none⟩ = some (.int .i64 J) ∧ w1.cell? ⟨w.heap.size, 1, none⟩ = some (.slice A xs.length cap) ∧ AwR w1 A xs ∧ Row .i64 w1 (.slice R rs.length rcap) rs ∧ Row .i64 w1 (.slice F fl.length fcap) fl from ⟨cell_keep HK0.out.1 hd1, cell_keep HK0.out.2.1 hd1, HK0.out.2.2.1.below hd1, HK0.out.2.2.2.1.below hd1, HK0.out.2.2.2.2.below hd1⟩); have c0_1 := HK1.out.1; have c1_1 := HK1.out.2.1; clear hd1)
          | (go_at_call 76; refine (areResistances_any J A xs.length cap _ rs _ HK1.out.2.2.2.1 (Nat.le_trans hrl (by decide)) hl).mono ?_; rintro e w2 ⟨rfl, hd2⟩; rw [hg]; have HB2 := Lib.hid (HB1.out.trans (hd2.mono HB1.out.size)); have HK2 := Lib.hid (show w2.cell? ⟨w.heap.size, 0, none⟩ = some (.int .i64 J) ∧ w2.cell? ⟨w.heap.size, 1, none⟩ = some (.slice A xs.length cap) ∧ AwR w2 A xs ∧ Row .i64 w2 (.slice R rs.length rcap) rs ∧ Row .i64 w2 (.slice F fl.length fcap) fl from ⟨cell_keep HK1.out.1 hd2, cell_keep HK1.out.2.1 hd2, HK1.out.2.2.1.below hd2, HK1.out.2.2.2.1.below hd2, HK1.out.2.2.2.2.below hd2⟩); have c0_2 := HK2.out.1; have c1_2 := HK2.out.2.1; clear hd2)
          | (go_at_call 99; refine (areFlows_any J A xs.length cap _ fl _ HK2.out.2.2.2.2 (Nat.le_trans hfl (by decide)) hl).mono ?_; rintro e w3 ⟨rfl, hd3⟩; rw [hf]; have HB3 := Lib.hid (HB2.out.trans (hd3.mono HB2.out.size)); have HK3 := Lib.hid (show w3.cell? ⟨w.heap.size, 0, none⟩ = some (.int .i64 J) ∧ w3.cell? ⟨w.heap.size, 1, none⟩ = some (.slice A xs.length cap) ∧ AwR w3 A xs ∧ Row .i64 w3 (.slice R rs.length rcap) rs ∧ Row .i64 w3 (.slice F fl.length fcap) fl from ⟨cell_keep HK2.out.1 hd3, cell_keep HK2.out.2.1 hd3, HK2.out.2.2.1.below hd3, HK2.out.2.2.2.1.below hd3, HK2.out.2.2.2.2.below hd3⟩); have c0_3 := HK3.out.1; have c1_3 := HK3.out.2.1; clear hd3)
        )
        go_ret2
        exact ⟨ret_im HE.out.1.symm HE.out.2.symm, HB3.out⟩
      · have HE := Lib.hid (show losA J xs rs fl = losT rs fl xs.length ∧ losOk J xs rs fl = 0 by simp [losA, losOk, hok, hg, hf])
        have HG := Lib.hid (flOk_iff.1 hg)
        have HF := Lib.hid (flOk_iff.1 hf)
        go_enter Try.func29, Try.ntmps29
        go_wp2_with (first
          | (go_at_call 75; refine (iValidMine_any J A cap xs _ HK0.out.2.2.1 HS0.out hl).mono ?_; rintro e w1 ⟨rfl, hd1⟩; rw [hok]; have HB1 := Lib.hid (HB0.out.trans (hd1.mono HB0.out.size)); have HK1 := Lib.hid (show w1.cell? ⟨w.heap.size, 0, none⟩ = some (.int .i64 J) ∧ w1.cell? ⟨w.heap.size, 1, none⟩ = some (.slice A xs.length cap) ∧ AwR w1 A xs ∧ Row .i64 w1 (.slice R rs.length rcap) rs ∧ Row .i64 w1 (.slice F fl.length fcap) fl from ⟨cell_keep HK0.out.1 hd1, cell_keep HK0.out.2.1 hd1, HK0.out.2.2.1.below hd1, HK0.out.2.2.2.1.below hd1, HK0.out.2.2.2.2.below hd1⟩); have c0_1 := HK1.out.1; have c1_1 := HK1.out.2.1; clear hd1)
          | (go_at_call 76; refine (areResistances_any J A xs.length cap _ rs _ HK1.out.2.2.2.1 (Nat.le_trans hrl (by decide)) hl).mono ?_; rintro e w2 ⟨rfl, hd2⟩; rw [hg]; have HB2 := Lib.hid (HB1.out.trans (hd2.mono HB1.out.size)); have HK2 := Lib.hid (show w2.cell? ⟨w.heap.size, 0, none⟩ = some (.int .i64 J) ∧ w2.cell? ⟨w.heap.size, 1, none⟩ = some (.slice A xs.length cap) ∧ AwR w2 A xs ∧ Row .i64 w2 (.slice R rs.length rcap) rs ∧ Row .i64 w2 (.slice F fl.length fcap) fl from ⟨cell_keep HK1.out.1 hd2, cell_keep HK1.out.2.1 hd2, HK1.out.2.2.1.below hd2, HK1.out.2.2.2.1.below hd2, HK1.out.2.2.2.2.below hd2⟩); have c0_2 := HK2.out.1; have c1_2 := HK2.out.2.1; clear hd2)
          | (go_at_call 99; refine (areFlows_any J A xs.length cap _ fl _ HK2.out.2.2.2.2 (Nat.le_trans hfl (by decide)) hl).mono ?_; rintro e w3 ⟨rfl, hd3⟩; rw [hf]; have HB3 := Lib.hid (HB2.out.trans (hd3.mono HB2.out.size)); have HK3 := Lib.hid (show w3.cell? ⟨w.heap.size, 0, none⟩ = some (.int .i64 J) ∧ w3.cell? ⟨w.heap.size, 1, none⟩ = some (.slice A xs.length cap) ∧ AwR w3 A xs ∧ Row .i64 w3 (.slice R rs.length rcap) rs ∧ Row .i64 w3 (.slice F fl.length fcap) fl from ⟨cell_keep HK2.out.1 hd3, cell_keep HK2.out.2.1 hd3, HK2.out.2.2.1.below hd3, HK2.out.2.2.2.1.below hd3, HK2.out.2.2.2.2.below hd3⟩); have c0_3 := HK3.out.1; have c1_3 := HK3.out.2.1; clear hd3)
        )
        have hlf0 := Nat.le_of_eq HF.out.1
        have hlr0 := Nat.le_of_eq HG.out.1
        have hlf1 := Nat.le_of_eq HF.out.1.symm
        have hlr1 := Nat.le_of_eq HG.out.1.symm
        go_loopw [8, 28] (fun t i wr => ∃ k : Nat, k ≤ xs.length ∧ i = .int .i64 k ∧ t = .int .i64 (losT rs fl k) ∧ Below w3.heap.size w3 wr) (fun t i wr => xs.length - (intOf i).toNat)
        case atStart => exact ⟨0, by omega, rfl, rfl, Below.refl _ _⟩
        case round =>
          obtain ⟨k, hk, rfl, rfl, hbel⟩ := hrel
          by_cases hlt : k < xs.length
          · have hlf : k < fl.length := by omega
            have hlr : k < rs.length := by omega
            obtain ⟨fb, fo, e1, -, hcf⟩ := Row.cell (HK3.out.2.2.2.2.below hbel) hlf
            obtain ⟨rb, ro, e2, -, hcr⟩ := Row.cell (HK3.out.2.2.2.1.below hbel) hlr
            subst e1 e2
            rw [show fl.getD k 0 = fl[k] by simp [List.getD, hlf]] at hcf
            rw [show rs.getD k 0 = rs[k] by simp [List.getD, hlr]] at hcr
            have hin := And.intro (HG.out.2 _ (List.getElem_mem hlr)) (HF.out.2 _ (List.getElem_mem hlf))
            obtain ⟨b1, b2⟩ := losT_bd HG.out.2 HF.out.2 k (by omega) (by omega)
            have HS := Lib.hid (show losT rs fl (k + 1) = losT rs fl k + powA rs[k] fl[k] by
              rw [losT, show fl.getD k 0 = fl[k] by simp [List.getD, hlf], show rs.getD k 0 = rs[k] by simp [List.getD, hlr]])
            obtain ⟨p1, p2⟩ := powA_bd hin
            have HBL := Lib.hid hbel
            generalize rs[k] = r at *
            generalize fl[k] = q at *
            generalize losT rs fl k = s at *
            clear hin hbel
            have t0 : (k : Int) < (fl.length : Int) := by omega
            have t1 : (k : Int) < (rs.length : Int) := by omega
            go_wp2_with (go_at_call 100; refine (iAirPower_any r q _).mono ?_; rintro e w5 ⟨rfl, hd5⟩; have HB5 := Lib.hid (HBL.out.trans (hd5.mono HBL.out.size)); clear hd5)
            go_roundw
            case rel => exact ⟨k + 1, by omega, by go_num, by rw [HS.out], HB5.out⟩
            case measure => simp [intOf]; omega
          · obtain rfl : k = xs.length := by omega
            have t0 : ¬ (xs.length : Int) < (fl.length : Int) := by omega
            go_wp2
            go_ret2
            exact ⟨ret_im HE.out.1.symm HE.out.2.symm, HB3.out.trans (hbel.mono HB3.out.size)⟩
end Go.Proofs.Ytmjinanapihkoaa
