/-
  Contracts of chapter 10: how many states keep all locks; the model's and the program's. Conditions: those that each theorem states.
-/
import Derived.Test.YtddfhjolimkkmaaJm
namespace Go.Proofs.Ytddfhjolimkkmaa
open Go.RowKit
set_option linter.unusedVariables false
set_option linter.unusedSimpArgs false

theorem i64_and1 : ∀ n, n < 256 → ∀ i, i < 8 → bits .and .i64 (((n >>> i : Nat)) : Int) 1 = if n.testBit i = true then 1 else 0 := by decide +kernel
/-- The states of a number. -/
def stN (n d : Nat) : List Bool := (List.range d).map (fun i => n.testBit i)
theorem stN_len (n d : Nat) : (stN n d).length = d := by simp [stN]
theorem stN_snoc (n d : Nat) : stN n (d + 1) = stN n d ++ [n.testBit d] := by simp [stN, List.range_succ]
theorem stN_at {n d i : Nat} (h : i < d) : stF (stN n d) i = n.testBit i := by
  rw [stF_lt (by rw [stN_len]; exact h)]
  simp [stN]
set_option maxHeartbeats 2000000 in
set_option maxRecDepth 100000 in
theorem l10States_any (d n : Nat) (w : World) (hd : d ≤ 8) (hn : n < 256) :
    Calls Try.prog 106 #[.int .i64 (d : Int), .int .i64 (n : Int)] w fun e w' => ∃ v, e = .returned v ∧ OwnB w' w.heap.size v (stN n d) ∧ Below w.heap.size w w' := by
  obtain ⟨i0, hi, hz0, hz1, hz2⟩ := info_parts info_bo
  go_enter Try.func106, Try.ntmps106
  go_wp2
  go_loopw [5, 6] (fun out i wr => ∃ k : Nat, k ≤ d ∧ i = .int .i64 k ∧ Hid (wr.ownsRow w.heap.size 4 1 out k (boV (stN n k))) ∧ Hid (Below w.heap.size w wr)) (fun out i wr => d - (intOf i).toNat)
  case atStart => exact ⟨0, by omega, rfl, Lib.hid (World.ownsRow_lit _ _ 0 (Nat.le_refl _) (by simp [maxLen]) rfl), Lib.hid ((Below.refl _ _).alloc (Nat.le_refl _) _)⟩
  case round =>
    obtain ⟨k, hk, rfl, HO, HB⟩ := hrel
    obtain ⟨wo, rfl⟩ : ∃ wo : World, wo = wr := ⟨_, rfl⟩
    by_cases hlt : k < d
    · have hk8 : k < 8 := by omega
      have HS := Lib.hid (show boV (stN n (k + 1)) = boV (stN n k) ++ [.bool (n.testBit k)] by rw [stN_snoc, boV_app]; rfl)
      have hbit := i64_and1 n hn k hk8
      have hde : ((n >>> k : Nat) : Int) = (n : Int) / 2 ^ k := by rw [Nat.shiftRight_eq_div_pow]; simp
      rw [hde] at hbit
      have hwo := HB.out.size
      have hll : k ≤ 1000 := by omega
      clear hde
      generalize n.testBit k = q at *
      cases q
      · replace hbit : bits .and .i64 ((n : Int) / 2 ^ k) 1 = 0 := hbit
        go_wp2_with (at_builtin; refine wpList_append_own_at _ rfl _ _ 45 rfl w.heap.size 4 i0 (.bool false) 1 1 Try.underlying45 hi hz0 hz1 hz2 rfl (by decide) _ _ _ rfl (HO.out.alloc _) ⟨wo.heap.size, 0, none⟩ 1 1 [.bool false] rfl rfl ?c1z ?c2z ?c3z ?c4z ?c5z ?_)
        case c1z => intro j u hj; match j, hj with | 0, hj => (simp at hj; subst hj; simp [Addr.add]) | j + 1, hj => (simp at hj)
        case c2z => simp [Value.oneCell']
        case c3z => unfold maxLen; omega
        case c4z => omega
        case c5z => (simp; omega)
        intro v3 w3 ho3 hg3 _ hl3
        have HO3 := Lib.hid ho3
        have HB3 := Lib.hid ((HB.out.alloc hwo _).grown hg3 (by simp; omega) (fun j hj => (HO.out.lt j hj).1))
        clear ho3 hg3 hl3
        go_wp2
        go_roundw
        case rel => exact ⟨k + 1, by omega, by go_num, Lib.hid (by rw [HS.out]; exact HO3.out), HB3⟩
        case measure => simp [intOf]; omega

      · replace hbit : bits .and .i64 ((n : Int) / 2 ^ k) 1 = 1 := hbit
        go_wp2_with (at_builtin; refine wpList_append_own_at _ rfl _ _ 45 rfl w.heap.size 4 i0 (.bool false) 1 1 Try.underlying45 hi hz0 hz1 hz2 rfl (by decide) _ _ _ rfl (HO.out.alloc _) ⟨wo.heap.size, 0, none⟩ 1 1 [.bool true] rfl rfl ?c1z ?c2z ?c3z ?c4z ?c5z ?_)
        case c1z => intro j u hj; match j, hj with | 0, hj => (simp at hj; subst hj; simp [Addr.add]) | j + 1, hj => (simp at hj)
        case c2z => simp [Value.oneCell']
        case c3z => unfold maxLen; omega
        case c4z => omega
        case c5z => (simp; omega)
        intro v3 w3 ho3 hg3 _ hl3
        have HO3 := Lib.hid ho3
        have HB3 := Lib.hid ((HB.out.alloc hwo _).grown hg3 (by simp; omega) (fun j hj => (HO.out.lt j hj).1))
        clear ho3 hg3 hl3
        go_wp2
        go_roundw
        case rel => exact ⟨k + 1, by omega, by go_num, Lib.hid (by rw [HS.out]; exact HO3.out), HB3⟩
        case measure => simp [intOf]; omega

    · obtain rfl : k = d := by omega
      go_wp2
      go_ret
      exact ⟨_, rfl, by unfold OwnB; rw [stN_len]; exact HO.out, HB.out⟩
/-- How many of the first k keep the locks. -/
def cntK (xs : List (List Int)) : Nat → Nat
  | 0 => 0
  | k + 1 => cntK xs k + if kb k.testBit xs = true then 1 else 0
theorem cntK_le (xs : List (List Int)) : ∀ k, cntK xs k ≤ k
  | 0 => Nat.le_refl _
  | k + 1 => by have := cntK_le xs k; unfold cntK; split <;> omega
/-- What CountStates returns. -/
def csA (n : Int) (xs : List (List Int)) : Int := if inB n 0 8 then (if lksOk n xs then (cntK xs (2 ^ n.toNat) : Int) else 0) else 0
def csB (n : Int) (xs : List (List Int)) : Int := if inB n 0 8 then (if lksOk n xs then 0 else 1) else 2
theorem pow2_bd : ∀ d, d ≤ 8 → 1 ≤ 2 ^ d ∧ 2 ^ d ≤ 256 := by decide
set_option maxHeartbeats 4000000 in
set_option maxRecDepth 100000 in
theorem sCountStates_any (n : Int) (A : Option Addr) (cap : Nat) (xs : List (List Int)) (w : World) (hr : RowsR w A xs) (hl : xs.length ≤ 1048576) (hls : ∀ r ∈ xs, r.length ≤ 1048576) :
    Calls Try.prog 52 #[.int .i64 n, .slice A xs.length cap] w fun e w' => e = .returned (.tuple #[.int .i64 (csA n xs), .int .i64 (csB n xs)]) ∧ Below w.heap.size w w' := by
  have HC := Lib.hid (fun W (h : Below w.heap.size w W) => l10Locks_any n A cap xs W (hr.below h) hl hls)
  have HR := Lib.hid hr
  clear hr
  cases hin : inB n 0 8
  · have HE := Lib.hid (show csA n xs = 0 ∧ csB n xs = 2 by simp [csA, csB, hin])
    go_enter Try.func52, Try.ntmps52
    go_wp2_with (go_at_call 88; refine (l00In_any _ _ _ _).mono ?_; rintro e w' ⟨rfl, rfl⟩)
    go_ret2
    exact ⟨ret_two HE.out.1.symm HE.out.2.symm, Below.refl _ _⟩
  · obtain ⟨n0, n8⟩ := inB_iff.1 hin
    cases hok : lksOk n xs
    · have HE := Lib.hid (show csA n xs = 0 ∧ csB n xs = 1 by simp [csA, csB, hin, hok])
      go_enter Try.func52, Try.ntmps52
      go_wp2_with (go_at_call 88; refine (l00In_any _ _ _ _).mono ?_; rintro e w' ⟨rfl, rfl⟩)
      go_wp2_with fail
      (with_reducible refine (HC.out _ (Below.refl _ _)).mono ?_)
      rintro e w1 ⟨rfl, hd1⟩
      rw [hok]
      go_wp2
      go_ret2
      exact ⟨ret_two HE.out.1.symm HE.out.2.symm, hd1⟩
    · obtain ⟨d, rfl⟩ : ∃ d : Nat, n = d := ⟨n.toNat, by omega⟩
      have hd8 : d ≤ 8 := by omega
      have hpb := pow2_bd d hd8
      have hpe : (2 : Int) ^ d = ((2 ^ d : Nat) : Int) := by simp
      have HE := Lib.hid (show csA (d : Int) xs = (cntK xs (2 ^ d) : Int) ∧ csB (d : Int) xs = 0 by simp [csA, csB, hin, hok])
      generalize (2 ^ d : Nat) = M at *
      have HK := Lib.hid (fun (k : Nat) (D : Option Addr) (dc : Nat) (W : World) (hb : BoR W D (stN k d)) (h : Below w.heap.size w W) => l10Keeps_any D dc (stN k d) A cap xs W hb (HR.out.below h) (by rw [stN_len]; exact hok))
      have HQ := Lib.hid (fun (k : Nat) => show kb (stF (stN k d)) xs = kb k.testBit xs from kb_congr hok (fun i hi => stN_at (by omega)))
      go_enter Try.func52, Try.ntmps52
      go_wp2_with (go_at_call 88; refine (l00In_any _ _ _ _).mono ?_; rintro e w' ⟨rfl, rfl⟩)
      go_wp2_with fail
      (with_reducible refine (HC.out _ (Below.refl _ _)).mono ?_)
      rintro e w1 ⟨rfl, hd1⟩
      rw [hok]
      go_wp2
      go_loopw [6, 7] (fun c i wr => ∃ (k m : Nat), k ≤ M ∧ i = .int .i64 (k : Int) ∧ c = .int .i64 (m : Int) ∧ Hid (cntK xs k = m) ∧ Below w.heap.size w wr) (fun c i wr => M - (intOf i).toNat)
      case atStart => exact ⟨0, 0, by omega, rfl, rfl, Lib.hid rfl, hd1⟩
      case round =>
        obtain ⟨k, m, hk, rfl, rfl, HM, hbel⟩ := hrel
        obtain ⟨wo, rfl⟩ : ∃ wo : World, wo = wr := ⟨_, rfl⟩
        have hmk : m ≤ k := by rw [← HM.out]; exact cntK_le xs k
        by_cases hlt : k < M
        · have HN := Lib.hid (show cntK xs (k + 1) = m + if kb k.testBit xs = true then 1 else 0 by rw [← HM.out]; rfl)
          have HQK := Lib.hid (HQ.out k)
          go_wp2_with fail
          (with_reducible refine (l10States_any d k _ hd8 (by omega)).mono ?_)
          rintro e w2 ⟨v, rfl, hov, hd2⟩
          have hb2 := hbel.trans (hd2.mono hbel.size)
          obtain ⟨D, dc, rfl, hbo⟩ := hov.read
          go_wp2_with fail
          (with_reducible refine (HK.out k D dc _ hbo hb2).mono ?_)
          rintro e w3 ⟨rfl, hd3⟩
          rw [HQK.out]
          have hb3 := hb2.trans (hd3.mono hb2.size)
          generalize kb k.testBit xs = q at *
          clear hov hbo hd2 hd3
          cases q
          · have HF := Lib.hid (show cntK xs (k + 1) = m by rw [HN.out]; rfl)
            go_wp2
            go_roundw
            case rel => exact ⟨k + 1, m, by omega, by go_num, rfl, HF, hb3⟩
            case measure => simp [intOf]; omega
          · have HF := Lib.hid (show cntK xs (k + 1) = m + 1 by rw [HN.out]; rfl)
            go_wp2
            go_roundw
            case rel => exact ⟨k + 1, m + 1, by omega, by go_num, by go_num, HF, hb3⟩
            case measure => simp [intOf]; omega
        · obtain rfl : k = M := by omega
          go_wp2
          go_ret2
          exact ⟨ret_two (by rw [HE.out.1, HM.out]) HE.out.2.symm, hbel⟩
set_option maxHeartbeats 4000000 in
set_option maxRecDepth 100000 in
theorem iCountStates_any (n : Int) (A : Option Addr) (cap : Nat) (xs : List (List Int)) (w : World) (hr : RowsR w A xs) (hl : xs.length ≤ 1048576) (hls : ∀ r ∈ xs, r.length ≤ 1048576) :
    Calls Try.prog 53 #[.int .i64 n, .slice A xs.length cap] w fun e w' => e = .returned (.tuple #[.int .i64 (csA n xs), .int .i64 (csB n xs)]) ∧ Below w.heap.size w w' := by
  have HB0 := Lib.hid (below_box w (.cells #[.int .i64 n] 2))
  have HC := Lib.hid (fun W (h : Below w.heap.size w W) => iValidLocks_any n A cap xs W (hr.below h) hl hls)
  have HR := Lib.hid hr
  clear hr
  cases hin : inB n 0 8
  · have HE := Lib.hid (show csA n xs = 0 ∧ csB n xs = 2 by simp [csA, csB, hin])
    go_enter Try.func53, Try.ntmps53
    go_wp2_with fail
    (with_reducible refine (within64_one _ _ _ _ _ _ (by simp)).mono ?_)
    rintro e w' ⟨rfl, rfl⟩
    go_wp2
    go_ret2
    exact ⟨ret_two HE.out.1.symm HE.out.2.symm, HB0.out⟩
  · obtain ⟨n0, n8⟩ := inB_iff.1 hin
    cases hok : lksOk n xs
    · have HE := Lib.hid (show csA n xs = 0 ∧ csB n xs = 1 by simp [csA, csB, hin, hok])
      go_enter Try.func53, Try.ntmps53
      go_wp2_with fail
      (with_reducible refine (within64_one _ _ _ _ _ _ (by simp)).mono ?_)
      rintro e w' ⟨rfl, rfl⟩
      go_wp2_with fail
      (with_reducible refine (HC.out _ HB0.out).mono ?_)
      rintro e w1 ⟨rfl, hd1⟩
      rw [hok]
      go_wp2
      go_ret2
      exact ⟨ret_two HE.out.1.symm HE.out.2.symm, HB0.out.trans (hd1.mono HB0.out.size)⟩
    · obtain ⟨d, rfl⟩ : ∃ d : Nat, n = d := ⟨n.toNat, by omega⟩
      have hd8 : d ≤ 8 := by omega
      have h12 := (lksOk_iff.1 hok).2.1
      have hpb := pow2_bd d hd8
      have hpe : (2 : Int) ^ d = ((2 ^ d : Nat) : Int) := by simp
      have HE := Lib.hid (show csA (d : Int) xs = (cntK xs (2 ^ d) : Int) ∧ csB (d : Int) xs = 0 by simp [csA, csB, hin, hok])
      generalize (2 ^ d : Nat) = M at *
      have HI := Lib.hid (fun W (h : Below w.heap.size w W) => interlockOf_any (d : Int) A cap xs W (HR.out.below h) hok)
      have HQ := Lib.hid (fun (k : Nat) (hk : k < 256) => keepM_kb hok hk)
      have HL := Lib.hid (lkM_lt hok)
      go_enter Try.func53, Try.ntmps53
      go_wp2_with fail
      (with_reducible refine (within64_one _ _ _ _ _ _ (by simp)).mono ?_)
      rintro e w' ⟨rfl, rfl⟩
      go_wp2_with fail
      (with_reducible refine (HC.out _ HB0.out).mono ?_)
      rintro e w1 ⟨rfl, hd1⟩
      rw [hok]
      have hb1 := HB0.out.trans (hd1.mono HB0.out.size)
      go_wp2_with fail
      (with_reducible refine (HI.out _ hb1).mono ?_)
      rintro e w2 ⟨v, rfl, ho2, hd2⟩
      have HB2 := Lib.hid (hb1.trans (hd2.mono hb1.size))
      obtain ⟨A', c', rfl⟩ : ∃ A' c', v = .slice A' xs.length c' := by
        rcases ho2.2 with ⟨rfl, h0⟩ | ⟨g, c2, cur, rfl, _⟩
        · exact ⟨none, 0, by rw [h0]⟩
        · exact ⟨_, c2, rfl⟩
      have HO2 := Lib.hid ho2
      clear ho2 hd1 hd2 hb1
      go_wp2
      have HWL := Lib.hid (show ((w2.alloc (.cells #[.int .i64 (d : Int), .slice A' xs.length c'] 113)).cell? ⟨w2.heap.size, 0, none⟩ = some (.int .i64 (d : Int)) ∧ (w2.alloc (.cells #[.int .i64 (d : Int), .slice A' xs.length c'] 113)).cell? ⟨w2.heap.size, 1, none⟩ = some (.slice A' xs.length c')) ∧ (w2.alloc (.cells #[.int .i64 (d : Int), .slice A' xs.length c'] 113)).ownsRow w1.heap.size 116 1 (.slice A' xs.length c') xs.length (msV (xs.map lkM)) from ⟨⟨by simp, by simp⟩, HO2.out.alloc _⟩)
      have HBL := Lib.hid (HB2.out.alloc HB2.out.size (.cells #[.int .i64 (d : Int), .slice A' xs.length c'] 113))
      have hzl : w2.heap.size < (w2.alloc (.cells #[.int .i64 (d : Int), .slice A' xs.length c'] 113)).heap.size := by simp
      generalize w2.alloc (.cells #[.int .i64 (d : Int), .slice A' xs.length c'] 113) = WL at *
      go_loopw [7, 22] (fun c i wr => ∃ (k m : Nat), k ≤ M ∧ i = .int .i64 (k : Int) ∧ c = .int .i64 (m : Int) ∧ Hid (cntK xs k = m) ∧ Hid (Below WL.heap.size WL wr)) (fun c i wr => M - (intOf i).toNat)
      case atStart => exact ⟨0, 0, by omega, rfl, rfl, Lib.hid rfl, Lib.hid (Below.refl _ _)⟩
      case round =>
        obtain ⟨k, m, hk, rfl, rfl, HM, HB⟩ := hrel
        obtain ⟨wo, rfl⟩ : ∃ wo : World, wo = wr := ⟨_, rfl⟩
        have hmk : m ≤ k := by rw [← HM.out]; exact cntK_le xs k
        have p0 := cellK HWL.out.1.1 HB.out
        have p1 := cellK HWL.out.1.2 HB.out
        have HOW := Lib.hid (own_below HWL.out.2 HB.out)
        by_cases hlt : k < M
        · have HN := Lib.hid (show cntK xs (k + 1) = m + if kb k.testBit xs = true then 1 else 0 by rw [← HM.out]; rfl)
          have HQK := Lib.hid (HQ.out k (by omega))
          have hk256 : k < 256 := by omega
          go_wp2_with fail
          (with_reducible refine (keeps_any w1.heap.size (d : Int) (.slice A' xs.length c') (xs.map lkM) k _ (by rw [List.length_map]; exact HOW.out) hk256 HL.out (by rw [List.length_map]; omega)).mono ?_)
          rintro e w3 ⟨rfl, hd3⟩
          rw [HQK.out]
          have hb3 := HB.out.trans (hd3.mono HB.out.size)
          have HB3 := Lib.hid hb3
          generalize kb k.testBit xs = q at *
          clear hd3 hb3 p0 p1
          cases q
          · have HF := Lib.hid (show cntK xs (k + 1) = m by rw [HN.out]; rfl)
            go_wp2
            go_roundw
            case rel => exact ⟨k + 1, m, by omega, by go_num, rfl, HF, HB3⟩
            case measure => simp [intOf]; omega
          · have HF := Lib.hid (show cntK xs (k + 1) = m + 1 by rw [HN.out]; rfl)
            go_wp2
            go_roundw
            case rel => exact ⟨k + 1, m + 1, by omega, by go_num, by go_num, HF, HB3⟩
            case measure => simp [intOf]; omega
        · obtain rfl : k = M := by omega
          go_wp2
          go_ret2
          exact ⟨ret_two (by rw [HE.out.1, HM.out]) HE.out.2.symm, HBL.out.trans (HB.out.mono HBL.out.size)⟩
end Go.Proofs.Ytddfhjolimkkmaa
