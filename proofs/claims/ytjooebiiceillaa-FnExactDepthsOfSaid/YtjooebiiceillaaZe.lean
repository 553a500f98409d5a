/-
  Contracts of chapter 9: depths; the model's and the program's. Conditions: those that each theorem states.
-/
import Derived.Test.YtjooebiiceillaaZd
namespace Go.Proofs.Ytjooebiiceillaa
open Go.RowKit
set_option linter.unusedVariables false
set_option linter.unusedSimpArgs false

def hiM (f : Nat → Int) : Nat → Int
  | 0 => f 0
  | k + 1 => if f (k + 1) < hiM f k then hiM f k else f (k + 1)
theorem hiM_max (f : Nat → Int) (k : Nat) : hiM f (k + 1) = max (hiM f k) (f (k + 1)) := by
  rw [hiM]
  split <;> omega
theorem hiM_bd (f : Nat → Int) (B : Int) : ∀ k, (∀ j, j ≤ k → -B ≤ f j ∧ f j ≤ B) → -B ≤ hiM f k ∧ hiM f k ≤ B
  | 0, h => h 0 (Nat.le_refl _)
  | k + 1, h => by
    have h1 := hiM_bd f B k (fun j hj => h j (by omega))
    have h2 := h (k + 1) (Nat.le_refl _)
    rw [hiM]
    split <;> omega
def lvF (lv : List Int) (j : Nat) : Int := lv.getD j 0
/-- How deep a junction is. -/
def deF (lv : List Int) (j : Nat) : Int := hiM (lvF lv) (lv.length - 1) - lvF lv j
def deT (lv : List Int) (k : Nat) : List Int := (List.range k).map (deF lv)
theorem deT_snoc (lv : List Int) (k : Nat) : deT lv (k + 1) = deT lv k ++ [deF lv k] := by simp [deT, List.range_succ]
theorem deT_len (lv : List Int) (k : Nat) : (deT lv k).length = k := by simp [deT]
def deR (J : Int) (xs : List Aw) (lv : List Int) : List Int := if rlB J xs lv = 0 then deT lv lv.length else []
theorem deR_len (J : Int) (xs : List Aw) (lv : List Int) : (deR J xs lv).length ≤ 16 := by
  unfold deR
  split
  · rename_i h
    obtain ⟨h1, h2⟩ := rlB_ok h
    rw [deT_len]
    have := (lvOk_iff.1 h2).1
    have := (mineOk_iff.1 h1).1
    omega
  · simp
theorem lvF_bd {J : Int} {lv : List Int} (h : lvOk J lv = true) (j : Nat) : -3000 ≤ lvF lv j ∧ lvF lv j ≤ 3000 := lv_bd h j
theorem slicesMaxM_any (v : Value) (xs : List Int) (f : Nat → Int) (w : World) (hv : RowW .i64 w v xs) (hf : ∀ k, k < xs.length → xs.getD k 0 = f k) (h1 : 1 ≤ xs.length) (hl : xs.length ≤ 1048576) :
    Calls Try.prog 83 #[v] w fun e w' => e = .returned (.int .i64 (hiM f (xs.length - 1))) ∧ w = w' := by
  obtain ⟨A, cap, rfl, _⟩ := id hv
  have HV := Lib.hid hv
  clear hv
  obtain ⟨b, off, rfl, -, hc⟩ := RowW.cell HV.out (show 0 < xs.length by omega)
  rw [Nat.add_zero, hf 0 (by omega)] at hc
  have HF := Lib.hid hf
  have t0 : ¬ (xs.length : Int) < 1 := by omega
  have t1 : (0 : Int) < (xs.length : Int) := by omega
  have HT := Lib.hid (show hiM f 0 = f 0 from rfl)
  clear hf
  go_enter Try.func83, Try.ntmps83
  go_wp2
  go_loop [3, 4] (fun t i => ∃ k m : Nat, Hid (m = k + 1) ∧ m ≤ xs.length ∧ i = .int .i64 m ∧ t = .int .i64 (hiM f k)) (fun _ i => xs.length - (intOf i).toNat)
  case atStart => exact ⟨0, 1, rfl, h1, rfl, by rw [HT.out]⟩
  case round =>
    obtain ⟨k, m, HM, hk, rfl, rfl⟩ := hrel
    by_cases hlt : m < xs.length
    · obtain ⟨b', off', e1, -, hc⟩ := RowW.cell HV.out hlt
      injection e1 with e1
      injection e1 with e1 e3
      subst e1 e3
      rw [HF.out m hlt] at hc
      have HS := Lib.hid (show hiM f m = max (hiM f k) (f m) by rw [HM.out]; exact hiM_max _ k)
      generalize f m = z at *
      generalize hiM f k = t at *
      go_wp2
      go_round
      case rel => exact ⟨m, m + 1, rfl, by omega, by go_num, by rw [HS.out]; first | done | rfl | (congr 1; split <;> omega)⟩
      case measure => simp [intOf]; omega
    · obtain rfl : m = xs.length := by omega
      have hkx : xs.length - 1 = k := by have := HM.out; omega
      have HK := Lib.hid hkx
      generalize ht : hiM f k = t at *
      go_wp2
      go_ret
      exact ⟨ret_int (by first | rfl | rw [HK.out, ht]), rfl⟩
set_option maxHeartbeats 2000000 in
set_option maxRecDepth 100000 in
theorem sDepthsOf_any (J : Int) (A : Option Addr) (cap : Nat) (xs : List Aw) (V : Value) (lv : List Int) (w : World) (hr : AwR w A xs) (hs : ∀ a ∈ xs, a.s.size ≤ maxLen) (hl : xs.length ≤ 1048576) (hv : Row .i64 w V lv) (hvl : lv.length ≤ 1048576) :
    Calls Try.prog 35 #[.agg #[.int .i64 J, .slice A xs.length cap], V] w fun e w' => ∃ u, e = .returned (.tuple #[u, .int .i64 (rlB J xs lv)]) ∧ OwnI w' w.heap.size u (deR J xs lv) ∧ Below w.heap.size w w' := by
  obtain ⟨F, fcap, rfl⟩ := hv.form
  have HB0 := Lib.hid (below_box w (.cells #[.int .i64 J, .slice A xs.length cap] 36))
  have HOKC := Lib.hid (l04Ok_any w.heap.size J A cap xs (w.alloc (.cells #[.int .i64 J, .slice A xs.length cap] 36)) (by simp) (by simp) (hr.below HB0.out) hs hl)
  have HV := Lib.hid (RowW.of_row (hv.below HB0.out))
  have HJ := Lib.hid (show (w.alloc (.cells #[.int .i64 J, .slice A xs.length cap] 36)).cell? ⟨w.heap.size, 0, none⟩ = some (.int .i64 J) by simp)
  have HA := Lib.hid (show (w.alloc (.cells #[.int .i64 J, .slice A xs.length cap] 36)).cell? ⟨w.heap.size, 1, none⟩ = some (.slice A xs.length cap) by simp)
  have HR := Lib.hid (hr.below HB0.out)
  have HS := Lib.hid hs
  clear hr hv hs
  cases hok : mineOk J xs
  · have HE := Lib.hid (show rlB J xs lv = 1 ∧ deR J xs lv = [] by simp [rlB, deR, hok])
    go_enter Try.func35, Try.ntmps35
    go_wp2_with fail
    (with_reducible refine (HOKC.out).mono ?_)
    rintro e w1 ⟨rfl, n, rfl⟩
    rw [hok]
    have HB1 := Lib.hid (show Below w.heap.size w ((w.alloc (.cells #[.int .i64 J, .slice A xs.length cap] 36)).drewN n) from below_drewN' HB0.out n)
    have HV1 := Lib.hid (show RowW .i64 ((w.alloc (.cells #[.int .i64 J, .slice A xs.length cap] 36)).drewN n) _ lv from HV.out)
    have HJ1 := Lib.hid (show ((w.alloc (.cells #[.int .i64 J, .slice A xs.length cap] 36)).drewN n).cell? ⟨w.heap.size, 0, none⟩ = some (.int .i64 J) from HJ.out)
    have HA1 := Lib.hid (show ((w.alloc (.cells #[.int .i64 J, .slice A xs.length cap] 36)).drewN n).cell? ⟨w.heap.size, 1, none⟩ = some (.slice A xs.length cap) from HA.out)
    have HR1 := Lib.hid (show AwR ((w.alloc (.cells #[.int .i64 J, .slice A xs.length cap] 36)).drewN n) A xs from HR.out)
    generalize (w.alloc (.cells #[.int .i64 J, .slice A xs.length cap] 36)).drewN n = W1 at *
    go_wp2
    go_ret2
    exact ⟨_, ret_vz HE.out.1.symm, by rw [HE.out.2]; exact own_nilz _ _, HB1.out⟩
  · cases hlv : lvOk J lv
    · have HE := Lib.hid (show rlB J xs lv = 7 ∧ deR J xs lv = [] by simp [rlB, deR, hok, hlv])
      go_enter Try.func35, Try.ntmps35
      go_wp2_with fail
      (with_reducible refine (HOKC.out).mono ?_)
      rintro e w1 ⟨rfl, n, rfl⟩
      rw [hok]
      have HB1 := Lib.hid (show Below w.heap.size w ((w.alloc (.cells #[.int .i64 J, .slice A xs.length cap] 36)).drewN n) from below_drewN' HB0.out n)
      have HV1 := Lib.hid (show RowW .i64 ((w.alloc (.cells #[.int .i64 J, .slice A xs.length cap] 36)).drewN n) _ lv from HV.out)
      have HJ1 := Lib.hid (show ((w.alloc (.cells #[.int .i64 J, .slice A xs.length cap] 36)).drewN n).cell? ⟨w.heap.size, 0, none⟩ = some (.int .i64 J) from HJ.out)
      have HA1 := Lib.hid (show ((w.alloc (.cells #[.int .i64 J, .slice A xs.length cap] 36)).drewN n).cell? ⟨w.heap.size, 1, none⟩ = some (.slice A xs.length cap) from HA.out)
      have HR1 := Lib.hid (show AwR ((w.alloc (.cells #[.int .i64 J, .slice A xs.length cap] 36)).drewN n) A xs from HR.out)
      generalize (w.alloc (.cells #[.int .i64 J, .slice A xs.length cap] 36)).drewN n = W1 at *
      go_wp2_with (go_at_call 80; (with_reducible refine (l09Levels_any w.heap.size J _ lv W1 HJ1.out HV1.out (by omega)).mono ?_); rintro e w' ⟨rfl, rfl⟩; rw [hlv])
      go_ret2
      exact ⟨_, ret_vz HE.out.1.symm, by rw [HE.out.2]; exact own_nilz _ _, HB1.out⟩
    · have HE := Lib.hid (show rlB J xs lv = 0 ∧ deR J xs lv = deT lv lv.length by simp [rlB, deR, hok, hlv])
      have hlen : 1 ≤ lv.length ∧ lv.length ≤ 16 := by have := (lvOk_iff.1 hlv).1; have := (mineOk_iff.1 hok).1; omega
      have HLV := Lib.hid hlv
      obtain ⟨i0, hi, hz0, hz1, hz2⟩ := info_parts info_i64
      go_enter Try.func35, Try.ntmps35
      go_wp2_with fail
      (with_reducible refine (HOKC.out).mono ?_)
      rintro e w1 ⟨rfl, n, rfl⟩
      rw [hok]
      have HB1 := Lib.hid (show Below w.heap.size w ((w.alloc (.cells #[.int .i64 J, .slice A xs.length cap] 36)).drewN n) from below_drewN' HB0.out n)
      have HV1 := Lib.hid (show RowW .i64 ((w.alloc (.cells #[.int .i64 J, .slice A xs.length cap] 36)).drewN n) _ lv from HV.out)
      have HJ1 := Lib.hid (show ((w.alloc (.cells #[.int .i64 J, .slice A xs.length cap] 36)).drewN n).cell? ⟨w.heap.size, 0, none⟩ = some (.int .i64 J) from HJ.out)
      have HA1 := Lib.hid (show ((w.alloc (.cells #[.int .i64 J, .slice A xs.length cap] 36)).drewN n).cell? ⟨w.heap.size, 1, none⟩ = some (.slice A xs.length cap) from HA.out)
      have HR1 := Lib.hid (show AwR ((w.alloc (.cells #[.int .i64 J, .slice A xs.length cap] 36)).drewN n) A xs from HR.out)
      generalize (w.alloc (.cells #[.int .i64 J, .slice A xs.length cap] 36)).drewN n = W1 at *
      obtain ⟨lb, lo, rfl, -, d0⟩ := RowW.cell HV1.out (show 0 < lv.length by omega)
      rw [Nat.add_zero, show lv.getD 0 0 = lvF lv 0 from rfl] at d0
      have t0 : (0 : Int) < (lv.length : Int) := by omega
      have HF0 := Lib.hid (show hiM (lvF lv) 0 = lvF lv 0 from rfl)
      go_wp2_with (go_at_call 80; (with_reducible refine (l09Levels_any w.heap.size J _ lv W1 HJ1.out HV1.out (by omega)).mono ?_); rintro e w' ⟨rfl, rfl⟩; rw [hlv])
      clear HS
      go_loop [6, 7] (fun t i => ∃ k m : Nat, Hid (m = k + 1) ∧ m ≤ lv.length ∧ i = .int .i64 m ∧ t = .int .i64 (hiM (lvF lv) k)) (fun _ i => lv.length - (intOf i).toNat)
      case atStart => exact ⟨0, 1, rfl, hlen.1, rfl, by rw [HF0.out]⟩
      case round =>
        obtain ⟨k, m, HM, hm, rfl, rfl⟩ := hrel
        by_cases hlt : m < lv.length
        · obtain ⟨lb', lo', e1, -, d1⟩ := RowW.cell HV1.out hlt
          injection e1 with e1
          injection e1 with e1 e3
          subst e1 e3
          rw [show lv.getD m 0 = lvF lv m from rfl] at d1
          have HH := Lib.hid (show hiM (lvF lv) m = (if lvF lv m < hiM (lvF lv) k then hiM (lvF lv) k else lvF lv m) by rw [HM.out]; rfl)
          generalize lvF lv m = z at *
          generalize hiM (lvF lv) k = t at *
          generalize ht' : hiM (lvF lv) m = t' at *
          go_wp2_with (go_at_call 81; (with_reducible refine (l00Max_any _ _ _).mono ?_); rintro e w' ⟨rfl, rfl⟩; rw [← HH.out])
          go_round
          case rel => exact ⟨m, m + 1, rfl, by omega, by go_num, by rw [ht']⟩
          case measure => simp [intOf]; omega
        · obtain rfl : m = lv.length := by omega
          have hkx : k = lv.length - 1 := by have := HM.out; omega
          subst hkx
          have HDF := Lib.hid (fun j => show deF lv j = hiM (lvF lv) (lv.length - 1) - lvF lv j from rfl)
          obtain ⟨b1, b2⟩ := hiM_bd (lvF lv) 3000 (lv.length - 1) (fun j _ => lvF_bd HLV.out j)
          generalize hiM (lvF lv) (lv.length - 1) = t at *
          go_wp2
          clear t0 d0
          have HC1 := Lib.hid (below_box W1 (.cells #[] 2))
          go_loopw [8, 9] (fun out i wr => ∃ k : Nat, k ≤ lv.length ∧ i = .int .i64 k ∧ wr.ownsRow W1.heap.size 2 1 out k (intsV (deT lv k)) ∧ Below W1.heap.size W1 wr) (fun out i wr => lv.length - (intOf i).toNat)
          case atStart => exact ⟨0, by omega, rfl, World.ownsRow_lit _ _ 0 (Nat.le_refl _) (by simp [maxLen]) rfl, HC1.out⟩
          case round =>
            obtain ⟨k, hk, rfl, hown, hbel⟩ := hrel
            have hwz := hbel.size
            by_cases hlt : k < lv.length
            · obtain ⟨lb', lo', e1, -, d1⟩ := RowW.cell (HV1.out.below hbel) hlt
              injection e1 with e1
              injection e1 with e1 e3
              subst e1 e3
              rw [show lv.getD k 0 = lvF lv k from rfl] at d1
              have HN := Lib.hid (deT_snoc lv k)
              rw [HDF.out k] at HN
              obtain ⟨b3, b4⟩ := lvF_bd HLV.out k
              generalize lvF lv k = z at *
              go_wp2_with (at_builtin; refine wpList_append_own _ rfl _ _ 30 rfl W1.heap.size 2 i0 (.int .i64 0) 1 8 Try.underlying30 hi hz0 hz1 hz2 rfl (by decide) _ _ _ rfl (hown.alloc _) ⟨wr.heap.size, 0, none⟩ 1 1 [.int .i64 (t - z)] rfl rfl ?c1z ?c2z ?c3z ?c4z ?c5z ?_)
              try (case c1z => intro j u hj; match j, hj with | 0, hj => (simp at hj; subst hj; simp [Addr.add]) | j + 1, hj => (simp at hj))
              case c2z => simp [Value.oneCell']
              case c3z => unfold maxLen; omega
              case c4z => omega
              case c5z => first | omega | (simp; omega)
              intro v' w3 hout' hgrow _
              have HBB : Hid (Below W1.heap.size W1 w3) := Lib.hid ((hbel.alloc hwz _).grown hgrow (by simp; omega) (fun k hk => (hown.lt k hk).1))
              have HOO : Hid (w3.ownsRow W1.heap.size 2 1 v' (k + 1) (intsV (deT lv (k + 1)))) := Lib.hid (by rw [HN.out]; simpa [intsV] using hout')
              clear hout' hgrow hown hbel
              go_wp2
              go_roundw
              case rel => exact ⟨k + 1, by omega, by go_num, HOO.out, HBB.out⟩
              case measure => simp [intOf]; omega
            · obtain rfl : k = lv.length := by omega
              have HO := Lib.hid hown
              have HBL := Lib.hid hbel
              clear hown hbel
              go_wp2
              go_ret2
              exact ⟨_, ret_vz HE.out.1.symm, by rw [HE.out.2]; refine own_lez ?_ HB1.out.size; unfold OwnI; rw [deT_len]; exact HO.out, HB1.out.trans (HBL.out.mono HB1.out.size)⟩
set_option maxHeartbeats 2000000 in
set_option maxRecDepth 100000 in
theorem iDepthsOf_any (J : Int) (A : Option Addr) (cap : Nat) (xs : List Aw) (V : Value) (lv : List Int) (w : World) (hr : AwR w A xs) (hs : ∀ a ∈ xs, a.s.size ≤ maxLen) (hl : xs.length ≤ 1048576) (hv : Row .i64 w V lv) (hvl : lv.length ≤ 1048576) :
    Calls Try.prog 36 #[.agg #[.int .i64 J, .slice A xs.length cap], V] w fun e w' => ∃ u, e = .returned (.tuple #[u, .int .i64 (rlB J xs lv)]) ∧ OwnI w' w.heap.size u (deR J xs lv) ∧ Below w.heap.size w w' := by
  obtain ⟨F, fcap, rfl⟩ := hv.form
  have HB0 := Lib.hid (below_box w (.cells #[.int .i64 J, .slice A xs.length cap] 36))
  have HR := Lib.hid (hr.below HB0.out)
  have HV := Lib.hid (hv.below HB0.out)
  have HS := Lib.hid hs
  clear hr hv hs
  by_cases hc : rlB J xs lv = 0
  · have HE := Lib.hid (show deR J xs lv = deT lv lv.length by simp [deR, hc])
    obtain ⟨hok, hlv⟩ := rlB_ok hc
    have hlen : 1 ≤ lv.length ∧ lv.length ≤ 16 := by have := (lvOk_iff.1 hlv).1; have := (mineOk_iff.1 hok).1; omega
    have HLV := Lib.hid hlv
    clear hok hlv
    have hmk := run_make_row' (P := Try.prog) 30 2 (.int .i64 0) 8 Try.underlying30 info_i64 rfl .i64 .i64 lv.length (by omega) (by omega)
    go_enter Try.func36, Try.ntmps36
    go_wp2_with fail
    (with_reducible refine (reliefOf_ok J A cap xs _ lv (w.alloc (.cells #[.int .i64 J, .slice A xs.length cap] 36)) HR.out HS.out hl HV.out hvl hc).mono ?_)
    rintro e w1 ⟨rfl, hd1⟩
    have HB1 := Lib.hid (HB0.out.trans (hd1.mono HB0.out.size))
    have HV1 := Lib.hid (RowW.of_row (HV.out.below hd1))
    clear hd1
    have HV2 := Lib.hid (HV1.out.below (below_box w1 (.cells #[.int .i64 J, .slice A xs.length cap, .slice F lv.length fcap] 72)))
    go_wp2_with fail
    (with_reducible refine (slicesMaxM_any _ lv (lvF lv) _ HV2.out (fun k _ => rfl) hlen.1 hvl).mono ?_)
    rintro e w' ⟨rfl, rfl⟩
    have HDF := Lib.hid (fun j => show deF lv j = hiM (lvF lv) (lv.length - 1) - lvF lv j from rfl)
    obtain ⟨b1, b2⟩ := hiM_bd (lvF lv) 3000 (lv.length - 1) (fun j _ => lvF_bd HLV.out j)
    generalize hiM (lvF lv) (lv.length - 1) = t at *
    go_wp2_with fail
    clear hmk
    have hB2 := below_box w1 (.cells #[.int .i64 J, .slice A xs.length cap, .slice F lv.length fcap] 72)
    have hsz : (w1.alloc (.cells #[.int .i64 J, .slice A xs.length cap, .slice F lv.length fcap] 72)).heap.size = w1.heap.size + 1 := by simp
    generalize w1.alloc (.cells #[.int .i64 J, .slice A xs.length cap, .slice F lv.length fcap] 72) = w2 at *
    have HB2 := Lib.hid (HB1.out.trans (hB2.mono HB1.out.size))
    clear hB2
    go_loopw [31] (fun i wr => ∃ k : Nat, k ≤ lv.length ∧ i = .int .i64 k ∧ wr.ownsRow w2.heap.size 2 1 (.slice (some ⟨w1.heap.size + 1, 0, none⟩) lv.length lv.length) lv.length (intsV (fillL lv.length (deF lv) k)) ∧ Below w2.heap.size w2 wr) (fun i wr => lv.length - (intOf i).toNat)
    case atStart =>
      refine ⟨0, by omega, rfl, ?_, (Below.refl _ _).alloc (Nat.le_refl _) _⟩
      have h := World.ownsRow_lit (base := w2.heap.size) (e := 2) (size := 1) w2 (madeCells #[.int .i64 0] lv.length) lv.length (by omega) (by unfold maxLen; omega) (by simp [madeCells])
      rw [fillL_made _ (deF lv), hsz] at h
      rw [hsz]
      exact h
    case round =>
      obtain ⟨k, hk, rfl, hown, hbel⟩ := hrel
      have hwz := hbel.size
      by_cases hlt : k < lv.length
      · obtain ⟨lb, lo, rfl, -, d1⟩ := RowW.cell (HV2.out.below hbel) hlt
        rw [show lv.getD k 0 = lvF lv k from rfl] at d1
        have HP := Lib.hid (fillL_put (deF lv) hlt)
        rw [HDF.out k] at HP
        obtain ⟨b3, b4⟩ := lvF_bd HLV.out k
        have HO := Lib.hid hown
        have HBL := Lib.hid hbel
        have hlI : (k : Int) < (lv.length : Int) := by omega
        have dz : wr.cell? ⟨w1.heap.size + 1, k, none⟩ = some (.int .i64 0) := by rw [HO.out.cellAt k (by omega), fillL_at _ hlt]
        have fz := HO.out.frozenAt k
        clear hown hbel
        generalize lvF lv k = z at *
        go_wp2
        go_roundw
        case rel => exact ⟨k + 1, by omega, by go_num, by
          have h := (HO.out.stored k (.int .i64 (t - z))).1
          rwa [HP.out] at h, HBL.out.setCell (by show w2.heap.size ≤ w1.heap.size + 1; omega) _⟩
        case measure => simp [intOf]; omega
      · obtain rfl : k = lv.length := by omega
        rw [fillL_full] at hown
        have HOW := Lib.hid (show OwnI wr w2.heap.size _ (deT lv lv.length) by unfold OwnI; rw [deT_len]; exact hown)
        have HBz := Lib.hid hbel
        clear hown hbel
        go_wp2
        go_ret2
        exact ⟨_, ret_vz hc.symm, by rw [HE.out]; exact own_lez HOW.out HB2.out.size, HB2.out.trans (HBz.out.mono HB2.out.size)⟩
  · have HE := Lib.hid (show deR J xs lv = [] by simp [deR, hc])
    have hz1 : (rlB J xs lv != 0) = true := by simp [hc]
    have hz2 : (rlB J xs lv == 0) = false := by simp [hc]
    generalize hzz : rlB J xs lv = z at *
    go_enter Try.func36, Try.ntmps36
    go_wp2_with fail
    (with_reducible refine (reliefOf_bad J A cap xs _ lv (w.alloc (.cells #[.int .i64 J, .slice A xs.length cap] 36)) HR.out HS.out hl HV.out hvl (by rw [hzz]; exact hc)).mono ?_)
    rw [hzz]
    rintro e w1 ⟨rfl, hd1⟩
    have HB1 := Lib.hid (HB0.out.trans (hd1.mono HB0.out.size))
    clear hd1
    go_wp2
    go_ret2
    exact ⟨_, rfl, by rw [HE.out]; exact own_nilz _ _, HB1.out.alloc HB1.out.size _⟩
end Go.Proofs.Ytjooebiiceillaa
