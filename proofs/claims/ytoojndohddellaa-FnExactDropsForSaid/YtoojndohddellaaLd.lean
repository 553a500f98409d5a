/-
  Contracts of chapter 12: the drops of flows; the model's and the program's. Conditions: those that each theorem states.
-/
import Derived.Test.YtoojndohddellaaZd
import Derived.Test.YtoojndohddellaaZr
namespace Go.Proofs.Ytoojndohddellaa
open Go.RowKit
set_option linter.unusedVariables false
set_option linter.unusedSimpArgs false

theorem wf_all {lo hi : Int} {n : Nat} {l : List Int} (h : flOk lo hi n l = true) {k : Nat} (hk : k < l.length) : lo ≤ l.getD k 0 ∧ l.getD k 0 ≤ hi := by
  rw [show l.getD k 0 = l[k] by simp [List.getD, hk]]; exact (flOk_iff.1 h).2 _ (List.getElem_mem hk)
/-- What DropsFor returns. -/
def dfOk (n : Nat) (rs fl : List Int) : Bool := flOk 1 1000000 n rs && flOk (-100000) 100000 n fl
def dfB (J : Int) (xs : List Aw) (rs fl : List Int) : Int := if mineOk J xs then (if dfOk xs.length rs fl then 0 else 2) else 1
def dfF (rs fl : List Int) (j : Nat) : Int := dropR (rs.getD j 0) (fl.getD j 0)
def dfT (rs fl : List Int) (k : Nat) : List Int := (List.range k).map (dfF rs fl)
theorem dfT_len (rs fl : List Int) (k : Nat) : (dfT rs fl k).length = k := by simp [dfT]
theorem dfT_snoc (rs fl : List Int) (k : Nat) : dfT rs fl (k + 1) = dfT rs fl k ++ [dfF rs fl k] := by simp [dfT, List.range_succ]
def dfR (J : Int) (xs : List Aw) (rs fl : List Int) : List Int := if dfB J xs rs fl = 0 then dfT rs fl xs.length else []
theorem dfR_len (J : Int) (xs : List Aw) (rs fl : List Int) : (dfR J xs rs fl).length ≤ xs.length := by
  unfold dfR
  split
  · rw [dfT_len]; exact Nat.le_refl _
  · simp
theorem df_yes {J : Int} {xs : List Aw} {rs fl : List Int} (hok : mineOk J xs = true) (h : dfOk xs.length rs fl = true) : dfR J xs rs fl = dfT rs fl xs.length ∧ dfB J xs rs fl = 0 := by
  have : dfB J xs rs fl = 0 := by simp [dfB, hok, h]
  exact ⟨by unfold dfR; rw [if_pos this], this⟩
theorem df_no {J : Int} {xs : List Aw} {rs fl : List Int} (hok : mineOk J xs = true) (h : dfOk xs.length rs fl = false) : dfR J xs rs fl = [] ∧ dfB J xs rs fl = 2 := by
  have : dfB J xs rs fl = 2 := by simp [dfB, hok, h]
  exact ⟨by unfold dfR; rw [if_neg (by omega)], this⟩
theorem df_not {J : Int} {xs : List Aw} {rs fl : List Int} (hok : mineOk J xs = false) : dfR J xs rs fl = [] ∧ dfB J xs rs fl = 1 := by
  have : dfB J xs rs fl = 1 := by simp [dfB, hok]
  exact ⟨by unfold dfR; rw [if_neg (by omega)], this⟩
theorem dfOk_iff {n : Nat} {rs fl : List Int} : dfOk n rs fl = true ↔ flOk 1 1000000 n rs = true ∧ flOk (-100000) 100000 n fl = true := by simp [dfOk]
theorem own_nild (w : World) (B : Nat) : OwnI w B (.slice none 0 0) [] := World.ownsRow_nil _ _ _ _
theorem own_led {w : World} {B B' : Nat} {v : Value} {xs : List Int} (h : OwnI w B v xs) (hb : B' ≤ B) : OwnI w B' v xs := ⟨h.1, h.2.imp id fun ⟨g, cap, cur, e, hg, r⟩ => ⟨g, cap, cur, e, Nat.le_trans hb hg, r⟩⟩
theorem ret_vd {v : Value} {b b' : Int} (h : b = b') : Ending.returned (.tuple #[v, .int .i64 b]) = .returned (.tuple #[v, .int .i64 b']) := by rw [h]
set_option maxHeartbeats 2000000 in
set_option maxRecDepth 100000 in
theorem sDropsFor_any (J : Int) (A : Option Addr) (cap : Nat) (xs : List Aw) (v : Value) (rs : List Int) (u : Value) (fl : List Int) (w : World) (hr : AwR w A xs) (hs : ∀ a ∈ xs, a.s.size ≤ maxLen) (hl : xs.length ≤ 1048576) (hv : Row .i64 w v rs) (hrl : rs.length ≤ 1048576) (hu : Row .i64 w u fl) (hfl : fl.length ≤ 1048576) :
    Calls Try.prog 42 #[.agg #[.int .i64 J, .slice A xs.length cap], v, u] w fun e w' => ∃ v, e = .returned (.tuple #[v, .int .i64 (dfB J xs rs fl)]) ∧ OwnI w' w.heap.size v (dfR J xs rs fl) ∧ Below w.heap.size w w' := by
  obtain ⟨R, rcap, rfl⟩ := hv.form
  obtain ⟨F, fcap, rfl⟩ := hu.form
  have HB0 := Lib.hid (below_box w (.cells #[.int .i64 J, .slice A xs.length cap] 54))
  have HOKC := Lib.hid (l04Ok_any w.heap.size J A cap xs (w.alloc (.cells #[.int .i64 J, .slice A xs.length cap] 54)) (by simp) (by simp) (hr.below HB0.out) hs hl)
  have HK := Lib.hid (show (w.alloc (.cells #[.int .i64 J, .slice A xs.length cap] 54)).cell? ⟨w.heap.size, 0, none⟩ = some (.int .i64 J) ∧ (w.alloc (.cells #[.int .i64 J, .slice A xs.length cap] 54)).cell? ⟨w.heap.size, 1, none⟩ = some (.slice A xs.length cap) ∧ AwR (w.alloc (.cells #[.int .i64 J, .slice A xs.length cap] 54)) A xs ∧ Row .i64 (w.alloc (.cells #[.int .i64 J, .slice A xs.length cap] 54)) (.slice R rs.length rcap) rs ∧ Row .i64 (w.alloc (.cells #[.int .i64 J, .slice A xs.length cap] 54)) (.slice F fl.length fcap) fl from ⟨by simp, by simp, hr.below HB0.out, hv.below HB0.out, hu.below HB0.out⟩)
  clear hr hv hs hu
  cases hok : mineOk J xs
  · have HE := Lib.hid (df_not (rs := rs) (fl := fl) hok)
    go_enter Try.func42, Try.ntmps42
    go_wp2_with fail
    (with_reducible refine (HOKC.out).mono ?_)
    rintro e w1 ⟨rfl, n, rfl⟩
    rw [hok]
    have HK1 := Lib.hid (show ((w.alloc (.cells #[.int .i64 J, .slice A xs.length cap] 54)).drewN n).cell? ⟨w.heap.size, 0, none⟩ = some (.int .i64 J) ∧ ((w.alloc (.cells #[.int .i64 J, .slice A xs.length cap] 54)).drewN n).cell? ⟨w.heap.size, 1, none⟩ = some (.slice A xs.length cap) ∧ AwR ((w.alloc (.cells #[.int .i64 J, .slice A xs.length cap] 54)).drewN n) A xs ∧ Row .i64 ((w.alloc (.cells #[.int .i64 J, .slice A xs.length cap] 54)).drewN n) (.slice R rs.length rcap) rs ∧ Row .i64 ((w.alloc (.cells #[.int .i64 J, .slice A xs.length cap] 54)).drewN n) (.slice F fl.length fcap) fl from HK.out)
    have HB1 := Lib.hid (show Below w.heap.size w ((w.alloc (.cells #[.int .i64 J, .slice A xs.length cap] 54)).drewN n) from below_drewN' HB0.out n)
    generalize (w.alloc (.cells #[.int .i64 J, .slice A xs.length cap] 54)).drewN n = W1 at *
    have m1 := HK1.out.2.1
    go_wp2
    go_ret2
    exact ⟨_, ret_vd HE.out.2.symm, by rw [HE.out.1]; exact own_nild _ _, HB1.out⟩
  · have h24 := (mineOk_iff.1 hok).2.2
    by_cases h1 : rs.length = xs.length
    · by_cases h2 : fl.length = xs.length
      · have HH := Lib.hid (And.intro h1 h2)
        have e1 : ((rs.length : Int) != (xs.length : Int)) = false := by simp [h1]
        have e2 : ((fl.length : Int) != (xs.length : Int)) = false := by simp [h2]
        have h2a := Nat.le_of_eq h2
        have h2b := Nat.le_of_eq h2.symm
        have h1a := Nat.le_of_eq h1
        have h1b := Nat.le_of_eq h1.symm
        clear h1 h2
        obtain ⟨i0, hi, hz0, hz1, hz2⟩ := info_parts info_i64
        go_enter Try.func42, Try.ntmps42
        go_wp2_with fail
        (with_reducible refine (HOKC.out).mono ?_)
        rintro e w1 ⟨rfl, n, rfl⟩
        rw [hok]
        have HK1 := Lib.hid (show ((w.alloc (.cells #[.int .i64 J, .slice A xs.length cap] 54)).drewN n).cell? ⟨w.heap.size, 0, none⟩ = some (.int .i64 J) ∧ ((w.alloc (.cells #[.int .i64 J, .slice A xs.length cap] 54)).drewN n).cell? ⟨w.heap.size, 1, none⟩ = some (.slice A xs.length cap) ∧ AwR ((w.alloc (.cells #[.int .i64 J, .slice A xs.length cap] 54)).drewN n) A xs ∧ Row .i64 ((w.alloc (.cells #[.int .i64 J, .slice A xs.length cap] 54)).drewN n) (.slice R rs.length rcap) rs ∧ Row .i64 ((w.alloc (.cells #[.int .i64 J, .slice A xs.length cap] 54)).drewN n) (.slice F fl.length fcap) fl from HK.out)
        have HB1 := Lib.hid (show Below w.heap.size w ((w.alloc (.cells #[.int .i64 J, .slice A xs.length cap] 54)).drewN n) from below_drewN' HB0.out n)
        generalize (w.alloc (.cells #[.int .i64 J, .slice A xs.length cap] 54)).drewN n = W1 at *
        have m1 := HK1.out.2.1
        go_wp2
        go_loopw [8, 9] (fun out i wr => ∃ k : Nat, k ≤ fl.length ∧ i = .int .i64 (k : Int) ∧ Hid (∀ j : Nat, j < k → (1 ≤ rs.getD j 0 ∧ rs.getD j 0 ≤ 1000000) ∧ (-100000 ≤ fl.getD j 0 ∧ fl.getD j 0 ≤ 100000)) ∧ wr.ownsRow W1.heap.size 2 1 out k (intsV (dfT rs fl k)) ∧ Below W1.heap.size W1 wr) (fun out i wr => fl.length - (intOf i).toNat)
        case atStart => exact ⟨0, by omega, rfl, Lib.hid (fun j h => absurd h (by omega)), World.ownsRow_lit _ _ 0 (Nat.le_refl _) (by simp [maxLen]) rfl, (Below.refl _ _).alloc (Nat.le_refl _) _⟩
        case round =>
          obtain ⟨k, hk, rfl, HA, hout, hbel⟩ := hrel
          have hwsz := hbel.size
          by_cases hlt : k < fl.length
          · have hlr : k < rs.length := by omega
            obtain ⟨fb, fo, e3, -, D1⟩ := Row.cell HK1.out.2.2.2.2 hlt
            obtain ⟨rb, ro, e4, -, D0⟩ := Row.cell HK1.out.2.2.2.1 hlr
            subst e3 e4
            have c0 := cellK D0 hbel
            have c1 := cellK D1 hbel
            have hkf : (k : Int) < (fl.length : Int) := by omega
            have hkr : (k : Int) < (rs.length : Int) := by omega
            have h0k : (0 : Int) ≤ (k : Int) := by omega
            have hwk : IntKind.i64.wrap (k : Int) = (k : Int) := IntWalk.i64_in _ (by omega)
            have HS := Lib.hid (show dfT rs fl (k + 1) = dfT rs fl k ++ [dropR (rs.getD k 0) (fl.getD k 0)] from dfT_snoc rs fl k)
            by_cases hr1 : 1 ≤ rs.getD k 0 ∧ rs.getD k 0 ≤ 1000000
            · by_cases hq1 : -100000 ≤ fl.getD k 0 ∧ fl.getD k 0 ≤ 100000
              · have ir := inB_true hr1.1 hr1.2
                have iq := inB_true hq1.1 hq1.2
                have HN := Lib.hid (show ∀ j : Nat, j < k + 1 → (1 ≤ rs.getD j 0 ∧ rs.getD j 0 ≤ 1000000) ∧ (-100000 ≤ fl.getD j 0 ∧ fl.getD j 0 ≤ 100000) from fun j h => by
                  rcases Nat.lt_or_ge j k with q | q
                  · exact HA.out j q
                  · obtain rfl : j = k := by omega
                    exact ⟨hr1, hq1⟩)
                obtain ⟨d, hd⟩ : ∃ d, dropR (rs.getD k 0) (fl.getD k 0) = d := ⟨_, rfl⟩
                rw [hd] at HS
                obtain ⟨hr2, hr3⟩ := hr1
                obtain ⟨hq2, hq3⟩ := hq1
                generalize rs.getD k 0 = r at *
                generalize fl.getD k 0 = q at *
                go_wp2_with (first
      | (go_at_call 71; (with_reducible refine (l03Res_any _ _).mono ?_); rintro e w' ⟨rfl, rfl⟩)
      | (go_at_call 72; (with_reducible refine (l03Flow_any _ _).mono ?_); rintro e w' ⟨rfl, rfl⟩))
                refine wp_region_held (S := fun w' => w'.cell? ⟨rb, ro + k, none⟩ = some (.int .i64 r) ∧ w'.cell? ⟨fb, fo + k, none⟩ = some (.int .i64 q) ∧ Below W1.heap.size W1 w') (by kernel_rfl) ?_
                try (change wpAnyH _ _ _ _ _ _ _ _ (World.drew _))
                have hS0 := (show wr.drew.cell? ⟨rb, ro + k, none⟩ = some (.int .i64 r) ∧ wr.drew.cell? ⟨fb, fo + k, none⟩ = some (.int .i64 q) ∧ Below W1.heap.size W1 wr.drew from ⟨cellK D0 (hbel.drew), cellK D1 (hbel.drew), hbel.drew⟩)
                refine gTake 0 (v := ?_) rfl (by kernel_rfl) (by kernel_rfl) (by kernel_rfl) (fun _ _ _ h => h) (by kernel_rfl) ?_ hS0 ?_
                rotate_left
                · (intro W hW; clear hW; go_simp; try with_reducible rfl)
                refine gTake 1 (v := ?_) rfl (by kernel_rfl) (by kernel_rfl) (by kernel_rfl) (fun _ _ _ h => h) (by kernel_rfl) ?_ hS0 ?_
                rotate_left
                · (intro W hW; clear hW; go_simp; try with_reducible rfl)
                refine gTake 2 (v := ?_) rfl (by kernel_rfl) (by kernel_rfl) (by kernel_rfl) (fun _ _ _ h => h) (by kernel_rfl) ?_ hS0 ?_
                rotate_left
                · (intro W hW; clear hW; go_simp; try with_reducible rfl)
                refine gTake 3 (v := ?_) rfl (by kernel_rfl) (by kernel_rfl) (by kernel_rfl) (fun _ _ _ h => h) (by kernel_rfl) ?_ hS0 ?_
                rotate_left
                · (intro W hW; clear hW; go_simp; try with_reducible rfl)
                refine gTake 4 (v := ?_) rfl (by kernel_rfl) (by kernel_rfl) (by kernel_rfl) (fun _ _ _ h => h) (by kernel_rfl) ?_ hS0 ?_
                rotate_left
                · (intro W hW; have q0 := hW.1; have q1 := hW.2.1; clear hW; go_simp; try with_reducible rfl)
                refine gTake 5 (v := ?_) rfl (by kernel_rfl) (by kernel_rfl) (by kernel_rfl) (fun _ _ _ h => h) (by kernel_rfl) ?_ hS0 ?_
                rotate_left
                · (intro W hW; clear hW; go_simp; try with_reducible rfl)
                refine gTake 6 (v := ?_) rfl (by kernel_rfl) (by kernel_rfl) (by kernel_rfl) (fun _ _ _ h => h) (by kernel_rfl) ?_ hS0 ?_
                rotate_left
                · (intro W hW; clear hW; go_simp; try with_reducible rfl)
                refine gTake 7 (v := ?_) rfl (by kernel_rfl) (by kernel_rfl) (by kernel_rfl) (fun _ _ _ h => h) (by kernel_rfl) ?_ hS0 ?_
                rotate_left
                · (intro W hW; clear hW; go_simp; try with_reducible rfl)
                refine gTake 8 (v := ?_) rfl (by kernel_rfl) (by kernel_rfl) (by kernel_rfl) (fun _ _ _ h => h) (by kernel_rfl) ?_ hS0 ?_
                rotate_left
                · (intro W hW; have q0 := hW.1; have q1 := hW.2.1; clear hW; go_simp; try with_reducible rfl)
                refine gOne 9 rfl (by kernel_rfl) (by kernel_rfl) (fun K hK => ?_)
                go_simp
                go_at_call 73
                (with_reducible refine (l03Drop_any r q _ (by omega) (by omega) (by omega) (by omega)).mono ?_)
                rintro e w' ⟨rfl, rfl⟩
                rw [hd]
                try go_simp
                have hS1 := hS0
                refine hK _ _ hS1 ?_
                clear hK K
                refine gOne 10 rfl (by kernel_rfl) (by kernel_rfl) (fun K hK => ?_)
                go_simp
                skip
                have hS2 := (show (wr.drew.alloc (.cells #[.int .i64 d] 2)).cell? ⟨rb, ro + k, none⟩ = some (.int .i64 r) ∧ (wr.drew.alloc (.cells #[.int .i64 d] 2)).cell? ⟨fb, fo + k, none⟩ = some (.int .i64 q) ∧ Below W1.heap.size W1 (wr.drew.alloc (.cells #[.int .i64 d] 2)) from ⟨cellK D0 ((hbel.drew).alloc hwsz _), cellK D1 ((hbel.drew).alloc hwsz _), (hbel.drew).alloc hwsz _⟩)
                refine hK _ _ hS2 ?_
                clear hK K
                refine gOne 11 rfl (by kernel_rfl) (by kernel_rfl) (fun K hK => ?_)
                refine gAppendOwn (.tmp 47) (.tmp 57) 35 rfl 2 i0 (.int .i64 0) 1 8 Try.underlying35 hi hz0 hz1 hz2 rfl (by decide) W1.heap.size u8 k (intsV (dfT rs fl k)) (by simp [Act.eval, Act.put]) (hout.alloc _) ⟨wr.heap.size, 0, none⟩ 1 1 [.int .i64 d] (by simp [Act.eval, Act.put]) rfl (fun j u hj => by match j, hj with | 0, hj => (simp at hj; subst hj; simp [Addr.add]) | j + 1, hj => (simp at hj)) (by simp [Value.oneCell']) (by unfold maxLen; omega) (by omega) (by simp; omega) ?_
                intro v' w3 ho3 hg3
                have HB3 : Below W1.heap.size W1 w3 := ((hbel.drew).alloc hwsz _).grown hg3 (by simp; omega) (fun k hk => (hout.lt k hk).1)
                have hS3 := (show w3.cell? ⟨rb, ro + k, none⟩ = some (.int .i64 r) ∧ w3.cell? ⟨fb, fo + k, none⟩ = some (.int .i64 q) ∧ Below W1.heap.size W1 w3 from ⟨cellK D0 (HB3), cellK D1 (HB3), HB3⟩)
                refine hK _ _ hS3 ?_
                clear hK K
                refine gTake 12 (v := ?_) rfl (by kernel_rfl) (by kernel_rfl) (by kernel_rfl) (fun _ _ _ h => h) (by kernel_rfl) ?_ hS3 ?_
                rotate_left
                · (intro W hW; clear hW; go_simp; try with_reducible rfl)
                refine wpAnyH_done (by kernel_rfl) ?_ _
                go_simp
                have HOO : Hid (w3.ownsRow W1.heap.size 2 1 v' (k + 1) (intsV (dfT rs fl (k + 1)))) := Lib.hid (by rw [HS.out]; simpa [intsV] using ho3)
                have HBB := Lib.hid HB3
                clear ho3 hg3 HB3 hS0 hS1 hS2 hout hbel
                go_wp2
                go_roundw
                case rel => exact ⟨k + 1, by omega, by go_num, HN, HOO.out, HBB.out⟩
                case measure => simp [intOf]; omega
              · have ir := inB_true hr1.1 hr1.2
                have iq := inB_false hq1
                have HE := Lib.hid (df_no (rs := rs) (fl := fl) hok (by rw [← Bool.not_eq_true, dfOk_iff]; exact fun hh => hq1 (wf_all hh.2 hlt)))
                generalize rs.getD k 0 = r at *
                generalize fl.getD k 0 = q at *
                go_wp2_with (first
      | (go_at_call 71; (with_reducible refine (l03Res_any _ _).mono ?_); rintro e w' ⟨rfl, rfl⟩)
      | (go_at_call 72; (with_reducible refine (l03Flow_any _ _).mono ?_); rintro e w' ⟨rfl, rfl⟩))
                go_ret2
                exact ⟨_, ret_vd HE.out.2.symm, by rw [HE.out.1]; exact own_nild _ _, HB1.out.trans (hbel.mono HB1.out.size)⟩
            · have ir := inB_false hr1
              have HE := Lib.hid (df_no (rs := rs) (fl := fl) hok (by rw [← Bool.not_eq_true, dfOk_iff]; exact fun hh => hr1 (wf_all hh.1 hlr)))
              generalize rs.getD k 0 = r at *
              generalize fl.getD k 0 = q at *
              go_wp2_with (first
      | (go_at_call 71; (with_reducible refine (l03Res_any _ _).mono ?_); rintro e w' ⟨rfl, rfl⟩)
      | (go_at_call 72; (with_reducible refine (l03Flow_any _ _).mono ?_); rintro e w' ⟨rfl, rfl⟩))
              go_ret2
              exact ⟨_, ret_vd HE.out.2.symm, by rw [HE.out.1]; exact own_nild _ _, HB1.out.trans (hbel.mono HB1.out.size)⟩
          · obtain rfl : k = fl.length := by omega
            have HE := Lib.hid (df_yes hok (dfOk_iff.2 ⟨flOk_iff.2 ⟨HH.out.1, fun y hy => by
                obtain ⟨j, hj, rfl⟩ := List.mem_iff_getElem.1 hy
                have := (HA.out j (by omega)).1
                rwa [show rs.getD j 0 = rs[j] by simp [List.getD, hj]] at this⟩, flOk_iff.2 ⟨HH.out.2, fun y hy => by
                obtain ⟨j, hj, rfl⟩ := List.mem_iff_getElem.1 hy
                have := (HA.out j hj).2
                rwa [show fl.getD j 0 = fl[j] by simp [List.getD, hj]] at this⟩⟩))
            have HO := Lib.hid hout
            clear hout
            go_wp2
            go_ret2
            exact ⟨_, ret_vd HE.out.2.symm, by
              rw [HE.out.1, ← HH.out.2]
              exact own_led (show OwnI wr W1.heap.size _ (dfT rs fl fl.length) by unfold OwnI; rw [dfT_len]; exact HO.out) HB1.out.size, HB1.out.trans (hbel.mono HB1.out.size)⟩
      · have HE := Lib.hid (df_no (rs := rs) (fl := fl) hok (by rw [← Bool.not_eq_true, dfOk_iff]; exact fun hh => h2 (flOk_iff.1 hh.2).1))
        have e1 : ((rs.length : Int) != (xs.length : Int)) = false := by simp [h1]
        have e2 : ((fl.length : Int) != (xs.length : Int)) = true := by simp; omega
        clear h1 h2
        go_enter Try.func42, Try.ntmps42
        go_wp2_with fail
        (with_reducible refine (HOKC.out).mono ?_)
        rintro e w1 ⟨rfl, n, rfl⟩
        rw [hok]
        have HK1 := Lib.hid (show ((w.alloc (.cells #[.int .i64 J, .slice A xs.length cap] 54)).drewN n).cell? ⟨w.heap.size, 0, none⟩ = some (.int .i64 J) ∧ ((w.alloc (.cells #[.int .i64 J, .slice A xs.length cap] 54)).drewN n).cell? ⟨w.heap.size, 1, none⟩ = some (.slice A xs.length cap) ∧ AwR ((w.alloc (.cells #[.int .i64 J, .slice A xs.length cap] 54)).drewN n) A xs ∧ Row .i64 ((w.alloc (.cells #[.int .i64 J, .slice A xs.length cap] 54)).drewN n) (.slice R rs.length rcap) rs ∧ Row .i64 ((w.alloc (.cells #[.int .i64 J, .slice A xs.length cap] 54)).drewN n) (.slice F fl.length fcap) fl from HK.out)
        have HB1 := Lib.hid (show Below w.heap.size w ((w.alloc (.cells #[.int .i64 J, .slice A xs.length cap] 54)).drewN n) from below_drewN' HB0.out n)
        generalize (w.alloc (.cells #[.int .i64 J, .slice A xs.length cap] 54)).drewN n = W1 at *
        have m1 := HK1.out.2.1
        go_wp2
        go_ret2
        exact ⟨_, ret_vd HE.out.2.symm, by rw [HE.out.1]; exact own_nild _ _, HB1.out⟩
    · have HE := Lib.hid (df_no (rs := rs) (fl := fl) hok (by rw [← Bool.not_eq_true, dfOk_iff]; exact fun hh => h1 (flOk_iff.1 hh.1).1))
      have e1 : ((rs.length : Int) != (xs.length : Int)) = true := by simp; omega
      clear h1
      go_enter Try.func42, Try.ntmps42
      go_wp2_with fail
      (with_reducible refine (HOKC.out).mono ?_)
      rintro e w1 ⟨rfl, n, rfl⟩
      rw [hok]
      have HK1 := Lib.hid (show ((w.alloc (.cells #[.int .i64 J, .slice A xs.length cap] 54)).drewN n).cell? ⟨w.heap.size, 0, none⟩ = some (.int .i64 J) ∧ ((w.alloc (.cells #[.int .i64 J, .slice A xs.length cap] 54)).drewN n).cell? ⟨w.heap.size, 1, none⟩ = some (.slice A xs.length cap) ∧ AwR ((w.alloc (.cells #[.int .i64 J, .slice A xs.length cap] 54)).drewN n) A xs ∧ Row .i64 ((w.alloc (.cells #[.int .i64 J, .slice A xs.length cap] 54)).drewN n) (.slice R rs.length rcap) rs ∧ Row .i64 ((w.alloc (.cells #[.int .i64 J, .slice A xs.length cap] 54)).drewN n) (.slice F fl.length fcap) fl from HK.out)
      have HB1 := Lib.hid (show Below w.heap.size w ((w.alloc (.cells #[.int .i64 J, .slice A xs.length cap] 54)).drewN n) from below_drewN' HB0.out n)
      generalize (w.alloc (.cells #[.int .i64 J, .slice A xs.length cap] 54)).drewN n = W1 at *
      have m1 := HK1.out.2.1
      go_wp2
      go_ret2
      exact ⟨_, ret_vd HE.out.2.symm, by rw [HE.out.1]; exact own_nild _ _, HB1.out⟩
set_option maxHeartbeats 2000000 in
set_option maxRecDepth 100000 in
theorem iDropsFor_any (J : Int) (A : Option Addr) (cap : Nat) (xs : List Aw) (v : Value) (rs : List Int) (u : Value) (fl : List Int) (w : World) (hr : AwR w A xs) (hs : ∀ a ∈ xs, a.s.size ≤ maxLen) (hl : xs.length ≤ 1048576) (hv : Row .i64 w v rs) (hrl : rs.length ≤ 1048576) (hu : Row .i64 w u fl) (hfl : fl.length ≤ 1048576) :
    Calls Try.prog 44 #[.agg #[.int .i64 J, .slice A xs.length cap], v, u] w fun e w' => ∃ v, e = .returned (.tuple #[v, .int .i64 (dfB J xs rs fl)]) ∧ OwnI w' w.heap.size v (dfR J xs rs fl) ∧ Below w.heap.size w w' := by
  obtain ⟨R, rcap, rfl⟩ := hv.form
  obtain ⟨F, fcap, rfl⟩ := hu.form
  have HB0 := Lib.hid (below_box w (.cells #[.int .i64 J, .slice A xs.length cap] 54))
  have HK0 := Lib.hid (show (w.alloc (.cells #[.int .i64 J, .slice A xs.length cap] 54)).cell? ⟨w.heap.size, 0, none⟩ = some (.int .i64 J) ∧ (w.alloc (.cells #[.int .i64 J, .slice A xs.length cap] 54)).cell? ⟨w.heap.size, 1, none⟩ = some (.slice A xs.length cap) ∧ AwR (w.alloc (.cells #[.int .i64 J, .slice A xs.length cap] 54)) A xs ∧ Row .i64 (w.alloc (.cells #[.int .i64 J, .slice A xs.length cap] 54)) (.slice R rs.length rcap) rs ∧ Row .i64 (w.alloc (.cells #[.int .i64 J, .slice A xs.length cap] 54)) (.slice F fl.length fcap) fl from ⟨by simp, by simp, hr.below HB0.out, hv.below HB0.out, hu.below HB0.out⟩)
  have HS0 := Lib.hid hs
  have c0 := HK0.out.1
  have c1 := HK0.out.2.1
  clear hr hv hs hu
  cases hok : mineOk J xs
  · have HE := Lib.hid (df_not (rs := rs) (fl := fl) hok)
    go_enter Try.func44, Try.ntmps44
    go_wp2_with (go_at_call 75; (with_reducible refine (iValidMine_any J A cap xs _ HK0.out.2.2.1 HS0.out hl).mono ?_); rintro e w1 ⟨rfl, hd1⟩; rw [hok]; have HB1 := Lib.hid (HB0.out.trans (hd1.mono HB0.out.size)); have HK1 := Lib.hid (show w1.cell? ⟨w.heap.size, 0, none⟩ = some (.int .i64 J) ∧ w1.cell? ⟨w.heap.size, 1, none⟩ = some (.slice A xs.length cap) ∧ AwR w1 A xs ∧ Row .i64 w1 (.slice R rs.length rcap) rs ∧ Row .i64 w1 (.slice F fl.length fcap) fl from ⟨cell_keep HK0.out.1 hd1, cell_keep HK0.out.2.1 hd1, HK0.out.2.2.1.below hd1, HK0.out.2.2.2.1.below hd1, HK0.out.2.2.2.2.below hd1⟩); have c0_1 := HK1.out.1; have c1_1 := HK1.out.2.1; clear hd1)
    go_ret2
    exact ⟨_, ret_vd HE.out.2.symm, by rw [HE.out.1]; exact own_nild _ _, HB1.out⟩
  · have h24 := (mineOk_iff.1 hok).2.2
    cases hg : flOk 1 1000000 xs.length rs
    · have HE := Lib.hid (df_no (rs := rs) (fl := fl) hok (by simp [dfOk, hg]))
      go_enter Try.func44, Try.ntmps44
      go_wp2_with (first
      | (go_at_call 75; (with_reducible refine (iValidMine_any J A cap xs _ HK0.out.2.2.1 HS0.out hl).mono ?_); rintro e w1 ⟨rfl, hd1⟩; rw [hok]; have HB1 := Lib.hid (HB0.out.trans (hd1.mono HB0.out.size)); have HK1 := Lib.hid (show w1.cell? ⟨w.heap.size, 0, none⟩ = some (.int .i64 J) ∧ w1.cell? ⟨w.heap.size, 1, none⟩ = some (.slice A xs.length cap) ∧ AwR w1 A xs ∧ Row .i64 w1 (.slice R rs.length rcap) rs ∧ Row .i64 w1 (.slice F fl.length fcap) fl from ⟨cell_keep HK0.out.1 hd1, cell_keep HK0.out.2.1 hd1, HK0.out.2.2.1.below hd1, HK0.out.2.2.2.1.below hd1, HK0.out.2.2.2.2.below hd1⟩); have c0_1 := HK1.out.1; have c1_1 := HK1.out.2.1; clear hd1)
      | (go_at_call 76; (with_reducible refine (areResistances_any J A xs.length cap _ rs _ HK1.out.2.2.2.1 (Nat.le_trans hrl (by decide)) hl).mono ?_); rintro e w2 ⟨rfl, hd2⟩; rw [hg]; have HB2 := Lib.hid (HB1.out.trans (hd2.mono HB1.out.size)); have HK2 := Lib.hid (show w2.cell? ⟨w.heap.size, 0, none⟩ = some (.int .i64 J) ∧ w2.cell? ⟨w.heap.size, 1, none⟩ = some (.slice A xs.length cap) ∧ AwR w2 A xs ∧ Row .i64 w2 (.slice R rs.length rcap) rs ∧ Row .i64 w2 (.slice F fl.length fcap) fl from ⟨cell_keep HK1.out.1 hd2, cell_keep HK1.out.2.1 hd2, HK1.out.2.2.1.below hd2, HK1.out.2.2.2.1.below hd2, HK1.out.2.2.2.2.below hd2⟩); have c0_2 := HK2.out.1; have c1_2 := HK2.out.2.1; clear hd2))
      go_ret2
      exact ⟨_, ret_vd HE.out.2.symm, by rw [HE.out.1]; exact own_nild _ _, HB2.out⟩
    · cases hf : flOk (-100000) 100000 xs.length fl
      · have HE := Lib.hid (df_no (rs := rs) (fl := fl) hok (by simp [dfOk, hf]))
        go_enter Try.func44, Try.ntmps44
        go_wp2_with (first
      | (go_at_call 75; (with_reducible refine (iValidMine_any J A cap xs _ HK0.out.2.2.1 HS0.out hl).mono ?_); rintro e w1 ⟨rfl, hd1⟩; rw [hok]; have HB1 := Lib.hid (HB0.out.trans (hd1.mono HB0.out.size)); have HK1 := Lib.hid (show w1.cell? ⟨w.heap.size, 0, none⟩ = some (.int .i64 J) ∧ w1.cell? ⟨w.heap.size, 1, none⟩ = some (.slice A xs.length cap) ∧ AwR w1 A xs ∧ Row .i64 w1 (.slice R rs.length rcap) rs ∧ Row .i64 w1 (.slice F fl.length fcap) fl from ⟨cell_keep HK0.out.1 hd1, cell_keep HK0.out.2.1 hd1, HK0.out.2.2.1.below hd1, HK0.out.2.2.2.1.below hd1, HK0.out.2.2.2.2.below hd1⟩); have c0_1 := HK1.out.1; have c1_1 := HK1.out.2.1; clear hd1)
      | (go_at_call 76; (with_reducible refine (areResistances_any J A xs.length cap _ rs _ HK1.out.2.2.2.1 (Nat.le_trans hrl (by decide)) hl).mono ?_); rintro e w2 ⟨rfl, hd2⟩; rw [hg]; have HB2 := Lib.hid (HB1.out.trans (hd2.mono HB1.out.size)); have HK2 := Lib.hid (show w2.cell? ⟨w.heap.size, 0, none⟩ = some (.int .i64 J) ∧ w2.cell? ⟨w.heap.size, 1, none⟩ = some (.slice A xs.length cap) ∧ AwR w2 A xs ∧ Row .i64 w2 (.slice R rs.length rcap) rs ∧ Row .i64 w2 (.slice F fl.length fcap) fl from ⟨cell_keep HK1.out.1 hd2, cell_keep HK1.out.2.1 hd2, HK1.out.2.2.1.below hd2, HK1.out.2.2.2.1.below hd2, HK1.out.2.2.2.2.below hd2⟩); have c0_2 := HK2.out.1; have c1_2 := HK2.out.2.1; clear hd2)
      | (go_at_call 77; (with_reducible refine (areFlows_any J A xs.length cap _ fl _ HK2.out.2.2.2.2 (Nat.le_trans hfl (by decide)) hl).mono ?_); rintro e w3 ⟨rfl, hd3⟩; rw [hf]; have HB3 := Lib.hid (HB2.out.trans (hd3.mono HB2.out.size)); have HK3 := Lib.hid (show w3.cell? ⟨w.heap.size, 0, none⟩ = some (.int .i64 J) ∧ w3.cell? ⟨w.heap.size, 1, none⟩ = some (.slice A xs.length cap) ∧ AwR w3 A xs ∧ Row .i64 w3 (.slice R rs.length rcap) rs ∧ Row .i64 w3 (.slice F fl.length fcap) fl from ⟨cell_keep HK2.out.1 hd3, cell_keep HK2.out.2.1 hd3, HK2.out.2.2.1.below hd3, HK2.out.2.2.2.1.below hd3, HK2.out.2.2.2.2.below hd3⟩); have c0_3 := HK3.out.1; have c1_3 := HK3.out.2.1; clear hd3))
        go_ret2
        exact ⟨_, ret_vd HE.out.2.symm, by rw [HE.out.1]; exact own_nild _ _, HB3.out⟩
      · have HE := Lib.hid (df_yes (rs := rs) (fl := fl) hok (dfOk_iff.2 ⟨hg, hf⟩))
        have HG := Lib.hid hg
        have HF := Lib.hid hf
        have l1 := (flOk_iff.1 hg).1
        have l2 := (flOk_iff.1 hf).1
        have HL := Lib.hid l2
        have l1a := Nat.le_of_eq l1
        have l1b := Nat.le_of_eq l1.symm
        have l2a := Nat.le_of_eq l2
        have l2b := Nat.le_of_eq l2.symm
        clear l1 l2
        have hmk := run_make_row' (P := Try.prog) 35 2 (.int .i64 0) 8 Try.underlying35 info_i64 rfl .i64 .i64 fl.length (by omega) (by omega)
        go_enter Try.func44, Try.ntmps44
        go_wp2_with (first
      | (go_at_call 75; (with_reducible refine (iValidMine_any J A cap xs _ HK0.out.2.2.1 HS0.out hl).mono ?_); rintro e w1 ⟨rfl, hd1⟩; rw [hok]; have HB1 := Lib.hid (HB0.out.trans (hd1.mono HB0.out.size)); have HK1 := Lib.hid (show w1.cell? ⟨w.heap.size, 0, none⟩ = some (.int .i64 J) ∧ w1.cell? ⟨w.heap.size, 1, none⟩ = some (.slice A xs.length cap) ∧ AwR w1 A xs ∧ Row .i64 w1 (.slice R rs.length rcap) rs ∧ Row .i64 w1 (.slice F fl.length fcap) fl from ⟨cell_keep HK0.out.1 hd1, cell_keep HK0.out.2.1 hd1, HK0.out.2.2.1.below hd1, HK0.out.2.2.2.1.below hd1, HK0.out.2.2.2.2.below hd1⟩); have c0_1 := HK1.out.1; have c1_1 := HK1.out.2.1; clear hd1)
      | (go_at_call 76; (with_reducible refine (areResistances_any J A xs.length cap _ rs _ HK1.out.2.2.2.1 (Nat.le_trans hrl (by decide)) hl).mono ?_); rintro e w2 ⟨rfl, hd2⟩; rw [hg]; have HB2 := Lib.hid (HB1.out.trans (hd2.mono HB1.out.size)); have HK2 := Lib.hid (show w2.cell? ⟨w.heap.size, 0, none⟩ = some (.int .i64 J) ∧ w2.cell? ⟨w.heap.size, 1, none⟩ = some (.slice A xs.length cap) ∧ AwR w2 A xs ∧ Row .i64 w2 (.slice R rs.length rcap) rs ∧ Row .i64 w2 (.slice F fl.length fcap) fl from ⟨cell_keep HK1.out.1 hd2, cell_keep HK1.out.2.1 hd2, HK1.out.2.2.1.below hd2, HK1.out.2.2.2.1.below hd2, HK1.out.2.2.2.2.below hd2⟩); have c0_2 := HK2.out.1; have c1_2 := HK2.out.2.1; clear hd2)
      | (go_at_call 77; (with_reducible refine (areFlows_any J A xs.length cap _ fl _ HK2.out.2.2.2.2 (Nat.le_trans hfl (by decide)) hl).mono ?_); rintro e w3 ⟨rfl, hd3⟩; rw [hf]; have HB3 := Lib.hid (HB2.out.trans (hd3.mono HB2.out.size)); have HK3 := Lib.hid (show w3.cell? ⟨w.heap.size, 0, none⟩ = some (.int .i64 J) ∧ w3.cell? ⟨w.heap.size, 1, none⟩ = some (.slice A xs.length cap) ∧ AwR w3 A xs ∧ Row .i64 w3 (.slice R rs.length rcap) rs ∧ Row .i64 w3 (.slice F fl.length fcap) fl from ⟨cell_keep HK2.out.1 hd3, cell_keep HK2.out.2.1 hd3, HK2.out.2.2.1.below hd3, HK2.out.2.2.2.1.below hd3, HK2.out.2.2.2.2.below hd3⟩); have c0_3 := HK3.out.1; have c1_3 := HK3.out.2.1; clear hd3))
        clear hmk
        go_loopw [29] (fun i wr => ∃ k : Nat, k ≤ fl.length ∧ i = .int .i64 (k : Int) ∧ wr.ownsRow w3.heap.size 2 1 (.slice (some ⟨w3.heap.size, 0, none⟩) fl.length fl.length) fl.length (intsV (fillL fl.length (dfF rs fl) k)) ∧ Below w3.heap.size w3 wr) (fun i wr => fl.length - (intOf i).toNat)
        case atStart =>
          refine ⟨0, by omega, rfl, ?_, (Below.refl _ _).alloc (Nat.le_refl _) _⟩
          have h := World.ownsRow_lit (base := w3.heap.size) (e := 2) (size := 1) w3 (madeCells #[.int .i64 0] fl.length) fl.length (Nat.le_refl _) (by unfold maxLen; omega) (by simp [madeCells])
          rwa [fillL_made _ (dfF rs fl)] at h
        case round =>
          obtain ⟨k, hk, rfl, hown, hbel⟩ := hrel
          have hwz := hbel.size
          by_cases hlt : k < fl.length
          · have hlr : k < rs.length := by omega
            obtain ⟨fb, fo, e3, -, D1⟩ := Row.cell (HK3.out.2.2.2.2.below hbel) hlt
            obtain ⟨rb, ro, e4, -, D0⟩ := Row.cell (HK3.out.2.2.2.1.below hbel) hlr
            subst e3 e4
            have hkf : (k : Int) < (fl.length : Int) := by omega
            have hkr : (k : Int) < (rs.length : Int) := by omega
            have hr1 := wf_all HG.out hlr
            have hq1 := wf_all HF.out hlt
            have HP := Lib.hid (fillL_put (dfF rs fl) hlt)
            have HFD := Lib.hid (show dfF rs fl k = dropR (rs.getD k 0) (fl.getD k 0) from rfl)
            have dz : wr.cell? ⟨w3.heap.size, k, none⟩ = some (.int .i64 0) := by rw [hown.cellAt k (by omega), fillL_at _ hlt]
            have fz := hown.frozenAt k
            have HO := Lib.hid hown
            have HBL := Lib.hid hbel
            clear hown hbel
            rw [HFD.out] at HP
            generalize rs.getD k 0 = r at *
            generalize fl.getD k 0 = q at *
            go_wp2_with (go_at_call 78; (with_reducible refine (dropAt_any r q _ hr1.1 hr1.2 hq1.1 hq1.2).mono ?_); rintro e w' ⟨rfl, n, rfl⟩)
            go_roundw
            case rel => exact ⟨k + 1, by omega, by go_num, by
              have h := ((show (wr.drewN n).ownsRow w3.heap.size 2 1 (.slice (some ⟨w3.heap.size, 0, none⟩) fl.length fl.length) fl.length (intsV (fillL fl.length (dfF rs fl) k)) from HO.out).stored k (.int .i64 (dropR r q))).1
              rwa [HP.out] at h, (below_drewN' HBL.out n).setCell (Nat.le_refl _) _⟩
            case measure => simp [intOf]; omega
          · obtain rfl : k = fl.length := by omega
            rw [fillL_full] at hown
            have HO := Lib.hid hown
            clear hown
            go_wp2
            go_ret2
            exact ⟨_, ret_vd HE.out.2.symm, by
              rw [HE.out.1, ← HL.out]
              exact own_led (show OwnI wr w3.heap.size _ (dfT rs fl fl.length) by unfold OwnI; rw [dfT_len]; exact HO.out) HB3.out.size, HB3.out.trans (hbel.mono HB3.out.size)⟩
end Go.Proofs.Ytoojndohddellaa
