/-
  Contracts of chapter 14: dust along a way; the model's and the program's. Conditions: those that each theorem states.
-/
import Derived.Test.YtnlkikdgffaeeaaQd
import Derived.Test.YtnlkikdgffaeeaaQi
import Derived.Test.YtnlkikdgffaeeaaRg
import Derived.Deep.LoopGhost
namespace Go.Proofs.Ytnlkikdgffaeeaa
open Go.RowKit
set_option linter.unusedVariables false
set_option linter.unusedSimpArgs false

/-- The dust at the end of the first i airways; whether all is as stated; what is returned. -/
def mnD (x : Int) : Int := if 1000000 < x then 1000000 else x
def alE (ts rs : List Int) (se : Int) : Nat → Int
  | 0 => 0
  | i + 1 => sdN se (ts.getD i 0).toNat (mnD (alE ts rs se i + rs.getD i 0))
def alF (ts rs : List Int) (se : Int) (i : Nat) : Int := alE ts rs se (i + 1)
def alT (ts rs : List Int) (se : Int) (k : Nat) : List Int := (List.range k).map (alF ts rs se)
def alOk (ts rs : List Int) (se : Int) : Bool := decide (ts.length ≤ 24 ∧ rs.length = ts.length) && (allR 0 1000000 rs && (inB se 0 1000000 && allR 0 10000 ts))
def alR (ts rs : List Int) (se : Int) : List Int := if alOk ts rs se then alT ts rs se ts.length else []
def alC (ts rs : List Int) (se : Int) : Int := if alOk ts rs se then 0 else 2
theorem alT_len (ts rs : List Int) (se : Int) (k : Nat) : (alT ts rs se k).length = k := by simp [alT]
theorem alT_snoc (ts rs : List Int) (se : Int) (k : Nat) : alT ts rs se (k + 1) = alT ts rs se k ++ [alE ts rs se (k + 1)] := by simp [alT, alF, List.range_succ]
theorem alOk_iff {ts rs : List Int} {se : Int} : alOk ts rs se = true ↔ (ts.length ≤ 24 ∧ rs.length = ts.length) ∧ allR 0 1000000 rs = true ∧ inB se 0 1000000 = true ∧ allR 0 10000 ts = true := by
  simp only [alOk, Bool.and_eq_true, decide_eq_true_eq]
theorem alR_len (ts rs : List Int) (se : Int) : (alR ts rs se).length ≤ 1048576 := by
  unfold alR
  split
  · rename_i h
    have := (alOk_iff.1 h).1.1
    rw [alT_len]; omega
  · simp
theorem al_yes {ts rs : List Int} {se : Int} (h : alOk ts rs se = true) : alR ts rs se = alT ts rs se ts.length ∧ alC ts rs se = 0 := by simp [alR, alC, h]
theorem al_no {ts rs : List Int} {se : Int} (h : alOk ts rs se = false) : alR ts rs se = [] ∧ alC ts rs se = 2 := by simp [alR, alC, h]
theorem mnD_bd {x : Int} (h : 0 ≤ x) : 0 ≤ mnD x ∧ mnD x ≤ 1000000 := by unfold mnD; split <;> omega
theorem allR_at {lo hi : Int} {xs : List Int} (h : allR lo hi xs = true) {k : Nat} (hk : k < xs.length) : lo ≤ xs.getD k 0 ∧ xs.getD k 0 ≤ hi := by
  rw [show xs.getD k 0 = xs[k] by simp [List.getD, hk]]; exact allR_iff.1 h _ (List.getElem_mem hk)
theorem alE_bd {ts rs : List Int} {se : Int} (h : alOk ts rs se = true) : ∀ k, k ≤ ts.length → 0 ≤ alE ts rs se k ∧ alE ts rs se k ≤ 1000000
  | 0, _ => by simp [alE]
  | k + 1, hk => by
    have ih := alE_bd h k (by omega)
    have h1 := alOk_iff.1 h
    have hr := allR_at h1.2.1 (k := k) (by omega)
    have hs := inB_iff.1 h1.2.2.1
    have hm := mnD_bd (x := alE ts rs se k + rs.getD k 0) (by omega)
    have := sdN_bd hs.1 hs.2 hm.1 (ts.getD k 0).toNat
    show 0 ≤ sdN se (ts.getD k 0).toNat (mnD (alE ts rs se k + rs.getD k 0)) ∧ sdN se (ts.getD k 0).toNat (mnD (alE ts rs se k + rs.getD k 0)) ≤ 1000000
    omega
set_option maxHeartbeats 2000000 in
set_option maxRecDepth 100000 in
theorem sDustAlong_any (v : Value) (ts : List Int) (u : Value) (rs : List Int) (se : Int) (w : World) (hv : Row .i64 w v ts) (htl : ts.length ≤ 1048576) (hu : Row .i64 w u rs) (hrl : rs.length ≤ 1048576) :
    Calls Try.prog 25 #[v, u, .int .i64 se] w fun e w' => ∃ x, e = .returned (.tuple #[x, .int .i64 (alC ts rs se)]) ∧ OwnI w' w.heap.size x (alR ts rs se) ∧ Below w.heap.size w w' := by
  obtain ⟨A, ac, rfl⟩ := hv.form
  obtain ⟨B, bc, rfl⟩ := hu.form
  have HV := Lib.hid hv
  have HU := Lib.hid hu
  clear hv hu
  by_cases h24 : ts.length ≤ 24
  · have n24 : ¬ ((24 : Int) < (ts.length : Int)) := by omega
    by_cases hle : rs.length = ts.length
    · have e1 : ((rs.length : Int) != (ts.length : Int)) = false := by simp [hle]
      have HLE := Lib.hid (And.intro h24 hle)
      have hla := Nat.le_of_eq hle
      have hlb := Nat.le_of_eq hle.symm
      clear hle
      by_cases hse : 0 ≤ se ∧ se ≤ 1000000
      · have i1 := inB_true hse.1 hse.2
        have HSE := Lib.hid hse
        obtain ⟨i0, hi, hz0, hz1, hz2⟩ := info_parts info_i64
        go_enter Try.func25, Try.ntmps25
        go_wp2_with (go_at_call 59; (with_reducible refine (l14Settling_any _ _).mono ?_); rintro e w' ⟨rfl, rfl⟩)
        go_loop [8] (fun i => ∃ k : Nat, k ≤ ts.length ∧ i = .int .i64 (k : Int) ∧ Hid (∀ j : Nat, j < k → (0 ≤ ts.getD j 0 ∧ ts.getD j 0 ≤ 10000) ∧ (0 ≤ rs.getD j 0 ∧ rs.getD j 0 ≤ 1000000))) (fun i => ts.length - (intOf i).toNat)
        case atStart => exact ⟨0, by omega, rfl, Lib.hid (fun j h => absurd h (by omega))⟩
        case round =>
          obtain ⟨k, hk, rfl, HG⟩ := hrel
          by_cases hlt : k < ts.length
          · obtain ⟨b, o, rfl, -, q0⟩ := Row.cell HV.out hlt
            obtain ⟨b2, o2, rfl, -, q1⟩ := Row.cell HU.out (show k < rs.length by omega)
            have hlI : (k : Int) < (ts.length : Int) := by omega
            have hlI2 : (k : Int) < (rs.length : Int) := by omega
            have HBAD := Lib.hid (fun (h : ¬ ((0 ≤ ts.getD k 0 ∧ ts.getD k 0 ≤ 10000) ∧ (0 ≤ rs.getD k 0 ∧ rs.getD k 0 ≤ 1000000))) => al_no (ts := ts) (rs := rs) (se := se) (by
              rw [← Bool.not_eq_true, alOk_iff]
              exact fun hh => h ⟨allR_at hh.2.2.2 hlt, allR_at hh.2.1 (by omega)⟩))
            have HGD := Lib.hid (fun (h : (0 ≤ ts.getD k 0 ∧ ts.getD k 0 ≤ 10000) ∧ (0 ≤ rs.getD k 0 ∧ rs.getD k 0 ≤ 1000000)) (j : Nat) (hj : j < k + 1) => show (0 ≤ ts.getD j 0 ∧ ts.getD j 0 ≤ 10000) ∧ (0 ≤ rs.getD j 0 ∧ rs.getD j 0 ≤ 1000000) from by
              rcases Nat.lt_or_ge j k with q | q
              · exact HG.out j q
              · obtain rfl : j = k := by omega
                exact h)
            generalize ts.getD k 0 = t at *
            generalize rs.getD k 0 = r at *
            by_cases g1 : 0 ≤ t ∧ t ≤ 10000
            · have j1 := inB_true g1.1 g1.2
              by_cases g2 : 0 ≤ r ∧ r ≤ 1000000
              · have j2 := inB_true g2.1 g2.2
                have HN := Lib.hid (HGD.out ⟨g1, g2⟩)
                go_wp2_with (first
      | (go_at_call 54; (with_reducible refine (l00In_any _ _ _ _).mono ?_); rintro e w' ⟨rfl, rfl⟩)
      | (go_at_call 53; (with_reducible refine (l14Dust_any _ _).mono ?_); rintro e w' ⟨rfl, rfl⟩))
                go_round
                case rel => exact ⟨k + 1, by omega, by go_num, HN⟩
                case measure => simp [intOf]; omega
              · have j2 := inB_false g2
                have HE := Lib.hid (HBAD.out (fun h => g2 h.2))
                go_wp2_with (first
      | (go_at_call 54; (with_reducible refine (l00In_any _ _ _ _).mono ?_); rintro e w' ⟨rfl, rfl⟩)
      | (go_at_call 53; (with_reducible refine (l14Dust_any _ _).mono ?_); rintro e w' ⟨rfl, rfl⟩))
                go_ret2
                exact ⟨_, ret_vz HE.out.2.symm, by rw [HE.out.1]; exact own_nilz _ _, Below.refl _ _⟩
            · have j1 := inB_false g1
              have HE := Lib.hid (HBAD.out (fun h => g1 h.1))
              go_wp2_with (first
      | (go_at_call 54; (with_reducible refine (l00In_any _ _ _ _).mono ?_); rintro e w' ⟨rfl, rfl⟩)
      | (go_at_call 53; (with_reducible refine (l14Dust_any _ _).mono ?_); rintro e w' ⟨rfl, rfl⟩))
              go_ret2
              exact ⟨_, ret_vz HE.out.2.symm, by rw [HE.out.1]; exact own_nilz _ _, Below.refl _ _⟩
          · obtain rfl : k = ts.length := by omega
            have HOK := Lib.hid (show alOk ts rs se = true from alOk_iff.2 ⟨HLE.out, allR_iff.2 (fun y hy => by
                obtain ⟨j, hj, rfl⟩ := List.mem_iff_getElem.1 hy
                have := (HG.out j (by omega)).2
                rwa [show rs.getD j 0 = rs[j] by simp [List.getD, hj]] at this), i1, allR_iff.2 (fun y hy => by
                obtain ⟨j, hj, rfl⟩ := List.mem_iff_getElem.1 hy
                have := (HG.out j hj).1
                rwa [show ts.getD j 0 = ts[j] by simp [List.getD, hj]] at this)⟩)
            have HE := Lib.hid (al_yes HOK.out)
            clear HG
            go_wp2
            go_loopw [9, 10, 11] (fun out x i wr => ∃ k : Nat, k ≤ ts.length ∧ i = .int .i64 (k : Int) ∧ x = .int .i64 (alE ts rs se k) ∧ Hid (wr.ownsRow w.heap.size 2 1 out k (intsV (alT ts rs se k))) ∧ Hid (Below w.heap.size w wr)) (fun out x i wr => ts.length - (intOf i).toNat)
            case atStart => exact ⟨0, by omega, rfl, rfl, Lib.hid (World.ownsRow_lit _ _ 0 (Nat.le_refl _) (by simp [maxLen]) rfl), Lib.hid (below_box _ _)⟩
            case round =>
              obtain ⟨k, hk, rfl, rfl, HO, HB⟩ := hrel
              obtain ⟨wo, rfl⟩ : ∃ wo : World, wo = wr := ⟨_, rfl⟩
              have hwsz := HB.out.size
              by_cases hlt : k < ts.length
              · obtain ⟨b, o, rfl, -, q0⟩ := Row.cell (HV.out.below HB.out) hlt
                obtain ⟨b2, o2, rfl, -, q1⟩ := Row.cell (HU.out.below HB.out) (show k < rs.length by omega)
                have hlI : (k : Int) < (ts.length : Int) := by omega
                have hlI2 : (k : Int) < (rs.length : Int) := by omega
                have hbd := alE_bd HOK.out k hk
                have hbr := allR_at (alOk_iff.1 HOK.out).2.1 (k := k) (by omega)
                have hbt := allR_at (alOk_iff.1 HOK.out).2.2.2 hlt
                have HS := Lib.hid (alT_snoc ts rs se k)
                have HSD0 := Lib.hid (show sdN se (ts.getD k 0).toNat (mnD (alE ts rs se k + rs.getD k 0)) = alE ts rs se (k + 1) from rfl)
                obtain ⟨d, hd⟩ : ∃ d, alE ts rs se (k + 1) = d := ⟨_, rfl⟩
                have HD := Lib.hid hd
                rw [hd] at HS HSD0
                clear hd
                generalize rs.getD k 0 = r at *
                generalize alE ts rs se k = x at *
                obtain ⟨t, ht0⟩ : ∃ t : Nat, ts.getD k 0 = (t : Int) := ⟨(ts.getD k 0).toNat, by omega⟩
                rw [ht0] at q0 hbt HSD0
                clear ht0
                rw [show ((t : Int)).toNat = t by omega] at HSD0
                have ht : t ≤ 10000 := by omega
                have hm := mnD_bd (x := x + r) (by omega)
                have HMN := Lib.hid (show (if 1000000 < x + r then 1000000 else x + r) = mnD (x + r) from rfl)
                generalize mnD (x + r) = m at *
                have HSD := HSD0
                have HWR := Lib.hid (show IntKind.i64.wrap (x + r) = x + r from IntWalk.i64_in _ (by omega))
                obtain ⟨x1, x2⟩ := hbd
                obtain ⟨r1, r2⟩ := hbr
                go_wp2_with fail
                refine wp_region_held (S := fun w' => w'.cell? ⟨b, o + k, none⟩ = some (.int .i64 (t : Int)) ∧ w'.cell? ⟨b2, o2 + k, none⟩ = some (.int .i64 r) ∧ Below wo.heap.size wo w') (by kernel_rfl) ?_
                try (change wpAnyH _ _ _ _ _ _ _ _ (World.drew _))
                have hS0 := (show wo.drew.cell? ⟨b, o + k, none⟩ = some (.int .i64 (t : Int)) ∧ wo.drew.cell? ⟨b2, o2 + k, none⟩ = some (.int .i64 r) ∧ Below wo.heap.size wo wo.drew from ⟨q0, q1, Below.drew (Below.refl _ _)⟩)
                refine gTake 0 (v := ?_) rfl (by kernel_rfl) (by kernel_rfl) (by kernel_rfl) (fun _ _ _ h => h) (by kernel_rfl) ?_ hS0 ?_
                rotate_left
                · (intro W hW; clear hW; go_simp; try with_reducible rfl)
                refine gTake 1 (v := ?_) rfl (by kernel_rfl) (by kernel_rfl) (by kernel_rfl) (fun _ _ _ h => h) (by kernel_rfl) ?_ hS0 ?_
                rotate_left
                · (intro W hW; clear hW; go_simp; try with_reducible rfl)
                refine gTake 2 (v := ?_) rfl (by kernel_rfl) (by kernel_rfl) (by kernel_rfl) (fun _ _ _ h => h) (by kernel_rfl) ?_ hS0 ?_
                rotate_left
                · (intro W hW; clear hW; go_simp; try with_reducible rfl)
                refine gTake 3 (v := ?_) rfl (by kernel_rfl) (by kernel_rfl) (by kernel_rfl) (fun _ _ _ h => h) (by kernel_rfl) ?_ hS0 ?_
                rotate_left
                · (intro W hW; clear hW; go_simp; try with_reducible rfl)
                refine gTake 4 (v := ?_) rfl (by kernel_rfl) (by kernel_rfl) (by kernel_rfl) (fun _ _ _ h => h) (by kernel_rfl) ?_ hS0 ?_
                rotate_left
                · (intro W hW; have q0 := hW.1; have q1 := hW.2.1; clear hW; go_simp; try with_reducible rfl)
                refine gTake 5 (v := ?_) rfl (by kernel_rfl) (by kernel_rfl) (by kernel_rfl) (fun _ _ _ h => h) (by kernel_rfl) ?_ hS0 ?_
                rotate_left
                · (intro W hW; clear hW; go_simp; try with_reducible rfl)
                refine gTake 7 (v := ?_) rfl (by kernel_rfl) (by kernel_rfl) (by kernel_rfl) (fun _ _ _ h => h) (by kernel_rfl) ?_ hS0 ?_
                rotate_left
                · (intro W hW; clear hW; go_simp; try with_reducible rfl)
                refine gTake 8 (v := ?_) rfl (by kernel_rfl) (by kernel_rfl) (by kernel_rfl) (fun _ _ _ h => h) (by kernel_rfl) ?_ hS0 ?_
                rotate_left
                · (intro W hW; clear hW; go_simp; try with_reducible rfl)
                refine gTake 9 (v := ?_) rfl (by kernel_rfl) (by kernel_rfl) (by kernel_rfl) (fun _ _ _ h => h) (by kernel_rfl) ?_ hS0 ?_
                rotate_left
                · (intro W hW; clear hW; go_simp; try with_reducible rfl)
                refine gTake 10 (v := ?_) rfl (by kernel_rfl) (by kernel_rfl) (by kernel_rfl) (fun _ _ _ h => h) (by kernel_rfl) ?_ hS0 ?_
                rotate_left
                · (intro W hW; clear hW; go_simp; try with_reducible rfl)
                refine gTake 11 (v := ?_) rfl (by kernel_rfl) (by kernel_rfl) (by kernel_rfl) (fun _ _ _ h => h) (by kernel_rfl) ?_ hS0 ?_
                rotate_left
                · (intro W hW; have q0 := hW.1; have q1 := hW.2.1; clear hW; go_simp; try with_reducible rfl)
                refine gOne 6 rfl (by kernel_rfl) (by kernel_rfl) (fun K hK => ?_)
                go_simp
                go_at_call 55
                (with_reducible refine (l00Min_any _ _ _).mono ?_)
                rintro e w' ⟨rfl, rfl⟩
                rw [HWR.out, HMN.out]
                try go_simp
                have hS1 := hS0
                refine hK _ _ hS1 ?_
                clear hK K
                refine gOne 12 rfl (by kernel_rfl) (by kernel_rfl) (fun K hK => ?_)
                go_simp
                go_at_call 60
                (with_reducible refine (l14Settled_any m se t _ HSE.out hm ht).mono ?_)
                rintro e w' ⟨rfl, rfl⟩
                rw [HSD.out]
                try go_simp
                have hS2 := hS1
                refine hK _ _ hS2 ?_
                clear hK K
                refine gTake 13 (v := ?_) rfl (by kernel_rfl) (by kernel_rfl) (by kernel_rfl) (fun _ _ _ h => h) (by kernel_rfl) ?_ hS2 ?_
                rotate_left
                · (intro W hW; clear hW; go_simp; try with_reducible rfl)
                refine wpAnyH_done (by kernel_rfl) ?_ _
                go_simp
                have HBR := Lib.hid (hS2.2.2)
                have HBW := Lib.hid (HB.out.trans (HBR.out.mono HB.out.size))
                go_wp2_with (at_builtin; refine wpList_append_own _ rfl _ _ 40 rfl w.heap.size 2 i0 (.int .i64 0) 1 8 Try.underlying40 hi hz0 hz1 hz2 rfl (by decide) _ _ _ rfl (HO.out.alloc _) ⟨_, 0, none⟩ 1 1 [.int .i64 d] rfl rfl ?c1z ?c2z ?c3z ?c4z ?c5z ?_)
                case c1z => intro j u hj; match j, hj with | 0, hj => (simp at hj; subst hj; simp [Addr.add]) | j + 1, hj => (simp at hj)
                case c2z => simp [Value.oneCell']
                case c3z => unfold maxLen; omega
                case c4z => omega
                case c5z => first | (simp; omega) | (simp; done) | omega
                intro v' w3 ho3 hg3 _
                have HOO : Hid (w3.ownsRow w.heap.size 2 1 v' (k + 1) (intsV (alT ts rs se (k + 1)))) := Lib.hid (by rw [HS.out]; simpa [intsV] using ho3)
                have HB3 := Lib.hid (show Below w.heap.size w w3 from (Below.drew (HB.out.alloc hwsz _)).grown hg3 (by simp; omega) (fun q hq => (HO.out.lt q hq).1))
                clear ho3 hg3
                go_wp2
                go_roundw
                case rel => exact ⟨k + 1, by omega, by go_num, by rw [HD.out], HOO, HB3⟩
                case measure => simp [intOf]; omega
              · obtain rfl : k = ts.length := by omega
                generalize alE ts rs se ts.length = x at *
                go_wp2
                go_ret2
                exact ⟨_, ret_vz HE.out.2.symm, by rw [HE.out.1]; unfold OwnI; rw [alT_len]; exact HO.out, HB.out⟩
      · have i1 := inB_false hse
        have HE := Lib.hid (al_no (ts := ts) (rs := rs) (se := se) (by rw [← Bool.not_eq_true, alOk_iff]; exact fun hh => hse (inB_iff.1 hh.2.2.1)))
        go_enter Try.func25, Try.ntmps25
        go_wp2_with (go_at_call 59; (with_reducible refine (l14Settling_any _ _).mono ?_); rintro e w' ⟨rfl, rfl⟩)
        go_ret2
        exact ⟨_, ret_vz HE.out.2.symm, by rw [HE.out.1]; exact own_nilz _ _, Below.refl _ _⟩
    · have e1 : ((rs.length : Int) != (ts.length : Int)) = true := by simp; omega
      have HE := Lib.hid (al_no (ts := ts) (rs := rs) (se := se) (by rw [← Bool.not_eq_true, alOk_iff]; exact fun hh => hle hh.1.2))
      clear hle
      go_enter Try.func25, Try.ntmps25
      go_wp2
      go_ret2
      exact ⟨_, ret_vz HE.out.2.symm, by rw [HE.out.1]; exact own_nilz _ _, Below.refl _ _⟩
  · have n24 : (24 : Int) < (ts.length : Int) := by omega
    have HE := Lib.hid (al_no (ts := ts) (rs := rs) (se := se) (by rw [← Bool.not_eq_true, alOk_iff]; exact fun hh => h24 hh.1.1))
    go_enter Try.func25, Try.ntmps25
    go_wp2
    go_ret2
    exact ⟨_, ret_vz HE.out.2.symm, by rw [HE.out.1]; exact own_nilz _ _, Below.refl _ _⟩
set_option maxHeartbeats 2000000 in
set_option maxRecDepth 100000 in
theorem iDustAlong_any (v : Value) (ts : List Int) (u : Value) (rs : List Int) (se : Int) (w : World) (hv : Row .i64 w v ts) (htl : ts.length ≤ 1048576) (hu : Row .i64 w u rs) (hrl : rs.length ≤ 1048576) :
    Calls Try.prog 27 #[v, u, .int .i64 se] w fun e w' => ∃ x, e = .returned (.tuple #[x, .int .i64 (alC ts rs se)]) ∧ OwnI w' w.heap.size x (alR ts rs se) ∧ Below w.heap.size w w' := by
  obtain ⟨A, ac, rfl⟩ := hv.form
  obtain ⟨B, bc, rfl⟩ := hu.form
  have HV := Lib.hid hv
  have HU := Lib.hid hu
  clear hv hu
  by_cases h24 : ts.length ≤ 24
  · have n24 : ¬ ((24 : Int) < (ts.length : Int)) := by omega
    by_cases hle : rs.length = ts.length
    · have e1 : ((rs.length : Int) != (ts.length : Int)) = false := by simp [hle]
      have HLE := Lib.hid (And.intro h24 hle)
      have hla := Nat.le_of_eq hle
      have hlb := Nat.le_of_eq hle.symm
      clear hle
      cases j1 : allR 0 1000000 rs
      · have HE := Lib.hid (al_no (ts := ts) (rs := rs) (se := se) (by rw [← Bool.not_eq_true, alOk_iff]; exact fun hh => by rw [j1] at hh; exact absurd hh.2.1 (by simp)))
        go_enter Try.func27, Try.ntmps27
        go_wp2_with (go_at_call 49; (with_reducible refine (areDusts_any _ rs _ HU.out hrl).mono ?_); rintro e w' ⟨rfl, rfl⟩; rw [j1])
        go_ret2
        exact ⟨_, ret_vz HE.out.2.symm, by rw [HE.out.1]; exact own_nilz _ _, Below.refl _ _⟩
      · cases j2 : (inB se 0 1000000 && allR 0 10000 ts)
        · have HE := Lib.hid (al_no (ts := ts) (rs := rs) (se := se) (by unfold alOk; rw [j1, j2]; simp))
          go_enter Try.func27, Try.ntmps27
          go_wp2_with fail
          (with_reducible refine (areDusts_any _ rs _ HU.out hrl).mono ?_)
          rintro e w' ⟨rfl, rfl⟩
          rw [j1]
          go_wp2_with fail
          (with_reducible refine (areSettling_any se _ ts _ HV.out htl).mono ?_)
          rintro e w1 ⟨rfl, hd1⟩
          rw [j2]
          have HB1 := Lib.hid hd1
          have hz01 := hd1.size
          clear hd1
          go_wp2
          go_ret2
          exact ⟨_, ret_vz HE.out.2.symm, by rw [HE.out.1]; exact own_nilz _ _, HB1.out⟩
        · have HOK := Lib.hid (show alOk ts rs se = true by unfold alOk; rw [j1, j2, decide_eq_true HLE.out]; rfl)
          have HE := Lib.hid (al_yes HOK.out)
          have hse := inB_iff.1 (alOk_iff.1 HOK.out).2.2.1
          have HSE := Lib.hid hse
          have hmk := run_make_row' (P := Try.prog) 40 2 (.int .i64 0) 8 Try.underlying40 info_i64 rfl .i64 .i64 ts.length (by omega) (by omega)
          go_enter Try.func27, Try.ntmps27
          go_wp2_with fail
          (with_reducible refine (areDusts_any _ rs _ HU.out hrl).mono ?_)
          rintro e w' ⟨rfl, rfl⟩
          rw [j1]
          go_wp2_with fail
          (with_reducible refine (areSettling_any se _ ts _ HV.out htl).mono ?_)
          rintro e w1 ⟨rfl, hd1⟩
          rw [j2]
          have HB1 := Lib.hid hd1
          have hz01 := hd1.size
          clear hd1
          go_wp2
          clear hmk
          go_loopw [9, 38] (fun x i wr => ∃ k : Nat, k ≤ ts.length ∧ i = .int .i64 (k : Int) ∧ x = .int .i64 (alE ts rs se k) ∧ Hid (wr.ownsRow w1.heap.size 2 1 (.slice (some ⟨w1.heap.size, 0, none⟩) ts.length ts.length) ts.length (intsV (fillL ts.length (alF ts rs se) k))) ∧ Hid (Below w1.heap.size w1 wr)) (fun x i wr => ts.length - (intOf i).toNat)
          case atStart =>
            refine ⟨0, by omega, rfl, rfl, Lib.hid ?_, Lib.hid (below_box _ _)⟩
            have h := World.ownsRow_lit (base := w1.heap.size) (e := 2) (size := 1) w1 (madeCells #[.int .i64 0] ts.length) ts.length (Nat.le_refl _) (by unfold maxLen; omega) (by simp [madeCells])
            rwa [fillL_made _ (alF ts rs se)] at h
          case round =>
            obtain ⟨k, hk, rfl, rfl, HO, HB⟩ := hrel
            obtain ⟨wo, rfl⟩ : ∃ wo : World, wo = wr := ⟨_, rfl⟩
            have hwsz := HB.out.size
            have HBW := Lib.hid (HB1.out.trans (HB.out.mono HB1.out.size))
            by_cases hlt : k < ts.length
            · obtain ⟨b, o, rfl, -, q0⟩ := Row.cell (HV.out.below HBW.out) hlt
              obtain ⟨b2, o2, rfl, -, q1⟩ := Row.cell (HU.out.below HBW.out) (show k < rs.length by omega)
              have hlI : (k : Int) < (ts.length : Int) := by omega
              have hlI2 : (k : Int) < (rs.length : Int) := by omega
              have hbd := alE_bd HOK.out k hk
              have hbr := allR_at (alOk_iff.1 HOK.out).2.1 (k := k) (by omega)
              have hbt := allR_at (alOk_iff.1 HOK.out).2.2.2 hlt
              have HP := Lib.hid (fillL_put (alF ts rs se) hlt)
              have HSD0 := Lib.hid (show sdN se (ts.getD k 0).toNat (mnD (alE ts rs se k + rs.getD k 0)) = alE ts rs se (k + 1) from rfl)
              have HFD := Lib.hid (show alF ts rs se k = alE ts rs se (k + 1) from rfl)
              obtain ⟨d, hd⟩ : ∃ d, alE ts rs se (k + 1) = d := ⟨_, rfl⟩
              have HD := Lib.hid hd
              rw [HFD.out, hd] at HP
              rw [hd] at HSD0
              clear hd HFD
              have dz : wo.cell? ⟨w1.heap.size, k, none⟩ = some (.int .i64 0) := by rw [HO.out.cellAt k (by omega), fillL_at _ hlt]
              have fz := HO.out.frozenAt k
              have hzl := World.block_lt_of_cell? _ _ dz
              generalize rs.getD k 0 = r at *
              generalize alE ts rs se k = x at *
              obtain ⟨t, ht0⟩ : ∃ t : Nat, ts.getD k 0 = (t : Int) := ⟨(ts.getD k 0).toNat, by omega⟩
              rw [ht0] at q0 hbt HSD0
              clear ht0
              rw [show ((t : Int)).toNat = t by omega] at HSD0
              have ht : t ≤ 10000 := by omega
              have hm := mnD_bd (x := x + r) (by omega)
              obtain ⟨x1, x2⟩ := hbd
              obtain ⟨r1, r2⟩ := hbr
              by_cases hc : 1000000 < x + r
              · have HMN := Lib.hid (show mnD (x + r) = 1000000 by unfold mnD; rw [if_pos hc])
                rw [HMN.out] at HSD0 hm
                go_wp2_with fail
                (with_reducible refine (lessened_any _ se t _ HSE.out (by omega) ht).mono ?_)
                rintro e w2 ⟨rfl, hd⟩
                rw [HSD0.out]
                have HO2 := Lib.hid (own_below HO.out hd)
                have HB2 := Lib.hid (HB.out.trans (hd.mono HB.out.size))
                have dz2 := (hd.cell hzl).trans dz
                have fz2 := HO2.out.frozenAt k
                clear hd
                go_wp2
                go_roundw
                case rel => exact ⟨k + 1, by omega, by go_num, by rw [HD.out], Lib.hid (by
                  have h := (HO2.out.stored k (.int .i64 d)).1
                  rwa [HP.out] at h), Lib.hid (HB2.out.setCell (Nat.le_refl _) _)⟩
                case measure => simp [intOf]; omega
              · have HMN := Lib.hid (show mnD (x + r) = x + r by unfold mnD; rw [if_neg hc])
                rw [HMN.out] at HSD0 hm
                go_wp2_with fail
                (with_reducible refine (lessened_any _ se t _ HSE.out (by omega) ht).mono ?_)
                rintro e w2 ⟨rfl, hd⟩
                rw [HSD0.out]
                have HO2 := Lib.hid (own_below HO.out hd)
                have HB2 := Lib.hid (HB.out.trans (hd.mono HB.out.size))
                have dz2 := (hd.cell hzl).trans dz
                have fz2 := HO2.out.frozenAt k
                clear hd
                go_wp2
                go_roundw
                case rel => exact ⟨k + 1, by omega, by go_num, by rw [HD.out], Lib.hid (by
                  have h := (HO2.out.stored k (.int .i64 d)).1
                  rwa [HP.out] at h), Lib.hid (HB2.out.setCell (Nat.le_refl _) _)⟩
                case measure => simp [intOf]; omega
            · obtain rfl : k = ts.length := by omega
              have HOE := Lib.hid (show OwnI wo w.heap.size (.slice (some ⟨w1.heap.size, 0, none⟩) ts.length ts.length) (alT ts rs se ts.length) by
                have h := HO.out
                rw [fillL_full] at h
                have h2 : OwnI wo w1.heap.size (.slice (some ⟨w1.heap.size, 0, none⟩) ts.length ts.length) (alT ts rs se ts.length) := by unfold OwnI; rw [alT_len]; exact h
                exact own_lez h2 hz01)
              generalize alE ts rs se ts.length = x at *
              clear HO
              go_wp2
              go_ret2
              exact ⟨_, ret_vz HE.out.2.symm, by rw [HE.out.1]; exact HOE.out, HBW.out⟩
    · have e1 : ((rs.length : Int) != (ts.length : Int)) = true := by simp; omega
      have HE := Lib.hid (al_no (ts := ts) (rs := rs) (se := se) (by rw [← Bool.not_eq_true, alOk_iff]; exact fun hh => hle hh.1.2))
      clear hle
      go_enter Try.func27, Try.ntmps27
      go_wp2
      go_ret2
      exact ⟨_, ret_vz HE.out.2.symm, by rw [HE.out.1]; exact own_nilz _ _, Below.refl _ _⟩
  · have n24 : (24 : Int) < (ts.length : Int) := by omega
    have HE := Lib.hid (al_no (ts := ts) (rs := rs) (se := se) (by rw [← Bool.not_eq_true, alOk_iff]; exact fun hh => h24 hh.1.1))
    go_enter Try.func27, Try.ntmps27
    go_wp2
    go_ret2
    exact ⟨_, ret_vz HE.out.2.symm, by rw [HE.out.1]; exact own_nilz _ _, Below.refl _ _⟩
end Go.Proofs.Ytnlkikdgffaeeaa
