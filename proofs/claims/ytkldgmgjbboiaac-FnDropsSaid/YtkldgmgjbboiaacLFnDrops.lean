/-
  PROVED: for every input the function laws.FnDrops returns true and leaves its arguments as they were. Conditions: none.
-/
import Derived.Test.YtkldgmgjbboiaacRows
import Derived.Test.YtkldgmgjbboiaacHa
import Derived.WalkKit
import Derived.ProofKit
import Derived.OpenShut
import Derived.ShutString
import Derived.ChangeOld
import Derived.Below
import Derived.Carry
namespace Go.Proofs.Ytkldgmgjbboiaac.fnDrops
open Go.ChangeShapes Go.WideShapes Go.ChangeAt Go.RowKit
open Go.ChangeMaps (open_string shut_string)

set_option linter.unusedVariables false

theorem own : ownKnob Try.prog.godebug = none := by kernel_rfl
theorem laidOut : laidOutB Try.prog = true := by kernel_rfl
set_option maxRecDepth 100000 in
set_option maxHeartbeats 4000000 in
theorem walk (w : World) (a0 : Option Addr) (len0 cap0 : Nat) (z0 : List Int) (w0 : IsRow .u8 w a0 len0 cap0 z0) :
    Calls Try.prog 4 #[.slice a0 len0 cap0] w fun e w' => e = .returned (.bool true) ∧ Below w.heap.size w w' := by
  have hB := IsRow.byt w0
  have hcap : len0 ≤ maxLen := by
    rcases w0 with ⟨_, h, _, _⟩ | ⟨x, _, h1, h2, _⟩
    · omega
    · omega
  clear w0
  unfold maxLen at hcap
  have HB := Lib.hid hB
  clear hB
  by_cases hlong : 1048576 < len0
  · have t1 : (1048576 : Int) < (len0 : Int) := by omega
    go_enter Try.func4, Try.ntmps4
    go_wp2
    go_ret
    exact ⟨rfl, Below.refl _ _⟩
  · have t1 : ¬ (1048576 : Int) < (len0 : Int) := by omega
    have hl : len0 ≤ 1048576 := by omega
    clear hlong
    obtain ⟨x, hx, hX⟩ := r8Wide_ex a0 len0 cap0 0 60000 w HB.out hl (by omega) (by omega)
    obtain ⟨q, hq, hQ⟩ := r8Wide_ex a0 len0 cap0 2 40000 w HB.out hl (by omega) (by omega)
    have HX := hide hX
    have HQ := hide hQ
    clear hX hQ
    obtain ⟨r, hr⟩ : ∃ r, 1 + x = r := ⟨_, rfl⟩
    have hrb : 1 ≤ r ∧ r ≤ 60000 := by omega
    obtain ⟨D, hD⟩ : ∃ D, dropR r q = D := ⟨_, rfl⟩
    obtain ⟨Z, hZ⟩ : ∃ Z, dropR r (q + 1) = Z := ⟨_, rfl⟩
    have hDZ : 0 ≤ D ∧ D ≤ 1000000 ∧ D ≤ Z := by
      have m := drop_mono (r := r) (a := q) (b := q + 1) (by omega) (by omega) (by omega)
      have z := drop_mono (r := r) (a := 0) (b := q) (by omega) (by omega) (by omega)
      rw [drop_zero] at z
      have u := (drop_bd (r := r) (q := q) (by omega) (by omega) (by omega) (by omega)).2
      have v := divR_pp (r * q * absR q) 10000000000 (Int.mul_nonneg (Int.mul_nonneg (by omega) (by omega)) (absR_nonneg q)) (by omega)
      unfold dropR at hD
      rw [v] at hD
      unfold dropR at z
      rw [v] at z
      unfold dropR at m
      rw [v] at m
      unfold dropR at hZ
      omega
    obtain ⟨d1, d2, d3⟩ := hDZ
    have hm := mul_nn' (p := D) (q := q) (A := 1000000) (B := 40000) d1 d2 hq.1 (by omega)
    obtain ⟨m1, m2⟩ := hm
    have HD := Lib.hid hD
    have HZ := Lib.hid hZ
    have HR := Lib.hid hr
    have HN := Lib.hid (show dropR r (-q) = -D by rw [drop_neg, hD])
    clear hD hZ hr
    go_enter Try.func4, Try.ntmps4
    go_wp2_with fail
    refine (unhide HX).mono ?_
    rintro e w' ⟨rfl, rfl⟩
    go_wp2_with fail
    rw [HR.out]
    clear HR HX hx
    refine (unhide HQ).mono ?_
    rintro e w' ⟨rfl, rfl⟩
    go_wp2_with fail
    refine (iDrop_ok r q D w (by omega) (by omega) HD.out).mono ?_
    rintro e w1 ⟨rfl, hb1⟩
    go_wp2_with fail
    refine (iDrop_ok r (-q) (-D) w1 (by omega) (by omega) HN.out).mono ?_
    rintro e w2 ⟨rfl, hb2⟩
    go_wp2_with fail
    refine (iDrop_ok r (q + 1) Z w2 (by omega) (by omega) HZ.out).mono ?_
    rintro e w3 ⟨rfl, hb3⟩
    go_wp2_with fail
    refine (iPower_ok r q D w3 (by omega) (by omega) HD.out).mono ?_
    rintro e w4 ⟨rfl, hb4⟩
    go_wp2_with fail
    refine (sDiv_ok (D * q) w4 (by omega)).mono ?_
    rintro e w' ⟨rfl, rfl⟩
    have B4 : Below w.heap.size w w4 := ((hb1.trans (hb2.mono hb1.size)).trans (hb3.mono (Nat.le_trans hb1.size hb2.size))).trans (hb4.mono (Nat.le_trans (Nat.le_trans hb1.size hb2.size) hb3.size))
    clear hb1 hb2 hb3 hb4
    go_wp2_with fail
    obtain ⟨d, hd, hW⟩ := r8Wide_ex a0 len0 cap0 4 6000 w4 (HB.out.below B4) hl (by omega) (by omega)
    have HW := hide hW
    clear hW
    obtain ⟨⟨o1, o2⟩, o3, o4⟩ := over_spec r d (by omega) (by omega)
    obtain ⟨M, hM, hM0, hM1, hMA, hMG⟩ : ∃ M : Int, (overN r d : Int) = M + 1 ∧ 0 ≤ M ∧ M ≤ 100000 ∧ dropR r M ≤ d ∧ (M < 100000 → d < dropR r (M + 1)) :=
      ⟨(overN r d : Int) - 1, by omega, by omega, by omega, by
        have := o3 (overN r d - 1) (by omega)
        rwa [show ((overN r d - 1 : Nat) : Int) = (overN r d : Int) - 1 by omega] at this, fun h => by
        have := o4 (overN r d) (Nat.le_refl _) (by omega)
        rwa [show (overN r d : Int) - 1 + 1 = (overN r d : Int) by omega]⟩
    have HM := Lib.hid hM
    have HG := Lib.hid hMG
    clear o1 o2 o3 o4 hM hMG
    obtain ⟨A, hA⟩ : ∃ A, dropR r M = A := ⟨_, rfl⟩
    rw [hA] at hMA
    have HA2 := Lib.hid hA
    clear hA
    refine (unhide HW).mono ?_
    rintro e w' ⟨rfl, rfl⟩
    go_wp2_with fail
    refine (iFlow_ok r d M w4 (by omega) (by omega) HM.out).mono ?_
    rintro e w5 ⟨rfl, hb5⟩
    go_wp2_with fail
    refine (iDrop_ok r M A w5 (by omega) (by omega) HA2.out).mono ?_
    rintro e w6 ⟨rfl, hb6⟩
    have B6 : Below w.heap.size w w6 := (B4.trans (hb5.mono B4.size)).trans (hb6.mono (Nat.le_trans B4.size hb5.size))
    by_cases hmx : M = 100000
    · have t2 : (M == 100000) = true := by simpa using hmx
      clear hmx
      go_wp2
      go_ret
      exact ⟨rfl, B6⟩
    · have t2 : (M == 100000) = false := by simpa using hmx
      have t3 : M < 100000 := by omega
      obtain ⟨N, hN⟩ : ∃ N, dropR r (M + 1) = N := ⟨_, rfl⟩
      have hNd : d < N := by rw [← hN]; exact HG.out (by omega)
      have HN2 := Lib.hid hN
      clear hN
      go_wp2_with fail
      refine (iDrop_ok r (M + 1) N w6 (by omega) (by omega) HN2.out).mono ?_
      rintro e w7 ⟨rfl, hb7⟩
      go_wp2
      go_ret
      exact ⟨rfl, B6.trans (hb7.mono B6.size)⟩

set_option maxRecDepth 100000 in
theorem contract (H : Type) (enc : TypeId × Value → H) (W : World) (base : Nat) (args : Array Value) (ds gs : List (DataW H)) (before : List MemPlace)
    (hval : ∀ (j : Nat) t v, Try.f4.params[j]? = some t → args[j]? = some v → Value.okWide Try.prog W .any base t v)
    (hW : DataW.Whole enc Try.prog Try.f4.params.toList Rows.fnDropsSpec.vars false W args.toList ds gs before) :
    Calls Try.prog 4 args W fun e W' => ∃ v, e = .returned v ∧ Rows.fnDropsSpec.post enc Try.prog Try.f4 false true false false W args v W' := by
  have hW' := hW
  obtain ⟨p, q, hA0, hV, rfl, hfz, hnd⟩ := hW
  have hA : DataW.TrodAll enc Try.prog W 0 (fun _ => true) true Try.f4.params.toList args.toList ds p := hA0
  rw [Try.params4] at hA hval
  obtain ⟨v0, vs0, d0, ds0, p0, q0, hargs, rfl, rfl, h0, r0⟩ := trodAll_cons hA
  obtain ⟨rfl, rfl, rfl⟩ := trodAll_nil r0
  obtain rfl : args = #[v0] := by cases args; simp_all
  obtain ⟨rfl, rfl⟩ := trodVars_none hV
  obtain ⟨a0, len0, cap0, rfl⟩ := okWide_slice Try.underlying27 (hval 0 27 v0 rfl rfl)
  have k0 := h0
  have lt0 : ∀ x ∈ p0, x.block < W.heap.size := by obtain ⟨m, hm⟩ := k0; exact DataW.trod_lt m _ _ _ hm
  obtain ⟨z0, w0⟩ : ∃ zs, IsRow .u8 W a0 len0 cap0 zs := by
    obtain ⟨fuel, hf⟩ := h0
    rcases open_ints Try.underlying27 Try.underlying5 (by kernel_rfl) hf with ⟨hcs, _⟩ | ⟨x, l, c, zs, hcs, _, hl, hm, hz, _, hcell, hwz⟩
    · simp [Value.cells] at hcs
      obtain ⟨rfl, rfl, rfl⟩ := hcs
      exact ⟨[], .inl ⟨rfl, rfl, rfl, rfl⟩⟩
    · simp [Value.cells] at hcs
      obtain ⟨rfl, rfl, rfl⟩ := hcs
      exact ⟨zs, .inr ⟨_, rfl, hl, hm, by simpa using hz, hcell, hwz⟩⟩
  clear hA0
  refine (walk W a0 len0 cap0 z0 w0).mono fun e W' ⟨he, bel⟩ => ?_
  subst he
  exact ⟨_, rfl, _, _, _, [], _, [], hW', trodAll_mk1 (shut_bool Try.underlying4 _), (trodAll_cons_mk (Below.trod laidOut (by kernel_rfl) (of_decide_eq_true (by kernel_rfl)) k0 bel lt0) trodAll_mk0), rfl, bel.frame _, fun h => by cases h⟩

set_option maxRecDepth 100000 in
theorem lifted (os : Os) (started : os.Started) (H : Type) (enc : TypeId × Value → H) :
    ReturnsInHanded {} Try.checked os 4 .any (Rows.fnDropsSpec.pre6 enc Try.prog Try.f4 Rows.fnDropsRow.domain false) (Rows.fnDropsSpec.post enc Try.prog Try.f4 false true false false) := by
  refine returnsInHanded_of_change (C := Try.checked) own started (by kernel_rfl) Try.func4
    (ChangeSpec.witness6 (enc := enc) (C := Try.checked) false ⟨#[], #[.slice none 0 0], []⟩ 8 (by kernel_rfl) (by kernel_rfl) (by kernel_rfl) (by kernel_rfl)) ?_
  intro W base args ds gs before hval hW hcnd _
  exact contract H enc W base args ds gs before hval hW

theorem proved : Rows.FnDropsSaid :=
  OpenClaim.holds_of_wide 4 Try.f4 rfl rfl rfl rfl rfl rfl rfl ⟨rfl, rfl, rfl, rfl, rfl⟩ rfl rfl rfl rfl rfl (by kernel_rfl) Try.func4 (by kernel_rfl)
    (of_decide_eq_true (by kernel_rfl)) (by unfold Func.isWrapper; first | (rw [if_pos (by decide +kernel)]; kernel_rfl) | (rw [if_neg (by decide +kernel)]; exact ⟨rfl, rfl⟩))
    (fun os started H enc _ => lifted os started H enc)
#print axioms proved
end Go.Proofs.Ytkldgmgjbboiaac.fnDrops
