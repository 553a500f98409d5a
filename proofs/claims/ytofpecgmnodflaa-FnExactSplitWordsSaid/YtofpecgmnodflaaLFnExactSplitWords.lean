/-
  PROVED: for every input the function laws.FnExactSplitWords returns true and leaves its arguments as they were. Conditions: none.
-/
import Derived.Test.YtofpecgmnodflaaRows
import Derived.Test.YtofpecgmnodflaaSv
import Derived.WalkKit
import Derived.ProofKit
import Derived.OpenShut
import Derived.ShutString
import Derived.ChangeOld
import Derived.Below
import Derived.Carry
namespace Go.Proofs.Ytofpecgmnodflaa.fnExactSplitWords
open Go.ChangeShapes Go.WideShapes Go.ChangeAt Go.RowKit
open Go.ChangeMaps (open_string shut_string)

set_option linter.unusedVariables false
set_option linter.unusedSimpArgs false

theorem own : ownKnob Try.prog.godebug = none := by kernel_rfl
theorem laidOut : laidOutB Try.prog = true := by kernel_rfl
theorem wordsB_len (d : List UInt8) : (wordsB d).length ≤ d.length + 1 := by
  unfold wordsB
  rw [List.length_map]
  exact Nat.le_trans (List.length_filter_le _ _) (splitL_len 32 d)

theorem walk (w : World) (a0 : ByteArray) (w0 : a0.size ≤ maxLen) :
    Calls Try.prog 4 #[.string a0] w fun e w' => e = .returned (.bool true) ∧ Below w.heap.size w w' := by
  by_cases hlong : 1048576 < a0.size
  · have t1 : (1048576 : Int) < (a0.size : Int) := by omega
    go_enter Try.func4, Try.ntmps4
    go_wp2
    go_ret
    exact ⟨rfl, Below.refl _ _⟩
  · have t1 : ¬ (1048576 : Int) < (a0.size : Int) := by omega
    have t2 : decide ((1048576 : Int) < (a0.size : Int)) = false := decide_eq_false t1
    have hs : a0.size ≤ 1048576 := by omega
    have HS := Lib.hid (fun W => sSplitWords_any a0 W hs)
    have HI := Lib.hid (fun W => iSplitWords_any a0 W hs)
    have hl : (wordsB a0.data.toList).length ≤ 2000000 := by
      have h1 := wordsB_len a0.data.toList
      have h2 : a0.data.toList.length = a0.size := by simp
      omega
    generalize wordsB a0.data.toList = ps at *
    go_enter Try.func4, Try.ntmps4
    go_wp2_with fail
    refine (HS.out w).mono ?_
    rintro e W1 ⟨vw, rfl, hw, hb1⟩
    have HW1 := Lib.hid hw
    have HB1 := Lib.hid hb1
    clear hw hb1
    go_wp2_with fail
    refine (HI.out W1).mono ?_
    rintro e W2 ⟨vg, rfl, hg, hb2⟩
    have HG2 := Lib.hid hg
    have HW2 := Lib.hid (HW1.out.below hb2)
    have HB2 := Lib.hid (HB1.out.trans (hb2.mono HB1.out.size))
    clear hg hb2
    go_wp2_with fail
    refine (eqStringS_s _ _ vg vw ps W2 HG2.out HW2.out (by omega)).mono ?_
    rintro e W3 ⟨rfl, n3, hn3⟩
    have hb3 : Below W2.heap.size W2 W3 := hn3 ▸ below_drewN' (Below.refl _ _) n3
    have HG3 := Lib.hid (HG2.out.below hb3)
    have HW3 := Lib.hid (HW2.out.below hb3)
    have HB3 := Lib.hid (HB2.out.trans (hb3.mono HB2.out.size))
    clear hb3 hn3
    go_wp2_with fail
    refine (markOne W1.heap.size vg ps W3 HG3.out hl).mono ?_
    rintro e W4 ⟨rfl, hg4, hgr⟩
    have HG4 := Lib.hid hg4
    have HW4 := Lib.hid (OwnS.apart HW3.out (fun k hk => (HW1.out.lt k hk).2) HG3.out hgr)
    have HB4 := Lib.hid (Below.grown HB3.out hgr HB3.out.size (fun k hk => Nat.le_trans HB1.out.size (HG3.out.lt k hk).1))
    clear hg4 hgr
    go_wp2_with fail
    refine (heldOne W1.heap.size vg ps.length W4 HG4.out hl).mono ?_
    rintro e W5 ⟨rfl, hb5⟩
    have HG5 := Lib.hid (HG4.out.below hb5)
    have HW5 := Lib.hid (HW4.out.below hb5)
    have HB5 := Lib.hid (HB4.out.trans (hb5.mono HB4.out.size))
    clear hb5
    have hm0 : ¬ (1 + (ps.length : Int) < 0) := by omega
    go_wp2_with fail
    refine (HI.out W5).mono ?_
    rintro e W6 ⟨vh, rfl, hh, hb6⟩
    have HH6 := Lib.hid hh
    have HG6 := Lib.hid (HG5.out.below hb6)
    have HW6 := Lib.hid (HW5.out.below hb6)
    have HB6 := Lib.hid (HB5.out.trans (hb6.mono HB5.out.size))
    clear hh hb6
    go_wp2_with fail
    refine (eqStringS_s _ _ vh vw ps W6 HH6.out HW6.out (by omega)).mono ?_
    rintro e W7 ⟨rfl, n7, hn7⟩
    have hb7 : Below W6.heap.size W6 W7 := hn7 ▸ below_drewN' (Below.refl _ _) n7
    have HG7 := Lib.hid (HG6.out.below hb7)
    have HB7 := Lib.hid (HB6.out.trans (hb7.mono HB6.out.size))
    clear hb7 hn7
    go_wp2_with fail
    refine (heldOne W1.heap.size vg ps.length W7 HG7.out hl).mono ?_
    rintro e W8 ⟨rfl, hb8⟩
    have HB8 := Lib.hid (HB7.out.trans (hb8.mono HB7.out.size))
    clear hb8
    go_wp2
    go_ret
    exact ⟨rfl, HB8.out⟩

set_option maxRecDepth 100000 in
theorem contract (H : Type) (enc : TypeId × Value → H) (W : World) (base : Nat) (args : Array Value) (ds gs : List (DataW H)) (before : List MemPlace)
    (hval : ∀ (j : Nat) t v, Try.f4.params[j]? = some t → args[j]? = some v → Value.okWide Try.prog W .any base t v)
    (hW : DataW.Whole enc Try.prog Try.f4.params.toList Rows.fnExactSplitWordsSpec.vars false W args.toList ds gs before) :
    Calls Try.prog 4 args W fun e W' => ∃ v, e = .returned v ∧ Rows.fnExactSplitWordsSpec.post enc Try.prog Try.f4 false true false false W args v W' := by
  have hW' := hW
  obtain ⟨p, q, hA0, hV, rfl, hfz, hnd⟩ := hW
  have hA : DataW.TrodAll enc Try.prog W 0 (fun _ => true) true Try.f4.params.toList args.toList ds p := hA0
  rw [Try.params4] at hA hval
  obtain ⟨v0, vs0, d0, ds0, p0, q0, hargs, rfl, rfl, h0, r0⟩ := trodAll_cons hA
  obtain ⟨rfl, rfl, rfl⟩ := trodAll_nil r0
  obtain rfl : args = #[v0] := by cases args; simp_all
  obtain ⟨rfl, rfl⟩ := trodVars_none hV
  obtain ⟨a0, rfl, rfl, rfl, w0⟩ := open_string Try.underlying9 (hval 0 9 v0 rfl rfl) h0
  clear hA0
  refine (walk W a0 w0).mono fun e W' ⟨he, bel⟩ => ?_
  subst he
  exact ⟨_, rfl, _, _, _, [], _, [], hW', trodAll_mk1 (shut_bool Try.underlying4 _), (trodAll_cons_mk (shut_string Try.underlying9 w0) trodAll_mk0), rfl, bel.frame _, fun h => by cases h⟩

set_option maxRecDepth 100000 in
theorem lifted (os : Os) (started : os.Started) (H : Type) (enc : TypeId × Value → H) :
    ReturnsInHanded {} Try.checked os 4 .any (Rows.fnExactSplitWordsSpec.pre6 enc Try.prog Try.f4 Rows.fnExactSplitWordsRow.domain false) (Rows.fnExactSplitWordsSpec.post enc Try.prog Try.f4 false true false false) := by
  refine returnsInHanded_of_change (C := Try.checked) own started (by kernel_rfl) Try.func4
    (ChangeSpec.witness6 (enc := enc) (C := Try.checked) false ⟨#[], #[.string ByteArray.empty], []⟩ 8 (by kernel_rfl) (by kernel_rfl) (by kernel_rfl) (by kernel_rfl)) ?_
  intro W base args ds gs before hval hW hcnd _
  exact contract H enc W base args ds gs before hval hW

theorem proved : Rows.FnExactSplitWordsSaid :=
  OpenClaim.holds_of_wide 4 Try.f4 rfl rfl rfl rfl rfl rfl rfl ⟨rfl, rfl, rfl, rfl, rfl⟩ rfl rfl rfl rfl rfl (by kernel_rfl) Try.func4 (by kernel_rfl)
    (of_decide_eq_true (by kernel_rfl)) (by unfold Func.isWrapper; first | (rw [if_pos (by decide +kernel)]; kernel_rfl) | (rw [if_neg (by decide +kernel)]; exact ⟨rfl, rfl⟩))
    (fun os started H enc _ => lifted os started H enc)
#print axioms proved
end Go.Proofs.Ytofpecgmnodflaa.fnExactSplitWords
