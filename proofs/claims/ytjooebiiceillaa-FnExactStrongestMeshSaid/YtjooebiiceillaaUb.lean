/-
  Contracts of chapter 4: sets of junctions in a map; the program's. Conditions: those that each theorem states.
-/
import Derived.Test.YtjooebiiceillaaUa
import Derived.Maps.OwnSet
import Derived.Carry
namespace Go.Proofs.Ytjooebiiceillaa
open Go.RowKit
set_option linter.unusedVariables false
set_option linter.unusedSimpArgs false

/-- What a map of numbers holds. -/
def MapF {H : Type} (m : DataW H) (f : Int → Option Int) : Prop :=
  Maps.IsMap m ∧ ∀ (x : Int) (z : DataW H), Maps.has m (.int .i64 x) = (f x).isSome ∧ ∀ y, f x = some y → m.atKey (.int .i64 x) z = .lit (.int .i64 y)
theorem MapF.empty {H : Type} : MapF (H := H) (.map []) (fun _ => none) := ⟨⟨[], rfl⟩, fun x z => ⟨by simp [Maps.has_eq], fun y h => by cases h⟩⟩
theorem MapF.put {H : Type} {m : DataW H} {f : Int → Option Int} (h : MapF m f) (hi lo : Int) : MapF (m.put (.int .i64 hi) (.lit (.int .i64 lo))) (upd f hi lo) := by
  refine ⟨h.1.put _ _, fun x z => ?_⟩
  unfold upd
  by_cases e : x = hi
  · subst e
    rw [if_pos rfl]
    refine ⟨by rw [Maps.has_put_same h.1 (by trivial)]; rfl, fun y hy => ?_⟩
    injection hy with hy
    subst hy
    exact Maps.atKey_put_same h.1 (by trivial) _ _
  · rw [if_neg e]
    have hne : (Lit.int .i64 x) ≠ Lit.int .i64 hi := fun h => e (by injection h)
    refine ⟨by rw [Maps.has_put_other hne]; exact (h.2 x z).1, fun y hy => ?_⟩
    rw [Maps.atKey_put_other hne]
    exact (h.2 x z).2 y hy
theorem zeroIU (w : World) : (zeroValue 2).run Try.prog w = .ok (.int .i64 0) w := by kernel_rfl
theorem keyIU (x : Int) (h : (Lit.int .i64 x).wf = true) : keyOf Try.prog 2 (.int .i64 x) = some (.int .i64 x) := Maps.keyOf_int_mk Try.underlying2 h
theorem wfU {x : Int} (h : 0 ≤ x ∧ x ≤ 1000000) : (Lit.int .i64 x).wf = true := by simp [Lit.wf, IntKind.min, IntKind.max, IntKind.signed, IntKind.bits]; omega
set_option maxHeartbeats 1000000 in
theorem gFirst_any (b n : Nat) (m : DataW Unit) (f : Int → Option Int) (x : Int) (w : World) (hm : MapF m f) (hf : Falls f) (hown : w.ownsMap (H := Unit) Try.prog 2 (plainElem Try.prog 2) b n m) (hx : 0 ≤ x ∧ x ≤ 1000000) :
    Calls Try.prog 130 #[.map (some b), .int .i64 x] w fun e w' => e = .returned (.int .i64 (root f x)) ∧ w = w' := by
  have HM := Lib.hid hm
  have HF := Lib.hid hf
  have HO := Lib.hid hown
  clear hm hf hown
  go_enter Try.func130, Try.ntmps130
  go_wp2
  go_loop [1] (fun i => ∃ y : Int, i = .int .i64 y ∧ (0 ≤ y ∧ y ≤ 1000000) ∧ Hid (root f y = root f x)) (fun i => (intOf i).toNat)
  case atStart => exact ⟨x, rfl, hx, Lib.hid rfl⟩
  case round =>
    obtain ⟨y, rfl, hy, HR⟩ := hrel
    have hxw := wfU hy
    cases hfy : f y with
    | none =>
      have HH := Lib.hid (show Maps.has m (.int .i64 y) = false by rw [(HM.out.2 y (.lit (.int .i64 0))).1, hfy]; rfl)
      have HE := Lib.hid (show y = root f x by rw [← HR.out, root_none hfy])
      clear hfy
      go_wp2_with (at_lookup; refine wpList_lookup_own_ok_int _ rfl _ _ 124 rfl 2 2 .i64 (Maps.int_keyed Try.underlying2) Try.underlying124 Try.underlying2 (zeroIU _) b n _ rfl HO.out _ _ rfl (keyIU y hxw) ?_)
      intro c hat hwc
      rw [HH.out]
      clear hat hwc
      go_wp2
      go_ret
      exact ⟨ret_int HE.out, rfl⟩
    | some z =>
      have HH := Lib.hid (show Maps.has m (.int .i64 y) = true by rw [(HM.out.2 y (.lit (.int .i64 0))).1, hfy]; rfl)
      have HZ := Lib.hid ((HM.out.2 y (.lit (.int .i64 0))).2 z hfy)
      have hzb := HF.out y z hfy
      have HR2 := Lib.hid (show root f z = root f x by rw [← HR.out, root_some HF.out hfy])
      clear hfy
      go_wp2_with (at_lookup; refine wpList_lookup_own_ok_int _ rfl _ _ 124 rfl 2 2 .i64 (Maps.int_keyed Try.underlying2) Try.underlying124 Try.underlying2 (zeroIU _) b n _ rfl HO.out _ _ rfl (keyIU y hxw) ?_)
      intro c hat hwc
      rw [HH.out]
      have hcz : z = c := by rw [HZ.out] at hat; injection hat with hat; injection hat
      subst hcz
      clear hat hwc
      go_wp2
      go_round
      case rel => exact ⟨z, rfl, by omega, HR2⟩
      case measure => simp [intOf]; omega
theorem grown_self (w : World) (r : Option Nat) : w.grownBy w r := ⟨rfl, rfl, rfl, Nat.le_refl _, fun _ _ _ => rfl⟩
set_option maxHeartbeats 1000000 in
set_option maxRecDepth 100000 in
theorem gJoin_any (b n : Nat) (m : DataW Unit) (f : Int → Option Int) (x y : Int) (w : World) (hm : MapF m f) (hf : Falls f) (hown : w.ownsMap (H := Unit) Try.prog 2 (plainElem Try.prog 2) b n m) (hx : 0 ≤ x ∧ x ≤ 1000000) (hy : 0 ≤ y ∧ y ≤ 1000000) (hn : n ≤ 1000) :
    Calls Try.prog 119 #[.map (some b), .int .i64 x, .int .i64 y] w fun e w' => e = .returned (.bool (!(decide (root f x = root f y)))) ∧ ∃ m' n', n' ≤ n + 1 ∧ MapF m' (joinF f x y) ∧ w'.ownsMap (H := Unit) Try.prog 2 (plainElem Try.prog 2) b n' m' ∧ w.grownBy w' (some b) := by
  have HM := Lib.hid hm
  have HF := Lib.hid hf
  have HO := Lib.hid hown
  have h1 := root_le hf hx.1
  have h2 := root_le hf hy.1
  clear hm hf hown
  by_cases he : root f x = root f y
  · have HJ := Lib.hid (show joinF f x y = f by unfold joinF; rw [if_pos he])
    have HE := Lib.hid (show (!(decide (root f x = root f y))) = false by rw [decide_eq_true he]; rfl)
    go_enter Try.func119, Try.ntmps119
    go_wp2_with (first
      | (go_at_call 130; with_reducible refine (gFirst_any b n m f x _ HM.out HF.out HO.out hx).mono ?_; rintro e w' ⟨rfl, rfl⟩)
      | (go_at_call 130; with_reducible refine (gFirst_any b n m f y _ HM.out HF.out HO.out hy).mono ?_; rintro e w' ⟨rfl, rfl⟩))
    go_ret
    exact ⟨ret_bool HE.out.symm, m, n, by omega, by rw [HJ.out]; exact HM.out, HO.out, grown_self _ _⟩
  · have HJ := Lib.hid (show joinF f x y = upd f (max (root f x) (root f y)) (min (root f x) (root f y)) by unfold joinF; rw [if_neg he])
    have HE := Lib.hid (show (!(decide (root f x = root f y))) = true by rw [decide_eq_false he]; rfl)
    generalize hrx : root f x = rx at *
    generalize hry : root f y = ry at *
    have HRX := Lib.hid (And.intro hrx hry)
    clear hrx hry
    rcases Int.lt_or_le rx ry with hlt | hlt
    · have hnl : ¬ ry < rx := by omega
      have HJ2 := Lib.hid (show max rx ry = ry ∧ min rx ry = rx by omega)
      have hkw := wfU (x := ry) (by omega)
      have hvw := wfU (x := rx) (by omega)
      go_enter Try.func119, Try.ntmps119
      go_wp2_with (first
        | (go_at_call 130; with_reducible refine (gFirst_any b n m f x _ HM.out HF.out HO.out hx).mono ?_; rintro e w' ⟨rfl, rfl⟩; rw [HRX.out.1])
        | (go_at_call 130; with_reducible refine (gFirst_any b n m f y _ HM.out HF.out HO.out hy).mono ?_; rintro e w' ⟨rfl, rfl⟩; rw [HRX.out.2])
        | (at_mapUpdate; refine wpList_mapUpdate_own _ rfl _ _ _ 124 rfl 2 2 (Maps.int_keyed Try.underlying2) Try.underlying124 _ b n _ rfl HO.out (by unfold maxLen; omega) _ _ _ rfl rfl (keyIU ry hkw) _ [] (plainElem_int Try.underlying2 (a := rx) hvw) ?_))
      intro w2 ho2 hg2
      have HO2 := Lib.hid ho2
      have HG2 := Lib.hid hg2
      clear ho2 hg2
      go_wp2
      go_ret
      exact ⟨ret_bool HE.out.symm, _, n + 1, Nat.le_refl _, by rw [HJ.out, HJ2.out.1, HJ2.out.2]; exact HM.out.put _ _, HO2.out, HG2.out⟩
    · have hgl : ry < rx := by omega
      have hnl : ¬ rx < ry := by omega
      have HJ2 := Lib.hid (show max rx ry = rx ∧ min rx ry = ry by omega)
      have hkw := wfU (x := rx) (by omega)
      have hvw := wfU (x := ry) (by omega)
      go_enter Try.func119, Try.ntmps119
      go_wp2_with (first
        | (go_at_call 130; with_reducible refine (gFirst_any b n m f x _ HM.out HF.out HO.out hx).mono ?_; rintro e w' ⟨rfl, rfl⟩; rw [HRX.out.1])
        | (go_at_call 130; with_reducible refine (gFirst_any b n m f y _ HM.out HF.out HO.out hy).mono ?_; rintro e w' ⟨rfl, rfl⟩; rw [HRX.out.2])
        | (at_mapUpdate; refine wpList_mapUpdate_own _ rfl _ _ _ 124 rfl 2 2 (Maps.int_keyed Try.underlying2) Try.underlying124 _ b n _ rfl HO.out (by unfold maxLen; omega) _ _ _ rfl rfl (keyIU rx hkw) _ [] (plainElem_int Try.underlying2 (a := ry) hvw) ?_))
      intro w2 ho2 hg2
      have HO2 := Lib.hid ho2
      have HG2 := Lib.hid hg2
      clear ho2 hg2
      go_wp2
      go_ret
      exact ⟨ret_bool HE.out.symm, _, n + 1, Nat.le_refl _, by rw [HJ.out, HJ2.out.1, HJ2.out.2]; exact HM.out.put _ _, HO2.out, HG2.out⟩
end Go.Proofs.Ytjooebiiceillaa
