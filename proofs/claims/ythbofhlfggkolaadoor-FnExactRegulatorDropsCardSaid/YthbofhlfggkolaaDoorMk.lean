/-
  Contracts of the laws' marks on mines: what is marked is the mine's own row alone. Conditions: those that each theorem states.
-/
import Derived.Test.YthbofhlfggkolaaDoorGa
import Derived.Laws.BytesArg
import Derived.OwnWalk
import Derived.Maps.AppendAt
import Derived.Lib.Hide
namespace Go.Proofs.YthbofhlfggkolaaDoor
open Go.RowKit
set_option linter.unusedVariables false
set_option linter.unusedSimpArgs false

theorem grown_of {g : Nat} {w w' : World} (h : Below w.heap.size w w') : w.grownBy w' (some g) := ⟨h.os, h.tape, h.output, h.size, fun i hi _ => h.block i hi⟩
theorem grown_set (g i : Nat) (w : World) (v : Value) : w.grownBy (w.setCell ⟨g, i, none⟩ v) (some g) :=
  ⟨rfl, rfl, rfl, by simp, fun j hj hne => Below.heap_setCell w ⟨g, i, none⟩ v j (fun e => hne (by rw [e]))⟩
theorem addBig {x y : ByteArray} (h : x.size + y.size ≤ 1000000000) : Op.stringOp .add x y = pure (.string (x ++ y)) := by
  unfold Op.stringOp
  simp only []
  rw [if_neg (by simp [IntKind.max, IntKind.bits, IntKind.signed]; omega)]
/-- A text of at most m bytes is returned. -/
def TextIn (m : Nat) (w : World) (e : Ending) (w' : World) : Prop := ∃ s : ByteArray, s.size ≤ m ∧ e = .returned (.string s) ∧ Below w.heap.size w w'
theorem strOne (d : Int) : (strOfNums [d]).size = 1 := by unfold strOfNums; rfl
set_option maxHeartbeats 1000000 in
theorem markText_any (k0 : Nat) (w : World) (hk : k0 ≤ 100000000) : Calls Tryd.prog 74 #[.int .i64 (k0 : Int)] w (TextIn 100000010 w) := by
  by_cases h0 : k0 = 0
  · subst h0
    go_enter Tryd.func74, Tryd.ntmps74
    go_wp2
    go_ret
    exact ⟨_, by decide, rfl, Below.refl _ _⟩
  · have hp : ¬ (k0 : Int) ≤ 0 := by omega
    have hp2 : decide ((k0 : Int) ≤ 0) = false := decide_eq_false hp
    go_enter Tryd.func74, Tryd.ntmps74
    go_wp2
    go_loopw [0, 3] (fun k out wr => ∃ (m : Nat) (s : ByteArray), k = .int .i64 m ∧ out = .string s ∧ s.size + m ≤ k0 ∧ Below w.heap.size w wr) (fun k out wr => (intOf k).toNat)
    case atStart => exact ⟨k0, ⟨#[]⟩, rfl, rfl, by show 0 + k0 ≤ k0; omega, Below.refl _ _⟩
    case round =>
      obtain ⟨m, s, rfl, rfl, hs, hbel⟩ := hrel
      by_cases hm : 0 < m
      · have t1 : (0 : Int) < (m : Int) := by omega
        have hd1 : 0 ≤ 48 + (m : Int) % 10 := by omega
        have hd2 : 48 + (m : Int) % 10 ≤ 57 := by omega
        have hconv := run_convert_bytes_arg (P := Tryd.prog) (wr.alloc (.cells #[.int .u8 (48 + (m : Int) % 10)] 5)) 132 5 Tryd.underlying132 Tryd.underlying5 wr.heap.size 0 1 1 [48 + (m : Int) % 10] rfl (fun i hi => by
          obtain rfl : i = 0 := by omega
          simp)
        replace hconv := hconv 9 Tryd.underlying9
        have h1 := strOne (48 + (m : Int) % 10)
        generalize strOfNums [48 + (m : Int) % 10] = D at *
        have e1 := addBig (x := D) (y := s) (by omega)
        have e3 : binOp .add 9 (.string D) (.string s) = pure (.string (D ++ s)) := (binOp_string_add _ _ _).trans e1
        have HS := Lib.hid (show (D ++ s).size + m / 10 ≤ k0 by rw [ByteArray.size_append]; omega)
        have HB := Lib.hid (hbel.alloc hbel.size (.cells #[.int .u8 (48 + (m : Int) % 10)] 5))
        clear hbel
        go_wp2
        go_roundw
        case rel => exact ⟨m / 10, _, by first | rfl | (congr 1; omega) | go_num, rfl, HS.out, HB.out⟩
        case measure => simp [intOf]; omega
      · obtain rfl : m = 0 := by omega
        have hs2 : (⟨#[109]⟩ : ByteArray).size + s.size ≤ 1000000000 := by show 1 + s.size ≤ 1000000000; omega
        have e1 := addBig (x := ⟨#[109]⟩) (y := s) hs2
        have e3 : binOp .add 9 (.string ⟨#[109]⟩) (.string s) = pure (.string (⟨#[109]⟩ ++ s)) := (binOp_string_add _ _ _).trans e1
        go_wp2
        go_ret
        exact ⟨_, by rw [ByteArray.size_append]; show 1 + s.size ≤ 100000010; omega, rfl, hbel⟩
set_option maxHeartbeats 4000000 in
set_option maxRecDepth 100000 in
theorem markAirwayS_any (g n : Nat) (k : Int) (cs : List Value) (w : World) (hB : BlkV w g 86 cs) (hc : cs.length = n * 7) (hn : n ≤ 1048576) (hk : 0 ≤ k ∧ k ≤ 1000) :
    Calls Tryd.prog 48 #[.slice (some ⟨g, 0, none⟩) n n, .int .i64 k] w fun e w' => e = .returned (.int .i64 (k + 7 * n)) ∧ w.grownBy w' (some g) := by
  have HB := Lib.hid hB
  clear hB
  obtain ⟨hk1, hk2⟩ := hk
  go_enter Tryd.func48, Tryd.ntmps48
  go_wp2
  go_loopw [1, 5] (fun m i wr => ∃ (j : Nat) (ds : List Value), j ≤ n ∧ i = .int .i64 j ∧ m = .int .i64 (k + 7 * j) ∧ ds.length = n * 7 ∧ BlkV wr g 86 ds ∧ w.grownBy wr (some g)) (fun m i wr => n - (intOf i).toNat)
  case atStart => exact ⟨0, cs, by omega, rfl, by simp, hc, HB.out, World.grownBy.refl _ _⟩
  case round =>
    obtain ⟨j, ds, hj, rfl, rfl, hds, hblk, hgr⟩ := hrel
    by_cases hlt : j < n
    · obtain ⟨q, hq⟩ : ∃ q : Nat, k + 7 * (j : Int) = q := ⟨(k + 7 * j).toNat, by omega⟩
      have hqb : q ≤ 8000000 := by omega
      have HQ := Lib.hid hq
      have HBK := Lib.hid hblk
      have HG := Lib.hid hgr
      rw [hq]
      clear hq hblk hgr
      go_wp2_with fail
      (with_reducible refine (markText_any q wr (by omega)).mono ?_)
      rintro e w2 ⟨s, hs, rfl, hb2⟩
      have HB2 := Lib.hid (HBK.out.below hb2 HBK.out.lt)
      have HG2 := Lib.hid (HG.out.trans (grown_of hb2))
      clear hb2 hs
      have f0 := HB2.out.frozen (j * 7)
      obtain ⟨u0, c0⟩ : ∃ u, w2.cell? ⟨g, j * 7, none⟩ = some u := by
        rw [HB2.out.cell]
        exact ⟨_, List.getElem?_eq_getElem (by omega)⟩
      have f1 := HB2.out.frozen (j * 7 + 1)
      obtain ⟨u1, c1⟩ : ∃ u, w2.cell? ⟨g, j * 7 + 1, none⟩ = some u := by
        rw [HB2.out.cell]
        exact ⟨_, List.getElem?_eq_getElem (by omega)⟩
      have f2 := HB2.out.frozen (j * 7 + 2)
      obtain ⟨u2, c2⟩ : ∃ u, w2.cell? ⟨g, j * 7 + 2, none⟩ = some u := by
        rw [HB2.out.cell]
        exact ⟨_, List.getElem?_eq_getElem (by omega)⟩
      have f3 := HB2.out.frozen (j * 7 + 3)
      obtain ⟨u3, c3⟩ : ∃ u, w2.cell? ⟨g, j * 7 + 3, none⟩ = some u := by
        rw [HB2.out.cell]
        exact ⟨_, List.getElem?_eq_getElem (by omega)⟩
      have f4 := HB2.out.frozen (j * 7 + 4)
      obtain ⟨u4, c4⟩ : ∃ u, w2.cell? ⟨g, j * 7 + 4, none⟩ = some u := by
        rw [HB2.out.cell]
        exact ⟨_, List.getElem?_eq_getElem (by omega)⟩
      have f5 := HB2.out.frozen (j * 7 + 5)
      obtain ⟨u5, c5⟩ : ∃ u, w2.cell? ⟨g, j * 7 + 5, none⟩ = some u := by
        rw [HB2.out.cell]
        exact ⟨_, List.getElem?_eq_getElem (by omega)⟩
      have f6 := HB2.out.frozen (j * 7 + 6)
      obtain ⟨u6, c6⟩ : ∃ u, w2.cell? ⟨g, j * 7 + 6, none⟩ = some u := by
        rw [HB2.out.cell]
        exact ⟨_, List.getElem?_eq_getElem (by omega)⟩
      go_wp2
      go_roundw
      case rel => exact ⟨j + 1, _, by omega, by go_num, by have := HQ.out; congr 1; omega, by simp only [List.length_set]; exact hds, (((((((HB2.out.setC _ _).setC _ _).setC _ _).setC _ _).setC _ _).setC _ _).setC _ _), (((((((HG2.out.trans (grown_set g _ _ _)).trans (grown_set g _ _ _)).trans (grown_set g _ _ _)).trans (grown_set g _ _ _)).trans (grown_set g _ _ _)).trans (grown_set g _ _ _)).trans (grown_set g _ _ _))⟩
      case measure => simp [intOf]; omega
    · obtain rfl : j = n := by omega
      have HG := Lib.hid hgr
      clear hgr hblk
      go_wp2
      go_ret
      exact ⟨rfl, HG.out⟩
theorem markMine_any (J : Int) (g n : Nat) (k : Int) (cs : List Value) (w : World) (hB : BlkV w g 86 cs) (hc : cs.length = n * 7) (hn : n ≤ 1048576) (hk : 0 ≤ k ∧ k ≤ 1000) :
    Calls Tryd.prog 24 #[.agg #[.int .i64 J, .slice (some ⟨g, 0, none⟩) n n], .int .i64 k] w fun e w' => e = .returned (.int .i64 (k + 7 * n)) ∧ w.grownBy w' (some g) := by
  have HB := Lib.hid (hB.below (below_box w (.cells #[.int .i64 J, .slice (some ⟨g, 0, none⟩) n n] 43)) hB.lt)
  clear hB
  obtain ⟨hk1, hk2⟩ := hk
  go_enter Tryd.func24, Tryd.ntmps24
  go_wp2_with fail
  (with_reducible refine (markAirwayS_any g n k cs _ HB.out hc hn ⟨hk1, hk2⟩).mono ?_)
  rintro e w1 ⟨rfl, hg⟩
  have HG := Lib.hid ((World.grownBy_alloc w (.cells #[.int .i64 J, .slice (some ⟨g, 0, none⟩) n n] 43) (some g)).trans hg)
  clear hg
  go_wp2
  go_ret
  exact ⟨rfl, HG.out⟩
end Go.Proofs.YthbofhlfggkolaaDoor
