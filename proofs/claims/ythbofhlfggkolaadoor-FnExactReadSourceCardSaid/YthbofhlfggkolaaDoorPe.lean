/-
  Contracts of chapter 13: whether a source is valid for itself; the model's and the program's. Conditions: those that each theorem states.
-/
import Derived.Test.YthbofhlfggkolaaDoorPw
import Derived.Test.YthbofhlfggkolaaDoorRg
namespace Go.Proofs.YthbofhlfggkolaaDoor
open Go.RowKit
set_option linter.unusedVariables false
set_option linter.unusedSimpArgs false

/-- A source that is valid for itself. -/
def soOk (s : ByteArray) (a r : Int) : Bool := isNm s && (inB a 0 23 && inB r 0 10000000)
theorem soOk_bd {s : ByteArray} {a r : Int} (h : soOk s a r = true) : isNm s = true ∧ (0 ≤ a ∧ a ≤ 23) ∧ (0 ≤ r ∧ r ≤ 10000000) := by
  simp only [soOk, Bool.and_eq_true, inB_iff] at h
  exact h
/-- The cells of a source in a block. -/
def SoAt (w : World) (b o : Nat) (s : ByteArray) (a r : Int) : Prop :=
  w.cell? ⟨b, o, none⟩ = some (.string s) ∧ w.cell? ⟨b, o + 1, none⟩ = some (.int .i64 a) ∧ w.cell? ⟨b, o + 2, none⟩ = some (.int .i64 r)
theorem soAt_mk {w : World} {b o : Nat} {s : ByteArray} {a r : Int} (h0 : w.cell? ⟨b, o, none⟩ = some (.string s)) (h1 : w.cell? ⟨b, o + 1, none⟩ = some (.int .i64 a)) (h2 : w.cell? ⟨b, o + 2, none⟩ = some (.int .i64 r)) : SoAt w b o s a r := ⟨h0, h1, h2⟩
theorem SoAt.lt {w : World} {b o : Nat} {s : ByteArray} {a r : Int} (h : SoAt w b o s a r) : b < w.heap.size := World.block_lt_of_cell? (a := ⟨b, o, none⟩) _ h.1
theorem SoAt.below {B : Nat} {w w' : World} {b o : Nat} {s : ByteArray} {a r : Int} (h : SoAt w b o s a r) (hb : Below B w w') (hB : b < B) : SoAt w' b o s a r :=
  ⟨(hb.cell (p := ⟨b, o, none⟩) hB).trans h.1, (hb.cell (p := ⟨b, o + 1, none⟩) hB).trans h.2.1, (hb.cell (p := ⟨b, o + 2, none⟩) hB).trans h.2.2⟩
theorem soBoxed (s : ByteArray) (a r : Int) (w : World) : SoAt (w.alloc (.cells #[.string s, .int .i64 a, .int .i64 r] 26)) w.heap.size 0 s a r := by unfold SoAt; simp
/-- The cells of a source at the head of a block. -/
def SaAt (w : World) (b : Nat) (s : ByteArray) (a r : Int) : Prop :=
  w.cell? ⟨b, 0, none⟩ = some (.string s) ∧ w.cell? ⟨b, 1, none⟩ = some (.int .i64 a) ∧ w.cell? ⟨b, 2, none⟩ = some (.int .i64 r)
theorem SaAt.lt {w : World} {b : Nat} {s : ByteArray} {a r : Int} (h : SaAt w b s a r) : b < w.heap.size := World.block_lt_of_cell? (a := ⟨b, 0, none⟩) _ h.1
theorem SaAt.below {B : Nat} {w w' : World} {b : Nat} {s : ByteArray} {a r : Int} (h : SaAt w b s a r) (hb : Below B w w') (hB : b < B) : SaAt w' b s a r :=
  ⟨(hb.cell (p := ⟨b, 0, none⟩) hB).trans h.1, (hb.cell (p := ⟨b, 1, none⟩) hB).trans h.2.1, (hb.cell (p := ⟨b, 2, none⟩) hB).trans h.2.2⟩
theorem saBoxed (s : ByteArray) (a r : Int) (w : World) : SaAt (w.alloc (.cells #[.string s, .int .i64 a, .int .i64 r] 26)) w.heap.size s a r := by unfold SaAt; simp
theorem SaAt.at {w : World} {b : Nat} {s : ByteArray} {a r : Int} (h : SaAt w b s a r) : SoAt w b 0 s a r := ⟨h.1, h.2.1, h.2.2⟩
set_option maxHeartbeats 1000000 in
theorem l13One_below (b o : Nat) (s : ByteArray) (a r : Int) (w : World) (hs : s.size ≤ maxLen) (hc : SoAt w b o s a r) :
    Calls Tryd.prog 32 #[.pointer (some ⟨b, o, none⟩)] w fun e w' => e = .returned (.bool (soOk s a r)) ∧ Below w.heap.size w w' := by
  obtain ⟨c0, c1, c2⟩ := hc
  cases hn : isNm s
  · skip
    have HE := Lib.hid (show soOk s a r = false by simp [soOk, hn])
    go_enter Tryd.func32, Tryd.ntmps32
    go_wp2_with (first
          | (go_at_call 56; (with_reducible refine (l01Name_any s _ hs).mono ?_); rintro e w' ⟨rfl, rfl⟩)
          | (go_at_call 49; (with_reducible refine (l00In_any _ _ _ _).mono ?_); rintro e w' ⟨rfl, rfl⟩))
    go_ret
    exact ⟨ret_bool (by first | exact HE.out.symm | (simp only [hn]; exact HE.out.symm)), Below.refl _ _⟩
  · cases j1 : inB a 0 23
    · skip
      have HE := Lib.hid (show soOk s a r = false by simp [soOk, j1])
      go_enter Tryd.func32, Tryd.ntmps32
      go_wp2_with (first
            | (go_at_call 56; (with_reducible refine (l01Name_any s _ hs).mono ?_); rintro e w' ⟨rfl, rfl⟩)
            | (go_at_call 49; (with_reducible refine (l00In_any _ _ _ _).mono ?_); rintro e w' ⟨rfl, rfl⟩))
      go_ret
      exact ⟨ret_bool (by first | exact HE.out.symm | (simp only [j1]; exact HE.out.symm)), Below.refl _ _⟩
    · cases j2 : inB r 0 10000000
      · skip
        have HE := Lib.hid (show soOk s a r = false by simp [soOk, j2])
        go_enter Tryd.func32, Tryd.ntmps32
        go_wp2_with (first
              | (go_at_call 56; (with_reducible refine (l01Name_any s _ hs).mono ?_); rintro e w' ⟨rfl, rfl⟩)
              | (go_at_call 49; (with_reducible refine (l00In_any _ _ _ _).mono ?_); rintro e w' ⟨rfl, rfl⟩))
        go_ret
        exact ⟨ret_bool (by first | exact HE.out.symm | (simp only [j2]; exact HE.out.symm)), Below.refl _ _⟩
      · skip
        have HE := Lib.hid (show soOk s a r = true by simp [soOk, hn, j1, j2])
        go_enter Tryd.func32, Tryd.ntmps32
        go_wp2_with (first
              | (go_at_call 56; (with_reducible refine (l01Name_any s _ hs).mono ?_); rintro e w' ⟨rfl, rfl⟩)
              | (go_at_call 49; (with_reducible refine (l00In_any _ _ _ _).mono ?_); rintro e w' ⟨rfl, rfl⟩))
        go_ret
        exact ⟨ret_bool (by first | exact HE.out.symm | (simp only [hn, j1, j2]; exact HE.out.symm)), Below.refl _ _⟩
theorem isRate_any' (n : Int) (w : World) : Calls Tryd.prog 60 #[.int .i64 n] w fun e w' => e = .returned (.bool (inB n 0 10000000)) ∧ Below w.heap.size w w' := by
  go_enter Tryd.func60, Tryd.ntmps60
  go_wp2_with (go_at_call 59; (with_reducible refine (within64_one _ _ _ _ _ _ (by simp)).mono ?_); rintro e w' ⟨rfl, rfl⟩)
  go_ret
  exact ⟨rfl, below_box _ _⟩
set_option maxHeartbeats 1000000 in
theorem soValid_any (s : ByteArray) (a r : Int) (w : World) (hs : s.size ≤ maxLen) :
    Calls Tryd.prog 34 #[.agg #[.string s, .int .i64 a, .int .i64 r]] w fun e w' => e = .returned (.bool (soOk s a r)) ∧ Below w.heap.size w w' := by
  cases hn : isNm s
  · skip
    have HE := Lib.hid (show soOk s a r = false by simp [soOk, hn])
    go_enter Tryd.func34, Tryd.ntmps34
    go_wp2_with fail
    (with_reducible refine (iIsName_any s _ hs).mono ?_)
    rintro e w1 ⟨rfl, hd⟩
    have HB1 := Lib.hid (show Below w.heap.size w w1 from (below_box _ _).trans (hd.mono (by simp)))
    have hz : w.heap.size < w1.heap.size := Nat.lt_of_lt_of_le (by simp) hd.size
    have k1 : w1.cell? ⟨w.heap.size, 1, none⟩ = some (.int .i64 a) := (hd.cell (by simp)).trans (by simp)
    have k2 : w1.cell? ⟨w.heap.size, 2, none⟩ = some (.int .i64 r) := (hd.cell (by simp)).trans (by simp)
    have hn1 : ¬ (w.heap.size = w1.heap.size) := by omega
    clear hd
    go_wp2
    go_ret
    exact ⟨ret_bool (by first | exact HE.out.symm | (simp only [hn]; exact HE.out.symm)), HB1.out⟩
  · cases j1 : inB a 0 23
    · skip
      have HE := Lib.hid (show soOk s a r = false by simp [soOk, j1])
      go_enter Tryd.func34, Tryd.ntmps34
      go_wp2_with fail
      (with_reducible refine (iIsName_any s _ hs).mono ?_)
      rintro e w1 ⟨rfl, hd⟩
      have HB1 := Lib.hid (show Below w.heap.size w w1 from (below_box _ _).trans (hd.mono (by simp)))
      have hz : w.heap.size < w1.heap.size := Nat.lt_of_lt_of_le (by simp) hd.size
      have k1 : w1.cell? ⟨w.heap.size, 1, none⟩ = some (.int .i64 a) := (hd.cell (by simp)).trans (by simp)
      have k2 : w1.cell? ⟨w.heap.size, 2, none⟩ = some (.int .i64 r) := (hd.cell (by simp)).trans (by simp)
      have hn1 : ¬ (w.heap.size = w1.heap.size) := by omega
      clear hd
      go_wp2_with fail
      (with_reducible refine (within64_oneB _ _ _ w1 _ _ (by simp)).mono ?_)
      rintro e w2 ⟨rfl, hd⟩
      have HB2 := Lib.hid (HB1.out.trans (hd.mono HB1.out.size))
      have m2 := (hd.cell (World.block_lt_of_cell? _ _ k2)).trans k2
      clear hd
      go_wp2
      go_ret
      exact ⟨ret_bool (by first | exact HE.out.symm | (simp only [j1]; exact HE.out.symm)), HB2.out⟩
    · cases j2 : inB r 0 10000000
      · skip
        have HE := Lib.hid (show soOk s a r = false by simp [soOk, j2])
        go_enter Tryd.func34, Tryd.ntmps34
        go_wp2_with fail
        (with_reducible refine (iIsName_any s _ hs).mono ?_)
        rintro e w1 ⟨rfl, hd⟩
        have HB1 := Lib.hid (show Below w.heap.size w w1 from (below_box _ _).trans (hd.mono (by simp)))
        have hz : w.heap.size < w1.heap.size := Nat.lt_of_lt_of_le (by simp) hd.size
        have k1 : w1.cell? ⟨w.heap.size, 1, none⟩ = some (.int .i64 a) := (hd.cell (by simp)).trans (by simp)
        have k2 : w1.cell? ⟨w.heap.size, 2, none⟩ = some (.int .i64 r) := (hd.cell (by simp)).trans (by simp)
        have hn1 : ¬ (w.heap.size = w1.heap.size) := by omega
        clear hd
        go_wp2_with fail
        (with_reducible refine (within64_oneB _ _ _ w1 _ _ (by simp)).mono ?_)
        rintro e w2 ⟨rfl, hd⟩
        have HB2 := Lib.hid (HB1.out.trans (hd.mono HB1.out.size))
        have m2 := (hd.cell (World.block_lt_of_cell? _ _ k2)).trans k2
        clear hd
        go_wp2_with fail
        (with_reducible refine (isRate_any' _ w2).mono ?_)
        rintro e w3 ⟨rfl, hd⟩
        have HB3 := Lib.hid (HB2.out.trans (hd.mono HB2.out.size))
        clear hd
        go_wp2
        go_ret
        exact ⟨ret_bool (by first | exact HE.out.symm | (simp only [j2]; exact HE.out.symm)), HB3.out⟩
      · skip
        have HE := Lib.hid (show soOk s a r = true by simp [soOk, hn, j1, j2])
        go_enter Tryd.func34, Tryd.ntmps34
        go_wp2_with fail
        (with_reducible refine (iIsName_any s _ hs).mono ?_)
        rintro e w1 ⟨rfl, hd⟩
        have HB1 := Lib.hid (show Below w.heap.size w w1 from (below_box _ _).trans (hd.mono (by simp)))
        have hz : w.heap.size < w1.heap.size := Nat.lt_of_lt_of_le (by simp) hd.size
        have k1 : w1.cell? ⟨w.heap.size, 1, none⟩ = some (.int .i64 a) := (hd.cell (by simp)).trans (by simp)
        have k2 : w1.cell? ⟨w.heap.size, 2, none⟩ = some (.int .i64 r) := (hd.cell (by simp)).trans (by simp)
        have hn1 : ¬ (w.heap.size = w1.heap.size) := by omega
        clear hd
        go_wp2_with fail
        (with_reducible refine (within64_oneB _ _ _ w1 _ _ (by simp)).mono ?_)
        rintro e w2 ⟨rfl, hd⟩
        have HB2 := Lib.hid (HB1.out.trans (hd.mono HB1.out.size))
        have m2 := (hd.cell (World.block_lt_of_cell? _ _ k2)).trans k2
        clear hd
        go_wp2_with fail
        (with_reducible refine (isRate_any' _ w2).mono ?_)
        rintro e w3 ⟨rfl, hd⟩
        have HB3 := Lib.hid (HB2.out.trans (hd.mono HB2.out.size))
        clear hd
        go_wp2
        go_ret
        exact ⟨ret_bool (by first | exact HE.out.symm | (simp only [hn, j1, j2]; exact HE.out.symm)), HB3.out⟩
end Go.Proofs.YthbofhlfggkolaaDoor
