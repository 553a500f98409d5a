/-
  Contracts of chapter 3: the text of an airway; the model's and the program's. Conditions: those that each theorem states.
-/
import Derived.Test.YtkldgmgjbboiaacDoorSc
import Derived.Test.YtkldgmgjbboiaacDoorDd
import Derived.Deep.RegionHeld3
namespace Go.Proofs.YtkldgmgjbboiaacDoor
open Go.RowKit
set_option linter.unusedVariables false

/-- What AirwayText returns. -/
def awT (s : ByteArray) (f t l se fr sh : Int) : ByteArray := if awOk s f t l se fr sh then s ++ ⟨#[32]⟩ ++ ⟨(commas [f, t, l, se, fr, sh]).toArray⟩ else ⟨#[]⟩
theorem isNm_size {s : ByteArray} (h : isNm s = true) : s.size ≤ 10 := by
  simp only [isNm, Bool.and_eq_true, decide_eq_true_eq] at h
  exact h.1.1.2
theorem aw_in {s : ByteArray} {f t l se fr sh : Int} (hok : awOk s f t l se fr sh = true) : ∀ y ∈ [f, t, l, se, fr, sh], -1000000000000 ≤ y ∧ y ≤ 1000000000000 := by
  obtain ⟨_, ⟨b1, b2⟩, b3, b4, b5, b6⟩ := awOk_bd hok
  intro y hy
  simp only [List.mem_cons, List.not_mem_nil, or_false] at hy
  rcases hy with rfl | rfl | rfl | rfl | rfl | rfl <;> omega
theorem aw_fits {s : ByteArray} {f t l se fr sh : Int} (hok : awOk s f t l se fr sh = true) : listT [f, t, l, se, fr, sh] = commas [f, t, l, se, fr, sh] := by
  have hf : fitsL [f, t, l, se, fr, sh] = true := by rw [fitsL_iff]; exact ⟨aw_in hok, by simp⟩
  unfold listT
  rw [hf]
  rfl
theorem aw_len {s : ByteArray} {f t l se fr sh : Int} (hok : awOk s f t l se fr sh = true) : (commas [f, t, l, se, fr, sh]).length ≤ 132 := by
  have := commas_len [f, t, l, se, fr, sh] (fun y hy => by have := aw_in hok y hy; omega)
  simpa using this
theorem str_add {x y : ByteArray} (h : x.size + y.size ≤ 1000) : Op.stringOp .add x y = pure (.string (x ++ y)) := by
  unfold Op.stringOp
  simp only []
  rw [if_neg (by simp [IntKind.max, IntKind.bits, IntKind.signed]; omega)]
theorem aw_lt {w : World} {b : Nat} {s : ByteArray} {f t l se fr sh : Int} (h : AwAt w b s f t l se fr sh) : b < w.heap.size := World.block_lt_of_cell? _ _ h.1.1
theorem l01List_held (b : Nat) (s : ByteArray) (f t l se fr sh : Int) (L : List UInt8) (w0 w : World) (v : Value) (hL : commas [f, t, l, se, fr, sh] = L) (hok : awOk s f t l se fr sh = true) (hrow : Row .i64 w v [f, t, l, se, fr, sh]) (hc : AwAt w b s f t l se fr sh) (hb : Below w0.heap.size w0 w) :
    Calls Tryd.prog 72 #[v] w fun e w' => e = .returned (.string ⟨L.toArray⟩) ∧ ((w'.cell? ⟨b, 0, none⟩ = some (.string s) ∧ w'.cell? ⟨b, 1, none⟩ = some (.int .i64 f) ∧ w'.cell? ⟨b, 2, none⟩ = some (.int .i64 t) ∧ w'.cell? ⟨b, 3, none⟩ = some (.int .i64 l)) ∧ w'.cell? ⟨b, 4, none⟩ = some (.int .i64 se) ∧ w'.cell? ⟨b, 5, none⟩ = some (.int .i64 fr) ∧ w'.cell? ⟨b, 6, none⟩ = some (.int .i64 sh)) ∧ Below w0.heap.size w0 w' :=
  hL ▸ (l01List_any v [f, t, l, se, fr, sh] w hrow (by simp) (by simp) (fun y hy => by have := aw_in hok y hy; omega)).mono fun _ _ ⟨e, hb'⟩ => ⟨e, hc.below hb' (aw_lt hc), hb.trans (hb'.mono hb.size)⟩
theorem iList_held (b : Nat) (s : ByteArray) (f t l se fr sh : Int) (L : List UInt8) (w0 w : World) (A0 : Option Addr) (hL : commas [f, t, l, se, fr, sh] = L) (hok : awOk s f t l se fr sh = true) (hrow : Row .i64 w (.slice A0 6 6) [f, t, l, se, fr, sh]) (hc : AwAt w b s f t l se fr sh) (hb : Below w0.heap.size w0 w) (hP : Pow w) :
    Calls Tryd.prog 24 #[.slice A0 6 6] w fun e w' => e = .returned (.string ⟨L.toArray⟩) ∧ ((w'.cell? ⟨b, 0, none⟩ = some (.string s) ∧ w'.cell? ⟨b, 1, none⟩ = some (.int .i64 f) ∧ w'.cell? ⟨b, 2, none⟩ = some (.int .i64 t) ∧ w'.cell? ⟨b, 3, none⟩ = some (.int .i64 l)) ∧ w'.cell? ⟨b, 4, none⟩ = some (.int .i64 se) ∧ w'.cell? ⟨b, 5, none⟩ = some (.int .i64 fr) ∧ w'.cell? ⟨b, 6, none⟩ = some (.int .i64 sh)) ∧ Below w0.heap.size w0 w' :=
  hL ▸ aw_fits hok ▸ (iListText_any (.slice A0 6 6) [f, t, l, se, fr, sh] w hrow (by simp) hP (by intro a n c e; cases e; exact Nat.le_refl _)).mono fun _ _ ⟨e, hb'⟩ => ⟨e, hc.below hb' (aw_lt hc), hb.trans (hb'.mono hb.size)⟩
set_option maxHeartbeats 2000000 in
theorem l03Text_any (b : Nat) (s : ByteArray) (f t l se fr sh : Int) (w : World) (hok : awOk s f t l se fr sh = true) (hc : AwAt w b s f t l se fr sh) :
    Calls Tryd.prog 41 #[.pointer (some ⟨b, 0, none⟩)] w fun e w' => e = .returned (.string (s ++ ⟨#[32]⟩ ++ ⟨(commas [f, t, l, se, fr, sh]).toArray⟩)) ∧ Below w.heap.size w w' := by
  have hs := isNm_size (awOk_bd hok).1.1
  have hl := aw_len hok
  have HOK := Lib.hid hok
  obtain ⟨L, hL⟩ : ∃ L, commas [f, t, l, se, fr, sh] = L := ⟨_, rfl⟩
  rw [hL] at hl ⊢
  have HL := Lib.hid hL
  have hz := aw_lt hc
  have HC0 := Lib.hid (show AwAt w.drew b s f t l se fr sh from hc)
  have HB0 := Lib.hid (show Below w.heap.size w w.drew from Below.drew (Below.refl _ _))
  have HC1 := Lib.hid (show AwAt (w.alloc (.cells #[.int .i64 f, .int .i64 t, .int .i64 l, .int .i64 se, .int .i64 fr, .int .i64 sh] 2)).drew b s f t l se fr sh from hc.below (Below.drew (below_box w _)) hz)
  have HB1 := Lib.hid (show Below w.heap.size w (w.alloc (.cells #[.int .i64 f, .int .i64 t, .int .i64 l, .int .i64 se, .int .i64 fr, .int .i64 sh] 2)).drew from Below.drew (below_box w _))
  have HR1 := Lib.hid (show Row .i64 (w.alloc (.cells #[.int .i64 f, .int .i64 t, .int .i64 l, .int .i64 se, .int .i64 fr, .int .i64 sh] 2)).drew (.slice (some ⟨w.heap.size, 0, none⟩) 6 6) [f, t, l, se, fr, sh] from row_alloc .i64 w [f, t, l, se, fr, sh] 2 6)
  obtain ⟨⟨c0, c1, c2, c3⟩, c4, c5, c6⟩ := hc
  have hl2 : (⟨L.toArray⟩ : ByteArray).size ≤ 132 := by show L.toArray.size ≤ 132; simpa using hl
  have hs2 : (s ++ (⟨#[32]⟩ : ByteArray)).size ≤ 11 := by rw [ByteArray.size_append]; show s.size + 1 ≤ 11; omega
  have e1 := str_add (x := s) (y := ⟨#[32]⟩) (by show s.size + 1 ≤ 1000; omega)
  have e2 := str_add (x := s ++ ⟨#[32]⟩) (y := ⟨L.toArray⟩) (by omega)
  have e3 : binOp .add 9 (.string s) (.string ⟨#[32]⟩) = pure (.string (s ++ ⟨#[32]⟩)) := (binOp_string_add _ _ _).trans e1
  have e4 : binOp .add 9 (.string (s ++ ⟨#[32]⟩)) (.string ⟨L.toArray⟩) = pure (.string (s ++ ⟨#[32]⟩ ++ ⟨L.toArray⟩)) := (binOp_string_add _ _ _).trans e2
  clear hok hL
  go_enter Tryd.func41, Tryd.ntmps41
  go_wp2
  go_region_held3 (fun w' => ((w'.cell? ⟨b, 0, none⟩ = some (.string s) ∧ w'.cell? ⟨b, 1, none⟩ = some (.int .i64 f) ∧ w'.cell? ⟨b, 2, none⟩ = some (.int .i64 t) ∧ w'.cell? ⟨b, 3, none⟩ = some (.int .i64 l)) ∧ w'.cell? ⟨b, 4, none⟩ = some (.int .i64 se) ∧ w'.cell? ⟨b, 5, none⟩ = some (.int .i64 fr) ∧ w'.cell? ⟨b, 6, none⟩ = some (.int .i64 sh)) ∧ Below w.heap.size w w')
    (first
      | exact ⟨s1, hb1⟩
      | exact ⟨HC0.out, HB0.out⟩
      | exact ⟨HC1.out, HB1.out⟩
      | go_keep)
    ((first
    | (go_at_call 72; refine (l01List_held b s f t l se fr sh L w _ _ HL.out HOK.out HR1.out HC1.out HB1.out).mono ?_; rintro e w2 ⟨rfl, s1, hb1⟩)))
  all_goals
    go_wp2
    go_ret
    exact ⟨rfl, hb1⟩
theorem sAirwayText_any (s : ByteArray) (f t l se fr sh : Int) (w : World) (hs : s.size ≤ maxLen) :
    Calls Tryd.prog 10 #[.agg #[.string s, .int .i64 f, .int .i64 t, .int .i64 l, .int .i64 se, .int .i64 fr, .int .i64 sh]] w fun e w' => e = .returned (.string (awT s f t l se fr sh)) ∧ Below w.heap.size w w' := by
  cases hok : awOk s f t l se fr sh
  · have HE := Lib.hid (show awT s f t l se fr sh = ⟨#[]⟩ by simp [awT, hok])
    go_enter Tryd.func10, Tryd.ntmps10
    go_wp2_with (first
          | (go_at_call 40; (with_reducible refine (l03Ok_below w.heap.size s f t l se fr sh (w.alloc (.cells #[.string s, .int .i64 f, .int .i64 t, .int .i64 l, .int .i64 se, .int .i64 fr, .int .i64 sh] 26)) hs (boxed s f t l se fr sh w)).mono ?_); rintro e w1 ⟨rfl, hd1⟩; have hb1 := hd1; obtain ⟨hc1, hf1⟩ := bcell hb1; have hz1 : w.heap.size < w1.heap.size := Nat.lt_of_lt_of_le (by first | (simp; done) | (simp; omega)) hb1.size; clear hd1))
    go_ret
    exact ⟨by rw [HE.out]; rfl, (show Below w.heap.size w w1 from (below_box _ _).trans (hb1.mono (by simp)))⟩
  · have HE := Lib.hid (show awT s f t l se fr sh = s ++ ⟨#[32]⟩ ++ ⟨(commas [f, t, l, se, fr, sh]).toArray⟩ by simp [awT, hok])
    have HOK := Lib.hid hok
    go_enter Tryd.func10, Tryd.ntmps10
    go_wp2_with (first
          | (go_at_call 40; (with_reducible refine (l03Ok_below w.heap.size s f t l se fr sh (w.alloc (.cells #[.string s, .int .i64 f, .int .i64 t, .int .i64 l, .int .i64 se, .int .i64 fr, .int .i64 sh] 26)) hs (boxed s f t l se fr sh w)).mono ?_); rintro e w1 ⟨rfl, hd1⟩; have hb1 := hd1; obtain ⟨hc1, hf1⟩ := bcell hb1; have hz1 : w.heap.size < w1.heap.size := Nat.lt_of_lt_of_le (by first | (simp; done) | (simp; omega)) hb1.size; clear hd1)
          | (go_at_call 41; (with_reducible refine (l03Text_any w.heap.size s f t l se fr sh w1 HOK.out ((boxed s f t l se fr sh w).below hb1 (by simp))).mono ?_); rintro e w2 ⟨rfl, hd2⟩; have hb2 := hb1.trans (hd2.mono hb1.size); obtain ⟨hc2, hf2⟩ := bcell hb2; have hz2 : w.heap.size < w2.heap.size := Nat.lt_of_lt_of_le (by first | (simp; done) | (simp; omega)) hb2.size; clear hd2))
    go_ret
    exact ⟨by rw [HE.out]; rfl, (show Below w.heap.size w w2 from (below_box _ _).trans (hb2.mono (by simp)))⟩
set_option maxHeartbeats 2000000 in
theorem iAirwayText_any (s : ByteArray) (f t l se fr sh : Int) (w : World) (hs : s.size ≤ maxLen) (hP : Pow w) :
    Calls Tryd.prog 12 #[.agg #[.string s, .int .i64 f, .int .i64 t, .int .i64 l, .int .i64 se, .int .i64 fr, .int .i64 sh]] w fun e w' => e = .returned (.string (awT s f t l se fr sh)) ∧ Below w.heap.size w w' := by
  have HP := Lib.hid hP
  clear hP
  cases hok : awOk s f t l se fr sh
  · have HE := Lib.hid (show awT s f t l se fr sh = ⟨#[]⟩ by simp [awT, hok])
    go_enter Tryd.func12, Tryd.ntmps12
    go_wp2_with (first
          | (go_at_call 42; (with_reducible refine (iValidAirway_any s f t l se fr sh (w.alloc (.cells #[.string s, .int .i64 f, .int .i64 t, .int .i64 l, .int .i64 se, .int .i64 fr, .int .i64 sh] 26)) hs).mono ?_); rintro e w1 ⟨rfl, hd1⟩; have hb1 := hd1; obtain ⟨hc1, hf1⟩ := bcell hb1; have hz1 : w.heap.size < w1.heap.size := Nat.lt_of_lt_of_le (by first | (simp; done) | (simp; omega)) hb1.size; clear hd1))
    go_ret
    exact ⟨by rw [HE.out]; rfl, (show Below w.heap.size w w1 from (below_box _ _).trans (hb1.mono (by simp)))⟩
  · have hsz := isNm_size (awOk_bd hok).1.1
    have hl := aw_len hok
    obtain ⟨L, hL⟩ : ∃ L, commas [f, t, l, se, fr, sh] = L := ⟨_, rfl⟩
    have HE := Lib.hid (show awT s f t l se fr sh = s ++ ⟨#[32]⟩ ++ ⟨L.toArray⟩ by rw [← hL]; simp [awT, hok])
    rw [hL] at hl
    have HL := Lib.hid hL
    clear hL
    have HOK := Lib.hid hok
    go_enter Tryd.func12, Tryd.ntmps12
    go_wp2_with (first
          | (go_at_call 42; (with_reducible refine (iValidAirway_any s f t l se fr sh (w.alloc (.cells #[.string s, .int .i64 f, .int .i64 t, .int .i64 l, .int .i64 se, .int .i64 fr, .int .i64 sh] 26)) hs).mono ?_); rintro e w1 ⟨rfl, hd1⟩; have hb1 := hd1; obtain ⟨hc1, hf1⟩ := bcell hb1; have hz1 : w.heap.size < w1.heap.size := Nat.lt_of_lt_of_le (by first | (simp; done) | (simp; omega)) hb1.size; clear hd1))
    have hB := (show Below w.heap.size w w1 from (below_box _ _).trans (hb1.mono (by simp)))
    have hc := (boxed s f t l se fr sh w).below hb1 (by simp)
    have hz := aw_lt hc
    have HC0 := Lib.hid (show AwAt w1.drew w.heap.size s f t l se fr sh from hc)
    have HB0 := Lib.hid (show Below w.heap.size w w1.drew from Below.drew hB)
    have HC1 := Lib.hid (show AwAt (w1.alloc (.cells #[.int .i64 f, .int .i64 t, .int .i64 l, .int .i64 se, .int .i64 fr, .int .i64 sh] 2)).drew w.heap.size s f t l se fr sh from hc.below (Below.drew (below_box w1 _)) hz)
    have HB1 := Lib.hid (show Below w.heap.size w (w1.alloc (.cells #[.int .i64 f, .int .i64 t, .int .i64 l, .int .i64 se, .int .i64 fr, .int .i64 sh] 2)).drew from Below.drew (hB.alloc hB.size _))
    have HR1 := Lib.hid (show Row .i64 (w1.alloc (.cells #[.int .i64 f, .int .i64 t, .int .i64 l, .int .i64 se, .int .i64 fr, .int .i64 sh] 2)).drew (.slice (some ⟨w1.heap.size, 0, none⟩) 6 6) [f, t, l, se, fr, sh] from row_alloc .i64 w1 [f, t, l, se, fr, sh] 2 6)
    obtain ⟨⟨c0, c1, c2, c3⟩, c4, c5, c6⟩ := hc
    have hl2 : (⟨L.toArray⟩ : ByteArray).size ≤ 132 := by show L.toArray.size ≤ 132; simpa using hl
    have hs2 : (s ++ (⟨#[32]⟩ : ByteArray)).size ≤ 11 := by rw [ByteArray.size_append]; show s.size + 1 ≤ 11; omega
    have e1 := str_add (x := s) (y := ⟨#[32]⟩) (by show s.size + 1 ≤ 1000; omega)
    have e2 := str_add (x := s ++ ⟨#[32]⟩) (y := ⟨L.toArray⟩) (by omega)
    have e3 : binOp .add 9 (.string s) (.string ⟨#[32]⟩) = pure (.string (s ++ ⟨#[32]⟩)) := (binOp_string_add _ _ _).trans e1
    have e4 : binOp .add 9 (.string (s ++ ⟨#[32]⟩)) (.string ⟨L.toArray⟩) = pure (.string (s ++ ⟨#[32]⟩ ++ ⟨L.toArray⟩)) := (binOp_string_add _ _ _).trans e2
    clear hb1 hc1 hf1 hB hok
    go_region_held3 (fun w' => ((w'.cell? ⟨w.heap.size, 0, none⟩ = some (.string s) ∧ w'.cell? ⟨w.heap.size, 1, none⟩ = some (.int .i64 f) ∧ w'.cell? ⟨w.heap.size, 2, none⟩ = some (.int .i64 t) ∧ w'.cell? ⟨w.heap.size, 3, none⟩ = some (.int .i64 l)) ∧ w'.cell? ⟨w.heap.size, 4, none⟩ = some (.int .i64 se) ∧ w'.cell? ⟨w.heap.size, 5, none⟩ = some (.int .i64 fr) ∧ w'.cell? ⟨w.heap.size, 6, none⟩ = some (.int .i64 sh)) ∧ Below w.heap.size w w')
      (first
        | exact ⟨s1, hb1⟩
        | exact ⟨HC0.out, HB0.out⟩
        | exact ⟨HC1.out, HB1.out⟩
        | go_keep)
      ((first
      | (go_at_call 24; refine (iList_held w.heap.size s f t l se fr sh L w _ _ HL.out HOK.out HR1.out HC1.out HB1.out (Pow.below HP.out HB1.out)).mono ?_; rintro e w2 ⟨rfl, s1, hb1⟩)))
    all_goals
      go_wp2
      go_ret
      exact ⟨by rw [HE.out]; rfl, hb1⟩
end Go.Proofs.YtkldgmgjbboiaacDoor
