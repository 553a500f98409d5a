/-
  Contracts of chapter 3: resistances, volumes, speeds, times, limits of flows, airways that are turned; the model's and the program's. Conditions: those that each theorem states.
-/
import Derived.Test.YtddfhjolimkkmaaDr
namespace Go.Proofs.Ytddfhjolimkkmaa
open Go.RowKit
set_option linter.unusedVariables false
set_option linter.unusedSimpArgs false

theorem max1_cases (x : Int) (h : 0 ≤ x) : (x ≤ 0 ∧ max1 x = 1) ∨ (x = 1 ∧ max1 x = 1) ∨ (1 < x ∧ max1 x = x) := by unfold max1; split <;> omega
theorem boxed (s : ByteArray) (f t l se fr sh : Int) (w : World) : AwAt (w.alloc (.cells #[.string s, .int .i64 f, .int .i64 t, .int .i64 l, .int .i64 se, .int .i64 fr, .int .i64 sh] 138)) w.heap.size s f t l se fr sh := by unfold AwAt; simp
/-- An airway's cells stay where nothing old has changed. -/
theorem AwAt.below {w w' : World} {b : Nat} {s : ByteArray} {f t l se fr sh : Int} (h : AwAt w b s f t l se fr sh) (hb : Below w.heap.size w w') (hs : b < w.heap.size) : AwAt w' b s f t l se fr sh := by
  obtain ⟨⟨c0, c1, c2, c3⟩, c4, c5, c6⟩ := h
  have hc := (bcell hb).1
  exact ⟨⟨(hc _ _ hs).trans c0, (hc _ _ hs).trans c1, (hc _ _ hs).trans c2, (hc _ _ hs).trans c3⟩, (hc _ _ hs).trans c4, (hc _ _ hs).trans c5, (hc _ _ hs).trans c6⟩
theorem below_drew {w w' : World} {n : Nat} (h : w' = w.drewN n) : Below w.heap.size w w' := h ▸ below_drewN' (Below.refl _ _) n
theorem l03Ok_below (b : Nat) (s : ByteArray) (f t l se fr sh : Int) (w : World) (hs : s.size ≤ maxLen) (hc : AwAt w b s f t l se fr sh) :
    Calls Try.prog 165 #[.pointer (some ⟨b, 0, none⟩)] w fun e w' => e = .returned (.bool (awOk s f t l se fr sh)) ∧ Below w.heap.size w w' :=
  (l03Ok_any b s f t l se fr sh w hs hc).mono fun _ _ ⟨h, _, e⟩ => ⟨h, below_drew e⟩
theorem resistance_any (s : ByteArray) (f t l se fr sh : Int) (w : World) (hok : awOk s f t l se fr sh = true) :
    Calls Try.prog 168 #[.agg #[.string s, .int .i64 f, .int .i64 t, .int .i64 l, .int .i64 se, .int .i64 fr, .int .i64 sh]] w fun e w' => e = .returned (.int .i64 (max1 (rawR l fr sh se))) ∧ Below w.heap.size w w' := by
  obtain ⟨_, _, h1, h4, h2, h3⟩ := awOk_bd hok
  have hr := raw_nonneg h1 h2 h3 h4
  have HQ := Lib.hid (show rawR l fr sh se = divR (fr * (l + sh) * rootR (se * 10000) * 400000) (se * se * se) from rfl)
  obtain ⟨⟨⟨r1, r2⟩, a1, a2⟩, ⟨b1, b2⟩, ⟨d1, d2⟩, e1, e2⟩ := raw_bds h1 h2 h3 h4
  rcases max1_cases _ hr.1 with ⟨hx, hm⟩ | ⟨hx, hm⟩ | ⟨hx, hm⟩
  all_goals
    have HE := Lib.hid hm
    have HX := Lib.hid hx
    clear hm hx hok
    go_enter Try.func168, Try.ntmps168
    go_wp2_with (first
      | (go_at_call 146; refine (iRootOf_any _ _ ⟨by omega, by omega⟩).mono ?_; rintro e w' ⟨rfl, rfl⟩)
      | (go_at_call 143; refine (nearest_any _ _ _ (by omega) (by omega) (by omega) (by omega)).mono ?_; rw [← HQ.out]; have hx := HX.out; rintro e w' ⟨rfl, n, rfl⟩))
    go_ret
    exact ⟨ret_int (by rw [HE.out]; try omega), (by repeat (first | (with_reducible exact Below.refl _ _) | (with_reducible refine below_drewN' ?_ _) | (with_reducible refine Below.alloc ?_ (by simp <;> omega) _) | (with_reducible refine Below.setCell ?_ (by simp) _)))⟩
end Go.Proofs.Ytddfhjolimkkmaa
