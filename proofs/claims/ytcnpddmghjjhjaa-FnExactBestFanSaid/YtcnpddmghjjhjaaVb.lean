/-
  Contracts of the laws' helpers on fans: sizes, copies, comparisons. Conditions: those that each theorem states.
-/
import Derived.Test.YtcnpddmghjjhjaaRa
namespace Go.Proofs.Ytcnpddmghjjhjaa
open Go.RowKit
set_option linter.unusedVariables false
set_option linter.unusedSimpArgs false

theorem grown_setC (w : World) (p : Addr) (u : Value) : w.grownBy (w.setCell p u) (some p.block) :=
  ⟨rfl, rfl, rfl, by simp, fun k _ hk => heap_setCell_other w p k u (fun e => hk (by simp [e]))⟩
theorem OwnI.setLow {w : World} {B : Nat} {v : Value} {xs : List Int} (h : OwnI w B v xs) {p : Addr} (hp : p.block < B) (u : Value) : OwnI (w.setCell p u) B v xs := by
  refine h.kept (grown_setC w p u) ?_
  cases e : v.ownBlock with
  | none => exact Or.inl rfl
  | some q =>
    refine Or.inr fun e2 => ?_
    have := (World.ownsRow.lt h q e).1
    injection e2 with e2
    omega
theorem OwnSS.setLow {w : World} {B : Nat} {v : Value} {xs : List (List Int)} (h : OwnSS w B v xs) {p : Addr} (hp : p.block < B) (u : Value) : OwnSS (w.setCell p u) B v xs := by
  obtain ⟨vs, h1, h2, h3⟩ := h
  refine ⟨vs, h1.kept (grown_setC w p u) ?_, ⟨h2.len, fun k a b => (h2.own k a b).setLow hp u, h2.apart⟩, h3⟩
  cases e : v.ownBlock with
  | none => exact Or.inl rfl
  | some q =>
    refine Or.inr fun e2 => ?_
    have := (World.ownsRow.lt h1 q e).1
    injection e2 with e2
    omega
theorem OwnSS.mono {w : World} {B B' : Nat} {v : Value} {xs : List (List Int)} (h : OwnSS w B v xs) (hb : B' ≤ B) : OwnSS w B' v xs := by
  obtain ⟨vs, h1, h2, h3⟩ := h
  exact ⟨vs, ⟨h1.1, h1.2.imp id fun ⟨g, cap, cur, e, hg, r⟩ => ⟨g, cap, cur, e, Nat.le_trans hb hg, r⟩⟩, h2.mono hb, h3⟩
/-- What is left of a size behind a fan. -/
def szF (left : Int) (s : ByteArray) (xs : List (List Int)) : Int := if left - s.size < 0 then -1 else szSS (left - s.size) xs
theorem szF_le {left : Int} {s : ByteArray} {xs : List (List Int)} (h0 : 0 ≤ left) : -1 ≤ szF left s xs ∧ szF left s xs ≤ left := by
  unfold szF
  split
  · omega
  · have := szSS_le (left := left - s.size) (xs := xs) (by omega); omega
theorem szF_bd {left : Int} {s : ByteArray} {xs : List (List Int)} (h0 : 0 ≤ left) (h : 0 ≤ szF left s xs) : (s.size : Int) ≤ left ∧ (xs.length : Int) ≤ left ∧ ∀ a ∈ xs, (a.length : Int) ≤ left := by
  unfold szF at h
  split at h
  · omega
  · obtain ⟨h1, h2⟩ := szSS_bd (by omega) h
    exact ⟨by omega, by omega, fun a ha => by have := h2 a ha; omega⟩
theorem szFan_any (s : ByteArray) (a : Int) (A : Option Addr) (cap : Nat) (xs : List (List Int)) (left : Int) (w : World) (hs : s.size ≤ maxLen) (hr : RowsR w A xs) (hf : rowsFit xs) (hl : xs.length ≤ maxLen) (h0 : 0 ≤ left ∧ left ≤ 1048576) :
    Calls Try.prog 13 #[.agg #[.string s, .int .i64 a, .slice A xs.length cap], .int .i64 left] w fun e w' => e = .returned (.int .i64 (szF left s xs)) ∧ Below w.heap.size w w' := by
  have HR := Lib.hid (hr.below (below_box w (.cells #[.string s, .int .i64 a, .slice A xs.length cap] 24)))
  have HF := Lib.hid hf
  clear hr hf
  have hs' := hs
  unfold maxLen at hs'
  by_cases h1 : left - s.size < 0
  · have HE := Lib.hid (show szF left s xs = -1 from if_pos h1)
    go_enter Try.func13, Try.ntmps13
    go_wp2
    go_ret
    exact ⟨ret_int HE.out.symm, below_box _ _⟩
  · have hb := szSS_le (left := left - s.size) (xs := xs) (by omega)
    have HE := Lib.hid (show szF left s xs = szSS (left - s.size) xs from if_neg h1)
    by_cases hn : szSS (left - s.size) xs < 0
    · have HN := Lib.hid (show szSS (left - s.size) xs = -1 by omega)
      go_enter Try.func13, Try.ntmps13
      go_wp2_with (go_at_call 41; (with_reducible refine (szInt64SS_any A cap xs (left - s.size) _ HR.out HF.out hl ⟨by omega, by omega⟩).mono ?_); rintro e w1 ⟨rfl, hd⟩)
      go_ret
      exact ⟨ret_int (by rw [HE.out, HN.out]), (below_box _ _).trans (hd.mono (by simp))⟩
    · go_enter Try.func13, Try.ntmps13
      go_wp2_with (go_at_call 41; (with_reducible refine (szInt64SS_any A cap xs (left - s.size) _ HR.out HF.out hl ⟨by omega, by omega⟩).mono ?_); rintro e w1 ⟨rfl, hd⟩)
      go_ret
      exact ⟨ret_int HE.out.symm, (below_box _ _).trans (hd.mono (by simp))⟩
set_option maxHeartbeats 1000000 in
theorem toFan_own (s : ByteArray) (a : Int) (A : Option Addr) (cap : Nat) (xs : List (List Int)) (w : World) (hr : RowsR w A xs) (hl : xs.length ≤ 1048576) (hs : ∀ r ∈ xs, r.length ≤ 1048576) :
    Calls Try.prog 15 #[.agg #[.string s, .int .i64 a, .slice A xs.length cap]] w fun e w' => ∃ g, e = .returned (.agg #[.string s, .int .i64 a, .slice (some ⟨g, 0, none⟩) xs.length xs.length]) ∧ OwnSS w' w.heap.size (.slice (some ⟨g, 0, none⟩) xs.length xs.length) xs ∧ Below w.heap.size w w' := by
  have hB0 : Below w.heap.size w (((w.alloc (.cells #[.string s, .int .i64 a, .slice A xs.length cap] 24)).alloc (.cells #[.string ⟨#[]⟩, .int .i64 0, .slice none 0 0] 27)).alloc (.cells #[.string s, .int .i64 a, .slice none 0 0] 27)) := (by repeat (first | (with_reducible exact Below.refl _ _) | (with_reducible refine below_drewN' ?_ _) | (with_reducible refine Below.alloc ?_ (by simp <;> omega) _) | (with_reducible refine Below.setCell ?_ (by simp) _)))
  have HB0 := Lib.hid hB0
  have HR := Lib.hid (hr.below hB0)
  have HS := Lib.hid hs
  clear hr hB0 hs
  go_enter Try.func15, Try.ntmps15
  go_wp2_with fail
  refine (toInt64SS_own A cap xs _ HR.out hl HS.out).mono ?_
  rintro e w1 ⟨g, rfl, hO, hd⟩
  have hz : w.heap.size + 3 ≤ w1.heap.size := by have := hd.size; simp at this; omega
  have HO := Lib.hid (show OwnSS w1 (w.heap.size + 3) (.slice (some ⟨g, 0, none⟩) xs.length xs.length) xs from hO.mono (by simp))
  obtain ⟨hc, hf⟩ := bcell hd
  have HB1 := Lib.hid (HB0.out.trans (hd.mono HB0.out.size))
  clear hO hd
  go_wp2
  refine bodyPost_ret (v := .agg #[.string s, .int .i64 a, .slice (some ⟨g, 0, none⟩) xs.length xs.length]) (by simp [results, Try.results15, go_sem, hc]) rfl ⟨g, rfl, ?_, ?_⟩
  · refine OwnSS.mono (B := w.heap.size + 3) ?_ (by omega)
    repeat (first | exact HO.out | refine OwnSS.setLow ?_ (by first | (simp; done) | (simp; omega)) _)
  · repeat (first | exact HB1.out | refine Below.setCell ?_ (by first | (simp; done) | (simp; omega)) _)
theorem eqFan_same (s : ByteArray) (a : Int) (A A' : Option Addr) (cap cap' : Nat) (xs : List (List Int)) (w : World) (hr : RowsR w A xs) (hr' : RowsR w A' xs) (hl : xs.length ≤ 1048576) (hs : ∀ r ∈ xs, r.length ≤ 1048576) :
    Calls Try.prog 17 #[.agg #[.string s, .int .i64 a, .slice A xs.length cap], .agg #[.string s, .int .i64 a, .slice A' xs.length cap']] w fun e w' => e = .returned (.bool true) ∧ Below w.heap.size w w' := by
  have hB : Below w.heap.size w ((w.alloc (.cells #[.string s, .int .i64 a, .slice A xs.length cap] 27)).alloc (.cells #[.string s, .int .i64 a, .slice A' xs.length cap'] 27)) := (by repeat (first | (with_reducible exact Below.refl _ _) | (with_reducible refine below_drewN' ?_ _) | (with_reducible refine Below.alloc ?_ (by simp <;> omega) _) | (with_reducible refine Below.setCell ?_ (by simp) _)))
  have HB := Lib.hid hB
  have HR := Lib.hid (hr.below hB)
  have HR' := Lib.hid (hr'.below hB)
  have HS := Lib.hid hs
  clear hr hr' hB hs
  go_enter Try.func17, Try.ntmps17
  go_wp2_with (first | (go_at_call 48; (with_reducible refine (eqInt64SS_w A A' cap cap' xs _ HR.out HR'.out hl HS.out).mono ?_); rintro e w1 ⟨rfl, hd⟩))
  go_ret
  exact ⟨rfl, HB.out.trans (hd.mono HB.out.size)⟩
end Go.Proofs.Ytcnpddmghjjhjaa
