/-
  Contracts of the model's draws of chapter 8: what is drawn lies in its range. Conditions: those that each theorem states.
-/
import Derived.Test.YtmjinanapihkoaaIb
import Derived.Test.YtmjinanapihkoaaIc
import Derived.Test.YtmjinanapihkoaaYa
namespace Go.Proofs.Ytmjinanapihkoaa
open Go.RowKit
set_option linter.unusedVariables false
set_option linter.unusedSimpArgs false

set_option maxHeartbeats 1000000 in
theorem l03DrawRes_any (B b : Nat) (a : Option Addr) (len cap : Nat) (at' seed top : Int) (w : World) (hs : SrcB w b a len cap at' seed) (hB : B ≤ b) (hy : BytB B w a len) (hl : len ≤ 1048576) (h1 : 0 ≤ at' ∧ at' ≤ top) (ht : top ≤ 800000) (h2 : 0 ≤ seed ∧ seed ≤ 18446744073709551615) :
    Calls Try.prog 64 #[.pointer (some ⟨b, 0, none⟩)] w (Drew (0) 1000001 B b a len cap (top + 4) w) := by
  have HS := Lib.hid hs
  have HY := Lib.hid hy
  clear hs hy
  go_enter Try.func64, Try.ntmps64
  go_wp2_with fail
  refine (pick_any 60000 (by omega) B b a len cap at' seed top w HS.out hB HY.out hl h1 (by omega) h2).mono ?_
  rintro e w1 ⟨x0, at1, seed1, hx1, ha1, hs1, rfl, hS1, hB1, hO1⟩
  have HS1 := Lib.hid hS1
  have HB1 := Lib.hid hB1
  have HO1 := Lib.hid hO1
  have hz := hS1.cells.2.2
  clear hS1 hB1 hO1
  obtain ⟨x, hx⟩ : ∃ x : Int, x = 1 + x0 := ⟨_, rfl⟩
  have hxb : 0 ≤ x ∧ x ≤ 1000001 := by omega
  have HX := Lib.hid hx
  go_wp2_with fail
  rw [← HX.out]
  clear hx
  have HSA := Lib.hid (HS1.out.alloc (.cells #[.int .i64 x, .int .i64 x, .int .i64 x, .int .i64 x, .int .i64 (1), .int .i64 (1000000), .int .i64 (1000001), .int .i64 (0)] 2))
  have HBA := Lib.hid (show Below B w (w1.alloc (.cells #[.int .i64 x, .int .i64 x, .int .i64 x, .int .i64 x, .int .i64 (1), .int .i64 (1000000), .int .i64 (1000001), .int .i64 (0)] 2)) from HB1.out.alloc (Nat.le_of_lt (Nat.lt_of_le_of_lt hB hz)) _)
  have HOA := Lib.hid (show Oth b w (w1.alloc (.cells #[.int .i64 x, .int .i64 x, .int .i64 x, .int .i64 x, .int .i64 (1), .int .i64 (1000000), .int .i64 (1000001), .int .i64 (0)] 2)) from HO1.out.trans (Oth.alloc b w1 _) HB1.out.size)
  have HR := Lib.hid (show ∀ j, j < ([x, x, x, x, 1, 1000000, 1000001, 0] : List Int).length → (w1.alloc (.cells #[.int .i64 x, .int .i64 x, .int .i64 x, .int .i64 x, .int .i64 (1), .int .i64 (1000000), .int .i64 (1000001), .int .i64 (0)] 2)).cell? ⟨w1.heap.size, j, none⟩ = some (.int .i64 (([x, x, x, x, 1, 1000000, 1000001, 0] : List Int).getD j 0)) from fun j hj => by
    rw [World.cell?_alloc_new]
    match j, hj with
    | 0, _ | 1, _ | 2, _ | 3, _ | 4, _ | 5, _ | 6, _ | 7, _ => rfl)
  refine (among_any (0) 1000001 [x, x, x, x, 1, 1000000, 1000001, 0] _ w1.heap.size (by intro y hy; simp at hy; omega) (by simp) B b a len cap at1 seed1 (top + 2) (w1.alloc (.cells #[.int .i64 x, .int .i64 x, .int .i64 x, .int .i64 x, .int .i64 (1), .int .i64 (1000000), .int .i64 (1000001), .int .i64 (0)] 2)) HSA.out hB (HY.out.below HBA.out) hl ha1 (by omega) hs1 (by omega) HR.out (by simp)).mono ?_
  rintro e w2 ⟨y, at2, seed2, hy2, ha2, hs2, rfl, hS2, hB2, hO2⟩
  have HS2 := Lib.hid hS2
  have HB2 := Lib.hid hB2
  have HO2 := Lib.hid hO2
  clear hS2 hB2 hO2
  go_wp2
  go_ret
  exact ⟨_, at2, seed2, hy2, ⟨ha2.1, by omega⟩, hs2, rfl, HS2.out, HBA.out.trans HB2.out, HOA.out.trans HO2.out HBA.out.size⟩
set_option maxHeartbeats 1000000 in
theorem l03DrawFlow_any (B b : Nat) (a : Option Addr) (len cap : Nat) (at' seed top : Int) (w : World) (hs : SrcB w b a len cap at' seed) (hB : B ≤ b) (hy : BytB B w a len) (hl : len ≤ 1048576) (h1 : 0 ≤ at' ∧ at' ≤ top) (ht : top ≤ 800000) (h2 : 0 ≤ seed ∧ seed ≤ 18446744073709551615) :
    Calls Try.prog 81 #[.pointer (some ⟨b, 0, none⟩)] w (Drew (-100000) 100001 B b a len cap (top + 4) w) := by
  have HS := Lib.hid hs
  have HY := Lib.hid hy
  clear hs hy
  go_enter Try.func81, Try.ntmps81
  go_wp2_with fail
  refine (pick_any 40000 (by omega) B b a len cap at' seed top w HS.out hB HY.out hl h1 (by omega) h2).mono ?_
  rintro e w1 ⟨x0, at1, seed1, hx1, ha1, hs1, rfl, hS1, hB1, hO1⟩
  have HS1 := Lib.hid hS1
  have HB1 := Lib.hid hB1
  have HO1 := Lib.hid hO1
  have hz := hS1.cells.2.2
  clear hS1 hB1 hO1
  obtain ⟨x, hx⟩ : ∃ x : Int, x = x0 - 20000 := ⟨_, rfl⟩
  have hxb : -100000 ≤ x ∧ x ≤ 100001 := by omega
  have HX := Lib.hid hx
  go_wp2_with fail
  rw [← HX.out]
  clear hx
  have HSA := Lib.hid (HS1.out.alloc (.cells #[.int .i64 x, .int .i64 x, .int .i64 x, .int .i64 x, .int .i64 (0), .int .i64 (100000), .int .i64 (-100000), .int .i64 (100001)] 2))
  have HBA := Lib.hid (show Below B w (w1.alloc (.cells #[.int .i64 x, .int .i64 x, .int .i64 x, .int .i64 x, .int .i64 (0), .int .i64 (100000), .int .i64 (-100000), .int .i64 (100001)] 2)) from HB1.out.alloc (Nat.le_of_lt (Nat.lt_of_le_of_lt hB hz)) _)
  have HOA := Lib.hid (show Oth b w (w1.alloc (.cells #[.int .i64 x, .int .i64 x, .int .i64 x, .int .i64 x, .int .i64 (0), .int .i64 (100000), .int .i64 (-100000), .int .i64 (100001)] 2)) from HO1.out.trans (Oth.alloc b w1 _) HB1.out.size)
  have HR := Lib.hid (show ∀ j, j < ([x, x, x, x, 0, 100000, -100000, 100001] : List Int).length → (w1.alloc (.cells #[.int .i64 x, .int .i64 x, .int .i64 x, .int .i64 x, .int .i64 (0), .int .i64 (100000), .int .i64 (-100000), .int .i64 (100001)] 2)).cell? ⟨w1.heap.size, j, none⟩ = some (.int .i64 (([x, x, x, x, 0, 100000, -100000, 100001] : List Int).getD j 0)) from fun j hj => by
    rw [World.cell?_alloc_new]
    match j, hj with
    | 0, _ | 1, _ | 2, _ | 3, _ | 4, _ | 5, _ | 6, _ | 7, _ => rfl)
  refine (among_any (-100000) 100001 [x, x, x, x, 0, 100000, -100000, 100001] _ w1.heap.size (by intro y hy; simp at hy; omega) (by simp) B b a len cap at1 seed1 (top + 2) (w1.alloc (.cells #[.int .i64 x, .int .i64 x, .int .i64 x, .int .i64 x, .int .i64 (0), .int .i64 (100000), .int .i64 (-100000), .int .i64 (100001)] 2)) HSA.out hB (HY.out.below HBA.out) hl ha1 (by omega) hs1 (by omega) HR.out (by simp)).mono ?_
  rintro e w2 ⟨y, at2, seed2, hy2, ha2, hs2, rfl, hS2, hB2, hO2⟩
  have HS2 := Lib.hid hS2
  have HB2 := Lib.hid hB2
  have HO2 := Lib.hid hO2
  clear hS2 hB2 hO2
  go_wp2
  go_ret
  exact ⟨_, at2, seed2, hy2, ⟨ha2.1, by omega⟩, hs2, rfl, HS2.out, HBA.out.trans HB2.out, HOA.out.trans HO2.out HBA.out.size⟩
theorem own_oth {w w' : World} {b B e size n : Nat} {v : Value} {xs : List Value} (h : w.ownsRow B e size v n xs) (hO : Oth b w w') (hB : b < B) : w'.ownsRow B e size v n xs := by
  obtain ⟨hl, h⟩ := h
  refine ⟨hl, ?_⟩
  rcases h with h | ⟨g, cap, cur, e1, hg, hh, r⟩
  · exact .inl h
  · refine .inr ⟨g, cap, cur, e1, hg, ?_, r⟩
    have hlt : g < w.heap.size := by
      rcases Nat.lt_or_ge g w.heap.size with q | q
      · exact q
      · rw [Array.getElem?_eq_none q] at hh; cases hh
    rw [hO g hlt (by omega)]
    exact hh
theorem srcB_grown {w w' : World} {b : Nat} {a : Option Addr} {len cap : Nat} {at' seed : Int} {r : Option Nat} (h : SrcB w b a len cap at' seed) (hg : w.grownBy w' r) (hne : ¬ some b = r) : SrcB w' b a len cap at' seed :=
  (hg.block b h.cells.2.2 hne).trans h
/-- The source, and a row behind it. -/
def DrL (b : Nat) (a : Option Addr) (len cap : Nat) (top : Int) (w : World) (n : Nat) (v : Value) (w' : World) : Prop :=
  ∃ (xs : List Int) (at' seed : Int), xs.length ≤ n ∧ (0 ≤ at' ∧ at' ≤ top) ∧ (0 ≤ seed ∧ seed ≤ 18446744073709551615) ∧ SrcB w' b a len cap at' seed ∧ w'.ownsRow (b + 1) 2 1 v xs.length (intsV xs) ∧ Below b w w'
set_option maxHeartbeats 4000000 in
set_option maxRecDepth 100000 in
theorem l08DrawList_any (b : Nat) (a : Option Addr) (len cap : Nat) (at' seed : Int) (w : World) (hs : SrcB w b a len cap at' seed) (hy : BytB b w a len) (hl : len ≤ 1048576) (h1 : 0 ≤ at' ∧ at' ≤ 0) (h2 : 0 ≤ seed ∧ seed ≤ 18446744073709551615) :
    Calls Try.prog 61 #[.pointer (some ⟨b, 0, none⟩)] w fun e w' => ∃ v, e = .returned v ∧ DrL b a len cap 30 w 26 v w' := by
  have HS0 := Lib.hid (hs.alloc (.cells #[] 2))
  have HY := Lib.hid hy
  have hz0' := hs.cells.2.2
  have HBW := Lib.hid (show Below b w (w.alloc (.cells #[] 2)) from (Below.refl _ _).alloc (Nat.le_of_lt hz0') _)
  have HO0 := Lib.hid (show (w.alloc (.cells #[] 2)).ownsRow (b + 1) 2 1 (.slice (some ⟨w.heap.size, 0, none⟩) 0 0) 0 (intsV []) from World.ownsRow_lit _ _ 0 (by omega) (by simp [maxLen]) rfl)
  obtain ⟨i0, hi, hz0, hz1, hz2⟩ := info_parts info_i64
  clear hs hy
  go_enter Try.func61, Try.ntmps61
  go_wp2_with fail
  refine (pick_any 5 (by omega) b b a len cap at' seed 0 (w.alloc (.cells #[] 2)) HS0.out (Nat.le_refl _) (HY.out.below HBW.out) hl h1 (by omega) h2).mono ?_
  rintro e w1 ⟨x0, at1, seed1, hx1, ha1, hs1, rfl, hS1, hB1, hO1⟩
  have HS1 := Lib.hid hS1
  have HB1 := Lib.hid (HBW.out.trans hB1)
  have HO1 := Lib.hid (own_oth HO0.out hO1 (by omega))
  clear hS1 hB1 hO1
  go_wp2_with fail
  go_loopw [3, 4] (fun out i wr => ∃ (xs : List Int) (k : Nat) (at1 seed1 : Int), xs.length + k ≤ 5 ∧ i = .int .i64 ((k : Int) - 1) ∧ (0 ≤ at1 ∧ at1 ≤ 12 - 2 * (k : Int)) ∧ (0 ≤ seed1 ∧ seed1 ≤ 18446744073709551615) ∧ Hid (SrcB wr b a len cap at1 seed1) ∧ Hid (wr.ownsRow (b + 1) 2 1 out xs.length (intsV xs)) ∧ Hid (Below b w wr)) (fun out i wr => (intOf i + 1).toNat)
  case atStart => exact ⟨[], (x0 + 1).toNat, at1, seed1, by simp; omega, by rw [show (((x0 + 1).toNat : Nat) : Int) - 1 = x0 by omega], by omega, hs1, HS1, HO1, HB1⟩
  case round =>
    clear HS1 HO1 HB1
    obtain ⟨xs, k, at1, seed1, hk, rfl, ha1, hs1, HSp, HOp, HBp⟩ := hrel
    by_cases hlt : 1 ≤ k
    · go_wp2_with fail
      refine (pick_any 60000 (by omega) b b a len cap at1 seed1 (12 - 2 * (k : Int)) wr HSp.out (Nat.le_refl _) (HY.out.below HBp.out) hl ha1 (by omega) hs1).mono ?_
      rintro e w2 ⟨x2, at2, seed2, hx2, ha2, hs2, rfl, hS2, hB2, hO2⟩
      have HO := Lib.hid (own_oth HOp.out hO2 (by omega))
      have HB := Lib.hid (HBp.out.trans hB2)
      have HS := Lib.hid hS2
      have hzb := HS.out.cells.2.2
      clear hS2 hB2 hO2 HOp HBp HSp
      go_wp2_with (at_builtin; refine wpList_append_own_at _ rfl _ _ 24 rfl (b + 1) 2 i0 (.int .i64 0) 1 8 Try.underlying24 hi hz0 hz1 hz2 rfl (by decide) _ _ _ rfl (HO.out.alloc _) ⟨w2.heap.size, 0, none⟩ 1 1 [.int .i64 (1 + x2)] rfl rfl ?c1z ?c2z ?c3z ?c4z ?c5z ?_)
      try (case c1z => intro j u hj; match j, hj with | 0, hj => (simp at hj; subst hj; simp [Addr.add]) | j + 1, hj => (simp at hj))
      try (case c2z => simp [Value.oneCell'])
      try (case c3z => unfold maxLen; omega)
      try (case c4z => omega)
      try (case c5z => first | omega | (simp; omega))
      intro v' w3 hout' hgrow _ _
      have HBB : Hid (Below b w w3) := Lib.hid ((HB.out.alloc (by have := HS.out.cells.2.2; omega) _).grown hgrow (by have := HS.out.cells.2.2; simp; omega) (fun k hk => by have := (HO.out.lt k hk).1; omega))
      have HSS : Hid (SrcB w3 b a len cap at2 seed2) := Lib.hid (srcB_grown (HS.out.alloc _) hgrow (fun hk => by have := (HO.out.lt b hk.symm).1; omega))
      have HOO : Hid (w3.ownsRow (b + 1) 2 1 v' (xs ++ [1 + x2]).length (intsV (xs ++ [1 + x2]))) := Lib.hid (by rw [List.length_append]; simpa [intsV] using hout')
      clear hout' hgrow
      go_wp2
      go_roundw
      case rel => exact ⟨xs ++ [1 + x2], k - 1, at2, seed2, by simp; omega, by rw [show (((k - 1 : Nat)) : Int) = (k : Int) - 1 by omega], by omega, hs2, HSS, HOO, HBB⟩
      case measure => simp [intOf]; omega
    · obtain rfl : k = 0 := by omega
      go_wp2_with fail
      refine (pick_any 18 (by omega) b b a len cap at1 seed1 12 wr HSp.out (Nat.le_refl _) (HY.out.below HBp.out) hl (by omega) (by omega) hs1).mono ?_
      rintro e w2 ⟨x2, at2, seed2, hx2, ha2, hs2, rfl, hS2, hB2, hO2⟩
      have HO := Lib.hid (own_oth HOp.out hO2 (by omega))
      have HB := Lib.hid (HBp.out.trans hB2)
      have HS := Lib.hid hS2
      have hzb := HS.out.cells.2.2
      clear hS2 hB2 hO2 HOp HBp HSp
      by_cases e0 : x2 = 0
      · subst e0
        go_wp2_with fail
        refine (l03DrawRes_any b b a len cap at2 seed2 (12 + 2) w2 HS.out (Nat.le_refl _) (HY.out.below HB.out) hl (by omega) (by omega) hs2).mono ?_
        rintro e w3 ⟨x3, at3, seed3, hx3, ha3, hs3, rfl, hS3, hB3, hO3⟩
        have HOp := HO
        have HBp := HB
        clear HO HB HS hzb
        have HO := Lib.hid (own_oth HOp.out hO3 (by omega))
        have HB := Lib.hid (HBp.out.trans hB3)
        have HS := Lib.hid hS3
        have hzb := HS.out.cells.2.2
        clear hS3 hB3 hO3 HOp HBp
        go_wp2_with (at_builtin; refine wpList_append_own_at _ rfl _ _ 24 rfl (b + 1) 2 i0 (.int .i64 0) 1 8 Try.underlying24 hi hz0 hz1 hz2 rfl (by decide) _ _ _ rfl (HO.out.alloc _) ⟨w3.heap.size, 0, none⟩ 1 1 [.int .i64 (x3)] rfl rfl ?c1z ?c2z ?c3z ?c4z ?c5z ?_)
        try (case c1z => intro j u hj; match j, hj with | 0, hj => (simp at hj; subst hj; simp [Addr.add]) | j + 1, hj => (simp at hj))
        try (case c2z => simp [Value.oneCell'])
        try (case c3z => unfold maxLen; omega)
        try (case c4z => omega)
        try (case c5z => first | omega | (simp; omega))
        intro v' w4 hout' hgrow _ _
        have HBB : Hid (Below b w w4) := Lib.hid ((HB.out.alloc (by have := HS.out.cells.2.2; omega) _).grown hgrow (by have := HS.out.cells.2.2; simp; omega) (fun k hk => by have := (HO.out.lt k hk).1; omega))
        have HSS : Hid (SrcB w4 b a len cap at3 seed3) := Lib.hid (srcB_grown (HS.out.alloc _) hgrow (fun hk => by have := (HO.out.lt b hk.symm).1; omega))
        have HOO : Hid (w4.ownsRow (b + 1) 2 1 v' (xs ++ [x3]).length (intsV (xs ++ [x3]))) := Lib.hid (by rw [List.length_append]; simpa [intsV] using hout')
        clear hout' hgrow
        go_wp2
        go_ret
        exact ⟨_, rfl, xs ++ [x3], at3, seed3, by simp; omega, by omega, hs3, HSS.out, HOO.out, HBB.out⟩
      · by_cases e1 : x2 = 1
        · subst e1
          go_wp2
          go_ret
          exact ⟨_, rfl, [], at2, seed2, by simp, by omega, hs2, HS.out.alloc _, World.ownsRow_lit _ _ 0 (by omega) (by simp [maxLen]) rfl, HB.out.alloc (Nat.le_of_lt hzb) _⟩
        · by_cases e2 : x2 = 2
          · subst e2
            have HSA := Lib.hid (HS.out.alloc (.cells #[.int .i64 24, .int .i64 25] 2))
            have HBA := Lib.hid (show Below b w (w2.alloc (.cells #[.int .i64 24, .int .i64 25] 2)) from HB.out.alloc (Nat.le_of_lt hzb) _)
            have HR := Lib.hid (show ∀ j, j < ([24, 25] : List Int).length → (w2.alloc (.cells #[.int .i64 24, .int .i64 25] 2)).cell? ⟨w2.heap.size, j, none⟩ = some (.int .i64 (([24, 25] : List Int).getD j 0)) from fun j hj => by
              rw [World.cell?_alloc_new]
              match j, hj with
              | 0, _ | 1, _ => rfl)
            go_wp2_with fail
            refine (among_any 24 25 [24, 25] _ w2.heap.size (by simp) (by simp) b b a len cap at2 seed2 (12 + 2) (w2.alloc (.cells #[.int .i64 24, .int .i64 25] 2)) HSA.out (Nat.le_refl _) (HY.out.below HBA.out) hl (by omega) (by omega) hs2 (by omega) HR.out (by simp)).mono ?_
            rintro e w3 ⟨y, at3, seed3, hy3, ha3, hs3, rfl, hS3, hB3, hO3⟩
            have HS3 := Lib.hid hS3
            have HB3 := Lib.hid (HBA.out.trans hB3)
            have hz3 := hS3.cells.2.2
            have HB4 := Lib.hid (show Below b w (w3.alloc (.cells #[] 2)) from HB3.out.alloc (Nat.le_of_lt hz3) _)
            have HS4 := Lib.hid (HS3.out.alloc (.cells #[] 2))
            have HO4 := Lib.hid (show (w3.alloc (.cells #[] 2)).ownsRow (b + 1) 2 1 (.slice (some ⟨w3.heap.size, 0, none⟩) 0 0) 0 (intsV []) from World.ownsRow_lit _ _ 0 (by omega) (by simp [maxLen]) rfl)
            clear hS3 hB3 hO3 HO HB HS HSA HBA HR
            go_wp2_with fail
            go_loopw [3, 6] (fun out i wr => ∃ (xs : List Int), (xs.length : Int) ≤ y ∧ i = .int .i64 (xs.length : Int) ∧ Hid (SrcB wr b a len cap at3 seed3) ∧ Hid (wr.ownsRow (b + 1) 2 1 out xs.length (intsV xs)) ∧ Hid (Below b w wr)) (fun out i wr => 30 - (intOf i).toNat)
            case atStart => exact ⟨[], by simp; omega, rfl, HS4, HO4, HB4⟩
            case round =>
              clear HS4 HO4 HB4 HS3 HB3
              obtain ⟨xs, hxy, rfl, HS, HO, HB⟩ := hrel
              have hzb := HS.out.cells.2.2
              by_cases hlt : (xs.length : Int) < y
              · go_wp2_with (at_builtin; refine wpList_append_own_at _ rfl _ _ 24 rfl (b + 1) 2 i0 (.int .i64 0) 1 8 Try.underlying24 hi hz0 hz1 hz2 rfl (by decide) _ _ _ rfl (HO.out.alloc _) ⟨wr.heap.size, 0, none⟩ 1 1 [.int .i64 (1000 + (xs.length : Int))] rfl rfl ?c1z ?c2z ?c3z ?c4z ?c5z ?_)
                try (case c1z => intro j u hj; match j, hj with | 0, hj => (simp at hj; subst hj; simp [Addr.add]) | j + 1, hj => (simp at hj))
                try (case c2z => simp [Value.oneCell'])
                try (case c3z => unfold maxLen; omega)
                try (case c4z => omega)
                try (case c5z => first | omega | (simp; omega))
                intro v' w4 hout' hgrow _ _
                have HBB : Hid (Below b w w4) := Lib.hid ((HB.out.alloc (by have := HS.out.cells.2.2; omega) _).grown hgrow (by have := HS.out.cells.2.2; simp; omega) (fun k hk => by have := (HO.out.lt k hk).1; omega))
                have HSS : Hid (SrcB w4 b a len cap at3 seed3) := Lib.hid (srcB_grown (HS.out.alloc _) hgrow (fun hk => by have := (HO.out.lt b hk.symm).1; omega))
                have HOO : Hid (w4.ownsRow (b + 1) 2 1 v' (xs ++ [1000 + (xs.length : Int)]).length (intsV (xs ++ [1000 + (xs.length : Int)]))) := Lib.hid (by rw [List.length_append]; simpa [intsV] using hout')
                clear hout' hgrow
                go_wp2
                go_roundw
                case rel => exact ⟨xs ++ [1000 + (xs.length : Int)], by simp; omega, by simp, HSS, HOO, HBB⟩
                case measure => simp [intOf]; omega
              · go_wp2
                go_ret
                exact ⟨_, rfl, xs, at3, seed3, by omega, by omega, hs3, HS.out, HO.out, HB.out⟩
          · go_wp2
            go_ret
            exact ⟨_, rfl, xs, at2, seed2, by omega, by omega, hs2, HS.out, HO.out, HB.out⟩
theorem row_ownI8 {w : World} {B : Nat} {v : Value} {xs : List Int} (h : OwnI w B v xs) : Row .i64 w v xs := by
  have h' := h
  unfold OwnI at h'
  rcases h.2 with ⟨rfl, h0⟩ | ⟨g, cap, cur, rfl, -⟩
  · exact .inl ⟨List.eq_nil_of_length_eq_zero h0, rfl⟩
  · exact Row.of_own h'
set_option maxHeartbeats 1000000 in
theorem DrawSplitFlow_any (a : Option Addr) (len cap : Nat) (w : World) (hy : BytB w.heap.size w a len) (hl : len ≤ 1048576) :
    Calls Try.prog 19 #[.slice a len cap] w fun e w' => ∃ u xs q, e = .returned (.tuple #[u, .int .i64 q]) ∧ Row .i64 w' u xs ∧ xs.length ≤ 26 ∧ (-100000 ≤ q ∧ q ≤ 100001) ∧ Below w.heap.size w w' := by
  have HY0 := Lib.hid hy
  have HS0 := Lib.hid (SrcB.new w a len cap)
  have HB0 := Lib.hid (show Below w.heap.size w (w.alloc (.cells #[.slice a len cap, .int .i64 0, .int .u64 0] 157)) from (Below.refl _ _).alloc (Nat.le_refl _) _)
  clear hy
  go_enter Try.func19, Try.ntmps19
  go_wp2_with (go_at_call 60; refine (l00From_any a len cap w).mono ?_; rintro e w' ⟨rfl, rfl⟩)
  go_wp2_with fail
  refine (l08DrawList_any w.heap.size a len cap 0 0 (w.alloc (.cells #[.slice a len cap, .int .i64 0, .int .u64 0] 157)) HS0.out (HY0.out.below HB0.out) hl (by omega) (by omega)).mono ?_
  rintro e w1 ⟨u, rfl, xs, at1, seed1, hx1, ha1, hs1, hS1, hO1, hB1⟩
  have HS1 := Lib.hid hS1
  have HB1 := Lib.hid (HB0.out.trans hB1)
  have HO1 := Lib.hid hO1
  clear hS1 hB1 hO1
  go_wp2_with fail
  refine (l03DrawFlow_any w.heap.size w.heap.size a len cap at1 seed1 30 w1 HS1.out (Nat.le_refl _) (HY0.out.below HB1.out) hl ha1 (by omega) hs1).mono ?_
  rintro e w2 ⟨q, at2, seed2, hq, ha2, hs2, rfl, hS2, hB2, hO2⟩
  have HR := Lib.hid (row_ownI8 (show OwnI w2 (w.heap.size + 1) u xs from own_oth HO1.out hO2 (by omega)))
  have HB2 := Lib.hid (HB1.out.trans hB2)
  clear hS2 hB2 hO2
  go_wp2
  go_ret2
  exact ⟨u, xs, q, rfl, HR.out, hx1, hq, HB2.out⟩
set_option maxHeartbeats 1000000 in
theorem DrawAirwaysFor_any (a : Option Addr) (len cap : Nat) (w : World) (hy : BytB w.heap.size w a len) (hl : len ≤ 1048576) :
    Calls Try.prog 23 #[.slice a len cap] w (Two (-1) 2000000 (-1) 2000000 w) := by
  have HY0 := Lib.hid hy
  have HS0 := Lib.hid (SrcB.new w a len cap)
  have HB0 := Lib.hid (show Below w.heap.size w (w.alloc (.cells #[.slice a len cap, .int .i64 0, .int .u64 0] 157)) from (Below.refl _ _).alloc (Nat.le_refl _) _)
  clear hy
  go_enter Try.func23, Try.ntmps23
  go_wp2_with (go_at_call 60; refine (l00From_any a len cap w).mono ?_; rintro e w' ⟨rfl, rfl⟩)
  go_wp2_with fail
  refine (l03DrawRes_any w.heap.size w.heap.size a len cap 0 0 0 (w.alloc (.cells #[.slice a len cap, .int .i64 0, .int .u64 0] 157)) HS0.out (Nat.le_refl _) (HY0.out.below HB0.out) hl (by omega) (by omega) (by omega)).mono ?_
  rintro e w1 ⟨x1, at1, seed1, hx1, ha1, hs1, rfl, hS1, hB1, hO1⟩
  have HS1 := Lib.hid hS1
  have HB1 := Lib.hid (HB0.out.trans hB1)
  clear hS1 hB1 hO1
  go_wp2_with fail
  refine (one_any 4 (by omega) w.heap.size w.heap.size a len cap at1 seed1 (0 + 4) w1 HS1.out (Nat.le_refl _) (HY0.out.below HB1.out) hl ha1 (by omega) hs1).mono ?_
  rintro e w2 ⟨v, at2, seed2, ha2, hs2, rfl, hS2, hB2, hO2⟩
  have HS2 := Lib.hid hS2
  have HB2 := Lib.hid (HB1.out.trans hB2)
  clear hS2 hB2 hO2
  cases v
  · go_wp2_with fail
    refine (pick_any 200 (by omega) w.heap.size w.heap.size a len cap at2 seed2 (0 + 4 + 2) w2 HS2.out (Nat.le_refl _) (HY0.out.below HB2.out) hl ha2 (by omega) hs2).mono ?_
    rintro e w3 ⟨x3, at3, seed3, hx3, ha3, hs3, rfl, hS3, hB3, hO3⟩
    have HB3 := Lib.hid (HB2.out.trans hB3)
    clear hS3 hB3 hO3
    have hq := div_bd x1 (1 + x3) (by omega) (by omega)
    obtain ⟨q1, q2⟩ := hq
    go_wp2_with (go_at_call 67; refine (l00Max_any _ _ _).mono ?_; rintro e w' ⟨rfl, rfl⟩)
    all_goals (go_ret2; exact ⟨x1, _, by omega, by (first | omega | (split <;> omega)), rfl, HB3.out⟩)
  · go_wp2_with fail
    refine (l03DrawRes_any w.heap.size w.heap.size a len cap at2 seed2 (0 + 4 + 2) w2 HS2.out (Nat.le_refl _) (HY0.out.below HB2.out) hl ha2 (by omega) hs2).mono ?_
    rintro e w3 ⟨x3, at3, seed3, hx3, ha3, hs3, rfl, hS3, hB3, hO3⟩
    have HB3 := Lib.hid (HB2.out.trans hB3)
    clear hS3 hB3 hO3
    go_wp2
    go_ret2
    exact ⟨x1, x3, by omega, by omega, rfl, HB3.out⟩
end Go.Proofs.Ytmjinanapihkoaa
