/-
  Contracts of chapter 8: the least resistance beside another one; the model's and the program's. Conditions: those that each theorem states.
-/
import Derived.Test.YtmjinanapihkoaaYb
import Derived.Test.YtmjinanapihkoaaDn
import Derived.Test.YtmjinanapihkoaaRg
namespace Go.Proofs.Ytmjinanapihkoaa
open Go.RowKit
set_option linter.unusedVariables false
set_option linter.unusedSimpArgs false

theorem near_den {a b b' : Int} (ha : 0 ≤ a) (hb : 0 < b) (h : b ≤ b') : divR a b' ≤ divR a b := by
  rw [divR_pp _ _ ha hb, divR_pp _ _ ha (by omega)]
  rw [Int.le_ediv_iff_mul_le (by omega)]
  have hq : (2 * a + b') / (2 * b') * (2 * b') ≤ 2 * a + b' := Int.ediv_mul_le _ (by omega)
  have h0 : 0 ≤ (2 * a + b') / (2 * b') := Int.ediv_nonneg (by omega) (by omega)
  generalize (2 * a + b') / (2 * b') = q at *
  rcases Int.lt_or_le 0 q with hp | hp
  · have e1 : q * (2 * b') = 2 * (q * b') := by rw [Int.mul_left_comm]
    have e2 : q * (2 * b) = 2 * (q * b) := by rw [Int.mul_left_comm]
    have h1 : (q - 1) * b ≤ (q - 1) * b' := Int.mul_le_mul_of_nonneg_left h (by omega)
    rw [Int.sub_mul, Int.sub_mul] at h1
    omega
  · have : q = 0 := by omega
    subst this
    omega
theorem rootR_mono {a b : Int} (h : a ≤ b) : rootR a ≤ rootR b := by
  by_cases h1 : 1 ≤ rootR a
  · exact (le_rootR b (rootR a) h1).1 (Int.le_trans ((le_rootR a (rootR a) h1).2 (Int.le_refl _)) h)
  · have := rootR_nonneg b; omega
theorem condR_anti {r s : Int} (h1 : 1 ≤ r) (h : r ≤ s) : condR s ≤ condR r := by
  unfold condR
  apply rootR_mono
  rw [Int.le_ediv_iff_mul_le (by omega)]
  have hq : 10000000000000000 / s * s ≤ 10000000000000000 := Int.ediv_mul_le _ (by omega)
  have h0 : 0 ≤ 10000000000000000 / s := Int.ediv_nonneg (by omega) (by omega)
  have := Int.mul_le_mul_of_nonneg_left h h0
  omega
/-- More conductance, less resistance. -/
theorem parQ_anti {s t : Int} (h1 : 1 ≤ s) (h : s ≤ t) : parQ t ≤ parQ s := by
  unfold parQ
  have h0 : 0 < s * s := Int.mul_pos (by omega) (by omega)
  exact near_den (by omega) h0 (Int.mul_le_mul h h (by omega) (by omega))
theorem parR_anti {xs ys : List Int} (h1 : 1 ≤ condS xs) (h : condS xs ≤ condS ys) : parR ys ≤ parR xs := by
  have := parQ_anti h1 h
  unfold parR
  split <;> split <;> omega
theorem condS_two (a r : Int) : condS [a, r] = condR a + condR r := by simp [condS, condL]
def othP (a b r : Int) : Bool := decide (b ≤ parR [a, r])
/-- The least resistance; 1000001 if there is none. -/
def othN (a b : Int) : Nat := firstN (fun t => othP a b (1 + (t : Int))) 1000000
theorem oth_mono {a b r s : Int} (ha : 1 ≤ a ∧ a ≤ 1000000) (h1 : 1 ≤ r) (h : r ≤ s) (h2 : s ≤ 1000000) (hp : othP a b r = true) : othP a b s = true := by
  unfold othP at *
  simp only [decide_eq_true_eq] at *
  have c1 := condR_anti h1 h
  have c2 := condR_bd ha.1 ha.2
  have c3 := condR_bd (show 1 ≤ s by omega) h2
  have := parR_anti (xs := [a, s]) (ys := [a, r]) (by rw [condS_two]; omega) (by rw [condS_two, condS_two]; omega)
  omega
theorem oth_spec {a b : Int} (ha : 1 ≤ a ∧ a ≤ 1000000) : othN a b ≤ 1000000 ∧ (∀ t : Nat, t < othN a b → othP a b (1 + (t : Int)) = false) ∧ (∀ t : Nat, othN a b ≤ t → t < 1000000 → othP a b (1 + (t : Int)) = true) := by
  obtain ⟨h1, h2, h3⟩ := firstN_spec (fun t => othP a b (1 + (t : Int))) 1000000
  refine ⟨h1, h2, fun t ht hl => ?_⟩
  refine oth_mono (r := 1 + ((othN a b : Nat) : Int)) ha (by omega) (by omega) (by omega) ?_
  exact h3 (Nat.lt_of_le_of_lt ht hl)
theorem oth_at {a b r : Int} (ha : 1 ≤ a ∧ a ≤ 1000000) (h1 : 1 ≤ r) (h2 : r ≤ 1000000) : othP a b r = decide (((othN a b : Nat) : Int) < r) := by
  obtain ⟨h3, h4, h5⟩ := oth_spec (b := b) ha
  obtain ⟨t, rfl⟩ : ∃ t : Nat, r = 1 + (t : Int) := ⟨(r - 1).toNat, by omega⟩
  by_cases h : t < othN a b
  · rw [h4 t h]; symm; exact decide_eq_false (by omega)
  · rw [h5 t (by omega) (by omega)]; symm; exact decide_eq_true (by omega)
def othOk (a b : Int) : Bool := inB a 1 1000000 && inB b 1 1000000
def othA (a b : Int) : Int := if othOk a b then (if othN a b < 1000000 then 1 + (othN a b : Int) else 0) else 0
def othB (a b : Int) : Int := if othOk a b then (if othN a b < 1000000 then 0 else 3) else 2
theorem two_row (W : World) (T : TypeId) (x y : Int) : RowW .i64 (W.alloc (.cells #[.int .i64 x, .int .i64 y] T)) (.slice (some ⟨W.heap.size, 0, none⟩) 2 2) [x, y] :=
  RowW.of_row (row_here .i64 W [x, y] T _ 2 2 rfl rfl)
theorem resL_of_two {a r : Int} (ha : 1 ≤ a ∧ a ≤ 1000000) (hr : 1 ≤ r ∧ r ≤ 1000000) : resL [a, r] = true := by
  rw [resL_iff]
  refine ⟨⟨by simp, by simp⟩, fun y hy => ?_⟩
  simp only [List.mem_cons, List.not_mem_nil, or_false] at hy
  rcases hy with rfl | rfl
  · exact ha
  · exact hr

set_option maxHeartbeats 1000000 in
theorem othFits_any (a b r : Int) (bp bb : Nat) (w : World) (c0 : w.cell? ⟨bp, 0, none⟩ = some (.int .i64 a)) (c1 : w.cell? ⟨bb, 0, none⟩ = some (.int .i64 b)) (ha : 1 ≤ a ∧ a ≤ 1000000) (hr : 1 ≤ r ∧ r ≤ 1000000) :
    Calls Try.prog 70 #[.int .i64 r, .pointer (some ⟨bp, 0, none⟩), .pointer (some ⟨bb, 0, none⟩)] w fun e w' => e = .returned (.bool (othP a b r)) ∧ Below w.heap.size w w' := by
  have HRL := Lib.hid (resL_of_two ha hr)
  have HE := Lib.hid (show othP a b r = decide (b ≤ parR [a, r]) from rfl)
  clear ha hr
  go_enter Try.func70, Try.ntmps70
  go_wp2
  refine wp_region_held (S := fun w' => w'.cell? ⟨bp, 0, none⟩ = some (.int .i64 a) ∧ w'.cell? ⟨bb, 0, none⟩ = some (.int .i64 b) ∧ Below w.heap.size w w') (by kernel_rfl) ?_
  try (change wpAnyH _ _ _ _ _ _ _ _ (World.drew _))
  have hS0 := (show w.drew.cell? ⟨bp, 0, none⟩ = some (.int .i64 a) ∧ w.drew.cell? ⟨bb, 0, none⟩ = some (.int .i64 b) ∧ Below w.heap.size w w.drew from ⟨c0, c1, Below.drew (Below.refl _ _)⟩)
  refine gTake 0 (v := ?_) rfl (by kernel_rfl) (by kernel_rfl) (by kernel_rfl) (fun _ _ _ h => h) (by kernel_rfl) ?_ hS0 ?_
  rotate_left
  · (intro W hW; have q0 := hW.1; have q1 := hW.2.1; clear hW; go_simp; try with_reducible rfl)
  refine gTake 1 (v := ?_) rfl (by kernel_rfl) (by kernel_rfl) (by kernel_rfl) (fun _ _ _ h => h) (by kernel_rfl) ?_ hS0 ?_
  rotate_left
  · (intro W hW; clear hW; go_simp; try with_reducible rfl)
  refine gTake 4 (v := ?_) rfl (by kernel_rfl) (by kernel_rfl) (by kernel_rfl) (fun _ _ _ h => h) (by kernel_rfl) ?_ hS0 ?_
  rotate_left
  · (intro W hW; have q0 := hW.1; have q1 := hW.2.1; clear hW; go_simp; try with_reducible rfl)
  refine gOne 2 rfl (by kernel_rfl) (by kernel_rfl) (fun K hK => ?_)
  go_simp
  skip
  refine viaS (hK _ _) ?_ (fun hS1 => ?_)
  · exact ⟨(World.cell?_alloc_old _ _ _ (Nat.ne_of_lt (World.block_lt_of_cell? _ _ hS0.1))).trans hS0.1, (World.cell?_alloc_old _ _ _ (Nat.ne_of_lt (World.block_lt_of_cell? _ _ hS0.2.1))).trans hS0.2.1, hS0.2.2.alloc hS0.2.2.size _⟩
  clear hK K
  refine gOne 3 rfl (by kernel_rfl) (by kernel_rfl) (fun K hK => ?_)
  go_simp
  go_at_call 63
  refine (iParallel_any (.slice (some ⟨w.heap.size, 0, none⟩) 2 2) [a, r] ((w.alloc (.cells #[.int .i64 a, .int .i64 r] 2)).drew) (two_row w _ a r) HRL.out).mono ?_
  rintro e wq1 ⟨rfl, hdq1⟩
  try go_simp
  have hS2 := (show wq1.cell? ⟨bp, 0, none⟩ = some (.int .i64 a) ∧ wq1.cell? ⟨bb, 0, none⟩ = some (.int .i64 b) ∧ Below w.heap.size w wq1 from ⟨cellK hS1.1 hdq1, cellK hS1.2.1 hdq1, hS1.2.2.trans (hdq1.mono hS1.2.2.size)⟩)
  refine hK _ _ hS2 ?_
  clear hK K
  refine gTake 5 (v := ?_) rfl (by kernel_rfl) (by kernel_rfl) (by kernel_rfl) (fun _ _ _ h => h) (by kernel_rfl) ?_ hS2 ?_
  rotate_left
  · (intro W hW; clear hW; go_simp; try with_reducible rfl)
  refine gTake 6 (v := ?_) rfl (by kernel_rfl) (by kernel_rfl) (by kernel_rfl) (fun _ _ _ h => h) (by kernel_rfl) ?_ hS2 ?_
  rotate_left
  · (intro W hW; clear hW; go_simp; try with_reducible rfl)
  refine wpAnyH_done (by kernel_rfl) ?_ _
  go_simp
  go_wp2
  go_ret
  exact ⟨ret_bool HE.out.symm, hS2.2.2⟩
theorem stepOth (bp bb : Nat) (p : Int → Bool) (lo : Int) (i : Nat) (bf bl : Nat) (w1 : World) (c0 : w1.cell? ⟨bf, 0, none⟩ = some (.func (.func 70) #[] #[.pointer (some ⟨bp, 0, none⟩), .pointer (some ⟨bb, 0, none⟩)])) (c1 : w1.cell? ⟨bl, 0, none⟩ = some (.int .i64 lo))
    (h1 : -1000000 ≤ lo ∧ lo ≤ 1000000) (h2 : i ≤ 1000000) (hf : Calls Try.prog 70 #[.int .i64 (lo + (i : Int)), .pointer (some ⟨bp, 0, none⟩), .pointer (some ⟨bb, 0, none⟩)] w1 fun e w2 => e = .returned (.bool (p (lo + (i : Int)))) ∧ Below w1.heap.size w1 w2) :
    Calls Try.prog 144 #[.int .i64 (i : Int), .pointer (some ⟨bf, 0, none⟩), .pointer (some ⟨bl, 0, none⟩)] w1 fun e w2 => e = .returned (.bool (p (lo + (i : Int)))) ∧ Below w1.heap.size w1 w2 := by
  have HF := hide hf
  clear hf
  go_enter Try.func144, Try.ntmps144
  go_wp2_with (go_at_call 70; refine (unhide HF).mono ?_; rintro e w2 ⟨rfl, hb⟩)
  go_ret
  exact ⟨rfl, hb⟩
theorem searchOth (bp bb : Nat) (p : Int → Bool) (lo : Int) (n m : Nat) (bf bl : Nat) (w : World) (c0 : w.cell? ⟨bf, 0, none⟩ = some (.func (.func 70) #[] #[.pointer (some ⟨bp, 0, none⟩), .pointer (some ⟨bb, 0, none⟩)])) (c1 : w.cell? ⟨bl, 0, none⟩ = some (.int .i64 lo))
    (h1 : -1000000 ≤ lo ∧ lo ≤ 1000000) (h2 : n ≤ 1000000) (hm : m ≤ n) (hl : ∀ t, t < m → p (lo + (t : Int)) = false) (hh : ∀ t, m ≤ t → t < n → p (lo + (t : Int)) = true)
    (hf : ∀ (x : Int) (w1 : World), lo ≤ x → x < lo + n → Below w.heap.size w w1 → Calls Try.prog 70 #[.int .i64 x, .pointer (some ⟨bp, 0, none⟩), .pointer (some ⟨bb, 0, none⟩)] w1 fun e w2 => e = .returned (.bool (p x)) ∧ Below w1.heap.size w1 w2) :
    Calls Try.prog 143 #[.int .i64 (n : Int), .func (.func 144) #[] #[.pointer (some ⟨bf, 0, none⟩), .pointer (some ⟨bl, 0, none⟩)]] w fun e w2 => e = .returned (.int .i64 (m : Int)) ∧ Below w.heap.size w w2 := by
  have HF := Lib.hid hf
  have HL := Lib.hid hl
  have HH := Lib.hid hh
  have C0 := Lib.hid c0
  have C1 := Lib.hid c1
  clear hf hl hh c0 c1
  go_enter Try.func143, Try.ntmps143
  go_wp2
  go_loopw [5, 6] (fun x y wr => ∃ a b : Nat, x = .int .i64 a ∧ y = .int .i64 b ∧ (a ≤ m ∧ m ≤ b) ∧ b ≤ n ∧ Below w.heap.size w wr) (fun x y wr => (intOf y).toNat - (intOf x).toNat)
  case atStart => exact ⟨0, n, rfl, rfl, ⟨by omega, hm⟩, by omega, Below.refl _ _⟩
  case round =>
    obtain ⟨a, b, rfl, rfl, ⟨hab, hmb⟩, hbn, hbel⟩ := hrel
    by_cases hlt : a < b
    · have hc0 := (hbel.cell (World.block_lt_of_cell? _ _ C0.out)).trans C0.out
      have hc1 := (hbel.cell (World.block_lt_of_cell? _ _ C1.out)).trans C1.out
      have hs := stepOth bp bb p lo ((a + b) / 2) bf bl wr hc0 hc1 h1 (by omega) (HF.out _ _ (by omega) (by omega) hbel)
      rw [show (((a + b) / 2 : Nat) : Int) = ((a : Int) + (b : Int)) / 2 by omega] at hs
      cases hp : p (lo + ((a : Int) + (b : Int)) / 2)
      · rw [hp] at hs
        have hx : (a + b) / 2 < m := by
          apply Nat.lt_of_not_le; intro hle
          have := HH.out ((a + b) / 2) hle (by omega)
          rw [show (((a + b) / 2 : Nat) : Int) = ((a : Int) + (b : Int)) / 2 by omega, hp] at this
          cases this
        have HS := hide hs
        have HP := Lib.hid hp
        have HB := Lib.hid hbel
        clear hs hp hc0 hc1 hbel
        go_wp2_with (go_at_call 144; refine (unhide HS).mono ?_; rintro e w2 ⟨rfl, hb2⟩)
        go_roundw
        case rel => exact ⟨(a + b) / 2 + 1, b, by rw [show ((a : Int) + (b : Int)) / 2 + 1 = (((a + b) / 2 + 1 : Nat) : Int) by omega], rfl, ⟨by omega, hmb⟩, hbn, HB.out.trans (hb2.mono HB.out.size)⟩
        case measure => simp [intOf]; omega
      · rw [hp] at hs
        have hx : m ≤ (a + b) / 2 := by
          apply Nat.le_of_not_lt; intro hle
          have := HL.out ((a + b) / 2) hle
          rw [show (((a + b) / 2 : Nat) : Int) = ((a : Int) + (b : Int)) / 2 by omega, hp] at this
          cases this
        have HS := hide hs
        have HP := Lib.hid hp
        have HB := Lib.hid hbel
        clear hs hp hc0 hc1 hbel
        go_wp2_with (go_at_call 144; refine (unhide HS).mono ?_; rintro e w2 ⟨rfl, hb2⟩)
        go_roundw
        case rel => exact ⟨a, (a + b) / 2, rfl, by rw [show ((a : Int) + (b : Int)) / 2 = (((a + b) / 2 : Nat) : Int) by omega], ⟨hab, hx⟩, by omega, HB.out.trans (hb2.mono HB.out.size)⟩
        case measure => simp [intOf]; omega
    · obtain rfl : m = a := by omega
      go_wp2
      go_ret
      exact ⟨rfl, hbel⟩
theorem leastOth (bp bb : Nat) (p : Int → Bool) (lo hi : Int) (n m : Nat) (w : World) (h1 : -1000000 ≤ lo ∧ lo ≤ 1000000) (h3 : (n : Int) = hi - lo + 1) (h4 : hi ≤ 1000000) (h5 : lo ≤ hi) (h6 : n ≤ 1000000) (hm : m ≤ n)
    (hl : ∀ t, t < m → p (lo + (t : Int)) = false) (hh : ∀ t, m ≤ t → t < n → p (lo + (t : Int)) = true)
    (hf : ∀ (x : Int) (w1 : World), lo ≤ x → x < lo + n → Below w.heap.size w w1 → Calls Try.prog 70 #[.int .i64 x, .pointer (some ⟨bp, 0, none⟩), .pointer (some ⟨bb, 0, none⟩)] w1 fun e w2 => e = .returned (.bool (p x)) ∧ Below w1.heap.size w1 w2) :
    Calls Try.prog 69 #[.int .i64 lo, .int .i64 hi, .func (.func 70) #[] #[.pointer (some ⟨bp, 0, none⟩), .pointer (some ⟨bb, 0, none⟩)]] w fun e w2 => e = .returned (.int .i64 (lo + (m : Int))) ∧ Below w.heap.size w w2 := by
  have HF := Lib.hid hf
  have HL := Lib.hid hl
  have HH := Lib.hid hh
  clear hf hl hh
  have e3 : hi - lo + 1 = (n : Int) := h3.symm
  have H3 := Lib.hid e3
  clear e3
  go_enter Try.func69, Try.ntmps69
  go_wp2_with fail
  rw [H3.out]
  have hB2 : Below w.heap.size w ((w.alloc (.cells #[.int .i64 lo] 2)).alloc (.cells #[.func (.func 70) #[] #[.pointer (some ⟨bp, 0, none⟩), .pointer (some ⟨bb, 0, none⟩)]] 86)) := (below_box _ _).alloc (by simp) _
  have hz : w.heap.size + 1 < ((w.alloc (.cells #[.int .i64 lo] 2)).alloc (.cells #[.func (.func 70) #[] #[.pointer (some ⟨bp, 0, none⟩), .pointer (some ⟨bb, 0, none⟩)]] 86)).heap.size := by simp
  refine (searchOth bp bb p lo n m (w.heap.size + 1) w.heap.size _ (by simp) (by simp) h1 h6 hm HL.out HH.out (fun x w1 hx1 hx2 hb => HF.out x w1 hx1 hx2 (hB2.trans (hb.mono hB2.size)))).mono ?_
  rintro e w2 ⟨rfl, hb⟩
  obtain ⟨hc, hfz⟩ := bcell hb
  have HN := Lib.hid hB2
  have HZ := Lib.hid hz
  clear hB2
  go_wp2
  go_ret
  exact ⟨rfl, HN.out.trans (hb.mono HN.out.size)⟩
set_option maxHeartbeats 1000000 in
theorem iOther_any (a b : Int) (w : World) :
    Calls Try.prog 16 #[.int .i64 a, .int .i64 b] w fun e w' => e = .returned (.tuple #[.int .i64 (othA a b), .int .i64 (othB a b)]) ∧ Below w.heap.size w w' := by
  have hB : Below ((w.alloc (.cells #[.int .i64 a] 2)).alloc (.cells #[.int .i64 b] 2)).heap.size ((w.alloc (.cells #[.int .i64 a] 2)).alloc (.cells #[.int .i64 b] 2)) ((w.alloc (.cells #[.int .i64 a] 2)).alloc (.cells #[.int .i64 b] 2)) := Below.refl _ _
  have C0 := Lib.hid (show ((w.alloc (.cells #[.int .i64 a] 2)).alloc (.cells #[.int .i64 b] 2)).cell? ⟨w.heap.size, 0, none⟩ = some (.int .i64 a) by simp)
  have C1 := Lib.hid (show ((w.alloc (.cells #[.int .i64 a] 2)).alloc (.cells #[.int .i64 b] 2)).cell? ⟨w.heap.size + 1, 0, none⟩ = some (.int .i64 b) by simp)
  have HB0 := Lib.hid (show Below ((w.alloc (.cells #[.int .i64 a] 2)).alloc (.cells #[.int .i64 b] 2)).heap.size ((w.alloc (.cells #[.int .i64 a] 2)).alloc (.cells #[.int .i64 b] 2)) ((w.alloc (.cells #[.int .i64 a] 2)).alloc (.cells #[.int .i64 b] 2)) from hB)
  have HBW := Lib.hid (show Below w.heap.size w ((w.alloc (.cells #[.int .i64 a] 2)).alloc (.cells #[.int .i64 b] 2)) from (below_box _ _).alloc (by simp) _)
  clear hB
  cases i1 : inB a 1 1000000
  · have HE := Lib.hid (show othA a b = 0 ∧ othB a b = 2 by simp [othA, othB, othOk, i1])
    go_enter Try.func16, Try.ntmps16
    go_wp2_with (go_at_call 68; refine (isResistance_any _ _).mono ?_; rintro e w1 ⟨rfl, hd1⟩; have hb1 := HB0.out.trans (hd1.mono HB0.out.size); have HB1 := Lib.hid hb1; have hc1 := (hb1.cell (by first | (simp; done) | (simp; omega))).trans C0.out; have hk1 := (hb1.cell (by first | (simp; done) | (simp; omega))).trans C1.out; clear hd1 hb1)
    go_ret2
    exact ⟨ret_ii HE.out.1.symm HE.out.2.symm, HBW.out.trans (HB1.out.mono (by first | (simp; done) | (simp; omega)))⟩
  · cases i2 : inB b 1 1000000
    · have HE := Lib.hid (show othA a b = 0 ∧ othB a b = 2 by simp [othA, othB, othOk, i2])
      go_enter Try.func16, Try.ntmps16
      go_wp2_with (first | (go_at_call 68; refine (isResistance_any _ _).mono ?_; rintro e w1 ⟨rfl, hd1⟩; have hb1 := HB0.out.trans (hd1.mono HB0.out.size); have HB1 := Lib.hid hb1; have hc1 := (hb1.cell (by first | (simp; done) | (simp; omega))).trans C0.out; have hk1 := (hb1.cell (by first | (simp; done) | (simp; omega))).trans C1.out; clear hd1 hb1) | (go_at_call 68; refine (isResistance_any _ _).mono ?_; rintro e w2 ⟨rfl, hd2⟩; have hb2 := HB1.out.trans (hd2.mono HB1.out.size); have HB2 := Lib.hid hb2; have hc2 := (hb2.cell (by first | (simp; done) | (simp; omega))).trans C0.out; have hk2 := (hb2.cell (by first | (simp; done) | (simp; omega))).trans C1.out; clear hd2 hb2))
      go_ret2
      exact ⟨ret_ii HE.out.1.symm HE.out.2.symm, HBW.out.trans (HB2.out.mono (by first | (simp; done) | (simp; omega)))⟩
    · have HE := Lib.hid (show othA a b = (if othN a b < 1000000 then 1 + (othN a b : Int) else 0) ∧ othB a b = (if othN a b < 1000000 then 0 else 3) by simp [othA, othB, othOk, i1, i2])
      have HA := Lib.hid (inB_iff.1 i1)
      have HSP := Lib.hid (oth_spec (b := b) HA.out).2
      have hN := (oth_spec (b := b) HA.out).1
      generalize othN a b = N at *
      by_cases hn : N < 1000000
      · rw [if_pos hn, if_pos hn] at HE
        have t1 : ¬ (1000000 : Int) < 1 + (N : Int) := by omega
        go_enter Try.func16, Try.ntmps16
        go_wp2_with (first | (go_at_call 68; refine (isResistance_any _ _).mono ?_; rintro e w1 ⟨rfl, hd1⟩; have hb1 := HB0.out.trans (hd1.mono HB0.out.size); have HB1 := Lib.hid hb1; have hc1 := (hb1.cell (by first | (simp; done) | (simp; omega))).trans C0.out; have hk1 := (hb1.cell (by first | (simp; done) | (simp; omega))).trans C1.out; clear hd1 hb1) | (go_at_call 68; refine (isResistance_any _ _).mono ?_; rintro e w2 ⟨rfl, hd2⟩; have hb2 := HB1.out.trans (hd2.mono HB1.out.size); have HB2 := Lib.hid hb2; have hc2 := (hb2.cell (by first | (simp; done) | (simp; omega))).trans C0.out; have hk2 := (hb2.cell (by first | (simp; done) | (simp; omega))).trans C1.out; clear hd2 hb2) | (go_at_call 69; refine (leastOth w.heap.size (w.heap.size + 1) (othP a b) 1 1000000 1000000 N w2 (by omega) (by omega) (by omega) (by omega) (by omega) hN HSP.out.1 HSP.out.2 (fun x w1 hx1 hx2 hb => othFits_any a b x w.heap.size (w.heap.size + 1) w1 ((hb.cell (World.block_lt_of_cell? _ _ hc2)).trans hc2) ((hb.cell (World.block_lt_of_cell? _ _ hk2)).trans hk2) HA.out ⟨hx1, by omega⟩)).mono ?_; rintro e w3 ⟨rfl, hd3⟩; have HB3 := Lib.hid (HB2.out.trans (hd3.mono HB2.out.size)); clear hd3))
        go_ret2
        exact ⟨ret_ii HE.out.1.symm HE.out.2.symm, HBW.out.trans (HB3.out.mono (by first | (simp; done) | (simp; omega)))⟩
      · rw [if_neg hn, if_neg hn] at HE
        have t1 : (1000000 : Int) < 1 + (N : Int) := by omega
        go_enter Try.func16, Try.ntmps16
        go_wp2_with (first | (go_at_call 68; refine (isResistance_any _ _).mono ?_; rintro e w1 ⟨rfl, hd1⟩; have hb1 := HB0.out.trans (hd1.mono HB0.out.size); have HB1 := Lib.hid hb1; have hc1 := (hb1.cell (by first | (simp; done) | (simp; omega))).trans C0.out; have hk1 := (hb1.cell (by first | (simp; done) | (simp; omega))).trans C1.out; clear hd1 hb1) | (go_at_call 68; refine (isResistance_any _ _).mono ?_; rintro e w2 ⟨rfl, hd2⟩; have hb2 := HB1.out.trans (hd2.mono HB1.out.size); have HB2 := Lib.hid hb2; have hc2 := (hb2.cell (by first | (simp; done) | (simp; omega))).trans C0.out; have hk2 := (hb2.cell (by first | (simp; done) | (simp; omega))).trans C1.out; clear hd2 hb2) | (go_at_call 69; refine (leastOth w.heap.size (w.heap.size + 1) (othP a b) 1 1000000 1000000 N w2 (by omega) (by omega) (by omega) (by omega) (by omega) hN HSP.out.1 HSP.out.2 (fun x w1 hx1 hx2 hb => othFits_any a b x w.heap.size (w.heap.size + 1) w1 ((hb.cell (World.block_lt_of_cell? _ _ hc2)).trans hc2) ((hb.cell (World.block_lt_of_cell? _ _ hk2)).trans hk2) HA.out ⟨hx1, by omega⟩)).mono ?_; rintro e w3 ⟨rfl, hd3⟩; have HB3 := Lib.hid (HB2.out.trans (hd3.mono HB2.out.size)); clear hd3))
        go_ret2
        exact ⟨ret_ii HE.out.1.symm HE.out.2.symm, HBW.out.trans (HB3.out.mono (by first | (simp; done) | (simp; omega)))⟩
end Go.Proofs.Ytmjinanapihkoaa
