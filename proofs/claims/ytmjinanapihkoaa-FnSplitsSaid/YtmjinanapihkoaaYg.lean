/-
  Contracts of chapter 8: the least number of equal airways; the model's and the program's. Conditions: those that each theorem states.
-/
import Derived.Test.YtmjinanapihkoaaYe
import Derived.Test.YtmjinanapihkoaaYf
namespace Go.Proofs.Ytmjinanapihkoaa
open Go.RowKit
set_option linter.unusedVariables false
set_option linter.unusedSimpArgs false

theorem condS_rep (r : Int) : ∀ c : Nat, condS (List.replicate c r) = (c : Int) * condR r
  | 0 => by simp [condS, condL]
  | c + 1 => by
    have h := condS_rep r c
    unfold condS condL at *
    rw [List.replicate_succ, List.map_cons, List.sum_cons, h, Int.natCast_add, Int.add_mul]
    omega
theorem resL_rep {r : Int} {c : Nat} (hr : 1 ≤ r ∧ r ≤ 1000000) (h1 : 1 ≤ c) (h2 : c ≤ 24) : resL (List.replicate c r) = true := by
  rw [resL_iff]
  refine ⟨by simp; omega, fun y hy => ?_⟩
  rw [(List.mem_replicate.1 hy).2]
  exact hr
def arP (r b : Int) (c : Nat) : Bool := decide (parR (List.replicate c r) ≤ b)
def arN (r b : Int) : Nat := firstN (fun t => arP r b (t + 1)) 24
theorem ar_mono {r b : Int} {c d : Nat} (hr : 1 ≤ r ∧ r ≤ 1000000) (h1 : 1 ≤ c) (h : c ≤ d) (hp : arP r b c = true) : arP r b d = true := by
  unfold arP at *
  simp only [decide_eq_true_eq] at *
  have hc := condR_bd hr.1 hr.2
  have := parR_anti (xs := List.replicate c r) (ys := List.replicate d r) (by rw [condS_rep]; have := Int.mul_le_mul (show (1 : Int) ≤ (c : Int) by omega) (show 1 ≤ condR r by omega) (by omega) (by omega); omega)
    (by rw [condS_rep, condS_rep]; exact Int.mul_le_mul_of_nonneg_right (by omega) (by omega))
  omega
theorem ar_spec {r b : Int} (hr : 1 ≤ r ∧ r ≤ 1000000) : arN r b ≤ 24 ∧ (∀ t : Nat, t < arN r b → arP r b (t + 1) = false) ∧ (∀ t : Nat, arN r b ≤ t → t < 24 → arP r b (t + 1) = true) := by
  obtain ⟨h1, h2, h3⟩ := firstN_spec (fun t => arP r b (t + 1)) 24
  refine ⟨h1, h2, fun t ht hl => ?_⟩
  exact ar_mono hr (by omega) (show arN r b + 1 ≤ t + 1 by omega) (h3 (Nat.lt_of_le_of_lt ht hl))
theorem ar_uniq {r b : Int} {k : Nat} (h : k ≤ 24) (h1 : ∀ t, t < k → arP r b (t + 1) = false) (h2 : k < 24 → arP r b (k + 1) = true) : arN r b = k := firstN_uniq _ _ _ h h1 h2
/-- What AirwaysFor returns. -/
def arfA (r b : Int) : Int := if othOk r b then (if arN r b < 24 then 1 + (arN r b : Int) else 0) else 0
def arfB (r b : Int) : Int := if othOk r b then (if arN r b < 24 then 0 else 3) else 2
theorem one_row (W : World) (T : TypeId) (x : Int) : Row .i64 (W.alloc (.cells #[.int .i64 x] T)) (.slice (some ⟨W.heap.size, 0, none⟩) 1 1) [x] := row_here .i64 W [x] T _ 1 1 rfl rfl
theorem row_drew {W : World} {v : Value} {xs : List Int} (h : Row .i64 W v xs) : Row .i64 W.drew v xs := by
  rcases h with h | ⟨b, off, c, e, hc⟩
  · exact .inl h
  · exact .inr ⟨b, off, c, e, fun j hj => hc j hj⟩
theorem rep_row {W : World} {B : Nat} {v : Value} {r : Int} {c : Nat} (h : W.ownsRow B 2 1 v c (intsV (List.replicate c r))) : RowW .i64 W v (List.replicate c r) := by
  refine RowW.of_ownI (B := B) ?_
  unfold OwnI
  rw [List.length_replicate]
  exact h
set_option maxHeartbeats 1000000 in
theorem arFits_any (r b : Int) (c bp bb : Nat) (w : World) (c0 : w.cell? ⟨bp, 0, none⟩ = some (.int .i64 r)) (c1 : w.cell? ⟨bb, 0, none⟩ = some (.int .i64 b)) (hr : 1 ≤ r ∧ r ≤ 1000000) (hc1 : 1 ≤ c) (hc2 : c ≤ 24) :
    Calls Try.prog 89 #[.int .i64 (c : Int), .pointer (some ⟨bp, 0, none⟩), .pointer (some ⟨bb, 0, none⟩)] w fun e w' => e = .returned (.bool (arP r b c)) ∧ Below w.heap.size w w' := by
  have HRL := Lib.hid (resL_rep hr hc1 hc2)
  have HE := Lib.hid (show arP r b c = decide (parR (List.replicate c r) ≤ b) from rfl)
  clear hr
  go_enter Try.func89, Try.ntmps89
  go_wp2
  refine wp_region_held (S := fun w' => w'.cell? ⟨bp, 0, none⟩ = some (.int .i64 r) ∧ w'.cell? ⟨bb, 0, none⟩ = some (.int .i64 b) ∧ Below w.heap.size w w') (by kernel_rfl) ?_
  try (change wpAnyH _ _ _ _ _ _ _ _ (World.drew _))
  have hS0 := (show w.drew.cell? ⟨bp, 0, none⟩ = some (.int .i64 r) ∧ w.drew.cell? ⟨bb, 0, none⟩ = some (.int .i64 b) ∧ Below w.heap.size w w.drew from ⟨c0, c1, Below.drew (Below.refl _ _)⟩)
  refine gTake 0 (v := ?_) rfl (by kernel_rfl) (by kernel_rfl) (by kernel_rfl) (fun _ _ _ h => h) (by kernel_rfl) ?_ hS0 ?_
  rotate_left
  · (intro W hW; have q0 := hW.1; have q1 := hW.2.1; clear hW; go_simp; try with_reducible rfl)
  refine gTake 2 (v := ?_) rfl (by kernel_rfl) (by kernel_rfl) (by kernel_rfl) (fun _ _ _ h => h) (by kernel_rfl) ?_ hS0 ?_
  rotate_left
  · (intro W hW; clear hW; go_simp; try with_reducible rfl)
  refine gTake 5 (v := ?_) rfl (by kernel_rfl) (by kernel_rfl) (by kernel_rfl) (fun _ _ _ h => h) (by kernel_rfl) ?_ hS0 ?_
  rotate_left
  · (intro W hW; have q0 := hW.1; have q1 := hW.2.1; clear hW; go_simp; try with_reducible rfl)
  refine gOne 1 rfl (by kernel_rfl) (by kernel_rfl) (fun K hK => ?_)
  go_simp
  skip
  refine viaS (hK _ _) ?_ (fun hS1 => ?_)
  · exact ⟨(World.cell?_alloc_old _ _ _ (Nat.ne_of_lt (World.block_lt_of_cell? _ _ hS0.1))).trans hS0.1, (World.cell?_alloc_old _ _ _ (Nat.ne_of_lt (World.block_lt_of_cell? _ _ hS0.2.1))).trans hS0.2.1, hS0.2.2.alloc hS0.2.2.size _⟩
  clear hK K
  refine gOne 3 rfl (by kernel_rfl) (by kernel_rfl) (fun K hK => ?_)
  go_simp
  go_at_call 90
  refine (repeat_any (.slice (some ⟨w.heap.size, 0, none⟩) 1 1) r c ((w.alloc (.cells #[.int .i64 r] 2)).drew) (row_drew (one_row w _ r)) hc1 hc2).mono ?_
  rintro e wq1 ⟨rfl, ho1, hdq1⟩
  have hsz : ((w.alloc (.cells #[.int .i64 r] 2)).drew).heap.size = w.heap.size + 1 := by simp
  rw [hsz] at ho1
  clear hsz
  have HO1 := Lib.hid ho1
  clear ho1
  try go_simp
  have hS2 := (show wq1.cell? ⟨bp, 0, none⟩ = some (.int .i64 r) ∧ wq1.cell? ⟨bb, 0, none⟩ = some (.int .i64 b) ∧ Below w.heap.size w wq1 from ⟨cellK hS1.1 hdq1, cellK hS1.2.1 hdq1, hS1.2.2.trans (hdq1.mono hS1.2.2.size)⟩)
  refine hK _ _ hS2 ?_
  clear hK K
  refine gOne 4 rfl (by kernel_rfl) (by kernel_rfl) (fun K hK => ?_)
  go_simp
  go_at_call 63
  refine (iParallel_any _ (List.replicate c r) wq1 (rep_row HO1.out) HRL.out).mono ?_
  rintro e wq2 ⟨rfl, hdq2⟩
  try go_simp
  have hS3 := (show wq2.cell? ⟨bp, 0, none⟩ = some (.int .i64 r) ∧ wq2.cell? ⟨bb, 0, none⟩ = some (.int .i64 b) ∧ Below w.heap.size w wq2 from ⟨cellK hS2.1 hdq2, cellK hS2.2.1 hdq2, hS2.2.2.trans (hdq2.mono hS2.2.2.size)⟩)
  refine hK _ _ hS3 ?_
  clear hK K
  refine gTake 6 (v := ?_) rfl (by kernel_rfl) (by kernel_rfl) (by kernel_rfl) (fun _ _ _ h => h) (by kernel_rfl) ?_ hS3 ?_
  rotate_left
  · (intro W hW; clear hW; go_simp; try with_reducible rfl)
  refine gTake 7 (v := ?_) rfl (by kernel_rfl) (by kernel_rfl) (by kernel_rfl) (fun _ _ _ h => h) (by kernel_rfl) ?_ hS3 ?_
  rotate_left
  · (intro W hW; clear hW; go_simp; try with_reducible rfl)
  refine wpAnyH_done (by kernel_rfl) ?_ _
  go_simp
  go_wp2
  go_ret
  exact ⟨ret_bool HE.out.symm, hS3.2.2⟩
theorem stepArw (bp bb : Nat) (p : Int → Bool) (lo : Int) (i : Nat) (bf bl : Nat) (w1 : World) (c0 : w1.cell? ⟨bf, 0, none⟩ = some (.func (.func 89) #[] #[.pointer (some ⟨bp, 0, none⟩), .pointer (some ⟨bb, 0, none⟩)])) (c1 : w1.cell? ⟨bl, 0, none⟩ = some (.int .i64 lo))
    (h1 : -1000000 ≤ lo ∧ lo ≤ 1000000) (h2 : i ≤ 1000000) (hf : Calls Try.prog 89 #[.int .i64 (lo + (i : Int)), .pointer (some ⟨bp, 0, none⟩), .pointer (some ⟨bb, 0, none⟩)] w1 fun e w2 => e = .returned (.bool (p (lo + (i : Int)))) ∧ Below w1.heap.size w1 w2) :
    Calls Try.prog 144 #[.int .i64 (i : Int), .pointer (some ⟨bf, 0, none⟩), .pointer (some ⟨bl, 0, none⟩)] w1 fun e w2 => e = .returned (.bool (p (lo + (i : Int)))) ∧ Below w1.heap.size w1 w2 := by
  have HF := hide hf
  clear hf
  go_enter Try.func144, Try.ntmps144
  go_wp2_with (go_at_call 89; refine (unhide HF).mono ?_; rintro e w2 ⟨rfl, hb⟩)
  go_ret
  exact ⟨rfl, hb⟩
theorem searchArw (bp bb : Nat) (p : Int → Bool) (lo : Int) (n m : Nat) (bf bl : Nat) (w : World) (c0 : w.cell? ⟨bf, 0, none⟩ = some (.func (.func 89) #[] #[.pointer (some ⟨bp, 0, none⟩), .pointer (some ⟨bb, 0, none⟩)])) (c1 : w.cell? ⟨bl, 0, none⟩ = some (.int .i64 lo))
    (h1 : -1000000 ≤ lo ∧ lo ≤ 1000000) (h2 : n ≤ 1000000) (hm : m ≤ n) (hl : ∀ t, t < m → p (lo + (t : Int)) = false) (hh : ∀ t, m ≤ t → t < n → p (lo + (t : Int)) = true)
    (hf : ∀ (x : Int) (w1 : World), lo ≤ x → x < lo + n → Below w.heap.size w w1 → Calls Try.prog 89 #[.int .i64 x, .pointer (some ⟨bp, 0, none⟩), .pointer (some ⟨bb, 0, none⟩)] w1 fun e w2 => e = .returned (.bool (p x)) ∧ Below w1.heap.size w1 w2) :
    Calls Try.prog 143 #[.int .i64 (n : Int), .func (.func 144) #[] #[.pointer (some ⟨bf, 0, none⟩), .pointer (some ⟨bl, 0, none⟩)]] w fun e w2 => e = .returned (.int .i64 (m : Int)) ∧ Below w.heap.size w w2 := by
  have HF := Lib.hid hf
  have HL := Lib.hid hl
  have HH := Lib.hid hh
  have C0 := Lib.hid c0
  have C1 := Lib.hid c1
  clear hf hl hh c0 c1
  go_enter Try.func143, Try.ntmps143
  go_wp2
  go_loopw [5, 6] (fun x y wr => ∃ a b : Nat, x = .int .i64 a ∧ y = .int .i64 b ∧ (a ≤ m ∧ m ≤ b) ∧ b ≤ n ∧ Below w.heap.size w wr) (fun x y wr => (intOf y).toNat - (intOf x).toNat)
  case atStart => exact ⟨0, n, rfl, rfl, ⟨by omega, hm⟩, by omega, Below.refl _ _⟩
  case round =>
    obtain ⟨a, b, rfl, rfl, ⟨hab, hmb⟩, hbn, hbel⟩ := hrel
    by_cases hlt : a < b
    · have hc0 := (hbel.cell (World.block_lt_of_cell? _ _ C0.out)).trans C0.out
      have hc1 := (hbel.cell (World.block_lt_of_cell? _ _ C1.out)).trans C1.out
      have hs := stepArw bp bb p lo ((a + b) / 2) bf bl wr hc0 hc1 h1 (by omega) (HF.out _ _ (by omega) (by omega) hbel)
      rw [show (((a + b) / 2 : Nat) : Int) = ((a : Int) + (b : Int)) / 2 by omega] at hs
      cases hp : p (lo + ((a : Int) + (b : Int)) / 2)
      · rw [hp] at hs
        have hx : (a + b) / 2 < m := by
          apply Nat.lt_of_not_le; intro hle
          have := HH.out ((a + b) / 2) hle (by omega)
          rw [show (((a + b) / 2 : Nat) : Int) = ((a : Int) + (b : Int)) / 2 by omega, hp] at this
          cases this
        have HS := hide hs
        have HP := Lib.hid hp
        have HB := Lib.hid hbel
        clear hs hp hc0 hc1 hbel
        go_wp2_with (go_at_call 144; refine (unhide HS).mono ?_; rintro e w2 ⟨rfl, hb2⟩)
        go_roundw
        case rel => exact ⟨(a + b) / 2 + 1, b, by rw [show ((a : Int) + (b : Int)) / 2 + 1 = (((a + b) / 2 + 1 : Nat) : Int) by omega], rfl, ⟨by omega, hmb⟩, hbn, HB.out.trans (hb2.mono HB.out.size)⟩
        case measure => simp [intOf]; omega
      · rw [hp] at hs
        have hx : m ≤ (a + b) / 2 := by
          apply Nat.le_of_not_lt; intro hle
          have := HL.out ((a + b) / 2) hle
          rw [show (((a + b) / 2 : Nat) : Int) = ((a : Int) + (b : Int)) / 2 by omega, hp] at this
          cases this
        have HS := hide hs
        have HP := Lib.hid hp
        have HB := Lib.hid hbel
        clear hs hp hc0 hc1 hbel
        go_wp2_with (go_at_call 144; refine (unhide HS).mono ?_; rintro e w2 ⟨rfl, hb2⟩)
        go_roundw
        case rel => exact ⟨a, (a + b) / 2, rfl, by rw [show ((a : Int) + (b : Int)) / 2 = (((a + b) / 2 : Nat) : Int) by omega], ⟨hab, hx⟩, by omega, HB.out.trans (hb2.mono HB.out.size)⟩
        case measure => simp [intOf]; omega
    · obtain rfl : m = a := by omega
      go_wp2
      go_ret
      exact ⟨rfl, hbel⟩
theorem leastArw (bp bb : Nat) (p : Int → Bool) (lo hi : Int) (n m : Nat) (w : World) (h1 : -1000000 ≤ lo ∧ lo ≤ 1000000) (h3 : (n : Int) = hi - lo + 1) (h4 : hi ≤ 900000) (h5 : lo ≤ hi) (h6 : n ≤ 1000000) (hm : m ≤ n)
    (hl : ∀ t, t < m → p (lo + (t : Int)) = false) (hh : ∀ t, m ≤ t → t < n → p (lo + (t : Int)) = true)
    (hf : ∀ (x : Int) (w1 : World), lo ≤ x → x < lo + n → Below w.heap.size w w1 → Calls Try.prog 89 #[.int .i64 x, .pointer (some ⟨bp, 0, none⟩), .pointer (some ⟨bb, 0, none⟩)] w1 fun e w2 => e = .returned (.bool (p x)) ∧ Below w1.heap.size w1 w2) :
    Calls Try.prog 69 #[.int .i64 lo, .int .i64 hi, .func (.func 89) #[] #[.pointer (some ⟨bp, 0, none⟩), .pointer (some ⟨bb, 0, none⟩)]] w fun e w2 => e = .returned (.int .i64 (lo + (m : Int))) ∧ Below w.heap.size w w2 := by
  have HF := Lib.hid hf
  have HL := Lib.hid hl
  have HH := Lib.hid hh
  clear hf hl hh
  have e3 : hi - lo + 1 = (n : Int) := h3.symm
  have H3 := Lib.hid e3
  clear e3
  go_enter Try.func69, Try.ntmps69
  go_wp2_with fail
  rw [H3.out]
  have hB2 : Below w.heap.size w ((w.alloc (.cells #[.int .i64 lo] 2)).alloc (.cells #[.func (.func 89) #[] #[.pointer (some ⟨bp, 0, none⟩), .pointer (some ⟨bb, 0, none⟩)]] 86)) := (below_box _ _).alloc (by simp) _
  have hz : w.heap.size + 1 < ((w.alloc (.cells #[.int .i64 lo] 2)).alloc (.cells #[.func (.func 89) #[] #[.pointer (some ⟨bp, 0, none⟩), .pointer (some ⟨bb, 0, none⟩)]] 86)).heap.size := by simp
  refine (searchArw bp bb p lo n m (w.heap.size + 1) w.heap.size _ (by simp) (by simp) h1 h6 hm HL.out HH.out (fun x w1 hx1 hx2 hb => HF.out x w1 hx1 hx2 (hB2.trans (hb.mono hB2.size)))).mono ?_
  rintro e w2 ⟨rfl, hb⟩
  obtain ⟨hc, hfz⟩ := bcell hb
  have HN := Lib.hid hB2
  have HZ := Lib.hid hz
  clear hB2
  go_wp2
  go_ret
  exact ⟨rfl, HN.out.trans (hb.mono HN.out.size)⟩
set_option maxHeartbeats 1000000 in
theorem iAirwaysFor_any (r b : Int) (w : World) :
    Calls Try.prog 24 #[.int .i64 r, .int .i64 b] w fun e w' => e = .returned (.tuple #[.int .i64 (arfA r b), .int .i64 (arfB r b)]) ∧ Below w.heap.size w w' := by
  have hB : Below ((w.alloc (.cells #[.int .i64 r] 2)).alloc (.cells #[.int .i64 b] 2)).heap.size ((w.alloc (.cells #[.int .i64 r] 2)).alloc (.cells #[.int .i64 b] 2)) ((w.alloc (.cells #[.int .i64 r] 2)).alloc (.cells #[.int .i64 b] 2)) := Below.refl _ _
  have C0 := Lib.hid (show ((w.alloc (.cells #[.int .i64 r] 2)).alloc (.cells #[.int .i64 b] 2)).cell? ⟨w.heap.size, 0, none⟩ = some (.int .i64 r) by simp)
  have C1 := Lib.hid (show ((w.alloc (.cells #[.int .i64 r] 2)).alloc (.cells #[.int .i64 b] 2)).cell? ⟨w.heap.size + 1, 0, none⟩ = some (.int .i64 b) by simp)
  have HB0 := Lib.hid (show Below ((w.alloc (.cells #[.int .i64 r] 2)).alloc (.cells #[.int .i64 b] 2)).heap.size ((w.alloc (.cells #[.int .i64 r] 2)).alloc (.cells #[.int .i64 b] 2)) ((w.alloc (.cells #[.int .i64 r] 2)).alloc (.cells #[.int .i64 b] 2)) from hB)
  have HBW := Lib.hid (show Below w.heap.size w ((w.alloc (.cells #[.int .i64 r] 2)).alloc (.cells #[.int .i64 b] 2)) from (below_box _ _).alloc (by simp) _)
  clear hB
  cases i1 : inB r 1 1000000
  · have HE := Lib.hid (show arfA r b = 0 ∧ arfB r b = 2 by simp [arfA, arfB, othOk, i1])
    go_enter Try.func24, Try.ntmps24
    go_wp2_with (go_at_call 68; refine (isResistance_any _ _).mono ?_; rintro e w1 ⟨rfl, hd1⟩; have hb1 := HB0.out.trans (hd1.mono HB0.out.size); have HB1 := Lib.hid hb1; have hc1 := (hb1.cell (by first | (simp; done) | (simp; omega))).trans C0.out; have hk1 := (hb1.cell (by first | (simp; done) | (simp; omega))).trans C1.out; clear hd1 hb1)
    go_ret2
    exact ⟨ret_ii HE.out.1.symm HE.out.2.symm, HBW.out.trans (HB1.out.mono (by first | (simp; done) | (simp; omega)))⟩
  · cases i2 : inB b 1 1000000
    · have HE := Lib.hid (show arfA r b = 0 ∧ arfB r b = 2 by simp [arfA, arfB, othOk, i2])
      go_enter Try.func24, Try.ntmps24
      go_wp2_with (first | (go_at_call 68; refine (isResistance_any _ _).mono ?_; rintro e w1 ⟨rfl, hd1⟩; have hb1 := HB0.out.trans (hd1.mono HB0.out.size); have HB1 := Lib.hid hb1; have hc1 := (hb1.cell (by first | (simp; done) | (simp; omega))).trans C0.out; have hk1 := (hb1.cell (by first | (simp; done) | (simp; omega))).trans C1.out; clear hd1 hb1) | (go_at_call 68; refine (isResistance_any _ _).mono ?_; rintro e w2 ⟨rfl, hd2⟩; have hb2 := HB1.out.trans (hd2.mono HB1.out.size); have HB2 := Lib.hid hb2; have hc2 := (hb2.cell (by first | (simp; done) | (simp; omega))).trans C0.out; have hk2 := (hb2.cell (by first | (simp; done) | (simp; omega))).trans C1.out; clear hd2 hb2))
      go_ret2
      exact ⟨ret_ii HE.out.1.symm HE.out.2.symm, HBW.out.trans (HB2.out.mono (by first | (simp; done) | (simp; omega)))⟩
    · have HE := Lib.hid (show arfA r b = (if arN r b < 24 then 1 + (arN r b : Int) else 0) ∧ arfB r b = (if arN r b < 24 then 0 else 3) by simp [arfA, arfB, othOk, i1, i2])
      have HA := Lib.hid (inB_iff.1 i1)
      have hsp := ar_spec (b := b) HA.out
      have hN := hsp.1
      have HSP := Lib.hid (show (∀ t : Nat, t < arN r b → arP r b ((1 + (t : Int)).toNat) = false) ∧ (∀ t : Nat, arN r b ≤ t → t < 24 → arP r b ((1 + (t : Int)).toNat) = true) from
        ⟨fun t ht => by rw [show (1 + (t : Int)).toNat = t + 1 by omega]; exact hsp.2.1 t ht, fun t h1 h2 => by rw [show (1 + (t : Int)).toNat = t + 1 by omega]; exact hsp.2.2 t h1 h2⟩)
      clear hsp
      have HFT := Lib.hid (fun (W : World) (hc : W.cell? ⟨w.heap.size, 0, none⟩ = some (.int .i64 r)) (hk : W.cell? ⟨w.heap.size + 1, 0, none⟩ = some (.int .i64 b)) (x : Int) (w1 : World) (h1 : 1 ≤ x) (h2 : x ≤ 24) (hb : Below W.heap.size W w1) =>
        show Calls Try.prog 89 #[.int .i64 x, .pointer (some ⟨w.heap.size, 0, none⟩), .pointer (some ⟨w.heap.size + 1, 0, none⟩)] w1 fun e w2 => e = .returned (.bool (arP r b x.toNat)) ∧ Below w1.heap.size w1 w2 from by
          have h := arFits_any r b x.toNat w.heap.size (w.heap.size + 1) w1 ((hb.cell (World.block_lt_of_cell? _ _ hc)).trans hc) ((hb.cell (World.block_lt_of_cell? _ _ hk)).trans hk) HA.out (by omega) (by omega)
          rwa [show ((x.toNat : Nat) : Int) = x by omega] at h)
      generalize arN r b = N at *
      by_cases hn : N < 24
      · rw [if_pos hn, if_pos hn] at HE
        have t1 : ¬ (24 : Int) < 1 + (N : Int) := by omega
        go_enter Try.func24, Try.ntmps24
        go_wp2_with (first | (go_at_call 68; refine (isResistance_any _ _).mono ?_; rintro e w1 ⟨rfl, hd1⟩; have hb1 := HB0.out.trans (hd1.mono HB0.out.size); have HB1 := Lib.hid hb1; have hc1 := (hb1.cell (by first | (simp; done) | (simp; omega))).trans C0.out; have hk1 := (hb1.cell (by first | (simp; done) | (simp; omega))).trans C1.out; clear hd1 hb1) | (go_at_call 68; refine (isResistance_any _ _).mono ?_; rintro e w2 ⟨rfl, hd2⟩; have hb2 := HB1.out.trans (hd2.mono HB1.out.size); have HB2 := Lib.hid hb2; have hc2 := (hb2.cell (by first | (simp; done) | (simp; omega))).trans C0.out; have hk2 := (hb2.cell (by first | (simp; done) | (simp; omega))).trans C1.out; clear hd2 hb2) | (go_at_call 69; refine (leastArw w.heap.size (w.heap.size + 1) (fun x => arP r b x.toNat) 1 24 24 N w2 (by omega) (by omega) (by omega) (by omega) (by omega) hN HSP.out.1 HSP.out.2 (fun x w1 hx1 hx2 hb => HFT.out w2 hc2 hk2 x w1 hx1 (by omega) hb)).mono ?_; rintro e w3 ⟨rfl, hd3⟩; have HB3 := Lib.hid (HB2.out.trans (hd3.mono HB2.out.size)); clear hd3))
        go_ret2
        exact ⟨ret_ii HE.out.1.symm HE.out.2.symm, HBW.out.trans (HB3.out.mono (by first | (simp; done) | (simp; omega)))⟩
      · rw [if_neg hn, if_neg hn] at HE
        have t1 : (24 : Int) < 1 + (N : Int) := by omega
        go_enter Try.func24, Try.ntmps24
        go_wp2_with (first | (go_at_call 68; refine (isResistance_any _ _).mono ?_; rintro e w1 ⟨rfl, hd1⟩; have hb1 := HB0.out.trans (hd1.mono HB0.out.size); have HB1 := Lib.hid hb1; have hc1 := (hb1.cell (by first | (simp; done) | (simp; omega))).trans C0.out; have hk1 := (hb1.cell (by first | (simp; done) | (simp; omega))).trans C1.out; clear hd1 hb1) | (go_at_call 68; refine (isResistance_any _ _).mono ?_; rintro e w2 ⟨rfl, hd2⟩; have hb2 := HB1.out.trans (hd2.mono HB1.out.size); have HB2 := Lib.hid hb2; have hc2 := (hb2.cell (by first | (simp; done) | (simp; omega))).trans C0.out; have hk2 := (hb2.cell (by first | (simp; done) | (simp; omega))).trans C1.out; clear hd2 hb2) | (go_at_call 69; refine (leastArw w.heap.size (w.heap.size + 1) (fun x => arP r b x.toNat) 1 24 24 N w2 (by omega) (by omega) (by omega) (by omega) (by omega) hN HSP.out.1 HSP.out.2 (fun x w1 hx1 hx2 hb => HFT.out w2 hc2 hk2 x w1 hx1 (by omega) hb)).mono ?_; rintro e w3 ⟨rfl, hd3⟩; have HB3 := Lib.hid (HB2.out.trans (hd3.mono HB2.out.size)); clear hd3))
        go_ret2
        exact ⟨ret_ii HE.out.1.symm HE.out.2.symm, HBW.out.trans (HB3.out.mono (by first | (simp; done) | (simp; omega)))⟩
end Go.Proofs.Ytmjinanapihkoaa
