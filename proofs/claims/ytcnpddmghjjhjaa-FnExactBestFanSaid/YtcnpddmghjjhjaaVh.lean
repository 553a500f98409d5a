/-
  Contracts of chapter 6: the greatest flow at which a fan has a pressure, or that of a resistance; the model's and the program's. Conditions: those that each theorem states.
-/
import Derived.Test.YtcnpddmghjjhjaaVg
import Derived.Test.YtcnpddmghjjhjaaDn
namespace Go.Proofs.Ytcnpddmghjjhjaa
open Go.RowKit
set_option linter.unusedVariables false
set_option linter.unusedSimpArgs false

/-- The greatest flow up to which a test fails. -/
def lastN (p : Int → Bool) : Nat := firstN (fun t => p (1 + (t : Int))) 100000
theorem lastN_spec (p : Int → Bool) (hm : ∀ a b : Int, 0 ≤ a → a ≤ b → p a = true → p b = true) : lastN p ≤ 100000 ∧ (∀ t : Nat, t < lastN p → p (1 + (t : Int)) = false) ∧ (∀ t : Nat, lastN p ≤ t → t < 100000 → p (1 + (t : Int)) = true) := by
  obtain ⟨a, b, c⟩ := firstN_spec (fun t => p (1 + (t : Int))) 100000
  refine ⟨a, b, fun t h1 h2 => ?_⟩
  have h1' : firstN (fun t => p (1 + (t : Int))) 100000 ≤ t := h1
  exact hm _ _ (by omega) (by omega) (c (by omega))
theorem lastN_uniq (p : Int → Bool) (hm : ∀ a b : Int, 0 ≤ a → a ≤ b → p a = true → p b = true) (m : Nat) (h : m ≤ 100000) (h1 : p (m : Int) = false) (h2 : m + 1 ≤ 100000 → p ((m + 1 : Nat) : Int) = true) : lastN p = m := by
  refine firstN_uniq _ _ _ h (fun t ht => ?_) (fun hl => ?_)
  · cases hp : p (1 + (t : Int))
    · rfl
    · rw [hm (1 + (t : Int)) (m : Int) (by omega) (by omega) hp] at h1; cases h1
  · have := h2 (by omega)
    rw [show ((m + 1 : Nat) : Int) = 1 + (m : Int) by omega] at this
    exact this
def pLev (xs : List (List Int)) (y : Int) (q : Int) : Bool := decide (prR xs q < y)
def pDrp (xs : List (List Int)) (r : Int) (q : Int) : Bool := decide (prR xs q < dropR r q)
theorem pLev_mono {xs : List (List Int)} (h : curveOk xs = true) (y : Int) : ∀ a b : Int, 0 ≤ a → a ≤ b → pLev xs y a = true → pLev xs y b = true := by
  intro a b _ hab ha
  have := prR_mono h hab
  simp only [pLev, decide_eq_true_eq] at *
  omega
theorem pDrp_mono {xs : List (List Int)} (h : curveOk xs = true) {r : Int} (hr : 1 ≤ r) : ∀ a b : Int, 0 ≤ a → a ≤ b → pDrp xs r a = true → pDrp xs r b = true := by
  intro a b h0 hab ha
  have := prR_mono h hab
  have := drop_mono hr h0 hab
  simp only [pDrp, decide_eq_true_eq] at *
  omega
theorem pDrp_zero {xs : List (List Int)} (h : curveOk xs = true) (r : Int) : pDrp xs r 0 = false := by
  have := (prR_bd h 0).1
  simp only [pDrp, drop_zero, decide_eq_false_iff_not]
  omega
theorem levelCurve_any (y : Int) (w : World) : Calls Try.prog 59 #[.int .i64 y] w fun e w' => e = .returned (.func (.func 95) #[] #[.pointer (some ⟨w.heap.size, 0, none⟩)]) ∧ w' = w.alloc (.cells #[.int .i64 y] 2) := by
  go_enter Try.func59, Try.ntmps59
  go_wp2
  go_ret
  exact ⟨rfl, rfl⟩
theorem dropCurve_any (r : Int) (w : World) : Calls Try.prog 97 #[.int .i64 r] w fun e w' => e = .returned (.func (.func 116) #[] #[.pointer (some ⟨w.heap.size, 0, none⟩)]) ∧ w' = w.alloc (.cells #[.int .i64 r] 2) := by
  go_enter Try.func97, Try.ntmps97
  go_wp2
  go_ret
  exact ⟨rfl, rfl⟩
theorem needLev_any (y q : Int) (b : Nat) (w : World) (c : w.cell? ⟨b, 0, none⟩ = some (.int .i64 y)) : Calls Try.prog 95 #[.int .i64 q, .pointer (some ⟨b, 0, none⟩)] w fun e w' => e = .returned (.int .i64 y) ∧ Below w.heap.size w w' := by
  go_enter Try.func95, Try.ntmps95
  go_wp2
  go_ret
  exact ⟨rfl, Below.refl _ _⟩
theorem needDrp_any (r q : Int) (b : Nat) (w : World) (c : w.cell? ⟨b, 0, none⟩ = some (.int .i64 r)) (h1 : 1 ≤ r ∧ r ≤ 1000000) (h2 : 0 ≤ q ∧ q ≤ 100000) : Calls Try.prog 116 #[.int .i64 q, .pointer (some ⟨b, 0, none⟩)] w fun e w' => e = .returned (.int .i64 (dropR r q)) ∧ Below w.heap.size w w' := by
  go_enter Try.func116, Try.ntmps116
  go_wp2_with (go_at_call 117; (with_reducible refine (dropAt_any r q _ h1.1 h1.2 (by omega) h2.2).mono ?_); rintro e w' ⟨rfl, n, rfl⟩)
  go_ret
  exact ⟨rfl, below_drewN' (Below.refl _ _) _⟩
theorem testLev_any (bF bC bV : Nat) (s : ByteArray) (a : Int) (A : Option Addr) (cap : Nat) (xs : List (List Int)) (y q : Int) (w : World) (hqb : 0 ≤ q ∧ q ≤ 100000) (hok : curveOk xs = true) (hF : FanAt w bF 0 s a A cap xs) (hcv : w.cell? ⟨bC, 0, none⟩ = some (.func (.func 95) #[] #[.pointer (some ⟨bV, 0, none⟩)])) (hv : w.cell? ⟨bV, 0, none⟩ = some (.int .i64 y)) (hr : RowsR w A xs) (hl : xs.length ≤ 1048576) (hcap : xs.length ≤ cap) (hcm : cap ≤ 1048576) :
    Calls Try.prog 94 #[.int .i64 q, .pointer (some ⟨bF, 0, none⟩), .pointer (some ⟨bC, 0, none⟩)] w fun e w' => e = .returned (.bool (pLev xs y q)) ∧ Below w.heap.size w w' := by
  have HR := Lib.hid hr
  have HOK := Lib.hid hok
  obtain ⟨f0, f1, f2⟩ := hF
  have hq64 : I64 q := by unfold I64; omega
  clear hr hok
  go_enter Try.func94, Try.ntmps94
  go_wp2_with fail
  refine wp_region_held (S := fun w' => w'.cell? ⟨bF, 0, none⟩ = some (.string s) ∧ w'.cell? ⟨bF, 1, none⟩ = some (.int .i64 a) ∧ w'.cell? ⟨bF, 2, none⟩ = some (.slice A xs.length cap) ∧ w'.cell? ⟨bC, 0, none⟩ = some (.func (.func 95) #[] #[.pointer (some ⟨bV, 0, none⟩)]) ∧ w'.cell? ⟨bV, 0, none⟩ = some (.int .i64 y) ∧ Below w.heap.size w w') (by kernel_rfl) ?_
  try (change wpAnyH _ _ _ _ _ _ _ _ (World.drew _))
  have hS0 := (show w.drew.cell? ⟨bF, 0, none⟩ = some (.string s) ∧ w.drew.cell? ⟨bF, 1, none⟩ = some (.int .i64 a) ∧ w.drew.cell? ⟨bF, 2, none⟩ = some (.slice A xs.length cap) ∧ w.drew.cell? ⟨bC, 0, none⟩ = some (.func (.func 95) #[] #[.pointer (some ⟨bV, 0, none⟩)]) ∧ w.drew.cell? ⟨bV, 0, none⟩ = some (.int .i64 y) ∧ Below w.heap.size w w.drew from ⟨f0, f1, f2, hcv, hv, Below.drew (Below.refl _ _)⟩)
  refine gTake 0 (v := ?_) rfl (by kernel_rfl) (by kernel_rfl) (by kernel_rfl) (fun _ _ _ h => h) (by kernel_rfl) ?_ hS0 ?_
  rotate_left
  · (intro W hW; have q0 := hW.1; have q1 := hW.2.1; have q2 := hW.2.2.1; have q3 := hW.2.2.2.1; have q4 := hW.2.2.2.2.1; clear hW; go_simp; try with_reducible rfl)
  refine gTake 1 (v := ?_) rfl (by kernel_rfl) (by kernel_rfl) (by kernel_rfl) (fun _ _ _ h => h) (by kernel_rfl) ?_ hS0 ?_
  rotate_left
  · (intro W hW; clear hW; go_simp; try with_reducible rfl)
  refine gTake 3 (v := ?_) rfl (by kernel_rfl) (by kernel_rfl) (by kernel_rfl) (fun _ _ _ h => h) (by kernel_rfl) ?_ hS0 ?_
  rotate_left
  · (intro W hW; have q0 := hW.1; have q1 := hW.2.1; have q2 := hW.2.2.1; have q3 := hW.2.2.2.1; have q4 := hW.2.2.2.2.1; clear hW; go_simp; try with_reducible rfl)
  refine gTake 4 (v := ?_) rfl (by kernel_rfl) (by kernel_rfl) (by kernel_rfl) (fun _ _ _ h => h) (by kernel_rfl) ?_ hS0 ?_
  rotate_left
  · (intro W hW; clear hW; go_simp; try with_reducible rfl)
  refine gOne 2 rfl (by kernel_rfl) (by kernel_rfl) (fun K hK => ?_)
  go_simp
  go_at_call 56
  (with_reducible refine (pressure_any s a A cap xs q _ hq64 HOK.out (HR.out.below hS0.2.2.2.2.2) hl hcap hcm).mono ?_)
  rintro e wq0 ⟨rfl, hdq0⟩
  try go_simp
  have hS1 := (show wq0.cell? ⟨bF, 0, none⟩ = some (.string s) ∧ wq0.cell? ⟨bF, 1, none⟩ = some (.int .i64 a) ∧ wq0.cell? ⟨bF, 2, none⟩ = some (.slice A xs.length cap) ∧ wq0.cell? ⟨bC, 0, none⟩ = some (.func (.func 95) #[] #[.pointer (some ⟨bV, 0, none⟩)]) ∧ wq0.cell? ⟨bV, 0, none⟩ = some (.int .i64 y) ∧ Below w.heap.size w wq0 from ⟨cellK hS0.1 hdq0, cellK hS0.2.1 hdq0, cellK hS0.2.2.1 hdq0, cellK hS0.2.2.2.1 hdq0, cellK hS0.2.2.2.2.1 hdq0, hS0.2.2.2.2.2.trans (hdq0.mono hS0.2.2.2.2.2.size)⟩)
  refine hK _ _ hS1 ?_
  clear hK K
  refine gOne 5 rfl (by kernel_rfl) (by kernel_rfl) (fun K hK => ?_)
  go_simp
  go_at_call 95
  (with_reducible refine (needLev_any y q bV _ hS1.2.2.2.2.1).mono ?_)
  rintro e wq1 ⟨rfl, hdq1⟩
  try go_simp
  have hS2 := (show wq1.cell? ⟨bF, 0, none⟩ = some (.string s) ∧ wq1.cell? ⟨bF, 1, none⟩ = some (.int .i64 a) ∧ wq1.cell? ⟨bF, 2, none⟩ = some (.slice A xs.length cap) ∧ wq1.cell? ⟨bC, 0, none⟩ = some (.func (.func 95) #[] #[.pointer (some ⟨bV, 0, none⟩)]) ∧ wq1.cell? ⟨bV, 0, none⟩ = some (.int .i64 y) ∧ Below w.heap.size w wq1 from ⟨cellK hS1.1 hdq1, cellK hS1.2.1 hdq1, cellK hS1.2.2.1 hdq1, cellK hS1.2.2.2.1 hdq1, cellK hS1.2.2.2.2.1 hdq1, hS1.2.2.2.2.2.trans (hdq1.mono hS1.2.2.2.2.2.size)⟩)
  refine hK _ _ hS2 ?_
  clear hK K
  refine gTake 6 (v := ?_) rfl (by kernel_rfl) (by kernel_rfl) (by kernel_rfl) (fun _ _ _ h => h) (by kernel_rfl) ?_ hS2 ?_
  rotate_left
  · (intro W hW; clear hW; go_simp; try with_reducible rfl)
  refine gTake 7 (v := ?_) rfl (by kernel_rfl) (by kernel_rfl) (by kernel_rfl) (fun _ _ _ h => h) (by kernel_rfl) ?_ hS2 ?_
  rotate_left
  · (intro W hW; clear hW; go_simp; try with_reducible rfl)
  refine wpAnyH_done (by kernel_rfl) ?_ _
  go_simp
  go_wp2
  go_ret
  exact ⟨rfl, hS2.2.2.2.2.2⟩
theorem testDrp_any (bF bC bV : Nat) (s : ByteArray) (a : Int) (A : Option Addr) (cap : Nat) (xs : List (List Int)) (r q : Int) (w : World) (hqb : 0 ≤ q ∧ q ≤ 100000) (hrr : 1 ≤ r ∧ r ≤ 1000000) (hok : curveOk xs = true) (hF : FanAt w bF 0 s a A cap xs) (hcv : w.cell? ⟨bC, 0, none⟩ = some (.func (.func 116) #[] #[.pointer (some ⟨bV, 0, none⟩)])) (hv : w.cell? ⟨bV, 0, none⟩ = some (.int .i64 r)) (hr : RowsR w A xs) (hl : xs.length ≤ 1048576) (hcap : xs.length ≤ cap) (hcm : cap ≤ 1048576) :
    Calls Try.prog 94 #[.int .i64 q, .pointer (some ⟨bF, 0, none⟩), .pointer (some ⟨bC, 0, none⟩)] w fun e w' => e = .returned (.bool (pDrp xs r q)) ∧ Below w.heap.size w w' := by
  have HR := Lib.hid hr
  have HOK := Lib.hid hok
  obtain ⟨f0, f1, f2⟩ := hF
  have hq64 : I64 q := by unfold I64; omega
  clear hr hok
  go_enter Try.func94, Try.ntmps94
  go_wp2_with fail
  refine wp_region_held (S := fun w' => w'.cell? ⟨bF, 0, none⟩ = some (.string s) ∧ w'.cell? ⟨bF, 1, none⟩ = some (.int .i64 a) ∧ w'.cell? ⟨bF, 2, none⟩ = some (.slice A xs.length cap) ∧ w'.cell? ⟨bC, 0, none⟩ = some (.func (.func 116) #[] #[.pointer (some ⟨bV, 0, none⟩)]) ∧ w'.cell? ⟨bV, 0, none⟩ = some (.int .i64 r) ∧ Below w.heap.size w w') (by kernel_rfl) ?_
  try (change wpAnyH _ _ _ _ _ _ _ _ (World.drew _))
  have hS0 := (show w.drew.cell? ⟨bF, 0, none⟩ = some (.string s) ∧ w.drew.cell? ⟨bF, 1, none⟩ = some (.int .i64 a) ∧ w.drew.cell? ⟨bF, 2, none⟩ = some (.slice A xs.length cap) ∧ w.drew.cell? ⟨bC, 0, none⟩ = some (.func (.func 116) #[] #[.pointer (some ⟨bV, 0, none⟩)]) ∧ w.drew.cell? ⟨bV, 0, none⟩ = some (.int .i64 r) ∧ Below w.heap.size w w.drew from ⟨f0, f1, f2, hcv, hv, Below.drew (Below.refl _ _)⟩)
  refine gTake 0 (v := ?_) rfl (by kernel_rfl) (by kernel_rfl) (by kernel_rfl) (fun _ _ _ h => h) (by kernel_rfl) ?_ hS0 ?_
  rotate_left
  · (intro W hW; have q0 := hW.1; have q1 := hW.2.1; have q2 := hW.2.2.1; have q3 := hW.2.2.2.1; have q4 := hW.2.2.2.2.1; clear hW; go_simp; try with_reducible rfl)
  refine gTake 1 (v := ?_) rfl (by kernel_rfl) (by kernel_rfl) (by kernel_rfl) (fun _ _ _ h => h) (by kernel_rfl) ?_ hS0 ?_
  rotate_left
  · (intro W hW; clear hW; go_simp; try with_reducible rfl)
  refine gTake 3 (v := ?_) rfl (by kernel_rfl) (by kernel_rfl) (by kernel_rfl) (fun _ _ _ h => h) (by kernel_rfl) ?_ hS0 ?_
  rotate_left
  · (intro W hW; have q0 := hW.1; have q1 := hW.2.1; have q2 := hW.2.2.1; have q3 := hW.2.2.2.1; have q4 := hW.2.2.2.2.1; clear hW; go_simp; try with_reducible rfl)
  refine gTake 4 (v := ?_) rfl (by kernel_rfl) (by kernel_rfl) (by kernel_rfl) (fun _ _ _ h => h) (by kernel_rfl) ?_ hS0 ?_
  rotate_left
  · (intro W hW; clear hW; go_simp; try with_reducible rfl)
  refine gOne 2 rfl (by kernel_rfl) (by kernel_rfl) (fun K hK => ?_)
  go_simp
  go_at_call 56
  (with_reducible refine (pressure_any s a A cap xs q _ hq64 HOK.out (HR.out.below hS0.2.2.2.2.2) hl hcap hcm).mono ?_)
  rintro e wq0 ⟨rfl, hdq0⟩
  try go_simp
  have hS1 := (show wq0.cell? ⟨bF, 0, none⟩ = some (.string s) ∧ wq0.cell? ⟨bF, 1, none⟩ = some (.int .i64 a) ∧ wq0.cell? ⟨bF, 2, none⟩ = some (.slice A xs.length cap) ∧ wq0.cell? ⟨bC, 0, none⟩ = some (.func (.func 116) #[] #[.pointer (some ⟨bV, 0, none⟩)]) ∧ wq0.cell? ⟨bV, 0, none⟩ = some (.int .i64 r) ∧ Below w.heap.size w wq0 from ⟨cellK hS0.1 hdq0, cellK hS0.2.1 hdq0, cellK hS0.2.2.1 hdq0, cellK hS0.2.2.2.1 hdq0, cellK hS0.2.2.2.2.1 hdq0, hS0.2.2.2.2.2.trans (hdq0.mono hS0.2.2.2.2.2.size)⟩)
  refine hK _ _ hS1 ?_
  clear hK K
  refine gOne 5 rfl (by kernel_rfl) (by kernel_rfl) (fun K hK => ?_)
  go_simp
  go_at_call 116
  (with_reducible refine (needDrp_any r q bV _ hS1.2.2.2.2.1 hrr hqb).mono ?_)
  rintro e wq1 ⟨rfl, hdq1⟩
  try go_simp
  have hS2 := (show wq1.cell? ⟨bF, 0, none⟩ = some (.string s) ∧ wq1.cell? ⟨bF, 1, none⟩ = some (.int .i64 a) ∧ wq1.cell? ⟨bF, 2, none⟩ = some (.slice A xs.length cap) ∧ wq1.cell? ⟨bC, 0, none⟩ = some (.func (.func 116) #[] #[.pointer (some ⟨bV, 0, none⟩)]) ∧ wq1.cell? ⟨bV, 0, none⟩ = some (.int .i64 r) ∧ Below w.heap.size w wq1 from ⟨cellK hS1.1 hdq1, cellK hS1.2.1 hdq1, cellK hS1.2.2.1 hdq1, cellK hS1.2.2.2.1 hdq1, cellK hS1.2.2.2.2.1 hdq1, hS1.2.2.2.2.2.trans (hdq1.mono hS1.2.2.2.2.2.size)⟩)
  refine hK _ _ hS2 ?_
  clear hK K
  refine gTake 6 (v := ?_) rfl (by kernel_rfl) (by kernel_rfl) (by kernel_rfl) (fun _ _ _ h => h) (by kernel_rfl) ?_ hS2 ?_
  rotate_left
  · (intro W hW; clear hW; go_simp; try with_reducible rfl)
  refine gTake 7 (v := ?_) rfl (by kernel_rfl) (by kernel_rfl) (by kernel_rfl) (fun _ _ _ h => h) (by kernel_rfl) ?_ hS2 ?_
  rotate_left
  · (intro W hW; clear hW; go_simp; try with_reducible rfl)
  refine wpAnyH_done (by kernel_rfl) ?_ _
  go_simp
  go_wp2
  go_ret
  exact ⟨rfl, hS2.2.2.2.2.2⟩
theorem stepFl (bF bC : Nat) (p : Int → Bool) (lo : Int) (i : Nat) (bf bl : Nat) (w1 : World) (c0 : w1.cell? ⟨bf, 0, none⟩ = some (.func (.func 94) #[] #[.pointer (some ⟨bF, 0, none⟩), .pointer (some ⟨bC, 0, none⟩)])) (c1 : w1.cell? ⟨bl, 0, none⟩ = some (.int .i64 lo))
    (h1 : -1000000 ≤ lo ∧ lo ≤ 1000000) (h2 : i ≤ 1000000) (hf : Calls Try.prog 94 #[.int .i64 (lo + (i : Int)), .pointer (some ⟨bF, 0, none⟩), .pointer (some ⟨bC, 0, none⟩)] w1 fun e w2 => e = .returned (.bool (p (lo + (i : Int)))) ∧ Below w1.heap.size w1 w2) :
    Calls Try.prog 115 #[.int .i64 (i : Int), .pointer (some ⟨bf, 0, none⟩), .pointer (some ⟨bl, 0, none⟩)] w1 fun e w2 => e = .returned (.bool (p (lo + (i : Int)))) ∧ Below w1.heap.size w1 w2 := by
  have HF := hide hf
  clear hf
  go_enter Try.func115, Try.ntmps115
  go_wp2_with (go_at_call 94; refine (unhide HF).mono ?_; rintro e w2 ⟨rfl, hb⟩)
  go_ret
  exact ⟨rfl, hb⟩
theorem searchFl (bF bC : Nat) (p : Int → Bool) (lo : Int) (n m : Nat) (bf bl : Nat) (w : World) (c0 : w.cell? ⟨bf, 0, none⟩ = some (.func (.func 94) #[] #[.pointer (some ⟨bF, 0, none⟩), .pointer (some ⟨bC, 0, none⟩)])) (c1 : w.cell? ⟨bl, 0, none⟩ = some (.int .i64 lo))
    (h1 : -1000000 ≤ lo ∧ lo ≤ 1000000) (h2 : n ≤ 1000000) (hm : m ≤ n) (hl : ∀ t, t < m → p (lo + (t : Int)) = false) (hh : ∀ t, m ≤ t → t < n → p (lo + (t : Int)) = true)
    (hf : ∀ (x : Int) (w1 : World), lo ≤ x → x < lo + n → Below w.heap.size w w1 → Calls Try.prog 94 #[.int .i64 x, .pointer (some ⟨bF, 0, none⟩), .pointer (some ⟨bC, 0, none⟩)] w1 fun e w2 => e = .returned (.bool (p x)) ∧ Below w1.heap.size w1 w2) :
    Calls Try.prog 114 #[.int .i64 (n : Int), .func (.func 115) #[] #[.pointer (some ⟨bf, 0, none⟩), .pointer (some ⟨bl, 0, none⟩)]] w fun e w2 => e = .returned (.int .i64 (m : Int)) ∧ Below w.heap.size w w2 := by
  have HF := Lib.hid hf
  have HL := Lib.hid hl
  have HH := Lib.hid hh
  have C0 := Lib.hid c0
  have C1 := Lib.hid c1
  clear hf hl hh c0 c1
  go_enter Try.func114, Try.ntmps114
  go_wp2
  go_loopw [5, 6] (fun x y wr => ∃ a b : Nat, x = .int .i64 a ∧ y = .int .i64 b ∧ (a ≤ m ∧ m ≤ b) ∧ b ≤ n ∧ Below w.heap.size w wr) (fun x y wr => (intOf y).toNat - (intOf x).toNat)
  case atStart => exact ⟨0, n, rfl, rfl, ⟨by omega, hm⟩, by omega, Below.refl _ _⟩
  case round =>
    obtain ⟨a, b, rfl, rfl, ⟨hab, hmb⟩, hbn, hbel⟩ := hrel
    by_cases hlt : a < b
    · have hc0 := (hbel.cell (World.block_lt_of_cell? _ _ C0.out)).trans C0.out
      have hc1 := (hbel.cell (World.block_lt_of_cell? _ _ C1.out)).trans C1.out
      have hs := stepFl bF bC p lo ((a + b) / 2) bf bl wr hc0 hc1 h1 (by omega) (HF.out _ _ (by omega) (by omega) hbel)
      rw [show (((a + b) / 2 : Nat) : Int) = ((a : Int) + (b : Int)) / 2 by omega] at hs
      cases hp : p (lo + ((a : Int) + (b : Int)) / 2)
      · rw [hp] at hs
        have hx : (a + b) / 2 < m := by
          apply Nat.lt_of_not_le; intro hle
          have := HH.out ((a + b) / 2) hle (by omega)
          rw [show (((a + b) / 2 : Nat) : Int) = ((a : Int) + (b : Int)) / 2 by omega, hp] at this
          cases this
        have HS := hide hs
        have HP := Lib.hid hp
        have HB := Lib.hid hbel
        clear hs hp hc0 hc1 hbel
        go_wp2_with (go_at_call 115; refine (unhide HS).mono ?_; rintro e w2 ⟨rfl, hb2⟩)
        go_roundw
        case rel => exact ⟨(a + b) / 2 + 1, b, by rw [show ((a : Int) + (b : Int)) / 2 + 1 = (((a + b) / 2 + 1 : Nat) : Int) by omega], rfl, ⟨by omega, hmb⟩, hbn, HB.out.trans (hb2.mono HB.out.size)⟩
        case measure => simp [intOf]; omega
      · rw [hp] at hs
        have hx : m ≤ (a + b) / 2 := by
          apply Nat.le_of_not_lt; intro hle
          have := HL.out ((a + b) / 2) hle
          rw [show (((a + b) / 2 : Nat) : Int) = ((a : Int) + (b : Int)) / 2 by omega, hp] at this
          cases this
        have HS := hide hs
        have HP := Lib.hid hp
        have HB := Lib.hid hbel
        clear hs hp hc0 hc1 hbel
        go_wp2_with (go_at_call 115; refine (unhide HS).mono ?_; rintro e w2 ⟨rfl, hb2⟩)
        go_roundw
        case rel => exact ⟨a, (a + b) / 2, rfl, by rw [show ((a : Int) + (b : Int)) / 2 = (((a + b) / 2 : Nat) : Int) by omega], ⟨hab, hx⟩, by omega, HB.out.trans (hb2.mono HB.out.size)⟩
        case measure => simp [intOf]; omega
    · obtain rfl : m = a := by omega
      go_wp2
      go_ret
      exact ⟨rfl, hbel⟩
theorem leastFl (bF bC : Nat) (p : Int → Bool) (lo hi : Int) (n m : Nat) (w : World) (h1 : -1000000 ≤ lo ∧ lo ≤ 1000000) (h3 : (n : Int) = hi - lo + 1) (h4 : hi ≤ 900000) (h5 : lo ≤ hi) (h6 : n ≤ 1000000) (hm : m ≤ n)
    (hl : ∀ t, t < m → p (lo + (t : Int)) = false) (hh : ∀ t, m ≤ t → t < n → p (lo + (t : Int)) = true)
    (hf : ∀ (x : Int) (w1 : World), lo ≤ x → x < lo + n → Below w.heap.size w w1 → Calls Try.prog 94 #[.int .i64 x, .pointer (some ⟨bF, 0, none⟩), .pointer (some ⟨bC, 0, none⟩)] w1 fun e w2 => e = .returned (.bool (p x)) ∧ Below w1.heap.size w1 w2) :
    Calls Try.prog 93 #[.int .i64 lo, .int .i64 hi, .func (.func 94) #[] #[.pointer (some ⟨bF, 0, none⟩), .pointer (some ⟨bC, 0, none⟩)]] w fun e w2 => e = .returned (.int .i64 (lo + (m : Int))) ∧ Below w.heap.size w w2 := by
  have HF := Lib.hid hf
  have HL := Lib.hid hl
  have HH := Lib.hid hh
  clear hf hl hh
  have e3 : hi - lo + 1 = (n : Int) := h3.symm
  have H3 := Lib.hid e3
  clear e3
  go_enter Try.func93, Try.ntmps93
  go_wp2_with fail
  rw [H3.out]
  have hB2 : Below w.heap.size w ((w.alloc (.cells #[.int .i64 lo] 2)).alloc (.cells #[.func (.func 94) #[] #[.pointer (some ⟨bF, 0, none⟩), .pointer (some ⟨bC, 0, none⟩)]] 67)) := (below_box _ _).alloc (by simp) _
  have hz : w.heap.size + 1 < ((w.alloc (.cells #[.int .i64 lo] 2)).alloc (.cells #[.func (.func 94) #[] #[.pointer (some ⟨bF, 0, none⟩), .pointer (some ⟨bC, 0, none⟩)]] 67)).heap.size := by simp
  refine (searchFl bF bC p lo n m (w.heap.size + 1) w.heap.size _ (by simp) (by simp) h1 h6 hm HL.out HH.out (fun x w1 hx1 hx2 hb => HF.out x w1 hx1 hx2 (hB2.trans (hb.mono hB2.size)))).mono ?_
  rintro e w2 ⟨rfl, hb⟩
  obtain ⟨hc, hfz⟩ := bcell hb
  have HN := Lib.hid hB2
  have HZ := Lib.hid hz
  clear hB2
  go_wp2
  go_ret
  exact ⟨rfl, HN.out.trans (hb.mono HN.out.size)⟩
theorem lastFlowLev_any (bV : Nat) (s : ByteArray) (a : Int) (A : Option Addr) (cap : Nat) (xs : List (List Int)) (y : Int) (w : World) (hok : curveOk xs = true) (hv : w.cell? ⟨bV, 0, none⟩ = some (.int .i64 y)) (hr : RowsR w A xs) (hl : xs.length ≤ 1048576) (hcap : xs.length ≤ cap) (hcm : cap ≤ 1048576) :
    Calls Try.prog 58 #[.agg #[.string s, .int .i64 a, .slice A xs.length cap], .func (.func 95) #[] #[.pointer (some ⟨bV, 0, none⟩)]] w fun e w' => e = .returned (.int .i64 (lastN (pLev xs y) : Int)) ∧ Below w.heap.size w w' := by
  obtain ⟨m1, m2, m3⟩ := lastN_spec (pLev xs y) (pLev_mono hok y)
  have HL := Lib.hid (And.intro m2 m3)
  have hB : Below w.heap.size w ((w.alloc (.cells #[.string s, .int .i64 a, .slice A xs.length cap] 27)).alloc (.cells #[.func (.func 95) #[] #[.pointer (some ⟨bV, 0, none⟩)]] 71)) := (below_box _ _).alloc (by simp) _
  have HF := Lib.hid (show FanAt ((w.alloc (.cells #[.string s, .int .i64 a, .slice A xs.length cap] 27)).alloc (.cells #[.func (.func 95) #[] #[.pointer (some ⟨bV, 0, none⟩)]] 71)) w.heap.size 0 s a A cap xs from (fanBoxed s a A cap xs w).below (below_box _ _))
  have HC := Lib.hid (show ((w.alloc (.cells #[.string s, .int .i64 a, .slice A xs.length cap] 27)).alloc (.cells #[.func (.func 95) #[] #[.pointer (some ⟨bV, 0, none⟩)]] 71)).cell? ⟨w.heap.size + 1, 0, none⟩ = some (.func (.func 95) #[] #[.pointer (some ⟨bV, 0, none⟩)]) by simp)
  have HV := Lib.hid (cellK hv hB)
  have HR := Lib.hid (hr.below hB)
  have HB := Lib.hid hB
  have HOK := Lib.hid hok
  clear m2 m3 hB hr hok
  go_enter Try.func58, Try.ntmps58
  go_wp2_with (go_at_call 93; (with_reducible refine (leastFl w.heap.size (w.heap.size + 1) (pLev xs y) 1 100000 100000 (lastN (pLev xs y)) _ (by omega) (by omega) (by omega) (by omega) (by omega) m1 HL.out.1 HL.out.2 (fun x w1 hx1 hx2 hb => testLev_any w.heap.size (w.heap.size + 1) bV s a A cap xs y x w1 ⟨by omega, by omega⟩ HOK.out (HF.out.below hb) (cellK HC.out hb) (cellK HV.out hb) (HR.out.below hb) hl hcap hcm)).mono ?_); rintro e w1 ⟨rfl, hd⟩)
  go_ret
  exact ⟨ret_int (by omega), HB.out.trans (hd.mono HB.out.size)⟩
theorem lastFlowDrp_any (bV : Nat) (s : ByteArray) (a : Int) (A : Option Addr) (cap : Nat) (xs : List (List Int)) (r : Int) (w : World) (hrr : 1 ≤ r ∧ r ≤ 1000000) (hok : curveOk xs = true) (hv : w.cell? ⟨bV, 0, none⟩ = some (.int .i64 r)) (hr : RowsR w A xs) (hl : xs.length ≤ 1048576) (hcap : xs.length ≤ cap) (hcm : cap ≤ 1048576) :
    Calls Try.prog 58 #[.agg #[.string s, .int .i64 a, .slice A xs.length cap], .func (.func 116) #[] #[.pointer (some ⟨bV, 0, none⟩)]] w fun e w' => e = .returned (.int .i64 (lastN (pDrp xs r) : Int)) ∧ Below w.heap.size w w' := by
  obtain ⟨m1, m2, m3⟩ := lastN_spec (pDrp xs r) (pDrp_mono hok hrr.1)
  have HL := Lib.hid (And.intro m2 m3)
  have hB : Below w.heap.size w ((w.alloc (.cells #[.string s, .int .i64 a, .slice A xs.length cap] 27)).alloc (.cells #[.func (.func 116) #[] #[.pointer (some ⟨bV, 0, none⟩)]] 71)) := (below_box _ _).alloc (by simp) _
  have HF := Lib.hid (show FanAt ((w.alloc (.cells #[.string s, .int .i64 a, .slice A xs.length cap] 27)).alloc (.cells #[.func (.func 116) #[] #[.pointer (some ⟨bV, 0, none⟩)]] 71)) w.heap.size 0 s a A cap xs from (fanBoxed s a A cap xs w).below (below_box _ _))
  have HC := Lib.hid (show ((w.alloc (.cells #[.string s, .int .i64 a, .slice A xs.length cap] 27)).alloc (.cells #[.func (.func 116) #[] #[.pointer (some ⟨bV, 0, none⟩)]] 71)).cell? ⟨w.heap.size + 1, 0, none⟩ = some (.func (.func 116) #[] #[.pointer (some ⟨bV, 0, none⟩)]) by simp)
  have HV := Lib.hid (cellK hv hB)
  have HR := Lib.hid (hr.below hB)
  have HB := Lib.hid hB
  have HOK := Lib.hid hok
  clear m2 m3 hB hr hok
  go_enter Try.func58, Try.ntmps58
  go_wp2_with (go_at_call 93; (with_reducible refine (leastFl w.heap.size (w.heap.size + 1) (pDrp xs r) 1 100000 100000 (lastN (pDrp xs r)) _ (by omega) (by omega) (by omega) (by omega) (by omega) m1 HL.out.1 HL.out.2 (fun x w1 hx1 hx2 hb => testDrp_any w.heap.size (w.heap.size + 1) bV s a A cap xs r x w1 ⟨by omega, by omega⟩ hrr HOK.out (HF.out.below hb) (cellK HC.out hb) (cellK HV.out hb) (HR.out.below hb) hl hcap hcm)).mono ?_); rintro e w1 ⟨rfl, hd⟩)
  go_ret
  exact ⟨ret_int (by omega), HB.out.trans (hd.mono HB.out.size)⟩
set_option maxRecDepth 100000 in
theorem l06Point_below (b0 o0 : Nat) (s : ByteArray) (a : Int) (A : Option Addr) (cap : Nat) (xs : List (List Int)) (r : Int) (w : World) (hrr : 1 ≤ r ∧ r ≤ 1000000) (hok : curveOk xs = true) (hc : FanAt w b0 o0 s a A cap xs) (hr : RowsR w A xs) (hl : xs.length ≤ 1048576) :
    Calls Try.prog 61 #[.pointer (some ⟨b0, o0, none⟩), .int .i64 r] w fun e w' => e = .returned (.int .i64 (lastN (pDrp xs r) : Int)) ∧ Below w.heap.size w w' := by
  have HR := Lib.hid hr
  have HF := Lib.hid hc
  have HOK := Lib.hid hok
  have HZ := Lib.hid (show pDrp xs r ((0 : Nat) : Int) = false from pDrp_zero hok r)
  have HB0 := Lib.hid (Below.refl w.heap.size w)
  have HE := Lib.hid (show (lastN (pDrp xs r) : Int) = (lastN (pDrp xs r) : Int) from rfl)
  clear hr hc hok
  go_enter Try.func61, Try.ntmps61
  go_wp2
  go_loopw [5, 6] (fun x z wr => ∃ l h : Nat, x = .int .i64 l ∧ z = .int .i64 h ∧ l < h ∧ h ≤ 100001 ∧ Hid (pDrp xs r (l : Int) = false ∧ (h ≤ 100000 → pDrp xs r (h : Int) = true)) ∧ Below w.heap.size w wr) (fun x z wr => (intOf z).toNat - (intOf x).toNat)
  case atStart => exact ⟨0, 100001, rfl, rfl, by omega, by omega, Lib.hid ⟨HZ.out, fun h => absurd h (by omega)⟩, HB0.out⟩
  case round =>
    obtain ⟨l, h, rfl, rfl, hlh, hh, H, hbel⟩ := hrel
    obtain ⟨wo, rfl⟩ : ∃ wo : World, wo = wr := ⟨_, rfl⟩
    by_cases hlt : l + 1 < h
    · have t1 : (1 : Int) < (h : Int) - (l : Int) := by omega
      have hq := Lib.hid (show ((l : Int) + (h : Int)) / 2 = (((l + h) / 2 : Nat) : Int) by omega)
      have hm1 : l < (l + h) / 2 := by omega
      have hm2 : (l + h) / 2 < h := by omega
      have hqb : 0 ≤ ((l : Int) + (h : Int)) / 2 ∧ ((l : Int) + (h : Int)) / 2 ≤ 100000 := by omega
      have hq64 : I64 (((l : Int) + (h : Int)) / 2) := by unfold I64; omega
      by_cases hc : dropR r (((l : Int) + (h : Int)) / 2) ≤ prR xs (((l : Int) + (h : Int)) / 2)
      · go_wp2_with (first
        | (go_at_call 96; (with_reducible refine (l03Drop_any r (((l : Int) + (h : Int)) / 2) _ hrr.1 hrr.2 (by omega) (by omega)).mono ?_); rintro e w' ⟨rfl, rfl⟩)
        | (go_at_call 54; (with_reducible refine (l06Pressure_below b0 o0 s a A cap xs (((l : Int) + (h : Int)) / 2) _ hq64 HOK.out (HF.out.below hbel) (HR.out.below hbel) hl).mono ?_); rintro e w1 ⟨rfl, hd⟩))
        go_roundw
        case rel =>
          rw [hq.out] at hc
          exact ⟨(l + h) / 2, h, by rw [hq.out], rfl, hm2, hh, Lib.hid ⟨by simp only [pDrp, decide_eq_false_iff_not]; omega, H.out.2⟩, hbel.trans (hd.mono hbel.size)⟩
        case measure => simp [intOf]; omega
      · go_wp2_with (first
        | (go_at_call 96; (with_reducible refine (l03Drop_any r (((l : Int) + (h : Int)) / 2) _ hrr.1 hrr.2 (by omega) (by omega)).mono ?_); rintro e w' ⟨rfl, rfl⟩)
        | (go_at_call 54; (with_reducible refine (l06Pressure_below b0 o0 s a A cap xs (((l : Int) + (h : Int)) / 2) _ hq64 HOK.out (HF.out.below hbel) (HR.out.below hbel) hl).mono ?_); rintro e w1 ⟨rfl, hd⟩))
        go_roundw
        case rel =>
          rw [hq.out] at hc
          exact ⟨l, (l + h) / 2, rfl, by rw [hq.out], hm1, by omega, Lib.hid ⟨H.out.1, fun _ => by simp only [pDrp, decide_eq_true_eq]; omega⟩, hbel.trans (hd.mono hbel.size)⟩
        case measure => simp [intOf]; omega
    · have t1 : ¬ ((1 : Int) < (h : Int) - (l : Int)) := by omega
      have HT := Lib.hid (lastN_uniq (pDrp xs r) (pDrp_mono HOK.out hrr.1) l (by omega) H.out.1 (fun hx => (show l + 1 = h by omega) ▸ H.out.2 (by omega)))
      clear hlt
      go_wp2
      go_ret
      exact ⟨ret_int (by rw [HT.out]), hbel⟩
/-- What l06Last returns. -/
def lastL (xs : List (List Int)) (y : Int) : Int := if prR xs 0 < y then -1 else (lastN (pLev xs y) : Int)
set_option maxRecDepth 100000 in
theorem l06Last_below (b0 o0 : Nat) (s : ByteArray) (a : Int) (A : Option Addr) (cap : Nat) (xs : List (List Int)) (y : Int) (w : World) (hok : curveOk xs = true) (hc : FanAt w b0 o0 s a A cap xs) (hr : RowsR w A xs) (hl : xs.length ≤ 1048576) :
    Calls Try.prog 57 #[.pointer (some ⟨b0, o0, none⟩), .int .i64 y] w fun e w' => e = .returned (.int .i64 (lastL xs y)) ∧ Below w.heap.size w w' := by
  have HR := Lib.hid hr
  have HF := Lib.hid hc
  have HOK := Lib.hid hok
  clear hr hc hok
  have hz64 : I64 0 := by unfold I64; omega
  by_cases h0 : prR xs 0 < y
  · have HE := Lib.hid (show lastL xs y = -1 from if_pos h0)
    go_enter Try.func57, Try.ntmps57
    go_wp2_with (go_at_call 54; (with_reducible refine (l06Pressure_below b0 o0 s a A cap xs 0 _ hz64 HOK.out HF.out HR.out hl).mono ?_); rintro e w0 ⟨rfl, hd0⟩)
    go_ret
    exact ⟨ret_int HE.out.symm, hd0⟩
  · have HE := Lib.hid (show lastL xs y = (lastN (pLev xs y) : Int) from if_neg h0)
    have HZ := Lib.hid (show pLev xs y ((0 : Nat) : Int) = false by simp only [pLev, decide_eq_false_iff_not]; exact h0)
    go_enter Try.func57, Try.ntmps57
    go_wp2_with (go_at_call 54; (with_reducible refine (l06Pressure_below b0 o0 s a A cap xs 0 _ hz64 HOK.out HF.out HR.out hl).mono ?_); rintro e w0 ⟨rfl, hd0⟩)
    have HB0 := Lib.hid hd0
    clear hd0
    go_loopw [5, 6] (fun x z wr => ∃ l h : Nat, x = .int .i64 l ∧ z = .int .i64 h ∧ l < h ∧ h ≤ 100001 ∧ Hid (pLev xs y (l : Int) = false ∧ (h ≤ 100000 → pLev xs y (h : Int) = true)) ∧ Below w.heap.size w wr) (fun x z wr => (intOf z).toNat - (intOf x).toNat)
    case atStart => exact ⟨0, 100001, rfl, rfl, by omega, by omega, Lib.hid ⟨HZ.out, fun h => absurd h (by omega)⟩, HB0.out⟩
    case round =>
      obtain ⟨l, h, rfl, rfl, hlh, hh, H, hbel⟩ := hrel
      obtain ⟨wo, rfl⟩ : ∃ wo : World, wo = wr := ⟨_, rfl⟩
      by_cases hlt : l + 1 < h
      · have t1 : (1 : Int) < (h : Int) - (l : Int) := by omega
        have hq := Lib.hid (show ((l : Int) + (h : Int)) / 2 = (((l + h) / 2 : Nat) : Int) by omega)
        have hm1 : l < (l + h) / 2 := by omega
        have hm2 : (l + h) / 2 < h := by omega
        have hqb : 0 ≤ ((l : Int) + (h : Int)) / 2 ∧ ((l : Int) + (h : Int)) / 2 ≤ 100000 := by omega
        have hq64 : I64 (((l : Int) + (h : Int)) / 2) := by unfold I64; omega
        by_cases hc : y ≤ prR xs (((l : Int) + (h : Int)) / 2)
        · go_wp2_with (go_at_call 54; (with_reducible refine (l06Pressure_below b0 o0 s a A cap xs (((l : Int) + (h : Int)) / 2) _ hq64 HOK.out (HF.out.below hbel) (HR.out.below hbel) hl).mono ?_); rintro e w1 ⟨rfl, hd⟩)
          go_roundw
          case rel =>
            rw [hq.out] at hc
            exact ⟨(l + h) / 2, h, by rw [hq.out], rfl, hm2, hh, Lib.hid ⟨by simp only [pLev, decide_eq_false_iff_not]; omega, H.out.2⟩, hbel.trans (hd.mono hbel.size)⟩
          case measure => simp [intOf]; omega
        · go_wp2_with (go_at_call 54; (with_reducible refine (l06Pressure_below b0 o0 s a A cap xs (((l : Int) + (h : Int)) / 2) _ hq64 HOK.out (HF.out.below hbel) (HR.out.below hbel) hl).mono ?_); rintro e w1 ⟨rfl, hd⟩)
          go_roundw
          case rel =>
            rw [hq.out] at hc
            exact ⟨l, (l + h) / 2, rfl, by rw [hq.out], hm1, by omega, Lib.hid ⟨H.out.1, fun _ => by simp only [pLev, decide_eq_true_eq]; omega⟩, hbel.trans (hd.mono hbel.size)⟩
          case measure => simp [intOf]; omega
      · have t1 : ¬ ((1 : Int) < (h : Int) - (l : Int)) := by omega
        have HT := Lib.hid (lastN_uniq (pLev xs y) (pLev_mono HOK.out y) l (by omega) H.out.1 (fun hx => (show l + 1 = h by omega) ▸ H.out.2 (by omega)))
        clear hlt
        go_wp2
        go_ret
        exact ⟨ret_int (by rw [HE.out]; rw [HT.out]), hbel⟩
end Go.Proofs.Ytcnpddmghjjhjaa
