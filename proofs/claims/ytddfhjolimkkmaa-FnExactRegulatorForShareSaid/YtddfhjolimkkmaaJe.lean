/-
  Contracts of chapter 10: regulators and shares; the model's and the program's. Conditions: those that each theorem states.
-/
import Derived.Test.YtddfhjolimkkmaaDn
import Derived.Test.YtddfhjolimkkmaaBd
namespace Go.Proofs.Ytddfhjolimkkmaa
open Go.RowKit
set_option linter.unusedVariables false
set_option linter.unusedSimpArgs false

theorem near_denJ {a b b' : Int} (ha : 0 ≤ a) (hb : 0 < b) (h : b ≤ b') : divR a b' ≤ divR a b := by
  rw [divR_pp _ _ ha hb, divR_pp _ _ ha (by omega)]
  rw [Int.le_ediv_iff_mul_le (by omega)]
  have hq : (2 * a + b') / (2 * b') * (2 * b') ≤ 2 * a + b' := Int.ediv_mul_le _ (by omega)
  have h0 : 0 ≤ (2 * a + b') / (2 * b') := Int.ediv_nonneg (by omega) (by omega)
  generalize (2 * a + b') / (2 * b') = q at *
  rcases Int.lt_or_le 0 q with hp | hp
  · have e1 : q * (2 * b') = 2 * (q * b') := by rw [Int.mul_left_comm]
    have e2 : q * (2 * b) = 2 * (q * b) := by rw [Int.mul_left_comm]
    have h1 : (q - 1) * b ≤ (q - 1) * b' := Int.mul_le_mul_of_nonneg_left h (by omega)
    rw [Int.sub_mul, Int.sub_mul] at h1
    omega
  · have : q = 0 := by omega
    subst this
    omega
theorem near_numJ {a a' b : Int} (ha : 0 ≤ a) (hb : 0 < b) (h : a ≤ a') : divR a b ≤ divR a' b := by
  rw [divR_pp _ _ ha hb, divR_pp _ _ (by omega) hb]
  exact Int.ediv_le_ediv (by omega) (by omega)
theorem rootR_monoJ {a b : Int} (h : a ≤ b) : rootR a ≤ rootR b := by
  by_cases h1 : 1 ≤ rootR a
  · exact (le_rootR b (rootR a) h1).1 (Int.le_trans ((le_rootR a (rootR a) h1).2 (Int.le_refl _)) h)
  · have := rootR_nonneg b; omega
def rtM (a : Int) : Int := rootR (1000000 * a)
theorem rtM_bd {a : Int} (h1 : 1 ≤ a) (h2 : a ≤ 1000000) : 1 ≤ rtM a ∧ rtM a ≤ 1000000 := by
  unfold rtM
  constructor
  · exact (le_rootR (1000000 * a) 1 (by omega)).1 (by omega)
  · apply Int.le_of_not_gt; intro hl
    have := (le_rootR (1000000 * a) 1000001 (by omega)).2 (by omega)
    omega
theorem rtM_mono {a b : Int} (h : a ≤ b) : rtM a ≤ rtM b := rootR_monoJ (by omega)
/-- The share of a beside b. -/
def shR (a b : Int) : Int := divR (1000 * rtM b) (rtM a + rtM b)
theorem shR_anti {a a' b : Int} (h1 : 1 ≤ a) (h : a ≤ a') (h2 : a' ≤ 1000000) (hb : 1 ≤ b ∧ b ≤ 1000000) : shR a' b ≤ shR a b := by
  have x := rtM_bd hb.1 hb.2
  have y := rtM_bd h1 (by omega)
  have z := rtM_mono h
  exact near_denJ (by omega) (by omega) (by omega)
theorem drop_monoR {r s q : Int} (hr : 1 ≤ r) (h : r ≤ s) (hq : 0 ≤ q) : dropR r q ≤ dropR s q := by
  have ea : absR q = q := by have := absR_cases q; omega
  unfold dropR
  rw [ea]
  have h1 : 0 ≤ q * q := Int.mul_nonneg hq hq
  have h2 : r * (q * q) ≤ s * (q * q) := Int.mul_le_mul_of_nonneg_right h h1
  have h3 : 0 ≤ r * (q * q) := Int.mul_nonneg (by omega) h1
  rw [Int.mul_assoc, Int.mul_assoc]
  exact near_numJ h3 (by omega) h2
/-- How much must be added, at least, to r. -/
def regN (p : Int → Bool) (r : Int) : Nat := firstN (fun t => p (r + (t : Int))) (1000001 - r).toNat
def rgV (p : Int → Bool) (r : Int) : Int := if regN p r < (1000001 - r).toNat then (regN p r : Int) else 0
def rgC (p : Int → Bool) (r : Int) : Int := if regN p r < (1000001 - r).toNat then 0 else 3
theorem reg_spec {p : Int → Bool} {r : Int} (hm : ∀ x y : Int, r ≤ x → x ≤ y → y ≤ 1000000 → p x = true → p y = true) :
    regN p r ≤ (1000001 - r).toNat ∧ (∀ t : Nat, t < regN p r → p (r + (t : Int)) = false) ∧ (∀ t : Nat, regN p r ≤ t → t < (1000001 - r).toNat → p (r + (t : Int)) = true) := by
  obtain ⟨a, b, c⟩ := firstN_spec (fun t => p (r + (t : Int))) (1000001 - r).toNat
  refine ⟨a, b, fun t h1 h2 => ?_⟩
  have h1' : firstN (fun t => p (r + (t : Int))) (1000001 - r).toNat ≤ t := h1
  exact hm (r + ((firstN (fun t => p (r + (t : Int))) (1000001 - r).toNat : Nat) : Int)) _ (by omega) (by omega) (by omega) (c (by omega))
def rfP (q d x : Int) : Bool := decide (d ≤ dropR x q)
def rsP (b s x : Int) : Bool := decide (shR x b ≤ s)
theorem rf_spec {q d r : Int} (hq : 1 ≤ q) (hr : 1 ≤ r) : regN (rfP q d) r ≤ (1000001 - r).toNat ∧ (∀ t : Nat, t < regN (rfP q d) r → rfP q d (r + (t : Int)) = false) ∧ (∀ t : Nat, regN (rfP q d) r ≤ t → t < (1000001 - r).toNat → rfP q d (r + (t : Int)) = true) :=
  reg_spec fun x y h1 h2 h3 h => by
    unfold rfP at *
    simp only [decide_eq_true_eq] at *
    have := drop_monoR (r := x) (s := y) (q := q) (by omega) h2 (by omega)
    omega
theorem rs_spec {b s r : Int} (hb : 1 ≤ b ∧ b ≤ 1000000) (hr : 1 ≤ r) : regN (rsP b s) r ≤ (1000001 - r).toNat ∧ (∀ t : Nat, t < regN (rsP b s) r → rsP b s (r + (t : Int)) = false) ∧ (∀ t : Nat, regN (rsP b s) r ≤ t → t < (1000001 - r).toNat → rsP b s (r + (t : Int)) = true) :=
  reg_spec fun x y h1 h2 h3 h => by
    unfold rsP at *
    simp only [decide_eq_true_eq] at *
    have := shR_anti (a := x) (a' := y) (b := b) (by omega) h2 h3 hb
    omega
theorem l10Share_any (a b : Int) (w : World) (ha : 1 ≤ a ∧ a ≤ 1000000) (hb : 1 ≤ b ∧ b ≤ 1000000) :
    Calls Try.prog 93 #[.int .i64 a, .int .i64 b] w fun e w' => e = .returned (.int .i64 (shR a b)) ∧ w = w' := by
  have HE := Lib.hid (show shR a b = divR (1000 * rtM b) (rtM a + rtM b) from rfl)
  obtain ⟨x1, x2⟩ := rtM_bd ha.1 ha.2
  obtain ⟨y1, y2⟩ := rtM_bd hb.1 hb.2
  obtain ⟨a1, a2⟩ := ha
  obtain ⟨b1, b2⟩ := hb
  have HA := Lib.hid (fun W => show Calls Try.prog 145 #[.int .i64 (1000000 * a)] W fun e w' => e = .returned (.int .i64 (rtM a)) ∧ W = w' from l01Root_any _ W ⟨by omega, by omega⟩)
  have HB := Lib.hid (fun W => show Calls Try.prog 145 #[.int .i64 (1000000 * b)] W fun e w' => e = .returned (.int .i64 (rtM b)) ∧ W = w' from l01Root_any _ W ⟨by omega, by omega⟩)
  generalize rtM a = p at *
  generalize rtM b = q at *
  go_enter Try.func93, Try.ntmps93
  go_wp2_with fail
  (with_reducible refine (HA.out _).mono ?_)
  rintro e w' ⟨rfl, rfl⟩
  go_wp2_with fail
  (with_reducible refine (HB.out _).mono ?_)
  rintro e w' ⟨rfl, rfl⟩
  go_wp2_with fail
  (with_reducible refine (l01Div_any _ _ _ (by omega) (by omega) (by omega) (by omega) (by omega)).mono ?_)
  rintro e w' ⟨rfl, rfl⟩
  go_wp2
  go_ret
  exact ⟨ret_int HE.out.symm, rfl⟩
theorem shareBeside_any (a b : Int) (w : World) (ha : 1 ≤ a ∧ a ≤ 1000000) (hb : 1 ≤ b ∧ b ≤ 1000000) :
    Calls Try.prog 94 #[.int .i64 a, .int .i64 b] w fun e w' => e = .returned (.int .i64 (shR a b)) ∧ ∃ n, w' = w.drewN n := by
  have HE := Lib.hid (show shR a b = divR (1000 * rtM b) (rtM a + rtM b) from rfl)
  obtain ⟨x1, x2⟩ := rtM_bd ha.1 ha.2
  obtain ⟨y1, y2⟩ := rtM_bd hb.1 hb.2
  obtain ⟨a1, a2⟩ := ha
  obtain ⟨b1, b2⟩ := hb
  have HA := Lib.hid (fun W => show Calls Try.prog 146 #[.int .i64 (1000000 * a)] W fun e w' => e = .returned (.int .i64 (rtM a)) ∧ W = w' from iRootOf_any _ W ⟨by omega, by omega⟩)
  have HB := Lib.hid (fun W => show Calls Try.prog 146 #[.int .i64 (1000000 * b)] W fun e w' => e = .returned (.int .i64 (rtM b)) ∧ W = w' from iRootOf_any _ W ⟨by omega, by omega⟩)
  generalize rtM a = p at *
  generalize rtM b = q at *
  go_enter Try.func94, Try.ntmps94
  go_wp2_with fail
  (with_reducible refine (HA.out _).mono ?_)
  rintro e w' ⟨rfl, rfl⟩
  go_wp2_with fail
  (with_reducible refine (HB.out _).mono ?_)
  rintro e w' ⟨rfl, rfl⟩
  go_wp2_with fail
  (with_reducible refine (nearest_any _ _ _ (by omega) (by omega) (by omega) (by omega)).mono ?_)
  rintro e w' ⟨rfl, n, rfl⟩
  go_wp2
  go_ret
  exact ⟨ret_int HE.out.symm, n, rfl⟩
/-- What ShareBeside returns. -/
def sbA (a b : Int) : Int := if inB a 1 1000000 && inB b 1 1000000 then shR a b else 0
def sbB (a b : Int) : Int := if inB a 1 1000000 && inB b 1 1000000 then 0 else 2
theorem sShareBeside_any (a b : Int) (w : World) :
    Calls Try.prog 41 #[.int .i64 a, .int .i64 b] w fun e w' => e = .returned (.tuple #[.int .i64 (sbA a b), .int .i64 (sbB a b)]) ∧ Below w.heap.size w w' := by
  by_cases h1 : 1 ≤ a ∧ a ≤ 1000000
  · have i1 := inB_true h1.1 h1.2
    by_cases h2 : 1 ≤ b ∧ b ≤ 1000000
    · have i2 := inB_true h2.1 h2.2
      have HE := Lib.hid (show sbA a b = shR a b ∧ sbB a b = 0 by simp [sbA, sbB, i1, i2])
      go_enter Try.func41, Try.ntmps41
      go_wp2_with fail
      (with_reducible refine (l03Res_any _ _).mono ?_)
      rintro e w' ⟨rfl, rfl⟩
      go_wp2_with fail
      (with_reducible refine (l03Res_any _ _).mono ?_)
      rintro e w' ⟨rfl, rfl⟩
      go_wp2_with fail
      (with_reducible refine (l10Share_any a b _ h1 h2).mono ?_)
      rintro e w' ⟨rfl, rfl⟩
      go_wp2
      go_ret2
      exact ⟨ret_two HE.out.1.symm HE.out.2.symm, Below.refl _ _⟩
    · have i2 := inB_false h2
      have HE := Lib.hid (show sbA a b = 0 ∧ sbB a b = 2 by simp [sbA, sbB, i2])
      go_enter Try.func41, Try.ntmps41
      go_wp2_with fail
      (with_reducible refine (l03Res_any _ _).mono ?_)
      rintro e w' ⟨rfl, rfl⟩
      go_wp2_with fail
      (with_reducible refine (l03Res_any _ _).mono ?_)
      rintro e w' ⟨rfl, rfl⟩
      go_wp2
      go_ret2
      exact ⟨ret_two HE.out.1.symm HE.out.2.symm, Below.refl _ _⟩
  · have i1 := inB_false h1
    have HE := Lib.hid (show sbA a b = 0 ∧ sbB a b = 2 by simp [sbA, sbB, i1])
    go_enter Try.func41, Try.ntmps41
    go_wp2_with fail
    (with_reducible refine (l03Res_any _ _).mono ?_)
    rintro e w' ⟨rfl, rfl⟩
    go_wp2
    go_ret2
    exact ⟨ret_two HE.out.1.symm HE.out.2.symm, Below.refl _ _⟩
theorem iShareBeside_any (a b : Int) (w : World) :
    Calls Try.prog 42 #[.int .i64 a, .int .i64 b] w fun e w' => e = .returned (.tuple #[.int .i64 (sbA a b), .int .i64 (sbB a b)]) ∧ Below w.heap.size w w' := by
  by_cases h1 : 1 ≤ a ∧ a ≤ 1000000
  · have i1 := inB_true h1.1 h1.2
    by_cases h2 : 1 ≤ b ∧ b ≤ 1000000
    · have i2 := inB_true h2.1 h2.2
      have HE := Lib.hid (show sbA a b = shR a b ∧ sbB a b = 0 by simp [sbA, sbB, i1, i2])
      go_enter Try.func42, Try.ntmps42
      go_wp2_with fail
      (with_reducible refine (isResistance_any _ _).mono ?_)
      rintro e w1 ⟨rfl, hd1⟩
      have hb1 := hd1
      go_wp2_with fail
      (with_reducible refine (isResistance_any _ _).mono ?_)
      rintro e w2 ⟨rfl, hd2⟩
      have hb2 := hb1.trans (hd2.mono hb1.size)
      go_wp2_with fail
      (with_reducible refine (shareBeside_any a b _ h1 h2).mono ?_)
      rintro e w' ⟨rfl, n, rfl⟩
      go_wp2
      go_ret2
      exact ⟨ret_two HE.out.1.symm HE.out.2.symm, below_drewN' hb2 n⟩
    · have i2 := inB_false h2
      have HE := Lib.hid (show sbA a b = 0 ∧ sbB a b = 2 by simp [sbA, sbB, i2])
      go_enter Try.func42, Try.ntmps42
      go_wp2_with fail
      (with_reducible refine (isResistance_any _ _).mono ?_)
      rintro e w1 ⟨rfl, hd1⟩
      have hb1 := hd1
      go_wp2_with fail
      (with_reducible refine (isResistance_any _ _).mono ?_)
      rintro e w2 ⟨rfl, hd2⟩
      have hb2 := hb1.trans (hd2.mono hb1.size)
      go_wp2
      go_ret2
      exact ⟨ret_two HE.out.1.symm HE.out.2.symm, hb2⟩
  · have i1 := inB_false h1
    have HE := Lib.hid (show sbA a b = 0 ∧ sbB a b = 2 by simp [sbA, sbB, i1])
    go_enter Try.func42, Try.ntmps42
    go_wp2_with fail
    (with_reducible refine (isResistance_any _ _).mono ?_)
    rintro e w1 ⟨rfl, hd1⟩
    have hb1 := hd1
    go_wp2
    go_ret2
    exact ⟨ret_two HE.out.1.symm HE.out.2.symm, hb1⟩
/-- What RegulatorFor returns. -/
def rgaRegulatorFor (r q d : Int) : Int := if inB r 1 1000000 && inB q 1 100000 && inB d 0 1000000 then rgV (rfP q d) r else 0
def rgbRegulatorFor (r q d : Int) : Int := if inB r 1 1000000 && inB q 1 100000 && inB d 0 1000000 then rgC (rfP q d) r else 2
theorem fitsRgf (x q d : Int) (b0 b1 : Nat) (w : World) (c0 : w.cell? ⟨b0, 0, none⟩ = some (.int .i64 q)) (c1 : w.cell? ⟨b1, 0, none⟩ = some (.int .i64 d)) (h1 : 1 ≤ x ∧ x ≤ 1000000) (h2 : 1 ≤ q ∧ q ≤ 100000) :
    Calls Try.prog 91 #[.int .i64 x, .pointer (some ⟨b0, 0, none⟩), .pointer (some ⟨b1, 0, none⟩)] w fun e w' => e = .returned (.bool (rfP q d x)) ∧ Below w.heap.size w w' := by
  have HE := Lib.hid (show rfP q d x = decide (d ≤ dropR (x) q) from rfl)
  go_enter Try.func91, Try.ntmps91
  go_wp2
  go_quiet ((go_at_call 92; exact quiet_dr (dropAt_any x q _ h1.1 h1.2 (by omega) (by omega))))
  go_wp2
  go_ret
  exact ⟨ret_bool HE.out.symm, below_drewN' (Below.refl _ _) _⟩
theorem stepRgf (b0 b1 : Nat) (p : Int → Bool) (lo : Int) (i : Nat) (bf bl : Nat) (w1 : World) (c0 : w1.cell? ⟨bf, 0, none⟩ = some (.func (.func 91) #[] #[.pointer (some ⟨b0, 0, none⟩), .pointer (some ⟨b1, 0, none⟩)])) (c1 : w1.cell? ⟨bl, 0, none⟩ = some (.int .i64 lo))
    (h1 : -1000000 ≤ lo ∧ lo ≤ 1000000) (h2 : i ≤ 1000000) (hf : Calls Try.prog 91 #[.int .i64 (lo + (i : Int)), .pointer (some ⟨b0, 0, none⟩), .pointer (some ⟨b1, 0, none⟩)] w1 fun e w2 => e = .returned (.bool (p (lo + (i : Int)))) ∧ Below w1.heap.size w1 w2) :
    Calls Try.prog 170 #[.int .i64 (i : Int), .pointer (some ⟨bf, 0, none⟩), .pointer (some ⟨bl, 0, none⟩)] w1 fun e w2 => e = .returned (.bool (p (lo + (i : Int)))) ∧ Below w1.heap.size w1 w2 := by
  have HF := hide hf
  clear hf
  go_enter Try.func170, Try.ntmps170
  go_wp2_with (go_at_call 91; refine (unhide HF).mono ?_; rintro e w2 ⟨rfl, hb⟩)
  go_ret
  exact ⟨rfl, hb⟩
theorem searchRgf (b0 b1 : Nat) (p : Int → Bool) (lo : Int) (n m : Nat) (bf bl : Nat) (w : World) (c0 : w.cell? ⟨bf, 0, none⟩ = some (.func (.func 91) #[] #[.pointer (some ⟨b0, 0, none⟩), .pointer (some ⟨b1, 0, none⟩)])) (c1 : w.cell? ⟨bl, 0, none⟩ = some (.int .i64 lo))
    (h1 : -1000000 ≤ lo ∧ lo ≤ 1000000) (h2 : n ≤ 1000000) (hm : m ≤ n) (hl : ∀ t, t < m → p (lo + (t : Int)) = false) (hh : ∀ t, m ≤ t → t < n → p (lo + (t : Int)) = true)
    (hf : ∀ (x : Int) (w1 : World), lo ≤ x → x < lo + n → Below w.heap.size w w1 → Calls Try.prog 91 #[.int .i64 x, .pointer (some ⟨b0, 0, none⟩), .pointer (some ⟨b1, 0, none⟩)] w1 fun e w2 => e = .returned (.bool (p x)) ∧ Below w1.heap.size w1 w2) :
    Calls Try.prog 169 #[.int .i64 (n : Int), .func (.func 170) #[] #[.pointer (some ⟨bf, 0, none⟩), .pointer (some ⟨bl, 0, none⟩)]] w fun e w2 => e = .returned (.int .i64 (m : Int)) ∧ Below w.heap.size w w2 := by
  have HF := Lib.hid hf
  have HL := Lib.hid hl
  have HH := Lib.hid hh
  have C0 := Lib.hid c0
  have C1 := Lib.hid c1
  clear hf hl hh c0 c1
  go_enter Try.func169, Try.ntmps169
  go_wp2
  go_loopw [5, 6] (fun x y wr => ∃ a b : Nat, x = .int .i64 a ∧ y = .int .i64 b ∧ (a ≤ m ∧ m ≤ b) ∧ b ≤ n ∧ Below w.heap.size w wr) (fun x y wr => (intOf y).toNat - (intOf x).toNat)
  case atStart => exact ⟨0, n, rfl, rfl, ⟨by omega, hm⟩, by omega, Below.refl _ _⟩
  case round =>
    obtain ⟨a, b, rfl, rfl, ⟨hab, hmb⟩, hbn, hbel⟩ := hrel
    by_cases hlt : a < b
    · have hc0 := (hbel.cell (World.block_lt_of_cell? _ _ C0.out)).trans C0.out
      have hc1 := (hbel.cell (World.block_lt_of_cell? _ _ C1.out)).trans C1.out
      have hs := stepRgf b0 b1 p lo ((a + b) / 2) bf bl wr hc0 hc1 h1 (by omega) (HF.out _ _ (by omega) (by omega) hbel)
      rw [show (((a + b) / 2 : Nat) : Int) = ((a : Int) + (b : Int)) / 2 by omega] at hs
      cases hp : p (lo + ((a : Int) + (b : Int)) / 2)
      · rw [hp] at hs
        have hx : (a + b) / 2 < m := by
          apply Nat.lt_of_not_le; intro hle
          have := HH.out ((a + b) / 2) hle (by omega)
          rw [show (((a + b) / 2 : Nat) : Int) = ((a : Int) + (b : Int)) / 2 by omega, hp] at this
          cases this
        have HS := hide hs
        have HP := Lib.hid hp
        have HB := Lib.hid hbel
        clear hs hp hc0 hc1 hbel
        go_wp2_with (go_at_call 170; refine (unhide HS).mono ?_; rintro e w2 ⟨rfl, hb2⟩)
        go_roundw
        case rel => exact ⟨(a + b) / 2 + 1, b, by rw [show ((a : Int) + (b : Int)) / 2 + 1 = (((a + b) / 2 + 1 : Nat) : Int) by omega], rfl, ⟨by omega, hmb⟩, hbn, HB.out.trans (hb2.mono HB.out.size)⟩
        case measure => simp [intOf]; omega
      · rw [hp] at hs
        have hx : m ≤ (a + b) / 2 := by
          apply Nat.le_of_not_lt; intro hle
          have := HL.out ((a + b) / 2) hle
          rw [show (((a + b) / 2 : Nat) : Int) = ((a : Int) + (b : Int)) / 2 by omega, hp] at this
          cases this
        have HS := hide hs
        have HP := Lib.hid hp
        have HB := Lib.hid hbel
        clear hs hp hc0 hc1 hbel
        go_wp2_with (go_at_call 170; refine (unhide HS).mono ?_; rintro e w2 ⟨rfl, hb2⟩)
        go_roundw
        case rel => exact ⟨a, (a + b) / 2, rfl, by rw [show ((a : Int) + (b : Int)) / 2 = (((a + b) / 2 : Nat) : Int) by omega], ⟨hab, hx⟩, by omega, HB.out.trans (hb2.mono HB.out.size)⟩
        case measure => simp [intOf]; omega
    · obtain rfl : m = a := by omega
      go_wp2
      go_ret
      exact ⟨rfl, hbel⟩
theorem leastRgf (b0 b1 : Nat) (p : Int → Bool) (lo hi : Int) (n m : Nat) (w : World) (h1 : -1000000 ≤ lo ∧ lo ≤ 1000000) (h3 : (n : Int) = hi - lo + 1) (h4 : hi ≤ 1000000) (h5 : lo ≤ hi) (h6 : n ≤ 1000000) (hm : m ≤ n)
    (hl : ∀ t, t < m → p (lo + (t : Int)) = false) (hh : ∀ t, m ≤ t → t < n → p (lo + (t : Int)) = true)
    (hf : ∀ (x : Int) (w1 : World), lo ≤ x → x < lo + n → Below w.heap.size w w1 → Calls Try.prog 91 #[.int .i64 x, .pointer (some ⟨b0, 0, none⟩), .pointer (some ⟨b1, 0, none⟩)] w1 fun e w2 => e = .returned (.bool (p x)) ∧ Below w1.heap.size w1 w2) :
    Calls Try.prog 142 #[.int .i64 lo, .int .i64 hi, .func (.func 91) #[] #[.pointer (some ⟨b0, 0, none⟩), .pointer (some ⟨b1, 0, none⟩)]] w fun e w2 => e = .returned (.int .i64 (lo + (m : Int))) ∧ Below w.heap.size w w2 := by
  have HF := Lib.hid hf
  have HL := Lib.hid hl
  have HH := Lib.hid hh
  clear hf hl hh
  have e3 : hi - lo + 1 = (n : Int) := h3.symm
  have H3 := Lib.hid e3
  clear e3
  go_enter Try.func142, Try.ntmps142
  go_wp2_with fail
  rw [H3.out]
  have hB2 : Below w.heap.size w ((w.alloc (.cells #[.int .i64 lo] 2)).alloc (.cells #[.func (.func 91) #[] #[.pointer (some ⟨b0, 0, none⟩), .pointer (some ⟨b1, 0, none⟩)]] 92)) := (below_box _ _).alloc (by simp) _
  have hz : w.heap.size + 1 < ((w.alloc (.cells #[.int .i64 lo] 2)).alloc (.cells #[.func (.func 91) #[] #[.pointer (some ⟨b0, 0, none⟩), .pointer (some ⟨b1, 0, none⟩)]] 92)).heap.size := by simp
  refine (searchRgf b0 b1 p lo n m (w.heap.size + 1) w.heap.size _ (by simp) (by simp) h1 h6 hm HL.out HH.out (fun x w1 hx1 hx2 hb => HF.out x w1 hx1 hx2 (hB2.trans (hb.mono hB2.size)))).mono ?_
  rintro e w2 ⟨rfl, hb⟩
  obtain ⟨hc, hfz⟩ := bcell hb
  have HN := Lib.hid hB2
  have HZ := Lib.hid hz
  clear hB2
  go_wp2
  go_ret
  exact ⟨rfl, HN.out.trans (hb.mono HN.out.size)⟩
set_option maxHeartbeats 1000000 in
theorem regRgf (b0 b1 : Nat) (p : Int → Bool) (r : Int) (w : World) (hr : 1 ≤ r ∧ r ≤ 1000000)
    (hs : regN p r ≤ (1000001 - r).toNat ∧ (∀ t : Nat, t < regN p r → p (r + (t : Int)) = false) ∧ (∀ t : Nat, regN p r ≤ t → t < (1000001 - r).toNat → p (r + (t : Int)) = true))
    (hf : ∀ (x : Int) (w1 : World), r ≤ x → x ≤ 1000000 → Below w.heap.size w w1 → Calls Try.prog 91 #[.int .i64 x, .pointer (some ⟨b0, 0, none⟩), .pointer (some ⟨b1, 0, none⟩)] w1 fun e w2 => e = .returned (.bool (p x)) ∧ Below w1.heap.size w1 w2) :
    Calls Try.prog 90 #[.int .i64 r, .func (.func 91) #[] #[.pointer (some ⟨b0, 0, none⟩), .pointer (some ⟨b1, 0, none⟩)]] w fun e w' => e = .returned (.tuple #[.int .i64 (rgV p r), .int .i64 (rgC p r)]) ∧ Below w.heap.size w w' := by
  have HF := Lib.hid hf
  have HS := Lib.hid hs
  have hn1 := hs.1
  clear hf hs
  have HE := Lib.hid (show rgV p r = (if regN p r < (1000001 - r).toNat then (regN p r : Int) else 0) ∧ rgC p r = (if regN p r < (1000001 - r).toNat then 0 else 3) from ⟨rfl, rfl⟩)
  generalize regN p r = m at *
  obtain ⟨n, hn⟩ : ∃ n : Nat, (1000001 - r).toNat = n := ⟨_, rfl⟩
  rw [hn] at HE HS hn1
  have hn2 : (n : Int) = 1000000 - r + 1 := by omega
  have HN := Lib.hid hn2
  clear hn
  have HC := Lib.hid (leastRgf b0 b1 p r 1000000 n m w (by omega) hn2 (by omega) (by omega) (by omega) hn1 HS.out.2.1 HS.out.2.2 (fun x w1 hx1 hx2 hb => HF.out x w1 hx1 (by omega) hb))
  by_cases hm : m < n
  · rw [if_pos hm, if_pos hm] at HE
    have t1 : ¬ (1000000 : Int) < r + (m : Int) := by omega
    have hw : r + (m : Int) - r = (m : Int) := by omega
    clear hn2
    go_enter Try.func90, Try.ntmps90
    go_wp2_with fail
    (with_reducible refine HC.out.mono ?_)
    rintro e w1 ⟨rfl, hd⟩
    go_wp2
    go_ret2
    exact ⟨ret_two (by rw [HE.out.1] <;> omega) HE.out.2.symm, hd⟩
  · rw [if_neg hm, if_neg hm] at HE
    have t1 : (1000000 : Int) < r + (m : Int) := by omega
    clear hn2
    go_enter Try.func90, Try.ntmps90
    go_wp2_with fail
    (with_reducible refine HC.out.mono ?_)
    rintro e w1 ⟨rfl, hd⟩
    go_wp2
    go_ret2
    exact ⟨ret_two HE.out.1.symm HE.out.2.symm, hd⟩
set_option maxHeartbeats 1000000 in
theorem iRegulatorFor_any (r q d : Int) (w : World) :
    Calls Try.prog 40 #[.int .i64 r, .int .i64 q, .int .i64 d] w fun e w' => e = .returned (.tuple #[.int .i64 (rgaRegulatorFor r q d), .int .i64 (rgbRegulatorFor r q d)]) ∧ Below w.heap.size w w' := by
  have C0 := Lib.hid (show ((w.alloc (.cells #[.int .i64 q] 2)).alloc (.cells #[.int .i64 d] 2)).cell? ⟨w.heap.size, 0, none⟩ = some (.int .i64 q) by simp)
  have C1 := Lib.hid (show ((w.alloc (.cells #[.int .i64 q] 2)).alloc (.cells #[.int .i64 d] 2)).cell? ⟨w.heap.size + 1, 0, none⟩ = some (.int .i64 d) by simp)
  have HBW := Lib.hid (show Below w.heap.size w ((w.alloc (.cells #[.int .i64 q] 2)).alloc (.cells #[.int .i64 d] 2)) from (below_box _ _).alloc (by simp) _)
  by_cases h1 : 1 ≤ r ∧ r ≤ 1000000
  · have i1 := inB_true h1.1 h1.2
    by_cases h2 : 1 ≤ q ∧ q ≤ 100000
    · have i2 := inB_true h2.1 h2.2
      by_cases h3 : 0 ≤ d ∧ d ≤ 1000000
      · have i3 := inB_true h3.1 h3.2
        have HE := Lib.hid (show rgaRegulatorFor r q d = rgV (rfP q d) r ∧ rgbRegulatorFor r q d = rgC (rfP q d) r by simp [rgaRegulatorFor, rgbRegulatorFor, i1, i2, i3])
        have HSP := Lib.hid (rf_spec (q := q) (d := d) (r := r) h2.1 h1.1)
        have h0 : 1 ≤ r := h1.1
        go_enter Try.func40, Try.ntmps40
        go_wp2_with fail
        (with_reducible refine (isResistance_any _ _).mono ?_)
        rintro e w1 ⟨rfl, hd1⟩
        have HB1 := Lib.hid (show Below ((w.alloc (.cells #[.int .i64 q] 2)).alloc (.cells #[.int .i64 d] 2)).heap.size ((w.alloc (.cells #[.int .i64 q] 2)).alloc (.cells #[.int .i64 d] 2)) w1 from (Below.refl ((w.alloc (.cells #[.int .i64 q] 2)).alloc (.cells #[.int .i64 d] 2)).heap.size ((w.alloc (.cells #[.int .i64 q] 2)).alloc (.cells #[.int .i64 d] 2))).trans (hd1.mono (Below.refl ((w.alloc (.cells #[.int .i64 q] 2)).alloc (.cells #[.int .i64 d] 2)).heap.size ((w.alloc (.cells #[.int .i64 q] 2)).alloc (.cells #[.int .i64 d] 2))).size))
        have k1_0 : w1.cell? ⟨w.heap.size, 0, none⟩ = some (.int .i64 q) := (HB1.out.cell (by first | (simp; done) | (simp; omega))).trans C0.out
        have k1_1 : w1.cell? ⟨w.heap.size + 1, 0, none⟩ = some (.int .i64 d) := (HB1.out.cell (by first | (simp; done) | (simp; omega))).trans C1.out
        have z1 : w.heap.size + 1 < w1.heap.size := Nat.lt_of_lt_of_le (by simp) HB1.out.size
        clear hd1
        go_wp2_with fail
        (with_reducible refine (within64_one _ _ _ _ _ _ (by simp)).mono ?_)
        rintro e w' ⟨rfl, rfl⟩
        go_wp2_with fail
        (with_reducible refine (within64_one _ _ _ _ _ _ (by simp)).mono ?_)
        rintro e w' ⟨rfl, rfl⟩
        go_wp2_with fail
        have HBX := Lib.hid ((HB1.out.alloc HB1.out.size (.cells #[.int .i64 q] 2)).alloc (HB1.out.alloc HB1.out.size (.cells #[.int .i64 q] 2)).size (.cells #[.int .i64 d] 2))
        (with_reducible refine (regRgf w.heap.size (w.heap.size + 1) (rfP q d) r _ h1 HSP.out (fun x w1 hx1 hx2 hb => fitsRgf x q d w.heap.size (w.heap.size + 1) w1 ((hb.cell (Nat.lt_of_lt_of_le (by first | (simp; done) | (simp; omega)) HBX.out.size)).trans ((HBX.out.cell (by first | (simp; done) | (simp; omega))).trans C0.out)) ((hb.cell (Nat.lt_of_lt_of_le (by first | (simp; done) | (simp; omega)) HBX.out.size)).trans ((HBX.out.cell (by first | (simp; done) | (simp; omega))).trans C1.out)) ⟨by omega, hx2⟩ h2)).mono ?_)
        rintro e w9 ⟨rfl, hd9⟩
        go_wp2
        go_ret2
        exact ⟨ret_two HE.out.1.symm HE.out.2.symm, HBW.out.trans ((HBX.out.trans (hd9.mono HBX.out.size)).mono (by first | (simp; done) | (simp; omega)))⟩
      · have i3 := inB_false h3
        have HE := Lib.hid (show rgaRegulatorFor r q d = 0 ∧ rgbRegulatorFor r q d = 2 by simp [rgaRegulatorFor, rgbRegulatorFor, i3])
        go_enter Try.func40, Try.ntmps40
        go_wp2_with fail
        (with_reducible refine (isResistance_any _ _).mono ?_)
        rintro e w1 ⟨rfl, hd1⟩
        have HB1 := Lib.hid (show Below ((w.alloc (.cells #[.int .i64 q] 2)).alloc (.cells #[.int .i64 d] 2)).heap.size ((w.alloc (.cells #[.int .i64 q] 2)).alloc (.cells #[.int .i64 d] 2)) w1 from (Below.refl ((w.alloc (.cells #[.int .i64 q] 2)).alloc (.cells #[.int .i64 d] 2)).heap.size ((w.alloc (.cells #[.int .i64 q] 2)).alloc (.cells #[.int .i64 d] 2))).trans (hd1.mono (Below.refl ((w.alloc (.cells #[.int .i64 q] 2)).alloc (.cells #[.int .i64 d] 2)).heap.size ((w.alloc (.cells #[.int .i64 q] 2)).alloc (.cells #[.int .i64 d] 2))).size))
        have k1_0 : w1.cell? ⟨w.heap.size, 0, none⟩ = some (.int .i64 q) := (HB1.out.cell (by first | (simp; done) | (simp; omega))).trans C0.out
        have k1_1 : w1.cell? ⟨w.heap.size + 1, 0, none⟩ = some (.int .i64 d) := (HB1.out.cell (by first | (simp; done) | (simp; omega))).trans C1.out
        have z1 : w.heap.size + 1 < w1.heap.size := Nat.lt_of_lt_of_le (by simp) HB1.out.size
        clear hd1
        go_wp2_with fail
        (with_reducible refine (within64_one _ _ _ _ _ _ (by simp)).mono ?_)
        rintro e w' ⟨rfl, rfl⟩
        go_wp2_with fail
        (with_reducible refine (within64_one _ _ _ _ _ _ (by simp)).mono ?_)
        rintro e w' ⟨rfl, rfl⟩
        go_wp2
        go_ret2
        exact ⟨ret_two HE.out.1.symm HE.out.2.symm, HBW.out.trans (((HB1.out.alloc HB1.out.size (.cells #[.int .i64 q] 2)).alloc (HB1.out.alloc HB1.out.size (.cells #[.int .i64 q] 2)).size (.cells #[.int .i64 d] 2)).mono (by first | (simp; done) | (simp; omega)))⟩
    · have i2 := inB_false h2
      have HE := Lib.hid (show rgaRegulatorFor r q d = 0 ∧ rgbRegulatorFor r q d = 2 by simp [rgaRegulatorFor, rgbRegulatorFor, i2])
      go_enter Try.func40, Try.ntmps40
      go_wp2_with fail
      (with_reducible refine (isResistance_any _ _).mono ?_)
      rintro e w1 ⟨rfl, hd1⟩
      have HB1 := Lib.hid (show Below ((w.alloc (.cells #[.int .i64 q] 2)).alloc (.cells #[.int .i64 d] 2)).heap.size ((w.alloc (.cells #[.int .i64 q] 2)).alloc (.cells #[.int .i64 d] 2)) w1 from (Below.refl ((w.alloc (.cells #[.int .i64 q] 2)).alloc (.cells #[.int .i64 d] 2)).heap.size ((w.alloc (.cells #[.int .i64 q] 2)).alloc (.cells #[.int .i64 d] 2))).trans (hd1.mono (Below.refl ((w.alloc (.cells #[.int .i64 q] 2)).alloc (.cells #[.int .i64 d] 2)).heap.size ((w.alloc (.cells #[.int .i64 q] 2)).alloc (.cells #[.int .i64 d] 2))).size))
      have k1_0 : w1.cell? ⟨w.heap.size, 0, none⟩ = some (.int .i64 q) := (HB1.out.cell (by first | (simp; done) | (simp; omega))).trans C0.out
      have k1_1 : w1.cell? ⟨w.heap.size + 1, 0, none⟩ = some (.int .i64 d) := (HB1.out.cell (by first | (simp; done) | (simp; omega))).trans C1.out
      have z1 : w.heap.size + 1 < w1.heap.size := Nat.lt_of_lt_of_le (by simp) HB1.out.size
      clear hd1
      go_wp2_with fail
      (with_reducible refine (within64_one _ _ _ _ _ _ (by simp)).mono ?_)
      rintro e w' ⟨rfl, rfl⟩
      go_wp2
      go_ret2
      exact ⟨ret_two HE.out.1.symm HE.out.2.symm, HBW.out.trans ((HB1.out.alloc HB1.out.size (.cells #[.int .i64 q] 2)).mono (by first | (simp; done) | (simp; omega)))⟩
  · have i1 := inB_false h1
    have HE := Lib.hid (show rgaRegulatorFor r q d = 0 ∧ rgbRegulatorFor r q d = 2 by simp [rgaRegulatorFor, rgbRegulatorFor, i1])
    go_enter Try.func40, Try.ntmps40
    go_wp2_with fail
    (with_reducible refine (isResistance_any _ _).mono ?_)
    rintro e w1 ⟨rfl, hd1⟩
    have HB1 := Lib.hid (show Below ((w.alloc (.cells #[.int .i64 q] 2)).alloc (.cells #[.int .i64 d] 2)).heap.size ((w.alloc (.cells #[.int .i64 q] 2)).alloc (.cells #[.int .i64 d] 2)) w1 from (Below.refl ((w.alloc (.cells #[.int .i64 q] 2)).alloc (.cells #[.int .i64 d] 2)).heap.size ((w.alloc (.cells #[.int .i64 q] 2)).alloc (.cells #[.int .i64 d] 2))).trans (hd1.mono (Below.refl ((w.alloc (.cells #[.int .i64 q] 2)).alloc (.cells #[.int .i64 d] 2)).heap.size ((w.alloc (.cells #[.int .i64 q] 2)).alloc (.cells #[.int .i64 d] 2))).size))
    have k1_0 : w1.cell? ⟨w.heap.size, 0, none⟩ = some (.int .i64 q) := (HB1.out.cell (by first | (simp; done) | (simp; omega))).trans C0.out
    have k1_1 : w1.cell? ⟨w.heap.size + 1, 0, none⟩ = some (.int .i64 d) := (HB1.out.cell (by first | (simp; done) | (simp; omega))).trans C1.out
    have z1 : w.heap.size + 1 < w1.heap.size := Nat.lt_of_lt_of_le (by simp) HB1.out.size
    clear hd1
    go_wp2
    go_ret2
    exact ⟨ret_two HE.out.1.symm HE.out.2.symm, HBW.out.trans (HB1.out.mono (by first | (simp; done) | (simp; omega)))⟩
set_option maxHeartbeats 1000000 in
theorem sRegulatorFor_any (r q d : Int) (w : World) :
    Calls Try.prog 39 #[.int .i64 r, .int .i64 q, .int .i64 d] w fun e w' => e = .returned (.tuple #[.int .i64 (rgaRegulatorFor r q d), .int .i64 (rgbRegulatorFor r q d)]) ∧ Below w.heap.size w w' := by
  by_cases h1 : 1 ≤ r ∧ r ≤ 1000000
  · have i1 := inB_true h1.1 h1.2
    by_cases h2 : 1 ≤ q ∧ q ≤ 100000
    · have i2 := inB_true h2.1 h2.2
      by_cases h3 : 0 ≤ d ∧ d ≤ 1000000
      · have i3 := inB_true h3.1 h3.2
        have HE := Lib.hid (show rgaRegulatorFor r q d = rgV (rfP q d) r ∧ rgbRegulatorFor r q d = rgC (rfP q d) r by simp [rgaRegulatorFor, rgbRegulatorFor, i1, i2, i3])
        have HSP := Lib.hid (rf_spec (q := q) (d := d) (r := r) h2.1 h1.1)
        have hN := (rf_spec (q := q) (d := d) (r := r) h2.1 h1.1).1
        have HV := Lib.hid (show rgV (rfP q d) r = (if regN (rfP q d) r < (1000001 - r).toNat then (regN (rfP q d) r : Int) else 0) ∧ rgC (rfP q d) r = (if regN (rfP q d) r < (1000001 - r).toNat then 0 else 3) from ⟨rfl, rfl⟩)
        generalize regN (rfP q d) r = N at *
        obtain ⟨n, hn⟩ : ∃ n : Nat, (1000001 - r).toNat = n := ⟨_, rfl⟩
        rw [hn] at HV HSP hN
        have hn2 : 1000000 - r + 1 = (n : Int) := by omega
        clear hn
        go_enter Try.func39, Try.ntmps39
        go_wp2_with fail
        (with_reducible refine (l03Res_any _ _).mono ?_)
        rintro e w' ⟨rfl, rfl⟩
        go_wp2_with fail
        (with_reducible refine (l00In_any _ _ _ _).mono ?_)
        rintro e w' ⟨rfl, rfl⟩
        go_wp2_with fail
        (with_reducible refine (l00In_any _ _ _ _).mono ?_)
        rintro e w' ⟨rfl, rfl⟩
        go_wp2
        go_loopw [8, 9] (fun lo hi wr => ∃ i j : Nat, lo = .int .i64 ((i : Int) - 1) ∧ hi = .int .i64 (j : Int) ∧ i ≤ N ∧ N ≤ j ∧ j ≤ n ∧ Below w.heap.size w wr) (fun lo hi wr => (intOf hi - intOf lo).toNat)
        case atStart => exact ⟨0, n, rfl, by first | rfl | rw [hn2], by omega, by omega, by omega, Below.refl _ _⟩
        case round =>
          obtain ⟨i, j, rfl, rfl, g1, g2, g3, hbel⟩ := hrel
          have HBL := Lib.hid hbel
          clear hbel
          by_cases hlt : i < j
          · have hq := Lib.hid (show ((i : Int) - 1 + (j : Int)) / 2 = (((i + j - 1) / 2 : Nat) : Int) by omega)
            have q1 : i ≤ (i + j - 1) / 2 := by omega
            have q2 : (i + j - 1) / 2 < j := by omega
            have m1 : 0 ≤ ((i : Int) - 1 + (j : Int)) / 2 := by omega
            have m2 : ((i : Int) - 1 + (j : Int)) / 2 < (n : Int) := by omega
            have hqt : Int.tdiv ((i : Int) - 1 + (j : Int)) 2 = ((i : Int) - 1 + (j : Int)) / 2 := Int.tdiv_eq_ediv_of_nonneg (by omega)
            have HT := Lib.hid (show decide (d ≤ dropR (r + ((i : Int) - 1 + (j : Int)) / 2) q) = (rfP q d) (r + (((i + j - 1) / 2 : Nat) : Int)) by rw [← hq.out]; rfl)
            have b1 : (i : Int) ≤ 1000000 := by omega
            have b2 : (j : Int) ≤ 1000000 := by omega
            by_cases hp : d ≤ dropR (r + ((i : Int) - 1 + (j : Int)) / 2) q
            · have hNx : N ≤ (i + j - 1) / 2 := by
                apply Nat.le_of_not_lt; intro hl
                have := HSP.out.2.1 _ hl
                rw [← HT.out, decide_eq_true hp] at this
                cases this
              go_wp2_with (go_at_call 89; (with_reducible refine (l03Drop_any (r + ((i : Int) - 1 + (j : Int)) / 2) q _ (by omega) (by omega) (by omega) (by omega)).mono ?_); rintro e w' ⟨rfl, rfl⟩)
              go_roundw
              case rel => exact ⟨i, (i + j - 1) / 2, rfl, by rw [hq.out], by omega, by omega, by omega, HBL.out⟩
              case measure => simp [intOf]; omega
            · have hNx : (i + j - 1) / 2 < N := by
                apply Nat.lt_of_not_le; intro hl
                have := HSP.out.2.2 _ hl (by omega)
                rw [← HT.out, decide_eq_false hp] at this
                cases this
              go_wp2_with (go_at_call 89; (with_reducible refine (l03Drop_any (r + ((i : Int) - 1 + (j : Int)) / 2) q _ (by omega) (by omega) (by omega) (by omega)).mono ?_); rintro e w' ⟨rfl, rfl⟩)
              go_roundw
              case rel => exact ⟨(i + j - 1) / 2 + 1, j, by rw [show ((((i + j - 1) / 2 + 1 : Nat)) : Int) - 1 = ((i : Int) - 1 + (j : Int)) / 2 by have := hq.out; omega], rfl, by omega, by omega, by omega, HBL.out⟩
              case measure => simp [intOf]; omega
          · obtain rfl : i = N := by omega
            obtain rfl : j = i := by omega
            by_cases hm : j < n
            · rw [if_pos hm, if_pos hm] at HV
              have t1 : ¬ (1000000 : Int) < r + (j : Int) := by omega
              go_wp2
              go_ret2
              exact ⟨ret_two (HE.out.1.trans HV.out.1).symm (HE.out.2.trans HV.out.2).symm, HBL.out⟩
            · rw [if_neg hm, if_neg hm] at HV
              have t1 : (1000000 : Int) < r + (j : Int) := by omega
              go_wp2
              go_ret2
              exact ⟨ret_two (HE.out.1.trans HV.out.1).symm (HE.out.2.trans HV.out.2).symm, HBL.out⟩
      · have i3 := inB_false h3
        have HE := Lib.hid (show rgaRegulatorFor r q d = 0 ∧ rgbRegulatorFor r q d = 2 by simp [rgaRegulatorFor, rgbRegulatorFor, i3])
        go_enter Try.func39, Try.ntmps39
        go_wp2_with fail
        (with_reducible refine (l03Res_any _ _).mono ?_)
        rintro e w' ⟨rfl, rfl⟩
        go_wp2_with fail
        (with_reducible refine (l00In_any _ _ _ _).mono ?_)
        rintro e w' ⟨rfl, rfl⟩
        go_wp2_with fail
        (with_reducible refine (l00In_any _ _ _ _).mono ?_)
        rintro e w' ⟨rfl, rfl⟩
        go_wp2
        go_ret2
        exact ⟨ret_two HE.out.1.symm HE.out.2.symm, Below.refl _ _⟩
    · have i2 := inB_false h2
      have HE := Lib.hid (show rgaRegulatorFor r q d = 0 ∧ rgbRegulatorFor r q d = 2 by simp [rgaRegulatorFor, rgbRegulatorFor, i2])
      go_enter Try.func39, Try.ntmps39
      go_wp2_with fail
      (with_reducible refine (l03Res_any _ _).mono ?_)
      rintro e w' ⟨rfl, rfl⟩
      go_wp2_with fail
      (with_reducible refine (l00In_any _ _ _ _).mono ?_)
      rintro e w' ⟨rfl, rfl⟩
      go_wp2
      go_ret2
      exact ⟨ret_two HE.out.1.symm HE.out.2.symm, Below.refl _ _⟩
  · have i1 := inB_false h1
    have HE := Lib.hid (show rgaRegulatorFor r q d = 0 ∧ rgbRegulatorFor r q d = 2 by simp [rgaRegulatorFor, rgbRegulatorFor, i1])
    go_enter Try.func39, Try.ntmps39
    go_wp2_with fail
    (with_reducible refine (l03Res_any _ _).mono ?_)
    rintro e w' ⟨rfl, rfl⟩
    go_wp2
    go_ret2
    exact ⟨ret_two HE.out.1.symm HE.out.2.symm, Below.refl _ _⟩
/-- What RegulatorForShare returns. -/
def rgaRegulatorForShare (a b s : Int) : Int := if inB a 1 1000000 && inB b 1 1000000 && inB s 1 999 then rgV (rsP b s) a else 0
def rgbRegulatorForShare (a b s : Int) : Int := if inB a 1 1000000 && inB b 1 1000000 && inB s 1 999 then rgC (rsP b s) a else 2
theorem fitsRgs (x b s : Int) (b0 b1 : Nat) (w : World) (c0 : w.cell? ⟨b0, 0, none⟩ = some (.int .i64 b)) (c1 : w.cell? ⟨b1, 0, none⟩ = some (.int .i64 s)) (h1 : 1 ≤ x ∧ x ≤ 1000000) (h2 : 1 ≤ b ∧ b ≤ 1000000) :
    Calls Try.prog 95 #[.int .i64 x, .pointer (some ⟨b0, 0, none⟩), .pointer (some ⟨b1, 0, none⟩)] w fun e w' => e = .returned (.bool (rsP b s x)) ∧ Below w.heap.size w w' := by
  have HE := Lib.hid (show rsP b s x = decide (shR (x) b ≤ s) from rfl)
  go_enter Try.func95, Try.ntmps95
  go_wp2
  go_quiet ((go_at_call 94; exact quiet_dr (shareBeside_any x b _ h1 h2)))
  go_wp2
  go_ret
  exact ⟨ret_bool HE.out.symm, below_drewN' (Below.refl _ _) _⟩
theorem stepRgs (b0 b1 : Nat) (p : Int → Bool) (lo : Int) (i : Nat) (bf bl : Nat) (w1 : World) (c0 : w1.cell? ⟨bf, 0, none⟩ = some (.func (.func 95) #[] #[.pointer (some ⟨b0, 0, none⟩), .pointer (some ⟨b1, 0, none⟩)])) (c1 : w1.cell? ⟨bl, 0, none⟩ = some (.int .i64 lo))
    (h1 : -1000000 ≤ lo ∧ lo ≤ 1000000) (h2 : i ≤ 1000000) (hf : Calls Try.prog 95 #[.int .i64 (lo + (i : Int)), .pointer (some ⟨b0, 0, none⟩), .pointer (some ⟨b1, 0, none⟩)] w1 fun e w2 => e = .returned (.bool (p (lo + (i : Int)))) ∧ Below w1.heap.size w1 w2) :
    Calls Try.prog 170 #[.int .i64 (i : Int), .pointer (some ⟨bf, 0, none⟩), .pointer (some ⟨bl, 0, none⟩)] w1 fun e w2 => e = .returned (.bool (p (lo + (i : Int)))) ∧ Below w1.heap.size w1 w2 := by
  have HF := hide hf
  clear hf
  go_enter Try.func170, Try.ntmps170
  go_wp2_with (go_at_call 95; refine (unhide HF).mono ?_; rintro e w2 ⟨rfl, hb⟩)
  go_ret
  exact ⟨rfl, hb⟩
theorem searchRgs (b0 b1 : Nat) (p : Int → Bool) (lo : Int) (n m : Nat) (bf bl : Nat) (w : World) (c0 : w.cell? ⟨bf, 0, none⟩ = some (.func (.func 95) #[] #[.pointer (some ⟨b0, 0, none⟩), .pointer (some ⟨b1, 0, none⟩)])) (c1 : w.cell? ⟨bl, 0, none⟩ = some (.int .i64 lo))
    (h1 : -1000000 ≤ lo ∧ lo ≤ 1000000) (h2 : n ≤ 1000000) (hm : m ≤ n) (hl : ∀ t, t < m → p (lo + (t : Int)) = false) (hh : ∀ t, m ≤ t → t < n → p (lo + (t : Int)) = true)
    (hf : ∀ (x : Int) (w1 : World), lo ≤ x → x < lo + n → Below w.heap.size w w1 → Calls Try.prog 95 #[.int .i64 x, .pointer (some ⟨b0, 0, none⟩), .pointer (some ⟨b1, 0, none⟩)] w1 fun e w2 => e = .returned (.bool (p x)) ∧ Below w1.heap.size w1 w2) :
    Calls Try.prog 169 #[.int .i64 (n : Int), .func (.func 170) #[] #[.pointer (some ⟨bf, 0, none⟩), .pointer (some ⟨bl, 0, none⟩)]] w fun e w2 => e = .returned (.int .i64 (m : Int)) ∧ Below w.heap.size w w2 := by
  have HF := Lib.hid hf
  have HL := Lib.hid hl
  have HH := Lib.hid hh
  have C0 := Lib.hid c0
  have C1 := Lib.hid c1
  clear hf hl hh c0 c1
  go_enter Try.func169, Try.ntmps169
  go_wp2
  go_loopw [5, 6] (fun x y wr => ∃ a b : Nat, x = .int .i64 a ∧ y = .int .i64 b ∧ (a ≤ m ∧ m ≤ b) ∧ b ≤ n ∧ Below w.heap.size w wr) (fun x y wr => (intOf y).toNat - (intOf x).toNat)
  case atStart => exact ⟨0, n, rfl, rfl, ⟨by omega, hm⟩, by omega, Below.refl _ _⟩
  case round =>
    obtain ⟨a, b, rfl, rfl, ⟨hab, hmb⟩, hbn, hbel⟩ := hrel
    by_cases hlt : a < b
    · have hc0 := (hbel.cell (World.block_lt_of_cell? _ _ C0.out)).trans C0.out
      have hc1 := (hbel.cell (World.block_lt_of_cell? _ _ C1.out)).trans C1.out
      have hs := stepRgs b0 b1 p lo ((a + b) / 2) bf bl wr hc0 hc1 h1 (by omega) (HF.out _ _ (by omega) (by omega) hbel)
      rw [show (((a + b) / 2 : Nat) : Int) = ((a : Int) + (b : Int)) / 2 by omega] at hs
      cases hp : p (lo + ((a : Int) + (b : Int)) / 2)
      · rw [hp] at hs
        have hx : (a + b) / 2 < m := by
          apply Nat.lt_of_not_le; intro hle
          have := HH.out ((a + b) / 2) hle (by omega)
          rw [show (((a + b) / 2 : Nat) : Int) = ((a : Int) + (b : Int)) / 2 by omega, hp] at this
          cases this
        have HS := hide hs
        have HP := Lib.hid hp
        have HB := Lib.hid hbel
        clear hs hp hc0 hc1 hbel
        go_wp2_with (go_at_call 170; refine (unhide HS).mono ?_; rintro e w2 ⟨rfl, hb2⟩)
        go_roundw
        case rel => exact ⟨(a + b) / 2 + 1, b, by rw [show ((a : Int) + (b : Int)) / 2 + 1 = (((a + b) / 2 + 1 : Nat) : Int) by omega], rfl, ⟨by omega, hmb⟩, hbn, HB.out.trans (hb2.mono HB.out.size)⟩
        case measure => simp [intOf]; omega
      · rw [hp] at hs
        have hx : m ≤ (a + b) / 2 := by
          apply Nat.le_of_not_lt; intro hle
          have := HL.out ((a + b) / 2) hle
          rw [show (((a + b) / 2 : Nat) : Int) = ((a : Int) + (b : Int)) / 2 by omega, hp] at this
          cases this
        have HS := hide hs
        have HP := Lib.hid hp
        have HB := Lib.hid hbel
        clear hs hp hc0 hc1 hbel
        go_wp2_with (go_at_call 170; refine (unhide HS).mono ?_; rintro e w2 ⟨rfl, hb2⟩)
        go_roundw
        case rel => exact ⟨a, (a + b) / 2, rfl, by rw [show ((a : Int) + (b : Int)) / 2 = (((a + b) / 2 : Nat) : Int) by omega], ⟨hab, hx⟩, by omega, HB.out.trans (hb2.mono HB.out.size)⟩
        case measure => simp [intOf]; omega
    · obtain rfl : m = a := by omega
      go_wp2
      go_ret
      exact ⟨rfl, hbel⟩
theorem leastRgs (b0 b1 : Nat) (p : Int → Bool) (lo hi : Int) (n m : Nat) (w : World) (h1 : -1000000 ≤ lo ∧ lo ≤ 1000000) (h3 : (n : Int) = hi - lo + 1) (h4 : hi ≤ 1000000) (h5 : lo ≤ hi) (h6 : n ≤ 1000000) (hm : m ≤ n)
    (hl : ∀ t, t < m → p (lo + (t : Int)) = false) (hh : ∀ t, m ≤ t → t < n → p (lo + (t : Int)) = true)
    (hf : ∀ (x : Int) (w1 : World), lo ≤ x → x < lo + n → Below w.heap.size w w1 → Calls Try.prog 95 #[.int .i64 x, .pointer (some ⟨b0, 0, none⟩), .pointer (some ⟨b1, 0, none⟩)] w1 fun e w2 => e = .returned (.bool (p x)) ∧ Below w1.heap.size w1 w2) :
    Calls Try.prog 142 #[.int .i64 lo, .int .i64 hi, .func (.func 95) #[] #[.pointer (some ⟨b0, 0, none⟩), .pointer (some ⟨b1, 0, none⟩)]] w fun e w2 => e = .returned (.int .i64 (lo + (m : Int))) ∧ Below w.heap.size w w2 := by
  have HF := Lib.hid hf
  have HL := Lib.hid hl
  have HH := Lib.hid hh
  clear hf hl hh
  have e3 : hi - lo + 1 = (n : Int) := h3.symm
  have H3 := Lib.hid e3
  clear e3
  go_enter Try.func142, Try.ntmps142
  go_wp2_with fail
  rw [H3.out]
  have hB2 : Below w.heap.size w ((w.alloc (.cells #[.int .i64 lo] 2)).alloc (.cells #[.func (.func 95) #[] #[.pointer (some ⟨b0, 0, none⟩), .pointer (some ⟨b1, 0, none⟩)]] 92)) := (below_box _ _).alloc (by simp) _
  have hz : w.heap.size + 1 < ((w.alloc (.cells #[.int .i64 lo] 2)).alloc (.cells #[.func (.func 95) #[] #[.pointer (some ⟨b0, 0, none⟩), .pointer (some ⟨b1, 0, none⟩)]] 92)).heap.size := by simp
  refine (searchRgs b0 b1 p lo n m (w.heap.size + 1) w.heap.size _ (by simp) (by simp) h1 h6 hm HL.out HH.out (fun x w1 hx1 hx2 hb => HF.out x w1 hx1 hx2 (hB2.trans (hb.mono hB2.size)))).mono ?_
  rintro e w2 ⟨rfl, hb⟩
  obtain ⟨hc, hfz⟩ := bcell hb
  have HN := Lib.hid hB2
  have HZ := Lib.hid hz
  clear hB2
  go_wp2
  go_ret
  exact ⟨rfl, HN.out.trans (hb.mono HN.out.size)⟩
set_option maxHeartbeats 1000000 in
theorem regRgs (b0 b1 : Nat) (p : Int → Bool) (r : Int) (w : World) (hr : 1 ≤ r ∧ r ≤ 1000000)
    (hs : regN p r ≤ (1000001 - r).toNat ∧ (∀ t : Nat, t < regN p r → p (r + (t : Int)) = false) ∧ (∀ t : Nat, regN p r ≤ t → t < (1000001 - r).toNat → p (r + (t : Int)) = true))
    (hf : ∀ (x : Int) (w1 : World), r ≤ x → x ≤ 1000000 → Below w.heap.size w w1 → Calls Try.prog 95 #[.int .i64 x, .pointer (some ⟨b0, 0, none⟩), .pointer (some ⟨b1, 0, none⟩)] w1 fun e w2 => e = .returned (.bool (p x)) ∧ Below w1.heap.size w1 w2) :
    Calls Try.prog 90 #[.int .i64 r, .func (.func 95) #[] #[.pointer (some ⟨b0, 0, none⟩), .pointer (some ⟨b1, 0, none⟩)]] w fun e w' => e = .returned (.tuple #[.int .i64 (rgV p r), .int .i64 (rgC p r)]) ∧ Below w.heap.size w w' := by
  have HF := Lib.hid hf
  have HS := Lib.hid hs
  have hn1 := hs.1
  clear hf hs
  have HE := Lib.hid (show rgV p r = (if regN p r < (1000001 - r).toNat then (regN p r : Int) else 0) ∧ rgC p r = (if regN p r < (1000001 - r).toNat then 0 else 3) from ⟨rfl, rfl⟩)
  generalize regN p r = m at *
  obtain ⟨n, hn⟩ : ∃ n : Nat, (1000001 - r).toNat = n := ⟨_, rfl⟩
  rw [hn] at HE HS hn1
  have hn2 : (n : Int) = 1000000 - r + 1 := by omega
  have HN := Lib.hid hn2
  clear hn
  have HC := Lib.hid (leastRgs b0 b1 p r 1000000 n m w (by omega) hn2 (by omega) (by omega) (by omega) hn1 HS.out.2.1 HS.out.2.2 (fun x w1 hx1 hx2 hb => HF.out x w1 hx1 (by omega) hb))
  by_cases hm : m < n
  · rw [if_pos hm, if_pos hm] at HE
    have t1 : ¬ (1000000 : Int) < r + (m : Int) := by omega
    have hw : r + (m : Int) - r = (m : Int) := by omega
    clear hn2
    go_enter Try.func90, Try.ntmps90
    go_wp2_with fail
    (with_reducible refine HC.out.mono ?_)
    rintro e w1 ⟨rfl, hd⟩
    go_wp2
    go_ret2
    exact ⟨ret_two (by rw [HE.out.1] <;> omega) HE.out.2.symm, hd⟩
  · rw [if_neg hm, if_neg hm] at HE
    have t1 : (1000000 : Int) < r + (m : Int) := by omega
    clear hn2
    go_enter Try.func90, Try.ntmps90
    go_wp2_with fail
    (with_reducible refine HC.out.mono ?_)
    rintro e w1 ⟨rfl, hd⟩
    go_wp2
    go_ret2
    exact ⟨ret_two HE.out.1.symm HE.out.2.symm, hd⟩
set_option maxHeartbeats 1000000 in
theorem iRegulatorForShare_any (a b s : Int) (w : World) :
    Calls Try.prog 44 #[.int .i64 a, .int .i64 b, .int .i64 s] w fun e w' => e = .returned (.tuple #[.int .i64 (rgaRegulatorForShare a b s), .int .i64 (rgbRegulatorForShare a b s)]) ∧ Below w.heap.size w w' := by
  have C0 := Lib.hid (show ((w.alloc (.cells #[.int .i64 b] 2)).alloc (.cells #[.int .i64 s] 2)).cell? ⟨w.heap.size, 0, none⟩ = some (.int .i64 b) by simp)
  have C1 := Lib.hid (show ((w.alloc (.cells #[.int .i64 b] 2)).alloc (.cells #[.int .i64 s] 2)).cell? ⟨w.heap.size + 1, 0, none⟩ = some (.int .i64 s) by simp)
  have HBW := Lib.hid (show Below w.heap.size w ((w.alloc (.cells #[.int .i64 b] 2)).alloc (.cells #[.int .i64 s] 2)) from (below_box _ _).alloc (by simp) _)
  by_cases h1 : 1 ≤ a ∧ a ≤ 1000000
  · have i1 := inB_true h1.1 h1.2
    by_cases h2 : 1 ≤ b ∧ b ≤ 1000000
    · have i2 := inB_true h2.1 h2.2
      by_cases h3 : 1 ≤ s ∧ s ≤ 999
      · have i3 := inB_true h3.1 h3.2
        have HE := Lib.hid (show rgaRegulatorForShare a b s = rgV (rsP b s) a ∧ rgbRegulatorForShare a b s = rgC (rsP b s) a by simp [rgaRegulatorForShare, rgbRegulatorForShare, i1, i2, i3])
        have HSP := Lib.hid (rs_spec (b := b) (s := s) (r := a) h2 h1.1)
        have h0 : 1 ≤ a := h1.1
        go_enter Try.func44, Try.ntmps44
        go_wp2_with fail
        (with_reducible refine (isResistance_any _ _).mono ?_)
        rintro e w1 ⟨rfl, hd1⟩
        have HB1 := Lib.hid (show Below ((w.alloc (.cells #[.int .i64 b] 2)).alloc (.cells #[.int .i64 s] 2)).heap.size ((w.alloc (.cells #[.int .i64 b] 2)).alloc (.cells #[.int .i64 s] 2)) w1 from (Below.refl ((w.alloc (.cells #[.int .i64 b] 2)).alloc (.cells #[.int .i64 s] 2)).heap.size ((w.alloc (.cells #[.int .i64 b] 2)).alloc (.cells #[.int .i64 s] 2))).trans (hd1.mono (Below.refl ((w.alloc (.cells #[.int .i64 b] 2)).alloc (.cells #[.int .i64 s] 2)).heap.size ((w.alloc (.cells #[.int .i64 b] 2)).alloc (.cells #[.int .i64 s] 2))).size))
        have k1_0 : w1.cell? ⟨w.heap.size, 0, none⟩ = some (.int .i64 b) := (HB1.out.cell (by first | (simp; done) | (simp; omega))).trans C0.out
        have k1_1 : w1.cell? ⟨w.heap.size + 1, 0, none⟩ = some (.int .i64 s) := (HB1.out.cell (by first | (simp; done) | (simp; omega))).trans C1.out
        have z1 : w.heap.size + 1 < w1.heap.size := Nat.lt_of_lt_of_le (by simp) HB1.out.size
        clear hd1
        go_wp2_with fail
        (with_reducible refine (isResistance_any _ _).mono ?_)
        rintro e w2 ⟨rfl, hd2⟩
        have HB2 := Lib.hid (show Below ((w.alloc (.cells #[.int .i64 b] 2)).alloc (.cells #[.int .i64 s] 2)).heap.size ((w.alloc (.cells #[.int .i64 b] 2)).alloc (.cells #[.int .i64 s] 2)) w2 from HB1.out.trans (hd2.mono HB1.out.size))
        have k2_0 : w2.cell? ⟨w.heap.size, 0, none⟩ = some (.int .i64 b) := (HB2.out.cell (by first | (simp; done) | (simp; omega))).trans C0.out
        have k2_1 : w2.cell? ⟨w.heap.size + 1, 0, none⟩ = some (.int .i64 s) := (HB2.out.cell (by first | (simp; done) | (simp; omega))).trans C1.out
        have z2 : w.heap.size + 1 < w2.heap.size := Nat.lt_of_lt_of_le (by simp) HB2.out.size
        clear hd2
        go_wp2_with fail
        (with_reducible refine (within64_one _ _ _ _ _ _ (by simp)).mono ?_)
        rintro e w' ⟨rfl, rfl⟩
        go_wp2_with fail
        have HBX := Lib.hid (HB2.out.alloc HB2.out.size (.cells #[.int .i64 s] 2))
        (with_reducible refine (regRgs w.heap.size (w.heap.size + 1) (rsP b s) a _ h1 HSP.out (fun x w1 hx1 hx2 hb => fitsRgs x b s w.heap.size (w.heap.size + 1) w1 ((hb.cell (Nat.lt_of_lt_of_le (by first | (simp; done) | (simp; omega)) HBX.out.size)).trans ((HBX.out.cell (by first | (simp; done) | (simp; omega))).trans C0.out)) ((hb.cell (Nat.lt_of_lt_of_le (by first | (simp; done) | (simp; omega)) HBX.out.size)).trans ((HBX.out.cell (by first | (simp; done) | (simp; omega))).trans C1.out)) ⟨by omega, hx2⟩ h2)).mono ?_)
        rintro e w9 ⟨rfl, hd9⟩
        go_wp2
        go_ret2
        exact ⟨ret_two HE.out.1.symm HE.out.2.symm, HBW.out.trans ((HBX.out.trans (hd9.mono HBX.out.size)).mono (by first | (simp; done) | (simp; omega)))⟩
      · have i3 := inB_false h3
        have HE := Lib.hid (show rgaRegulatorForShare a b s = 0 ∧ rgbRegulatorForShare a b s = 2 by simp [rgaRegulatorForShare, rgbRegulatorForShare, i3])
        go_enter Try.func44, Try.ntmps44
        go_wp2_with fail
        (with_reducible refine (isResistance_any _ _).mono ?_)
        rintro e w1 ⟨rfl, hd1⟩
        have HB1 := Lib.hid (show Below ((w.alloc (.cells #[.int .i64 b] 2)).alloc (.cells #[.int .i64 s] 2)).heap.size ((w.alloc (.cells #[.int .i64 b] 2)).alloc (.cells #[.int .i64 s] 2)) w1 from (Below.refl ((w.alloc (.cells #[.int .i64 b] 2)).alloc (.cells #[.int .i64 s] 2)).heap.size ((w.alloc (.cells #[.int .i64 b] 2)).alloc (.cells #[.int .i64 s] 2))).trans (hd1.mono (Below.refl ((w.alloc (.cells #[.int .i64 b] 2)).alloc (.cells #[.int .i64 s] 2)).heap.size ((w.alloc (.cells #[.int .i64 b] 2)).alloc (.cells #[.int .i64 s] 2))).size))
        have k1_0 : w1.cell? ⟨w.heap.size, 0, none⟩ = some (.int .i64 b) := (HB1.out.cell (by first | (simp; done) | (simp; omega))).trans C0.out
        have k1_1 : w1.cell? ⟨w.heap.size + 1, 0, none⟩ = some (.int .i64 s) := (HB1.out.cell (by first | (simp; done) | (simp; omega))).trans C1.out
        have z1 : w.heap.size + 1 < w1.heap.size := Nat.lt_of_lt_of_le (by simp) HB1.out.size
        clear hd1
        go_wp2_with fail
        (with_reducible refine (isResistance_any _ _).mono ?_)
        rintro e w2 ⟨rfl, hd2⟩
        have HB2 := Lib.hid (show Below ((w.alloc (.cells #[.int .i64 b] 2)).alloc (.cells #[.int .i64 s] 2)).heap.size ((w.alloc (.cells #[.int .i64 b] 2)).alloc (.cells #[.int .i64 s] 2)) w2 from HB1.out.trans (hd2.mono HB1.out.size))
        have k2_0 : w2.cell? ⟨w.heap.size, 0, none⟩ = some (.int .i64 b) := (HB2.out.cell (by first | (simp; done) | (simp; omega))).trans C0.out
        have k2_1 : w2.cell? ⟨w.heap.size + 1, 0, none⟩ = some (.int .i64 s) := (HB2.out.cell (by first | (simp; done) | (simp; omega))).trans C1.out
        have z2 : w.heap.size + 1 < w2.heap.size := Nat.lt_of_lt_of_le (by simp) HB2.out.size
        clear hd2
        go_wp2_with fail
        (with_reducible refine (within64_one _ _ _ _ _ _ (by simp)).mono ?_)
        rintro e w' ⟨rfl, rfl⟩
        go_wp2
        go_ret2
        exact ⟨ret_two HE.out.1.symm HE.out.2.symm, HBW.out.trans ((HB2.out.alloc HB2.out.size (.cells #[.int .i64 s] 2)).mono (by first | (simp; done) | (simp; omega)))⟩
    · have i2 := inB_false h2
      have HE := Lib.hid (show rgaRegulatorForShare a b s = 0 ∧ rgbRegulatorForShare a b s = 2 by simp [rgaRegulatorForShare, rgbRegulatorForShare, i2])
      go_enter Try.func44, Try.ntmps44
      go_wp2_with fail
      (with_reducible refine (isResistance_any _ _).mono ?_)
      rintro e w1 ⟨rfl, hd1⟩
      have HB1 := Lib.hid (show Below ((w.alloc (.cells #[.int .i64 b] 2)).alloc (.cells #[.int .i64 s] 2)).heap.size ((w.alloc (.cells #[.int .i64 b] 2)).alloc (.cells #[.int .i64 s] 2)) w1 from (Below.refl ((w.alloc (.cells #[.int .i64 b] 2)).alloc (.cells #[.int .i64 s] 2)).heap.size ((w.alloc (.cells #[.int .i64 b] 2)).alloc (.cells #[.int .i64 s] 2))).trans (hd1.mono (Below.refl ((w.alloc (.cells #[.int .i64 b] 2)).alloc (.cells #[.int .i64 s] 2)).heap.size ((w.alloc (.cells #[.int .i64 b] 2)).alloc (.cells #[.int .i64 s] 2))).size))
      have k1_0 : w1.cell? ⟨w.heap.size, 0, none⟩ = some (.int .i64 b) := (HB1.out.cell (by first | (simp; done) | (simp; omega))).trans C0.out
      have k1_1 : w1.cell? ⟨w.heap.size + 1, 0, none⟩ = some (.int .i64 s) := (HB1.out.cell (by first | (simp; done) | (simp; omega))).trans C1.out
      have z1 : w.heap.size + 1 < w1.heap.size := Nat.lt_of_lt_of_le (by simp) HB1.out.size
      clear hd1
      go_wp2_with fail
      (with_reducible refine (isResistance_any _ _).mono ?_)
      rintro e w2 ⟨rfl, hd2⟩
      have HB2 := Lib.hid (show Below ((w.alloc (.cells #[.int .i64 b] 2)).alloc (.cells #[.int .i64 s] 2)).heap.size ((w.alloc (.cells #[.int .i64 b] 2)).alloc (.cells #[.int .i64 s] 2)) w2 from HB1.out.trans (hd2.mono HB1.out.size))
      have k2_0 : w2.cell? ⟨w.heap.size, 0, none⟩ = some (.int .i64 b) := (HB2.out.cell (by first | (simp; done) | (simp; omega))).trans C0.out
      have k2_1 : w2.cell? ⟨w.heap.size + 1, 0, none⟩ = some (.int .i64 s) := (HB2.out.cell (by first | (simp; done) | (simp; omega))).trans C1.out
      have z2 : w.heap.size + 1 < w2.heap.size := Nat.lt_of_lt_of_le (by simp) HB2.out.size
      clear hd2
      go_wp2
      go_ret2
      exact ⟨ret_two HE.out.1.symm HE.out.2.symm, HBW.out.trans (HB2.out.mono (by first | (simp; done) | (simp; omega)))⟩
  · have i1 := inB_false h1
    have HE := Lib.hid (show rgaRegulatorForShare a b s = 0 ∧ rgbRegulatorForShare a b s = 2 by simp [rgaRegulatorForShare, rgbRegulatorForShare, i1])
    go_enter Try.func44, Try.ntmps44
    go_wp2_with fail
    (with_reducible refine (isResistance_any _ _).mono ?_)
    rintro e w1 ⟨rfl, hd1⟩
    have HB1 := Lib.hid (show Below ((w.alloc (.cells #[.int .i64 b] 2)).alloc (.cells #[.int .i64 s] 2)).heap.size ((w.alloc (.cells #[.int .i64 b] 2)).alloc (.cells #[.int .i64 s] 2)) w1 from (Below.refl ((w.alloc (.cells #[.int .i64 b] 2)).alloc (.cells #[.int .i64 s] 2)).heap.size ((w.alloc (.cells #[.int .i64 b] 2)).alloc (.cells #[.int .i64 s] 2))).trans (hd1.mono (Below.refl ((w.alloc (.cells #[.int .i64 b] 2)).alloc (.cells #[.int .i64 s] 2)).heap.size ((w.alloc (.cells #[.int .i64 b] 2)).alloc (.cells #[.int .i64 s] 2))).size))
    have k1_0 : w1.cell? ⟨w.heap.size, 0, none⟩ = some (.int .i64 b) := (HB1.out.cell (by first | (simp; done) | (simp; omega))).trans C0.out
    have k1_1 : w1.cell? ⟨w.heap.size + 1, 0, none⟩ = some (.int .i64 s) := (HB1.out.cell (by first | (simp; done) | (simp; omega))).trans C1.out
    have z1 : w.heap.size + 1 < w1.heap.size := Nat.lt_of_lt_of_le (by simp) HB1.out.size
    clear hd1
    go_wp2
    go_ret2
    exact ⟨ret_two HE.out.1.symm HE.out.2.symm, HBW.out.trans (HB1.out.mono (by first | (simp; done) | (simp; omega)))⟩
set_option maxHeartbeats 1000000 in
theorem sRegulatorForShare_any (a b s : Int) (w : World) :
    Calls Try.prog 43 #[.int .i64 a, .int .i64 b, .int .i64 s] w fun e w' => e = .returned (.tuple #[.int .i64 (rgaRegulatorForShare a b s), .int .i64 (rgbRegulatorForShare a b s)]) ∧ Below w.heap.size w w' := by
  by_cases h1 : 1 ≤ a ∧ a ≤ 1000000
  · have i1 := inB_true h1.1 h1.2
    by_cases h2 : 1 ≤ b ∧ b ≤ 1000000
    · have i2 := inB_true h2.1 h2.2
      by_cases h3 : 1 ≤ s ∧ s ≤ 999
      · have i3 := inB_true h3.1 h3.2
        have HE := Lib.hid (show rgaRegulatorForShare a b s = rgV (rsP b s) a ∧ rgbRegulatorForShare a b s = rgC (rsP b s) a by simp [rgaRegulatorForShare, rgbRegulatorForShare, i1, i2, i3])
        have HSP := Lib.hid (rs_spec (b := b) (s := s) (r := a) h2 h1.1)
        have hN := (rs_spec (b := b) (s := s) (r := a) h2 h1.1).1
        have HV := Lib.hid (show rgV (rsP b s) a = (if regN (rsP b s) a < (1000001 - a).toNat then (regN (rsP b s) a : Int) else 0) ∧ rgC (rsP b s) a = (if regN (rsP b s) a < (1000001 - a).toNat then 0 else 3) from ⟨rfl, rfl⟩)
        generalize regN (rsP b s) a = N at *
        obtain ⟨n, hn⟩ : ∃ n : Nat, (1000001 - a).toNat = n := ⟨_, rfl⟩
        rw [hn] at HV HSP hN
        have hn2 : 1000000 - a + 1 = (n : Int) := by omega
        clear hn
        go_enter Try.func43, Try.ntmps43
        go_wp2_with fail
        (with_reducible refine (l03Res_any _ _).mono ?_)
        rintro e w' ⟨rfl, rfl⟩
        go_wp2_with fail
        (with_reducible refine (l03Res_any _ _).mono ?_)
        rintro e w' ⟨rfl, rfl⟩
        go_wp2_with fail
        (with_reducible refine (l00In_any _ _ _ _).mono ?_)
        rintro e w' ⟨rfl, rfl⟩
        go_wp2
        go_loopw [8, 9] (fun lo hi wr => ∃ i j : Nat, lo = .int .i64 ((i : Int) - 1) ∧ hi = .int .i64 (j : Int) ∧ i ≤ N ∧ N ≤ j ∧ j ≤ n ∧ Below w.heap.size w wr) (fun lo hi wr => (intOf hi - intOf lo).toNat)
        case atStart => exact ⟨0, n, rfl, by first | rfl | rw [hn2], by omega, by omega, by omega, Below.refl _ _⟩
        case round =>
          obtain ⟨i, j, rfl, rfl, g1, g2, g3, hbel⟩ := hrel
          have HBL := Lib.hid hbel
          clear hbel
          by_cases hlt : i < j
          · have hq := Lib.hid (show ((i : Int) - 1 + (j : Int)) / 2 = (((i + j - 1) / 2 : Nat) : Int) by omega)
            have q1 : i ≤ (i + j - 1) / 2 := by omega
            have q2 : (i + j - 1) / 2 < j := by omega
            have m1 : 0 ≤ ((i : Int) - 1 + (j : Int)) / 2 := by omega
            have m2 : ((i : Int) - 1 + (j : Int)) / 2 < (n : Int) := by omega
            have hqt : Int.tdiv ((i : Int) - 1 + (j : Int)) 2 = ((i : Int) - 1 + (j : Int)) / 2 := Int.tdiv_eq_ediv_of_nonneg (by omega)
            have HT := Lib.hid (show decide (shR (a + ((i : Int) - 1 + (j : Int)) / 2) b ≤ s) = (rsP b s) (a + (((i + j - 1) / 2 : Nat) : Int)) by rw [← hq.out]; rfl)
            have b1 : (i : Int) ≤ 1000000 := by omega
            have b2 : (j : Int) ≤ 1000000 := by omega
            by_cases hp : shR (a + ((i : Int) - 1 + (j : Int)) / 2) b ≤ s
            · have hNx : N ≤ (i + j - 1) / 2 := by
                apply Nat.le_of_not_lt; intro hl
                have := HSP.out.2.1 _ hl
                rw [← HT.out, decide_eq_true hp] at this
                cases this
              go_wp2_with (go_at_call 93; (with_reducible refine (l10Share_any (a + ((i : Int) - 1 + (j : Int)) / 2) b _ (by omega) h2).mono ?_); rintro e w' ⟨rfl, rfl⟩)
              go_roundw
              case rel => exact ⟨i, (i + j - 1) / 2, rfl, by rw [hq.out], by omega, by omega, by omega, HBL.out⟩
              case measure => simp [intOf]; omega
            · have hNx : (i + j - 1) / 2 < N := by
                apply Nat.lt_of_not_le; intro hl
                have := HSP.out.2.2 _ hl (by omega)
                rw [← HT.out, decide_eq_false hp] at this
                cases this
              go_wp2_with (go_at_call 93; (with_reducible refine (l10Share_any (a + ((i : Int) - 1 + (j : Int)) / 2) b _ (by omega) h2).mono ?_); rintro e w' ⟨rfl, rfl⟩)
              go_roundw
              case rel => exact ⟨(i + j - 1) / 2 + 1, j, by rw [show ((((i + j - 1) / 2 + 1 : Nat)) : Int) - 1 = ((i : Int) - 1 + (j : Int)) / 2 by have := hq.out; omega], rfl, by omega, by omega, by omega, HBL.out⟩
              case measure => simp [intOf]; omega
          · obtain rfl : i = N := by omega
            obtain rfl : j = i := by omega
            by_cases hm : j < n
            · rw [if_pos hm, if_pos hm] at HV
              have t1 : ¬ (1000000 : Int) < a + (j : Int) := by omega
              go_wp2
              go_ret2
              exact ⟨ret_two (HE.out.1.trans HV.out.1).symm (HE.out.2.trans HV.out.2).symm, HBL.out⟩
            · rw [if_neg hm, if_neg hm] at HV
              have t1 : (1000000 : Int) < a + (j : Int) := by omega
              go_wp2
              go_ret2
              exact ⟨ret_two (HE.out.1.trans HV.out.1).symm (HE.out.2.trans HV.out.2).symm, HBL.out⟩
      · have i3 := inB_false h3
        have HE := Lib.hid (show rgaRegulatorForShare a b s = 0 ∧ rgbRegulatorForShare a b s = 2 by simp [rgaRegulatorForShare, rgbRegulatorForShare, i3])
        go_enter Try.func43, Try.ntmps43
        go_wp2_with fail
        (with_reducible refine (l03Res_any _ _).mono ?_)
        rintro e w' ⟨rfl, rfl⟩
        go_wp2_with fail
        (with_reducible refine (l03Res_any _ _).mono ?_)
        rintro e w' ⟨rfl, rfl⟩
        go_wp2_with fail
        (with_reducible refine (l00In_any _ _ _ _).mono ?_)
        rintro e w' ⟨rfl, rfl⟩
        go_wp2
        go_ret2
        exact ⟨ret_two HE.out.1.symm HE.out.2.symm, Below.refl _ _⟩
    · have i2 := inB_false h2
      have HE := Lib.hid (show rgaRegulatorForShare a b s = 0 ∧ rgbRegulatorForShare a b s = 2 by simp [rgaRegulatorForShare, rgbRegulatorForShare, i2])
      go_enter Try.func43, Try.ntmps43
      go_wp2_with fail
      (with_reducible refine (l03Res_any _ _).mono ?_)
      rintro e w' ⟨rfl, rfl⟩
      go_wp2_with fail
      (with_reducible refine (l03Res_any _ _).mono ?_)
      rintro e w' ⟨rfl, rfl⟩
      go_wp2
      go_ret2
      exact ⟨ret_two HE.out.1.symm HE.out.2.symm, Below.refl _ _⟩
  · have i1 := inB_false h1
    have HE := Lib.hid (show rgaRegulatorForShare a b s = 0 ∧ rgbRegulatorForShare a b s = 2 by simp [rgaRegulatorForShare, rgbRegulatorForShare, i1])
    go_enter Try.func43, Try.ntmps43
    go_wp2_with fail
    (with_reducible refine (l03Res_any _ _).mono ?_)
    rintro e w' ⟨rfl, rfl⟩
    go_wp2
    go_ret2
    exact ⟨ret_two HE.out.1.symm HE.out.2.symm, Below.refl _ _⟩
end Go.Proofs.Ytddfhjolimkkmaa
