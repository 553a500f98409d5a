/-
  Contracts for the law of basics of chapter 1. Conditions: those that each theorem states.
-/
import Derived.Test.YtofpecgmnodflaaDoorBz
import Derived.Test.YtofpecgmnodflaaDoorRt
import Derived.Test.YtofpecgmnodflaaDoorIa
import Derived.Test.YtofpecgmnodflaaDoorHc
import Derived.Test.YtofpecgmnodflaaDoorSc
import Derived.Test.YtofpecgmnodflaaDoorNg
import Derived.Test.YtofpecgmnodflaaDoorNh
namespace Go.Proofs.YtofpecgmnodflaaDoor
open Go.RowKit
set_option linter.unusedVariables false
set_option linter.unusedSimpArgs false

theorem r8Same_w (v v' : Value) (xs : List Int) (w : World) (hv : RowW .i64 w v xs) (hv' : RowW .i64 w v' xs) (hl : xs.length ≤ 4000000000000000000) :
    Calls Tryd.prog 26 #[v, v'] w fun e w' => e = .returned (.bool true) ∧ ∃ n, w' = w.drewN n := by
  obtain ⟨A, cap, rfl, _⟩ := id hv
  obtain ⟨A', cap', rfl, _⟩ := id hv'
  have HV := Lib.hid (And.intro hv hv')
  clear hv hv'
  go_enter Tryd.func26, Tryd.ntmps26
  go_wp2
  go_loopw [5] (fun i wr => ∃ k n : Nat, k ≤ xs.length ∧ i = .int .i64 k ∧ wr = w.drewN n) (fun i wr => xs.length - (intOf i).toNat)
  case atStart => exact ⟨0, 0, by omega, rfl, rfl⟩
  case round =>
    obtain ⟨k, n, hk, rfl, rfl⟩ := hrel
    by_cases hlt : k < xs.length
    · obtain ⟨b, off, rfl, _, hc⟩ := RowW.cell HV.out.1 hlt
      obtain ⟨b', off', rfl, _, hc'⟩ := RowW.cell HV.out.2 hlt
      generalize xs.getD k 0 = z at *
      go_wp2
      go_quiet (fail)
      go_wp2
      go_roundw
      case rel => exact ⟨k + 1, _, by omega, by go_num, rfl⟩
      case measure => simp [intOf]; omega
    · go_wp2
      go_ret
      exact ⟨rfl, n, rfl⟩

theorem l00From2 (a : Option Addr) (len cap : Nat) (w : World) :
    Calls Tryd.prog 39 #[.slice a len cap] w fun e w' => e = .returned (.pointer (some ⟨w.heap.size, 0, none⟩)) ∧ w.alloc (.cells #[.slice a len cap, .int .i64 0, .int .u64 0] 103) = w' := by
  go_enter Tryd.func39, Tryd.ntmps39
  go_wp2
  go_ret
  exact ⟨rfl, rfl⟩
theorem SrcB.new2 (w : World) (a : Option Addr) (len cap : Nat) : SrcB (w.alloc (.cells #[.slice a len cap, .int .i64 0, .int .u64 0] 103)) w.heap.size a len cap 0 0 := by
  unfold SrcB
  show (w.heap.push _)[w.heap.size]? = _
  simp
theorem Byt.srcB {w : World} {a : Option Addr} {len : Nat} (h : Byt w a len) : BytB w.heap.size w a len := by
  rcases h with h | ⟨b, off, rfl, h⟩
  · exact .inl h
  · by_cases h0 : len = 0
    · exact .inl h0
    · obtain ⟨n, -, hc⟩ := h 0 (by omega)
      exact .inr ⟨b, off, rfl, World.block_lt_of_cell? _ _ hc, h⟩
def TwoN (l1 h1 l2 h2 : Int) (w : World) (e : Ending) (w' : World) : Prop := ∃ x y : Int, (l1 ≤ x ∧ x ≤ h1) ∧ (l2 ≤ y ∧ y ≤ h2) ∧ e = .returned (.tuple #[.int .i64 x, .int .i64 y]) ∧ Below w.heap.size w w'
set_option maxHeartbeats 1000000 in
theorem R8Numbers_any (a : Option Addr) (len cap : Nat) (w : World) (hy : BytB w.heap.size w a len) (hl : len ≤ 1048576) :
    Calls Tryd.prog 16 #[.slice a len cap] w (TwoN (-100000) 3600000000 1 5000 w) := by
  have HY0 := Lib.hid hy
  have HS0 := Lib.hid (SrcB.new2 w a len cap)
  have HB0 := Lib.hid (show Below w.heap.size w (w.alloc (.cells #[.slice a len cap, .int .i64 0, .int .u64 0] 103)) from (Below.refl _ _).alloc (Nat.le_refl _) _)
  clear hy
  go_enter Tryd.func16, Tryd.ntmps16
  go_wp2_with (go_at_call 39; refine (l00From2 a len cap w).mono ?_; rintro e w' ⟨rfl, rfl⟩)
  go_wp2_with fail
  refine (pick_any 60000 (by omega) w.heap.size w.heap.size a len cap 0 0 0 (w.alloc (.cells #[.slice a len cap, .int .i64 0, .int .u64 0] 103)) HS0.out (Nat.le_refl _) (HY0.out.below HB0.out) hl (by omega) (by omega) (by omega)).mono ?_
  rintro e w1 ⟨x1, at1, seed1, hx1, ha1, hs1, rfl, hS1, hB1, hO1⟩
  have HS1 := Lib.hid hS1
  have HB1 := Lib.hid (HB0.out.trans hB1)
  clear hS1 hB1 hO1
  go_wp2_with fail
  refine (pick_any 60000 (by omega) w.heap.size w.heap.size a len cap at1 seed1 (0 + 2) w1 HS1.out (Nat.le_refl _) (HY0.out.below HB1.out) hl ha1 (by omega) hs1).mono ?_
  rintro e w2 ⟨x2, at2, seed2, hx2, ha2, hs2, rfl, hS2, hB2, hO2⟩
  have HS2 := Lib.hid hS2
  have HB2 := Lib.hid (HB1.out.trans hB2)
  clear hS2 hB2 hO2
  have hm : 0 ≤ x1 * x2 ∧ x1 * x2 ≤ 59999 * 59999 := ⟨Int.mul_nonneg hx1.1 hx2.1, Int.mul_le_mul (by omega) (by omega) hx2.1 (by omega)⟩
  obtain ⟨hm1, hm2⟩ := hm
  go_wp2_with fail
  refine (pick_any 5000 (by omega) w.heap.size w.heap.size a len cap at2 seed2 (0 + 2 + 2) w2 HS2.out (Nat.le_refl _) (HY0.out.below HB2.out) hl ha2 (by omega) hs2).mono ?_
  rintro e w3 ⟨x3, at3, seed3, hx3, ha3, hs3, rfl, hS3, hB3, hO3⟩
  have HB3 := Lib.hid (HB2.out.trans hB3)
  clear hS3 hB3 hO3
  go_wp2
  go_ret2
  exact ⟨_, _, ⟨by omega, by omega⟩, ⟨by omega, by omega⟩, rfl, HB3.out⟩
theorem r8Long_no (a a' : Option Addr) (n n' c c' : Nat) (w : World) (h : n ≤ 1048576) (h' : n' ≤ 1048576) : Calls Tryd.prog 15 #[.slice a n c, .slice a' n' c'] w fun e w' => e = .returned (.bool false) ∧ w = w' := by
  have t1 : ¬ (1048576 : Int) < (n : Int) := by omega
  have t2 : decide ((1048576 : Int) < (n : Int)) = false := decide_eq_false t1
  have t3 : ¬ (1048576 : Int) < (n' : Int) := by omega
  have t4 : decide ((1048576 : Int) < (n' : Int)) = false := decide_eq_false t3
  go_enter Tryd.func15, Tryd.ntmps15
  go_wp2
  go_ret
  exact ⟨by first | rfl | simp, rfl⟩
theorem r8Long_yes (a a' : Option Addr) (n n' c c' : Nat) (w : World) (h : 1048576 < n ∨ 1048576 < n') : Calls Tryd.prog 15 #[.slice a n c, .slice a' n' c'] w fun e w' => e = .returned (.bool true) ∧ w = w' := by
  by_cases h0 : 1048576 < n
  · have t1 : (1048576 : Int) < (n : Int) := by omega
    have t2 : decide ((1048576 : Int) < (n : Int)) = true := decide_eq_true t1
    clear h
    go_enter Tryd.func15, Tryd.ntmps15
    go_wp2
    go_ret
    exact ⟨by first | rfl | simp, rfl⟩
  · have t1 : ¬ (1048576 : Int) < (n : Int) := by omega
    have t2 : decide ((1048576 : Int) < (n : Int)) = false := decide_eq_false t1
    have t3 : (1048576 : Int) < (n' : Int) := by omega
    have t4 : decide ((1048576 : Int) < (n' : Int)) = true := decide_eq_true t3
    clear h
    go_enter Tryd.func15, Tryd.ntmps15
    go_wp2
    go_ret
    exact ⟨by first | rfl | simp, rfl⟩
theorem iDiv_ok (a b q : Int) (w : World) (h : (-1000000000000 ≤ a ∧ a ≤ 1000000000000) ∧ (-1000000000000 ≤ b ∧ b ≤ 1000000000000)) (hq : divR a b = q) :
    Calls Tryd.prog 18 #[.int .i64 a, .int .i64 b] w fun e w' => e = .returned (.int .i64 q) ∧ Below w.heap.size w w' := by
  have h1 : allR (-1000000000000) 1000000000000 [a, b] = true := by rw [allR_iff]; simpa using h
  have HQ := Lib.hid hq
  clear hq
  go_enter Tryd.func18, Tryd.ntmps18
  go_wp2_with (first
    | (go_at_call 42; refine (within64_two _ _ a b _ _ _ (by simp)).mono ?_; rintro e w' ⟨rfl, rfl⟩)
    | (go_at_call 43; refine (nearest_any a b _ (by omega) (by omega) (by omega) (by omega)).mono ?_; rintro e w' ⟨rfl, n, rfl⟩))
  go_ret
  exact ⟨ret_int HQ.out, below_drewN' ((Below.refl _ _).alloc (Nat.le_refl _) _) n⟩
theorem iBl_ok (y z x v : Int) (w : World) (hy : -2500 ≤ y ∧ y ≤ 2499) (hz : -2500 ≤ z ∧ z ≤ 2499) (hx : 0 ≤ x ∧ x ≤ 1000) (hv : lineR 0 y 1000 z x = v) :
    Calls Tryd.prog 21 #[.int .i64 0, .int .i64 y, .int .i64 1000, .int .i64 z, .int .i64 x] w fun e w' => e = .returned (.int .i64 v) ∧ Below w.heap.size w w' := by
  have h1 : allR (-1000000) 1000000 [0, y, 1000, z] = true := by rw [allR_iff]; simp; omega
  have HV := Lib.hid hv
  have b1 : B9 0 := ⟨by omega, by omega⟩
  have b2 : B9 y := ⟨by omega, by omega⟩
  have b3 : B9 1000 := ⟨by omega, by omega⟩
  have b4 : B9 z := ⟨by omega, by omega⟩
  have bx : I64 x := ⟨by omega, by omega⟩
  clear hv
  go_enter Tryd.func21, Tryd.ntmps21
  go_wp2_with (first
    | (go_at_call 42; refine (within64_any _ _ _ [0, y, 1000, z] _ (row_alloc .i64 w [0, y, 1000, z] 2 4) (by simp)).mono ?_; rintro e w' ⟨rfl, rfl⟩)
    | (go_at_call 45; refine (onLine_any 0 y 1000 z x _ b1 b2 b3 b4 bx).mono ?_; rintro e w' ⟨rfl, n, rfl⟩))
  go_ret
  exact ⟨ret_int HV.out, below_drewN' ((Below.refl _ _).alloc (Nat.le_refl _) _) n⟩
def absB (n : Int) : Int := if n < -n then -n else n
theorem r8Abs_b (n : Int) (w : World) (h : -1000000000000 ≤ n ∧ n ≤ 1000000000000) :
    Calls Tryd.prog 19 #[.int .i64 n] w fun e w' => e = .returned (.int .i64 (absB n)) ∧ w = w' := by
  obtain ⟨h1, h2⟩ := h
  by_cases h0 : n < -n
  · have HE := Lib.hid (show absB n = -n from if_pos h0)
    go_enter Tryd.func19, Tryd.ntmps19
    go_wp2
    all_goals first | (exfalso; omega) | (go_ret; exact ⟨ret_int (by rw [HE.out] <;> omega), rfl⟩)
  · have HE := Lib.hid (show absB n = n from if_neg h0)
    go_enter Tryd.func19, Tryd.ntmps19
    go_wp2
    all_goals first | (exfalso; omega) | (go_ret; exact ⟨ret_int (by rw [HE.out] <;> omega), rfl⟩)
theorem iRoot_ok (a r : Int) (w : World) (ha : -100000 ≤ a ∧ a ≤ 3600000000) (hr : rootR a = r) :
    Calls Tryd.prog 17 #[.int .i64 a] w fun e w' => e = .returned (.int .i64 r) ∧ w = w' := hr ▸ iRootOf_any a w ⟨by omega, by omega⟩
theorem listText_ok (v : Value) (xs : List Int) (w : World) (hv : Row .i64 w v xs) (h0 : xs ≠ []) (hl : xs.length ≤ 64) (hb : ∀ y ∈ xs, -1000000000000 ≤ y ∧ y ≤ 1000000000000) (hP : Pow w) (hcp : ∀ A n c, v = .slice A n c → n ≤ c) :
    Calls Tryd.prog 23 #[v] w fun e w' => e = .returned (.string ⟨(commas xs).toArray⟩) ∧ Below w.heap.size w w' := by
  have e : listT xs = commas xs := by unfold listT; rw [show fitsL xs = true from fitsL_iff.2 ⟨hb, hl⟩, if_neg h0]; rfl
  have h := iListText_any v xs w hv (by omega) hP hcp
  rw [e] at h
  exact h
theorem readList_ok (xs : List Int) (w : World) (h0 : xs ≠ []) (hl : xs.length ≤ 64) (hb : ∀ y ∈ xs, -1000000000000 ≤ y ∧ y ≤ 1000000000000) (hP : Pow w) (hE : ErrV w) (hM : MaxV w) :
    Calls Tryd.prog 22 #[.string ⟨(commas xs).toArray⟩] w fun e w' => ∃ v, e = .returned (.tuple #[v, .bool true]) ∧ OwnI w' w.heap.size v xs ∧ Below w.heap.size w w' := by
  have hlen := commas_len xs (fun y hy => by have := hb y hy; omega)
  have h := iReadList_any ⟨(commas xs).toArray⟩ w (by simp only [ByteArray.size, List.size_toArray]; omega) hP hE hM
  obtain ⟨e1, e2⟩ := list_back h0 hl hb
  rw [show (⟨(commas xs).toArray⟩ : ByteArray).data.toList = commas xs from rfl, e1, e2] at h
  exact h
theorem readDec_ok (a : Int) (w : World) (ha : -1000000000000 ≤ a ∧ a ≤ 1000000000000) (hP : Pow w) (hE : ErrV w) :
    Calls Tryd.prog 24 #[.string ⟨(Lib.itoa a).toArray⟩] w fun e w' => e = .returned (.tuple #[.int .i64 a, .bool true]) ∧ Below w.heap.size w w' := by
  have hlen := Lib.itoa_length_le a (by omega) (by omega)
  have h := iReadDecimal_any ⟨(Lib.itoa a).toArray⟩ w (by simp only [ByteArray.size, List.size_toArray]; omega) hP hE
  have e := num_back ha
  rw [show (⟨(Lib.itoa a).toArray⟩ : ByteArray).data.toList = Lib.itoa a from rfl, show numV (Lib.itoa a) = a by unfold numV; rw [e]; rfl, show numB (Lib.itoa a) = true by unfold numB; rw [e]; rfl] at h
  exact h
set_option maxHeartbeats 4000000 in
set_option maxRecDepth 100000 in
theorem fnBasics_any (A0 A1 : Option Addr) (n0 c0 n1 c1 : Nat) (w : World) (hB0 : Byt w A0 n0) (hB1 : Byt w A1 n1) (hP : Pow w) (hE : ErrV w) (hM : MaxV w) :
    Calls Tryd.prog 5 #[.slice A0 n0 c0, .slice A1 n1 c1] w fun e w' => e = .returned (.bool true) ∧ Below w.heap.size w w' := by
  by_cases hlong : 1048576 < n0 ∨ 1048576 < n1
  · go_enter Tryd.func5, Tryd.ntmps5
    go_wp2_with (go_at_call 15; (with_reducible refine (r8Long_yes _ _ _ _ _ _ _ hlong).mono ?_); rintro e w' ⟨rfl, rfl⟩)
    go_ret
    exact ⟨rfl, Below.refl _ _⟩
  · have l0 : n0 ≤ 1048576 := by omega
    have l1 : n1 ≤ 1048576 := by omega
    obtain ⟨x, hx, hX⟩ := r8Wide_at A1 n1 c1 0 1000 w hB1 l1 (by omega) (by omega)
    obtain ⟨y, hy, hY⟩ := r8Wide_at A1 n1 c1 2 5000 w hB1 l1 (by omega) (by omega)
    obtain ⟨z, hz, hZ⟩ := r8Wide_at A1 n1 c1 4 5000 w hB1 l1 (by omega) (by omega)
    obtain ⟨v1, v2, v3, v4⟩ := line_facts (y - 2500) (z - 2500) x ⟨by omega, by omega⟩ ⟨by omega, by omega⟩ ⟨by omega, by omega⟩
    obtain ⟨v, hv⟩ : ∃ v, lineR 0 (y - 2500) 1000 (z - 2500) x = v := ⟨_, rfl⟩
    rw [hv] at v1 v2
    have HV := Lib.hid (And.intro hv (And.intro v3 v4))
    clear hv v3 v4
    obtain ⟨hx1, hx2⟩ := hx
    obtain ⟨hy1, hy2⟩ := hy
    obtain ⟨hz1, hz2⟩ := hz
    have HX := Lib.hid hX
    have HY := Lib.hid hY
    have HZ := Lib.hid hZ
    have HS := Lib.hid (Byt.srcB hB0)
    have HT := Lib.hid (And.intro hP (And.intro hE hM))
    clear hX hY hZ hB0 hB1 hP hE hM hlong
    go_enter Tryd.func5, Tryd.ntmps5
    go_wp2_with fail
    (with_reducible refine (r8Long_no _ _ _ _ _ _ _ l0 l1).mono ?_)
    rintro e w' ⟨rfl, rfl⟩
    go_wp2_with fail
    refine (R8Numbers_any _ _ _ _ HS.out l0).mono ?_
    rintro e w1 ⟨a, b, ha, hb, rfl, hd⟩
    have HB1 := Lib.hid hd
    clear hd
    obtain ⟨r0, ⟨r1, r2⟩, r3⟩ := root_facts a ha
    obtain ⟨⟨q1, q2⟩, q3, q4, q5⟩ := quot_facts a b ha hb
    obtain ⟨r, hr⟩ : ∃ r, rootR a = r := ⟨_, rfl⟩
    obtain ⟨q, hq⟩ : ∃ q, divR a b = q := ⟨_, rfl⟩
    rw [hr] at r0 r1 r2 r3
    rw [hq] at q1 q2 q3 q4 q5
    have HR := Lib.hid hr
    have HQ := Lib.hid (And.intro hq q3)
    clear hr hq q3
    have hab : absB (a - q * b) * 2 ≤ b ∧ 0 ≤ absB (a - q * b) := by unfold absB; split <;> omega
    have HAB := Lib.hid (fun W => r8Abs_b (a - q * b) W (by omega))
    obtain ⟨Z, hZ⟩ : ∃ Z, absB (a - q * b) = Z := ⟨_, rfl⟩
    rw [hZ] at hab HAB
    clear hZ
    obtain ⟨z1, z2⟩ := hab
    obtain ⟨ha1, ha2⟩ := ha
    obtain ⟨hb1, hb2⟩ := hb
    have qb1 : -4000000000 ≤ q * b := by omega
    have qb2 : q * b ≤ 4000000000 := by omega
    go_wp2_with fail
    (with_reducible refine (iRoot_ok a r _ ⟨by omega, by omega⟩ HR.out).mono ?_)
    rintro e w' ⟨rfl, rfl⟩
    rcases Int.lt_or_le a 0 with hn | hp
    · obtain rfl : r = 0 := r0 hn
      clear r0 r3 r1 r2
      go_wp2_with fail
      (with_reducible refine (iDiv_ok a b q _ ⟨by omega, by omega⟩ HQ.out.1).mono ?_)
      rintro e w2 ⟨rfl, hd⟩
      have HB2 := Lib.hid (HB1.out.trans (hd.mono HB1.out.size))
      clear hd
      go_wp2_with fail
      (with_reducible refine (HAB.out _).mono ?_)
      rintro e w' ⟨rfl, rfl⟩
      go_wp2_with fail
      (with_reducible refine (iDiv_ok (-a) b (-q) _ ⟨by omega, by omega⟩ HQ.out.2).mono ?_)
      rintro e w3 ⟨rfl, hd⟩
      have HB3 := Lib.hid (HB2.out.trans (hd.mono HB2.out.size))
      clear hd
      go_wp2_with fail
      refine (HX.out _ HB3.out).mono ?_
      rintro e w' ⟨rfl, rfl⟩
      go_wp2_with fail
      refine (HY.out _ HB3.out).mono ?_
      rintro e w' ⟨rfl, rfl⟩
      go_wp2_with fail
      refine (HZ.out _ HB3.out).mono ?_
      rintro e w' ⟨rfl, rfl⟩
      go_wp2_with fail
      (with_reducible refine (iBl_ok (y - 2500) (z - 2500) x v _ ⟨by omega, by omega⟩ ⟨by omega, by omega⟩ ⟨by omega, by omega⟩ HV.out.1).mono ?_)
      rintro e w4 ⟨rfl, hd⟩
      have HB4 := Lib.hid (HB3.out.trans (hd.mono HB3.out.size))
      clear hd
      go_wp2_with fail
      (with_reducible refine (iBl_ok (y - 2500) (z - 2500) 0 (y - 2500) _ ⟨by omega, by omega⟩ ⟨by omega, by omega⟩ ⟨by omega, by omega⟩ HV.out.2.1).mono ?_)
      rintro e w5 ⟨rfl, hd⟩
      have HB5 := Lib.hid (HB4.out.trans (hd.mono HB4.out.size))
      clear hd
      go_wp2_with fail
      (with_reducible refine (iBl_ok (y - 2500) (z - 2500) 1000 (z - 2500) _ ⟨by omega, by omega⟩ ⟨by omega, by omega⟩ ⟨by omega, by omega⟩ HV.out.2.2).mono ?_)
      rintro e w6 ⟨rfl, hd⟩
      have HB6 := Lib.hid (HB5.out.trans (hd.mono HB5.out.size))
      clear hd
      have HLM := Lib.hid (show ∀ i ∈ [a, b, x, y - 2500, z - 2500], -1000000000000 ≤ i ∧ i ≤ 1000000000000 by
        intro i hi
        simp only [List.mem_cons, List.not_mem_nil, or_false] at hi
        rcases hi with rfl | rfl | rfl | rfl | rfl <;> omega)
      have HRW := Lib.hid (show Row .i64 (w6.alloc (.cells #[.int .i64 a, .int .i64 b, .int .i64 x, .int .i64 (y - 2500), .int .i64 (z - 2500)] 2)) (.slice (some ⟨w6.heap.size, 0, none⟩) 5 5) [a, b, x, y - 2500, z - 2500] from row_here .i64 w6 [a, b, x, y - 2500, z - 2500] 2 w6.heap.size 5 5 rfl rfl)
      have HB7 := Lib.hid (HB6.out.alloc HB6.out.size (.cells #[.int .i64 a, .int .i64 b, .int .i64 x, .int .i64 (y - 2500), .int .i64 (z - 2500)] 2))
      go_wp2_with fail
      (with_reducible refine (listText_ok _ [a, b, x, y - 2500, z - 2500] _ HRW.out (by simp) (by simp) HLM.out (HT.out.1.below HB7.out) (by intro A n c e; cases e; exact Nat.le_refl _)).mono ?_)
      rintro e w8 ⟨rfl, hd⟩
      have HR8 := Lib.hid (HRW.out.below hd)
      have HB8 := Lib.hid (HB7.out.trans (hd.mono HB7.out.size))
      clear hd HRW
      go_wp2_with fail
      (with_reducible refine (readList_ok [a, b, x, y - 2500, z - 2500] _ (by simp) (by simp) HLM.out (HT.out.1.below HB8.out) (HT.out.2.1.below HB8.out) (HT.out.2.2.below HB8.out)).mono ?_)
      rintro e w9 ⟨v9, rfl, ho, hd⟩
      have HO9 := Lib.hid ho
      have HR9 := Lib.hid (HR8.out.below hd)
      have HB9 := Lib.hid (HB8.out.trans (hd.mono HB8.out.size))
      clear hd ho HR8
      go_wp2_with fail
      (with_reducible refine (iDecimal_any a _ (by omega) (by omega) (HT.out.1.below HB9.out)).mono ?_)
      rintro e w10 ⟨rfl, hd⟩
      have HO10 := Lib.hid (HO9.out.below hd)
      have HR10 := Lib.hid (HR9.out.below hd)
      have HB10 := Lib.hid (HB9.out.trans (hd.mono HB9.out.size))
      clear hd HR9 HO9
      go_wp2_with fail
      (with_reducible refine (readDec_ok a _ ⟨by omega, by omega⟩ (HT.out.1.below HB10.out) (HT.out.2.1.below HB10.out)).mono ?_)
      rintro e w11 ⟨rfl, hd⟩
      have HO11 := Lib.hid (HO10.out.below hd)
      have HR11 := Lib.hid (HR10.out.below hd)
      have HB11 := Lib.hid (HB10.out.trans (hd.mono HB10.out.size))
      clear hd HR10 HO10
      go_wp2_with fail
      (with_reducible refine (r8Same_w _ _ [a, b, x, y - 2500, z - 2500] _ (RowW.of_ownI HO11.out) (RowW.of_row HR11.out) (by simp)).mono ?_)
      rintro e w12 ⟨rfl, n12, rfl⟩
      go_wp2
      go_ret
      exact ⟨by first | rfl | simp, below_drewN' HB11.out _⟩
    · obtain ⟨s1, s2⟩ := r3 hp
      clear r0 r3
      have m1 : 0 ≤ r * r := Int.mul_nonneg r1 r1
      have m2 : (r + 1) * (r + 1) = r * r + 2 * r + 1 := by rw [Int.add_mul, Int.mul_add]; omega
      have m3 : (r + 1) * (r + 1) ≤ 4000000000 := by omega
      have m4 : 0 ≤ (r + 1) * (r + 1) := by omega
      have s3 : ¬ a < r * r := by omega
      have s4 : ¬ (r + 1) * (r + 1) ≤ a := by omega
      clear m2
      go_wp2_with fail
      (with_reducible refine (iDiv_ok a b q _ ⟨by omega, by omega⟩ HQ.out.1).mono ?_)
      rintro e w2 ⟨rfl, hd⟩
      have HB2 := Lib.hid (HB1.out.trans (hd.mono HB1.out.size))
      clear hd
      go_wp2_with fail
      (with_reducible refine (HAB.out _).mono ?_)
      rintro e w' ⟨rfl, rfl⟩
      go_wp2_with fail
      (with_reducible refine (iDiv_ok (-a) b (-q) _ ⟨by omega, by omega⟩ HQ.out.2).mono ?_)
      rintro e w3 ⟨rfl, hd⟩
      have HB3 := Lib.hid (HB2.out.trans (hd.mono HB2.out.size))
      clear hd
      go_wp2_with fail
      refine (HX.out _ HB3.out).mono ?_
      rintro e w' ⟨rfl, rfl⟩
      go_wp2_with fail
      refine (HY.out _ HB3.out).mono ?_
      rintro e w' ⟨rfl, rfl⟩
      go_wp2_with fail
      refine (HZ.out _ HB3.out).mono ?_
      rintro e w' ⟨rfl, rfl⟩
      go_wp2_with fail
      (with_reducible refine (iBl_ok (y - 2500) (z - 2500) x v _ ⟨by omega, by omega⟩ ⟨by omega, by omega⟩ ⟨by omega, by omega⟩ HV.out.1).mono ?_)
      rintro e w4 ⟨rfl, hd⟩
      have HB4 := Lib.hid (HB3.out.trans (hd.mono HB3.out.size))
      clear hd
      go_wp2_with fail
      (with_reducible refine (iBl_ok (y - 2500) (z - 2500) 0 (y - 2500) _ ⟨by omega, by omega⟩ ⟨by omega, by omega⟩ ⟨by omega, by omega⟩ HV.out.2.1).mono ?_)
      rintro e w5 ⟨rfl, hd⟩
      have HB5 := Lib.hid (HB4.out.trans (hd.mono HB4.out.size))
      clear hd
      go_wp2_with fail
      (with_reducible refine (iBl_ok (y - 2500) (z - 2500) 1000 (z - 2500) _ ⟨by omega, by omega⟩ ⟨by omega, by omega⟩ ⟨by omega, by omega⟩ HV.out.2.2).mono ?_)
      rintro e w6 ⟨rfl, hd⟩
      have HB6 := Lib.hid (HB5.out.trans (hd.mono HB5.out.size))
      clear hd
      have HLM := Lib.hid (show ∀ i ∈ [a, b, x, y - 2500, z - 2500], -1000000000000 ≤ i ∧ i ≤ 1000000000000 by
        intro i hi
        simp only [List.mem_cons, List.not_mem_nil, or_false] at hi
        rcases hi with rfl | rfl | rfl | rfl | rfl <;> omega)
      have HRW := Lib.hid (show Row .i64 (w6.alloc (.cells #[.int .i64 a, .int .i64 b, .int .i64 x, .int .i64 (y - 2500), .int .i64 (z - 2500)] 2)) (.slice (some ⟨w6.heap.size, 0, none⟩) 5 5) [a, b, x, y - 2500, z - 2500] from row_here .i64 w6 [a, b, x, y - 2500, z - 2500] 2 w6.heap.size 5 5 rfl rfl)
      have HB7 := Lib.hid (HB6.out.alloc HB6.out.size (.cells #[.int .i64 a, .int .i64 b, .int .i64 x, .int .i64 (y - 2500), .int .i64 (z - 2500)] 2))
      go_wp2_with fail
      (with_reducible refine (listText_ok _ [a, b, x, y - 2500, z - 2500] _ HRW.out (by simp) (by simp) HLM.out (HT.out.1.below HB7.out) (by intro A n c e; cases e; exact Nat.le_refl _)).mono ?_)
      rintro e w8 ⟨rfl, hd⟩
      have HR8 := Lib.hid (HRW.out.below hd)
      have HB8 := Lib.hid (HB7.out.trans (hd.mono HB7.out.size))
      clear hd HRW
      go_wp2_with fail
      (with_reducible refine (readList_ok [a, b, x, y - 2500, z - 2500] _ (by simp) (by simp) HLM.out (HT.out.1.below HB8.out) (HT.out.2.1.below HB8.out) (HT.out.2.2.below HB8.out)).mono ?_)
      rintro e w9 ⟨v9, rfl, ho, hd⟩
      have HO9 := Lib.hid ho
      have HR9 := Lib.hid (HR8.out.below hd)
      have HB9 := Lib.hid (HB8.out.trans (hd.mono HB8.out.size))
      clear hd ho HR8
      go_wp2_with fail
      (with_reducible refine (iDecimal_any a _ (by omega) (by omega) (HT.out.1.below HB9.out)).mono ?_)
      rintro e w10 ⟨rfl, hd⟩
      have HO10 := Lib.hid (HO9.out.below hd)
      have HR10 := Lib.hid (HR9.out.below hd)
      have HB10 := Lib.hid (HB9.out.trans (hd.mono HB9.out.size))
      clear hd HR9 HO9
      go_wp2_with fail
      (with_reducible refine (readDec_ok a _ ⟨by omega, by omega⟩ (HT.out.1.below HB10.out) (HT.out.2.1.below HB10.out)).mono ?_)
      rintro e w11 ⟨rfl, hd⟩
      have HO11 := Lib.hid (HO10.out.below hd)
      have HR11 := Lib.hid (HR10.out.below hd)
      have HB11 := Lib.hid (HB10.out.trans (hd.mono HB10.out.size))
      clear hd HR10 HO10
      go_wp2_with fail
      (with_reducible refine (r8Same_w _ _ [a, b, x, y - 2500, z - 2500] _ (RowW.of_ownI HO11.out) (RowW.of_row HR11.out) (by simp)).mono ?_)
      rintro e w12 ⟨rfl, n12, rfl⟩
      go_wp2
      go_ret
      exact ⟨by first | rfl | simp, below_drewN' HB11.out _⟩
end Go.Proofs.YtofpecgmnodflaaDoor
