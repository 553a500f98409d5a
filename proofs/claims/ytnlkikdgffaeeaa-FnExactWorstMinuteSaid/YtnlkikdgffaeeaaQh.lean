/-
  Contracts of chapter 14: the worst minute, the longest stay; the model's and the program's. Conditions: those that each theorem states.
-/
import Derived.Test.YtnlkikdgffaeeaaQg
import Derived.Deep.LoopGhost
namespace Go.Proofs.Ytnlkikdgffaeeaa
open Go.RowKit
set_option linter.unusedVariables false
set_option linter.unusedSimpArgs false

/-- The index of the first greatest of the first k values. -/
def bi (f : Nat → Int) : Nat → Nat
  | 0 => 0
  | 1 => 0
  | k + 2 => if f (bi f (k + 1)) < f (k + 1) then k + 1 else bi f (k + 1)
def fgB (f : Nat → Int) (k : Nat) : Int := (bi f k : Nat)
def fgM (f : Nat → Int) (k : Nat) : Int := if k = 0 then 0 else f (bi f k)
def fgC (k : Nat) : Int := if k = 0 then 3 else 0
/-- The greatest value of the model: -1 ahead of the first one. -/
def fgN (f : Nat → Int) (k : Nat) : Int := if k = 0 then -1 else f (bi f k)
theorem bi_lt (f : Nat → Int) : ∀ k, 1 ≤ k → bi f k < k
  | 0, h => by omega
  | 1, _ => by simp [bi]
  | k + 2, _ => by
    have := bi_lt f (k + 1) (by omega)
    rw [bi]
    split <;> omega
theorem fg_yes {f : Nat → Int} {k : Nat} (h : k = 0 ∨ fgM f k < f k) : fgB f (k + 1) = (k : Int) ∧ fgM f (k + 1) = f k ∧ fgC (k + 1) = 0 := by
  have hb : bi f (k + 1) = k := by
    cases k with
    | zero => rfl
    | succ k =>
      rw [bi, if_pos]
      rcases h with h | h
      · omega
      · simpa [fgM] using h
  refine ⟨by unfold fgB; rw [hb], ?_, rfl⟩
  unfold fgM
  rw [if_neg (by omega), hb]
theorem fg_no {f : Nat → Int} {k : Nat} (h0 : k ≠ 0) (h : ¬ fgM f k < f k) : fgB f (k + 1) = fgB f k ∧ fgM f (k + 1) = fgM f k ∧ fgC (k + 1) = fgC k := by
  cases k with
  | zero => omega
  | succ k =>
    have hb : bi f (k + 1 + 1) = bi f (k + 1) := by
      rw [bi, if_neg]
      simpa [fgM] using h
    refine ⟨by unfold fgB; rw [hb], ?_, rfl⟩
    unfold fgM
    rw [if_neg (by omega), if_neg (by omega), hb]
theorem fgN_eq {f : Nat → Int} {k : Nat} (h : k ≠ 0) : fgN f k = fgM f k := by unfold fgN fgM; rw [if_neg h, if_neg h]
theorem ret_t3 {a b c a' b' c' : Int} (h1 : a = a') (h2 : b = b') (h3 : c = c') : Ending.returned (.tuple #[.int .i64 a, .int .i64 b, .int .i64 c]) = .returned (.tuple #[.int .i64 a', .int .i64 b', .int .i64 c']) := by rw [h1, h2, h3]
/-- The minutes of a shift. -/
def shiftN : Nat := 1440
theorem shiftN_eq : shiftN = 1440 := rfl
attribute [irreducible] shiftN
/-- What WorstMinute returns. -/
def wmA (ts : List Tk) (a : Int) : Int := if tsOk ts && inB a 0 23 then fgB (duF ts a 0) shiftN else 0
def wmM (ts : List Tk) (a : Int) : Int := if tsOk ts && inB a 0 23 then fgM (duF ts a 0) shiftN else 0
def wmC (ts : List Tk) (a : Int) : Int := if tsOk ts then (if inB a 0 23 then 0 else 2) else 1
theorem duF_zero (ts : List Tk) (a : Int) (k : Nat) : daS ts a (k : Int) = duF ts a 0 k := by unfold duF; rw [Int.zero_add]
/-- What LongestStay returns. -/
def lsP (ts : List Tk) (a f L : Int) (k : Nat) : Bool := decide (L < sumK (duF ts a f) (k + 1))
def lsN (ts : List Tk) (a f L : Int) (n : Nat) : Int := (fsK (lsP ts a f L) n : Nat)
def lsOk (ts : List Tk) (a f L : Int) : Bool := inB a 0 23 && (inB f 0 1439 && decide (0 ≤ L))
def lsA (ts : List Tk) (a f L : Int) : Int := if tsOk ts && lsOk ts a f L then lsN ts a f L (1440 - f).toNat else 0
def lsB (ts : List Tk) (a f L : Int) : Int := if tsOk ts then (if lsOk ts a f L then 0 else 2) else 1
set_option maxHeartbeats 1000000 in
set_option maxRecDepth 100000 in
theorem fgrW (bd : Nat) (f : Nat → Int) (n : Nat) (w : World) (hn : n ≤ 1048576)
    (hf : ∀ (k : Nat) (w1 : World), k < n → Below w.heap.size w w1 → Calls Try.prog 75 #[.int .i64 (k : Int), .pointer (some ⟨bd, 0, none⟩)] w1 fun e w2 => e = .returned (.int .i64 (f k)) ∧ Below w1.heap.size w1 w2) :
    Calls Try.prog 74 #[.int .i64 (n : Int), .func (.func 75) #[] #[.pointer (some ⟨bd, 0, none⟩)]] w fun e w' => e = .returned (.tuple #[.int .i64 (fgB f n), .int .i64 (fgM f n), .int .i64 (fgC n)]) ∧ Below w.heap.size w w' := by
  have HF := Lib.hid hf
  clear hf
  have HZ := Lib.hid (show fgB f 0 = 0 ∧ fgM f 0 = 0 ∧ fgC 0 = 3 from ⟨rfl, rfl, rfl⟩)
  go_enter Try.func74, Try.ntmps74
  go_wp2
  go_loopw [7, 8, 9, 13] (fun b m c i wr => ∃ k : Nat, k ≤ n ∧ i = .int .i64 k ∧ b = .int .i64 (fgB f k) ∧ m = .int .i64 (fgM f k) ∧ c = .int .i64 (fgC k) ∧ Below w.heap.size w wr) (fun b m c i wr => n - (intOf i).toNat)
  case atStart => exact ⟨0, by omega, rfl, by rw [HZ.out.1], by rw [HZ.out.2.1], by rw [HZ.out.2.2], Below.refl _ _⟩
  case round =>
    obtain ⟨k, hk, rfl, rfl, rfl, rfl, hbel⟩ := hrel
    by_cases hlt : k < n
    · have HX := Lib.hid (HF.out k wr hlt hbel)
      have HBL := Lib.hid hbel
      have hlI : (k : Int) < (n : Int) := by omega
      clear hbel
      by_cases hk0 : k = 0
      · subst hk0
        have HY := Lib.hid (fg_yes (f := f) (k := 0) (Or.inl rfl))
        rw [HZ.out.1, HZ.out.2.1, HZ.out.2.2]
        rw [show ((0 : Nat) : Int) = 0 from rfl] at HX
        generalize f 0 = z at *
        go_wp2_with fail
        (with_reducible refine (HX.out).mono ?_)
        rintro e w2 ⟨rfl, hd⟩
        have HB2 := Lib.hid (HBL.out.trans (hd.mono HBL.out.size))
        clear hd
        go_wp2
        go_roundw
        case rel => exact ⟨1, by omega, by first | rfl | go_num, by rw [HY.out.1]; rfl, by rw [HY.out.2.1], by rw [HY.out.2.2], HB2.out⟩
        case measure => simp [intOf]; omega
      · have HC0 := Lib.hid (show fgC k = 0 by unfold fgC; rw [if_neg hk0])
        by_cases hc : fgM f k < f k
        · have HY := Lib.hid (fg_yes (f := f) (k := k) (Or.inr hc))
          rw [HC0.out]
          generalize f k = z at *
          generalize hmm : fgM f k = m at *
          generalize hbb : fgB f k = b at *
          go_wp2_with fail
          (with_reducible refine (HX.out).mono ?_)
          rintro e w2 ⟨rfl, hd⟩
          have HB2 := Lib.hid (HBL.out.trans (hd.mono HBL.out.size))
          clear hd
          go_wp2
          go_roundw
          case rel => exact ⟨k + 1, by omega, by go_num, by rw [HY.out.1], by rw [HY.out.2.1], by rw [HY.out.2.2], HB2.out⟩
          case measure => simp [intOf]; omega
        · have HY := Lib.hid (fg_no (f := f) hk0 hc)
          rw [HC0.out]
          generalize f k = z at *
          generalize hmm : fgM f k = m at *
          generalize hbb : fgB f k = b at *
          have hcd : decide (m < z) = false := decide_eq_false hc
          go_wp2_with fail
          (with_reducible refine (HX.out).mono ?_)
          rintro e w2 ⟨rfl, hd⟩
          have HB2 := Lib.hid (HBL.out.trans (hd.mono HBL.out.size))
          clear hd
          go_wp2
          go_roundw
          case rel => exact ⟨k + 1, by omega, by go_num, by rw [HY.out.1], by rw [HY.out.2.1], by rw [HY.out.2.2, HC0.out], HB2.out⟩
          case measure => simp [intOf]; omega
    · obtain rfl : k = n := by omega
      have HBL := Lib.hid hbel
      clear hbel
      generalize hb : fgB f k = b at *
      generalize hm : fgM f k = m at *
      generalize hc : fgC k = c at *
      go_wp2
      go_ret3
      exact ⟨ret_t3 hb.symm hm.symm hc.symm, HBL.out⟩
theorem wmAt_any (bd g n c : Nat) (k : Nat) (z : Int) (w : World) (c0 : w.cell? ⟨bd, 0, none⟩ = some (.slice (some ⟨g, 0, none⟩) n c)) (c1 : w.cell? ⟨g, k, none⟩ = some (.int .i64 z)) (hk : k < n) (hn : n ≤ 1440) :
    Calls Try.prog 75 #[.int .i64 (k : Int), .pointer (some ⟨bd, 0, none⟩)] w fun e w' => e = .returned (.int .i64 z) ∧ Below w.heap.size w w' := by
  go_enter Try.func75, Try.ntmps75
  go_wp2
  go_ret
  exact ⟨rfl, Below.refl _ _⟩
set_option maxHeartbeats 1000000 in
set_option maxRecDepth 100000 in
theorem sWorstMinute_any (A : Option Addr) (cap : Nat) (ts : List Tk) (a : Int) (w : World) (hr : TkR w A ts) (hl : ts.length ≤ 1048576) :
    Calls Try.prog 38 #[.slice A ts.length cap, .int .i64 a] w fun e w' => e = .returned (.tuple #[.int .i64 (wmA ts a), .int .i64 (wmM ts a), .int .i64 (wmC ts a)]) ∧ Below w.heap.size w w' := by
  have HX := Lib.hid (l14Ok_any A cap ts w hr hl)
  have HR := Lib.hid hr
  clear hr
  cases hok : tsOk ts
  · have HE := Lib.hid (show wmA ts a = 0 ∧ wmM ts a = 0 ∧ wmC ts a = 1 by simp [wmA, wmM, wmC, hok])
    go_enter Try.func38, Try.ntmps38
    go_wp2_with fail
    (with_reducible refine (HX.out).mono ?_)
    rintro e w1 ⟨rfl, hd⟩
    have HB := Lib.hid hd
    rw [hok]
    clear hd
    go_wp2
    go_ret3
    exact ⟨ret_t3 HE.out.1.symm HE.out.2.1.symm HE.out.2.2.symm, HB.out⟩
  · have HOK := Lib.hid hok
    by_cases h1 : 0 ≤ a ∧ a ≤ 23
    · have i1 := inB_true h1.1 h1.2
      have HE := Lib.hid (show wmA ts a = fgB (duF ts a 0) shiftN ∧ wmM ts a = fgN (duF ts a 0) shiftN ∧ wmC ts a = 0 from ⟨by simp [wmA, hok, i1], by rw [fgN_eq (by rw [shiftN_eq]; omega)]; simp [wmM, hok, i1], by simp [wmC, hok, i1]⟩)
      obtain ⟨N, hN⟩ : ∃ N, shiftN = N := ⟨_, rfl⟩
      have hN2 : (N : Int) = 1440 := by rw [← hN, shiftN_eq]; rfl
      rw [hN] at HE
      clear hN
      have hNa := Int.le_of_eq hN2
      have hNb := Int.le_of_eq hN2.symm
      clear hN2
      have HF := Lib.hid (fun (k : Nat) => duF_bd HOK.out a 0 k)
      have HZ := Lib.hid (show fgB (duF ts a 0) 0 = 0 ∧ fgN (duF ts a 0) 0 = -1 from ⟨rfl, rfl⟩)
      go_enter Try.func38, Try.ntmps38
      go_wp2_with fail
      (with_reducible refine (HX.out).mono ?_)
      rintro e w1 ⟨rfl, hd⟩
      have HB := Lib.hid hd
      rw [hok]
      clear hd
      go_wp2_with (go_at_call 63; (with_reducible refine (l14Airway_any _ _).mono ?_); rintro e w' ⟨rfl, rfl⟩)
      go_loopw [7, 8, 9] (fun b m i wr => ∃ k : Nat, k ≤ N ∧ i = .int .i64 k ∧ b = .int .i64 (fgB (duF ts a 0) k) ∧ m = .int .i64 (fgN (duF ts a 0) k) ∧ Hid (Below w.heap.size w wr)) (fun b m i wr => N - (intOf i).toNat)
      case atStart => exact ⟨0, by omega, rfl, by rw [HZ.out.1], by rw [HZ.out.2], Lib.hid HB.out⟩
      case round =>
        obtain ⟨k, hk, rfl, rfl, rfl, hbel⟩ := hrel
        obtain ⟨wo, rfl⟩ : ∃ wo : World, wo = wr := ⟨_, rfl⟩
        by_cases hlt : k < N
        · have hlI : (k : Int) < 1440 := by omega
          have HA := Lib.hid (show Calls Try.prog 64 #[.slice A ts.length cap, .int .i64 a, .int .i64 (k : Int)] wo fun e w' => e = .returned (.int .i64 (duF ts a 0 k)) ∧ wo = w' from by
            rw [← duF_zero]
            exact l14At_any A cap ts a (k : Int) wo (HR.out.below hbel.out) HOK.out)
          have hz := HF.out k
          by_cases hc : fgN (duF ts a 0) k < duF ts a 0 k
          · have HY := Lib.hid (show fgB (duF ts a 0) (k + 1) = (k : Int) ∧ fgN (duF ts a 0) (k + 1) = duF ts a 0 k from by
              have h := fg_yes (f := duF ts a 0) (k := k) (by
                by_cases h0 : k = 0
                · exact .inl h0
                · right; rw [fgN_eq h0] at hc; exact hc)
              exact ⟨h.1, (fgN_eq (by omega)).trans h.2.1⟩)
            generalize duF ts a 0 k = z at *
            generalize hmm : fgN (duF ts a 0) k = m at *
            generalize hbb : fgB (duF ts a 0) k = b at *
            go_wp2_with fail
            (with_reducible refine (HA.out).mono ?_)
            rintro e w' ⟨rfl, rfl⟩
            go_wp2
            go_roundw
            case rel => exact ⟨k + 1, by omega, by go_num, by rw [HY.out.1], by rw [HY.out.2], hbel⟩
            case measure => simp [intOf]; omega
          · have HY := Lib.hid (show fgB (duF ts a 0) (k + 1) = fgB (duF ts a 0) k ∧ fgN (duF ts a 0) (k + 1) = fgN (duF ts a 0) k from by
              have h0 : k ≠ 0 := fun h => by subst h; rw [HZ.out.2] at hc; omega
              rw [fgN_eq h0] at hc
              have h := fg_no (f := duF ts a 0) h0 hc
              exact ⟨h.1, by rw [fgN_eq (by omega), fgN_eq h0]; exact h.2.1⟩)
            generalize duF ts a 0 k = z at *
            generalize hmm : fgN (duF ts a 0) k = m at *
            generalize hbb : fgB (duF ts a 0) k = b at *
            go_wp2_with fail
            (with_reducible refine (HA.out).mono ?_)
            rintro e w' ⟨rfl, rfl⟩
            go_wp2
            go_roundw
            case rel => exact ⟨k + 1, by omega, by go_num, by rw [HY.out.1], by rw [HY.out.2], hbel⟩
            case measure => simp [intOf]; omega
        · obtain rfl : k = N := by omega
          obtain ⟨b, hb⟩ : ∃ b, fgB (duF ts a 0) k = b := ⟨_, rfl⟩
          obtain ⟨m, hm⟩ : ∃ m, fgN (duF ts a 0) k = m := ⟨_, rfl⟩
          rw [hb, hm] at HE
          rw [hb, hm]
          clear hb hm
          go_wp2
          go_ret3
          exact ⟨ret_t3 HE.out.1.symm HE.out.2.1.symm HE.out.2.2.symm, hbel.out⟩
    · have i1 := inB_false h1
      have HE := Lib.hid (show wmA ts a = 0 ∧ wmM ts a = 0 ∧ wmC ts a = 2 by simp [wmA, wmM, wmC, hok, i1])
      go_enter Try.func38, Try.ntmps38
      go_wp2_with fail
      (with_reducible refine (HX.out).mono ?_)
      rintro e w1 ⟨rfl, hd⟩
      have HB := Lib.hid hd
      rw [hok]
      clear hd
      go_wp2_with (go_at_call 63; (with_reducible refine (l14Airway_any _ _).mono ?_); rintro e w' ⟨rfl, rfl⟩)
      go_ret3
      exact ⟨ret_t3 HE.out.1.symm HE.out.2.1.symm HE.out.2.2.symm, HB.out⟩
set_option maxHeartbeats 1000000 in
set_option maxRecDepth 100000 in
theorem iWorstMinute_any (A : Option Addr) (cap : Nat) (ts : List Tk) (a : Int) (w : World) (hr : TkR w A ts) (hl : ts.length ≤ 1048576) :
    Calls Try.prog 39 #[.slice A ts.length cap, .int .i64 a] w fun e w' => e = .returned (.tuple #[.int .i64 (wmA ts a), .int .i64 (wmM ts a), .int .i64 (wmC ts a)]) ∧ Below w.heap.size w w' := by
  have HX := Lib.hid (iValidDustings_any A cap ts w hr hl)
  have HR := Lib.hid hr
  clear hr
  cases hok : tsOk ts
  · have HE := Lib.hid (show wmA ts a = 0 ∧ wmM ts a = 0 ∧ wmC ts a = 1 by simp [wmA, wmM, wmC, hok])
    go_enter Try.func39, Try.ntmps39
    go_wp2_with fail
    (with_reducible refine (HX.out).mono ?_)
    rintro e w1 ⟨rfl, hd⟩
    have HB := Lib.hid hd
    rw [hok]
    clear hd
    go_wp2
    go_ret3
    exact ⟨ret_t3 HE.out.1.symm HE.out.2.1.symm HE.out.2.2.symm, HB.out⟩
  · have HOK := Lib.hid hok
    by_cases h1 : 0 ≤ a ∧ a ≤ 23
    · have i1 := inB_true h1.1 h1.2
      have HE := Lib.hid (show wmA ts a = fgB (duF ts a 0) shiftN ∧ wmM ts a = fgM (duF ts a 0) shiftN ∧ wmC ts a = fgC shiftN from ⟨by simp [wmA, hok, i1], by simp [wmM, hok, i1], by unfold fgC; rw [if_neg (by rw [shiftN_eq]; omega)]; simp [wmC, hok, i1]⟩)
      obtain ⟨N, hN⟩ : ∃ N, shiftN = N := ⟨_, rfl⟩
      have hN2 : (N : Int) = 1440 := by rw [← hN, shiftN_eq]; rfl
      rw [hN] at HE
      clear hN
      have HN := Lib.hid (show (1440 : Int) = 0 + (N : Int) by omega)
      have hNa : N ≤ 1440 := by omega
      have hNb : 1440 ≤ N := by omega
      clear hN2
      go_enter Try.func39, Try.ntmps39
      go_wp2_with fail
      (with_reducible refine (HX.out).mono ?_)
      rintro e w1 ⟨rfl, hd⟩
      have HB := Lib.hid hd
      rw [hok]
      clear hd
      go_wp2_with fail
      (with_reducible refine (areIdx_c24 a w1 _ _ (by simp)).mono ?_)
      rintro e w2 ⟨rfl, hd⟩
      rw [i1]
      have HB2 := Lib.hid (HB.out.trans (hd.mono HB.out.size))
      clear hd
      go_wp2_with fail
      (with_reducible refine (during_any A cap ts a 0 1440 N w2 (HR.out.below HB2.out) HOK.out ⟨by omega, by omega⟩ HN.out hNa).mono ?_)
      rintro e w3 ⟨u, rfl, ho, hd⟩
      have HB3 := Lib.hid (HB2.out.trans (hd.mono HB2.out.size))
      clear hd
      obtain ⟨g, c, rfl, HO⟩ : ∃ g c, u = .slice (some ⟨g, 0, none⟩) N c ∧ Hid (w3.ownsRow w2.heap.size 2 1 (.slice (some ⟨g, 0, none⟩) N c) N (intsV (duL ts a 0 N))) := by
        have h := ho
        unfold OwnI at h
        rw [duL_len] at h
        rcases id h.2 with ⟨rfl, h0⟩ | ⟨g, c, cur, rfl, hr⟩
        · omega
        · exact ⟨g, c, rfl, Lib.hid h⟩
      clear ho
      have HBX := Lib.hid (below_box w3 (.cells #[.slice (some ⟨g, 0, none⟩) N c] 40))
      have HCB := Lib.hid (show (w3.alloc (.cells #[.slice (some ⟨g, 0, none⟩) N c] 40)).cell? ⟨w3.heap.size, 0, none⟩ = some (.slice (some ⟨g, 0, none⟩) N c) by simp)
      have HCE := Lib.hid (fun (k : Nat) (hk : k < N) => show (w3.alloc (.cells #[.slice (some ⟨g, 0, none⟩) N c] 40)).cell? ⟨g, k, none⟩ = some (.int .i64 (duF ts a 0 k)) from by
        have h1 : w3.cell? ⟨g, k, none⟩ = some (.int .i64 (duF ts a 0 k)) := by rw [HO.out.cellAt k (by omega)]; simp [intsV, duL, hk]
        exact (HBX.out.cell (World.block_lt_of_cell? _ _ h1)).trans h1)
      go_wp2_with fail
      (with_reducible refine (fgrW w3.heap.size (duF ts a 0) N _ (by omega) (fun k w5 hk hb => wmAt_any w3.heap.size g N c k _ w5 ((hb.cell (World.block_lt_of_cell? _ _ HCB.out)).trans HCB.out) ((hb.cell (World.block_lt_of_cell? _ _ (HCE.out k hk))).trans (HCE.out k hk)) hk hNa)).mono ?_)
      rintro e w4 ⟨rfl, hd⟩
      have HB4 := Lib.hid (HB3.out.trans ((HBX.out.trans (hd.mono (by simp))).mono HB3.out.size))
      clear hd
      obtain ⟨q1, hq1⟩ : ∃ b, fgB (duF ts a 0) N = b := ⟨_, rfl⟩
      obtain ⟨q2, hq2⟩ : ∃ b, fgM (duF ts a 0) N = b := ⟨_, rfl⟩
      obtain ⟨q3, hq3⟩ : ∃ b, fgC N = b := ⟨_, rfl⟩
      rw [hq1, hq2, hq3] at HE
      rw [hq1, hq2, hq3]
      clear hq1 hq2 hq3
      go_wp2
      go_ret3
      exact ⟨ret_t3 HE.out.1.symm HE.out.2.1.symm HE.out.2.2.symm, HB4.out⟩
    · have i1 := inB_false h1
      have HE := Lib.hid (show wmA ts a = 0 ∧ wmM ts a = 0 ∧ wmC ts a = 2 by simp [wmA, wmM, wmC, hok, i1])
      go_enter Try.func39, Try.ntmps39
      go_wp2_with fail
      (with_reducible refine (HX.out).mono ?_)
      rintro e w1 ⟨rfl, hd⟩
      have HB := Lib.hid hd
      rw [hok]
      clear hd
      go_wp2_with fail
      (with_reducible refine (areIdx_c24 a w1 _ _ (by simp)).mono ?_)
      rintro e w2 ⟨rfl, hd⟩
      rw [i1]
      have HB2 := Lib.hid (HB.out.trans (hd.mono HB.out.size))
      clear hd
      go_wp2
      go_ret3
      exact ⟨ret_t3 HE.out.1.symm HE.out.2.1.symm HE.out.2.2.symm, HB2.out⟩
end Go.Proofs.Ytnlkikdgffaeeaa
