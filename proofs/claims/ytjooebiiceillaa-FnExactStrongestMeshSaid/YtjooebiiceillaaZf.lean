/-
  Contracts of chapter 9: slopes, the first greatest of some values; the model's and the program's. Conditions: those that each theorem states.
-/
import Derived.Test.YtjooebiiceillaaZd
namespace Go.Proofs.Ytjooebiiceillaa
open Go.RowKit
set_option linter.unusedVariables false
set_option linter.unusedSimpArgs false

/-- The index of the first greatest of the first k values. -/
def bi (f : Nat → Int) : Nat → Nat
  | 0 => 0
  | 1 => 0
  | k + 2 => if f (bi f (k + 1)) < f (k + 1) then k + 1 else bi f (k + 1)
def fgB (f : Nat → Int) (k : Nat) : Int := (bi f k : Nat)
def fgM (f : Nat → Int) (k : Nat) : Int := if k = 0 then 0 else f (bi f k)
def fgC (k : Nat) : Int := if k = 0 then 3 else 0
/-- The greatest value of the model: -1 ahead of the first one. -/
def fgN (f : Nat → Int) (k : Nat) : Int := if k = 0 then -1 else f (bi f k)
theorem bi_lt (f : Nat → Int) : ∀ k, 1 ≤ k → bi f k < k
  | 0, h => by omega
  | 1, _ => by simp [bi]
  | k + 2, _ => by
    have := bi_lt f (k + 1) (by omega)
    rw [bi]
    split <;> omega
theorem fg_yes {f : Nat → Int} {k : Nat} (h : k = 0 ∨ fgM f k < f k) : fgB f (k + 1) = (k : Int) ∧ fgM f (k + 1) = f k ∧ fgC (k + 1) = 0 := by
  have hb : bi f (k + 1) = k := by
    cases k with
    | zero => rfl
    | succ k =>
      rw [bi, if_pos]
      rcases h with h | h
      · omega
      · simpa [fgM] using h
  refine ⟨by unfold fgB; rw [hb], ?_, rfl⟩
  unfold fgM
  rw [if_neg (by omega), hb]
theorem fg_no {f : Nat → Int} {k : Nat} (h0 : k ≠ 0) (h : ¬ fgM f k < f k) : fgB f (k + 1) = fgB f k ∧ fgM f (k + 1) = fgM f k ∧ fgC (k + 1) = fgC k := by
  cases k with
  | zero => omega
  | succ k =>
    have hb : bi f (k + 1 + 1) = bi f (k + 1) := by
      rw [bi, if_neg]
      simpa [fgM] using h
    refine ⟨by unfold fgB; rw [hb], ?_, rfl⟩
    unfold fgM
    rw [if_neg (by omega), if_neg (by omega), hb]
theorem fgN_eq {f : Nat → Int} {k : Nat} (h : k ≠ 0) : fgN f k = fgM f k := by unfold fgN fgM; rw [if_neg h, if_neg h]
theorem ret_t3 {a b c a' b' c' : Int} (h1 : a = a') (h2 : b = b') (h3 : c = c') : Ending.returned (.tuple #[.int .i64 a, .int .i64 b, .int .i64 c]) = .returned (.tuple #[.int .i64 a', .int .i64 b', .int .i64 c']) := by rw [h1, h2, h3]
/-- How far an airway rises or falls in a thousand of its length. -/
def slR (xs : List Aw) (lv : List Int) (k : Nat) : Int := 1000 * absR (riR xs lv k) / (xs.getD k Aw.none).l
/-- What SteepestOf returns. -/
def seC (J : Int) (xs : List Aw) (lv : List Int) : Int := if rlB J xs lv = 0 then fgC xs.length else rlB J xs lv
def seA (J : Int) (xs : List Aw) (lv : List Int) : Int := if rlB J xs lv = 0 then fgB (slR xs lv) xs.length else 0
def seM (J : Int) (xs : List Aw) (lv : List Int) : Int := if rlB J xs lv = 0 then fgM (slR xs lv) xs.length else 0
theorem len_bd {J : Int} {xs : List Aw} (h : mineOk J xs = true) {k : Nat} (hk : k < xs.length) : 1 ≤ xs[k].l ∧ xs[k].l ≤ 10000 := by
  have h1 := upTo_all _ (mineOk_iff.1 h).2.1 k hk
  unfold stepOk at h1
  rw [getD_of_lt hk] at h1
  simp only [Bool.and_eq_true] at h1
  have := awOk_bd h1.1.1.1
  exact this.2.2.1
theorem slR_bd {J : Int} {xs : List Aw} {lv : List Int} (h : lvOk J lv = true) (hok : mineOk J xs = true) {k : Nat} (hk : k < xs.length) : 0 ≤ slR xs lv k ∧ slR xs lv k ≤ 6000000 := by
  have a := riR_bd (xs := xs) h k
  have b := absR_cases (riR xs lv k)
  have c := len_bd hok hk
  unfold slR
  rw [getD_of_lt hk]
  refine ⟨Int.ediv_nonneg (by omega) (by omega), ?_⟩
  have := Int.ediv_le_self (a := 1000 * absR (riR xs lv k)) xs[k].l (by omega)
  omega
set_option maxHeartbeats 2000000 in
set_option maxRecDepth 100000 in
theorem slope_any (J : Int) (A : Option Addr) (cap : Nat) (xs : List Aw) (v : Value) (lv : List Int) (k : Nat) (w : World) (hr : AwR w A xs) (hv : RowW .i64 w v lv) (hok : mineOk J xs = true) (hlv : lvOk J lv = true) (hk : k < xs.length) :
    Calls Try.prog 86 #[.agg #[.int .i64 J, .slice A xs.length cap, v], .int .i64 (k : Int)] w fun e w' => e = .returned (.int .i64 (slR xs lv k)) ∧ Below w.heap.size w w' := by
  have h24 := (mineOk_iff.1 hok).2.2
  obtain ⟨F, lcap, rfl, _⟩ := id hv
  obtain ⟨gb, gof, rfl, hrg⟩ := hr k hk
  obtain ⟨⟨c0, c1, c2, c3⟩, c4, c5, c6⟩ := lay_row hrg
  have HE := Lib.hid (show slR xs lv k = 1000 * absR (riR xs lv k) / xs[k].l by unfold slR; rw [getD_of_lt hk])
  obtain ⟨b1, b2⟩ := len_bd hok hk
  obtain ⟨b3, b4⟩ := riR_bd (xs := xs) hlv k
  have HB0 := Lib.hid (below_box w (.cells #[.int .i64 J, .slice (some ⟨gb, gof, none⟩) xs.length cap, .slice F lv.length lcap] 72))
  have HR := Lib.hid (hr.below HB0.out)
  have HV := Lib.hid (hv.below HB0.out)
  have HOK := Lib.hid hok
  have HLV := Lib.hid hlv
  have e0 : (w.alloc (.cells #[.int .i64 J, .slice (some ⟨gb, gof, none⟩) xs.length cap, .slice F lv.length lcap] 72)).cell? ⟨w.heap.size, 0, none⟩ = some (.int .i64 J) := by simp
  have e1 : (w.alloc (.cells #[.int .i64 J, .slice (some ⟨gb, gof, none⟩) xs.length cap, .slice F lv.length lcap] 72)).cell? ⟨w.heap.size, 1, none⟩ = some (.slice (some ⟨gb, gof, none⟩) xs.length cap) := by simp
  have e2 : (w.alloc (.cells #[.int .i64 J, .slice (some ⟨gb, gof, none⟩) xs.length cap, .slice F lv.length lcap] 72)).cell? ⟨w.heap.size, 2, none⟩ = some (.slice F lv.length lcap) := by simp
  have e3 := cell_keep c3 HB0.out
  generalize xs[k].l = l at *
  clear hr hv hok hlv c0 c1 c2 c3 c4 c5 c6 hrg
  go_enter Try.func86, Try.ntmps86
  go_wp2_with fail
  generalize (w.alloc (.cells #[.int .i64 J, .slice (some ⟨gb, gof, none⟩) xs.length cap, .slice F lv.length lcap] 72)) = W0 at *
  generalize hrr : riR xs lv k = r at *
  have hl0 : ¬ l = 0 := by omega
  have hab := absR_cases r
  obtain ⟨b5, b6⟩ : 0 ≤ absR r ∧ absR r ≤ 6000 := by omega
  clear hab
  have hwm : IntKind.i64.wrap (1000 * absR r) = 1000 * absR r := IntWalk.i64_in _ (by omega)
  have htd : (1000 * absR r).tdiv l = 1000 * absR r / l := Int.tdiv_eq_ediv_of_nonneg (by omega)
  have hq0 : 0 ≤ 1000 * absR r / l := Int.ediv_nonneg (by omega) (by omega)
  have hq1 := Int.ediv_le_self (a := 1000 * absR r) l (by omega)
  have hwq : IntKind.i64.wrap (1000 * absR r / l) = 1000 * absR r / l := IntWalk.i64_in _ (by omega)
  refine wp_region_held (S := fun w' => w'.cell? ⟨w.heap.size, 0, none⟩ = some (.int .i64 J) ∧ w'.cell? ⟨w.heap.size, 1, none⟩ = some (.slice (some ⟨gb, gof, none⟩) xs.length cap) ∧ w'.cell? ⟨w.heap.size, 2, none⟩ = some (.slice F lv.length lcap) ∧ w'.cell? ⟨gb, gof + k * 7 + 3, none⟩ = some (.int .i64 l) ∧ Below W0.heap.size W0 w') (by kernel_rfl) ?_
  try (change wpAnyH _ _ _ _ _ _ _ _ (World.drew _))
  have hS0 := (show W0.drew.cell? ⟨w.heap.size, 0, none⟩ = some (.int .i64 J) ∧ W0.drew.cell? ⟨w.heap.size, 1, none⟩ = some (.slice (some ⟨gb, gof, none⟩) xs.length cap) ∧ W0.drew.cell? ⟨w.heap.size, 2, none⟩ = some (.slice F lv.length lcap) ∧ W0.drew.cell? ⟨gb, gof + k * 7 + 3, none⟩ = some (.int .i64 l) ∧ Below W0.heap.size W0 W0.drew from ⟨e0, e1, e2, e3, Below.drew (Below.refl _ _)⟩)
  refine gTake 0 (v := ?_) rfl (by kernel_rfl) (by kernel_rfl) (by kernel_rfl) (fun _ _ _ h => h) (by kernel_rfl) ?_ hS0 ?_
  rotate_left
  · (intro W hW; have q0 := hW.1; have q1 := hW.2.1; have q2 := hW.2.2.1; have q3 := hW.2.2.2.1; clear hW; go_simp; try with_reducible rfl)
  refine gTake 1 (v := ?_) rfl (by kernel_rfl) (by kernel_rfl) (by kernel_rfl) (fun _ _ _ h => h) (by kernel_rfl) ?_ hS0 ?_
  rotate_left
  · (intro W hW; clear hW; go_simp; try with_reducible rfl)
  refine gTake 5 (v := ?_) rfl (by kernel_rfl) (by kernel_rfl) (by kernel_rfl) (fun _ _ _ h => h) (by kernel_rfl) ?_ hS0 ?_
  rotate_left
  · (intro W hW; clear hW; go_simp; try with_reducible rfl)
  refine gTake 6 (v := ?_) rfl (by kernel_rfl) (by kernel_rfl) (by kernel_rfl) (fun _ _ _ h => h) (by kernel_rfl) ?_ hS0 ?_
  rotate_left
  · (intro W hW; clear hW; go_simp; try with_reducible rfl)
  refine gTake 7 (v := ?_) rfl (by kernel_rfl) (by kernel_rfl) (by kernel_rfl) (fun _ _ _ h => h) (by kernel_rfl) ?_ hS0 ?_
  rotate_left
  · (intro W hW; have q0 := hW.1; have q1 := hW.2.1; have q2 := hW.2.2.1; have q3 := hW.2.2.2.1; clear hW; go_simp; try with_reducible rfl)
  refine gTake 8 (v := ?_) rfl (by kernel_rfl) (by kernel_rfl) (by kernel_rfl) (fun _ _ _ h => h) (by kernel_rfl) ?_ hS0 ?_
  rotate_left
  · (intro W hW; clear hW; go_simp; try with_reducible rfl)
  refine gTake 9 (v := ?_) rfl (by kernel_rfl) (by kernel_rfl) (by kernel_rfl) (fun _ _ _ h => h) (by kernel_rfl) ?_ hS0 ?_
  rotate_left
  · (intro W hW; clear hW; go_simp; try with_reducible rfl)
  refine gTake 10 (v := ?_) rfl (by kernel_rfl) (by kernel_rfl) (by kernel_rfl) (fun _ _ _ h => h) (by kernel_rfl) ?_ hS0 ?_
  rotate_left
  · (intro W hW; clear hW; go_simp; try with_reducible rfl)
  refine gTake 11 (v := ?_) rfl (by kernel_rfl) (by kernel_rfl) (by kernel_rfl) (fun _ _ _ h => h) (by kernel_rfl) ?_ hS0 ?_
  rotate_left
  · (intro W hW; have q0 := hW.1; have q1 := hW.2.1; have q2 := hW.2.2.1; have q3 := hW.2.2.2.1; clear hW; go_simp; try with_reducible rfl)
  refine gOne 2 rfl (by kernel_rfl) (by kernel_rfl) (fun K hK => ?_)
  go_simp
  go_at_call 107
  (with_reducible refine (rise_any J (some ⟨gb, gof, none⟩) cap xs _ lv k _ (HR.out.below hS0.2.2.2.2) (HV.out.below hS0.2.2.2.2) HOK.out HLV.out hk).mono ?_)
  rintro e wq0 ⟨rfl, hdq0⟩
  rw [hrr]
  try go_simp
  have hS1 := (show wq0.cell? ⟨w.heap.size, 0, none⟩ = some (.int .i64 J) ∧ wq0.cell? ⟨w.heap.size, 1, none⟩ = some (.slice (some ⟨gb, gof, none⟩) xs.length cap) ∧ wq0.cell? ⟨w.heap.size, 2, none⟩ = some (.slice F lv.length lcap) ∧ wq0.cell? ⟨gb, gof + k * 7 + 3, none⟩ = some (.int .i64 l) ∧ Below W0.heap.size W0 wq0 from ⟨cellK hS0.1 hdq0, cellK hS0.2.1 hdq0, cellK hS0.2.2.1 hdq0, cellK hS0.2.2.2.1 hdq0, hS0.2.2.2.2.trans (hdq0.mono hS0.2.2.2.2.size)⟩)
  refine hK _ _ hS1 ?_
  clear hK K
  refine gOne 3 rfl (by kernel_rfl) (by kernel_rfl) (fun K hK => ?_)
  go_simp
  go_at_call 89
  (with_reducible refine (absolute_any r _ (by omega) (by omega)).mono ?_)
  rintro e w' ⟨rfl, rfl⟩
  try go_simp
  have hS2 := hS1
  refine hK _ _ hS2 ?_
  clear hK K
  refine gTake 4 (v := ?_) rfl (by kernel_rfl) (by kernel_rfl) (by kernel_rfl) (fun _ _ _ h => h) (by kernel_rfl) ?_ hS2 ?_
  rotate_left
  · (intro W hW; clear hW; go_simp; try with_reducible rfl)
  refine gTake 12 (v := ?_) rfl (by kernel_rfl) (by kernel_rfl) (by kernel_rfl) (fun _ _ _ h => h) (by kernel_rfl) ?_ hS2 ?_
  rotate_left
  · (intro W hW; clear hW; go_simp; try with_reducible rfl)
  refine gTake 13 (v := ?_) rfl (by kernel_rfl) (by kernel_rfl) (by kernel_rfl) (fun _ _ _ h => h) (by kernel_rfl) ?_ hS2 ?_
  rotate_left
  · (intro W hW; clear hW; go_simp; try with_reducible rfl)
  refine wpAnyH_done (by kernel_rfl) ?_ _
  go_simp
  go_wp2
  go_ret
  exact ⟨ret_int HE.out.symm, HB0.out.trans (hS2.2.2.2.2.mono HB0.out.size)⟩
set_option maxHeartbeats 1000000 in
set_option maxRecDepth 100000 in
theorem fgrSlope (J : Int) (A : Option Addr) (cap : Nat) (xs : List Aw) (v : Value) (f : Nat → Int) (n : Nat) (w : World) (hn : n ≤ 1048576)
    (hf : ∀ (k : Nat) (w1 : World), k < n → Below w.heap.size w w1 → Calls Try.prog 86 #[.agg #[.int .i64 J, .slice A xs.length cap, v], .int .i64 (k : Int)] w1 fun e w2 => e = .returned (.int .i64 (f k)) ∧ Below w1.heap.size w1 w2) :
    Calls Try.prog 85 #[.int .i64 (n : Int), .func (.func 86) #[.agg #[.int .i64 J, .slice A xs.length cap, v]] #[]] w fun e w' => e = .returned (.tuple #[.int .i64 (fgB f n), .int .i64 (fgM f n), .int .i64 (fgC n)]) ∧ Below w.heap.size w w' := by
  have HF := Lib.hid hf
  clear hf
  have HZ := Lib.hid (show fgB f 0 = 0 ∧ fgM f 0 = 0 ∧ fgC 0 = 3 from ⟨rfl, rfl, rfl⟩)
  go_enter Try.func85, Try.ntmps85
  go_wp2
  go_loopw [7, 8, 9, 13] (fun b m c i wr => ∃ k : Nat, k ≤ n ∧ i = .int .i64 k ∧ b = .int .i64 (fgB f k) ∧ m = .int .i64 (fgM f k) ∧ c = .int .i64 (fgC k) ∧ Below w.heap.size w wr) (fun b m c i wr => n - (intOf i).toNat)
  case atStart => exact ⟨0, by omega, rfl, by rw [HZ.out.1], by rw [HZ.out.2.1], by rw [HZ.out.2.2], Below.refl _ _⟩
  case round =>
    obtain ⟨k, hk, rfl, rfl, rfl, rfl, hbel⟩ := hrel
    by_cases hlt : k < n
    · have HX := Lib.hid (HF.out k wr hlt hbel)
      have HBL := Lib.hid hbel
      have hlI : (k : Int) < (n : Int) := by omega
      clear hbel
      by_cases hk0 : k = 0
      · subst hk0
        have HY := Lib.hid (fg_yes (f := f) (k := 0) (Or.inl rfl))
        rw [HZ.out.1, HZ.out.2.1, HZ.out.2.2]
        rw [show ((0 : Nat) : Int) = 0 from rfl] at HX
        generalize f 0 = z at *
        go_wp2_with fail
        (with_reducible refine (HX.out).mono ?_)
        rintro e w2 ⟨rfl, hd⟩
        have HB2 := Lib.hid (HBL.out.trans (hd.mono HBL.out.size))
        clear hd
        go_wp2
        go_roundw
        case rel => exact ⟨1, by omega, by first | rfl | go_num, by rw [HY.out.1]; rfl, by rw [HY.out.2.1], by rw [HY.out.2.2], HB2.out⟩
        case measure => simp [intOf]; omega
      · have HC0 := Lib.hid (show fgC k = 0 by unfold fgC; rw [if_neg hk0])
        by_cases hc : fgM f k < f k
        · have HY := Lib.hid (fg_yes (f := f) (k := k) (Or.inr hc))
          rw [HC0.out]
          generalize f k = z at *
          generalize hmm : fgM f k = m at *
          generalize hbb : fgB f k = b at *
          go_wp2_with fail
          (with_reducible refine (HX.out).mono ?_)
          rintro e w2 ⟨rfl, hd⟩
          have HB2 := Lib.hid (HBL.out.trans (hd.mono HBL.out.size))
          clear hd
          go_wp2
          go_roundw
          case rel => exact ⟨k + 1, by omega, by go_num, by rw [HY.out.1], by rw [HY.out.2.1], by rw [HY.out.2.2], HB2.out⟩
          case measure => simp [intOf]; omega
        · have HY := Lib.hid (fg_no (f := f) hk0 hc)
          rw [HC0.out]
          generalize f k = z at *
          generalize hmm : fgM f k = m at *
          generalize hbb : fgB f k = b at *
          have hcd : decide (m < z) = false := decide_eq_false hc
          go_wp2_with fail
          (with_reducible refine (HX.out).mono ?_)
          rintro e w2 ⟨rfl, hd⟩
          have HB2 := Lib.hid (HBL.out.trans (hd.mono HBL.out.size))
          clear hd
          go_wp2
          go_roundw
          case rel => exact ⟨k + 1, by omega, by go_num, by rw [HY.out.1], by rw [HY.out.2.1], by rw [HY.out.2.2, HC0.out], HB2.out⟩
          case measure => simp [intOf]; omega
    · obtain rfl : k = n := by omega
      have HBL := Lib.hid hbel
      clear hbel
      generalize hb : fgB f k = b at *
      generalize hm : fgM f k = m at *
      generalize hc : fgC k = c at *
      go_wp2
      go_ret3
      exact ⟨ret_t3 hb.symm hm.symm hc.symm, HBL.out⟩
set_option maxHeartbeats 2000000 in
set_option maxRecDepth 100000 in
theorem iSteepestOf_any (J : Int) (A : Option Addr) (cap : Nat) (xs : List Aw) (V : Value) (lv : List Int) (w : World) (hr : AwR w A xs) (hs : ∀ a ∈ xs, a.s.size ≤ maxLen) (hl : xs.length ≤ 1048576) (hv : Row .i64 w V lv) (hvl : lv.length ≤ 1048576) :
    Calls Try.prog 38 #[.agg #[.int .i64 J, .slice A xs.length cap], V] w fun e w' => e = .returned (.tuple #[.int .i64 (seA J xs lv), .int .i64 (seM J xs lv), .int .i64 (seC J xs lv)]) ∧ Below w.heap.size w w' := by
  obtain ⟨F, fcap, rfl⟩ := hv.form
  have HB0 := Lib.hid (below_box w (.cells #[.int .i64 J, .slice A xs.length cap] 36))
  have HA := Lib.hid (show (w.alloc (.cells #[.int .i64 J, .slice A xs.length cap] 36)).cell? ⟨w.heap.size, 1, none⟩ = some (.slice A xs.length cap) by simp)
  have HR := Lib.hid (hr.below HB0.out)
  have HV := Lib.hid (hv.below HB0.out)
  have HS := Lib.hid hs
  clear hr hv hs
  by_cases hc : rlB J xs lv = 0
  · have HE := Lib.hid (show seA J xs lv = fgB (slR xs lv) xs.length ∧ seM J xs lv = fgM (slR xs lv) xs.length ∧ seC J xs lv = fgC xs.length by simp [seA, seM, seC, hc])
    have HOK := Lib.hid (rlB_ok hc)
    go_enter Try.func38, Try.ntmps38
    go_wp2_with fail
    (with_reducible refine (reliefOf_ok J A cap xs _ lv (w.alloc (.cells #[.int .i64 J, .slice A xs.length cap] 36)) HR.out HS.out hl HV.out hvl hc).mono ?_)
    rintro e w1 ⟨rfl, hd1⟩
    have HB1 := Lib.hid (HB0.out.trans (hd1.mono HB0.out.size))
    have hm := cell_keep HA.out hd1
    have hw1 : w.heap.size < w1.heap.size := World.block_lt_of_cell? _ _ hm
    have hwn : ¬ (w.heap.size = w1.heap.size) := Nat.ne_of_lt hw1
    have HV1 := Lib.hid (RowW.of_row (HV.out.below hd1))
    have HR1 := Lib.hid (HR.out.below hd1)
    clear hd1
    have hB2 := below_box w1 (.cells #[.int .i64 J, .slice A xs.length cap, .slice F lv.length fcap] 72)
    have HV2 := Lib.hid (HV1.out.below hB2)
    have HR2 := Lib.hid (HR1.out.below hB2)
    have HB2 := Lib.hid (HB1.out.trans (hB2.mono HB1.out.size))
    clear hB2
    go_wp2_with fail
    (with_reducible refine (fgrSlope J A cap xs (.slice F lv.length fcap) (slR xs lv) xs.length _ hl (fun k w' hk hb => slope_any J A cap xs _ lv k w' (HR2.out.below hb) (HV2.out.below hb) HOK.out.1 HOK.out.2 hk)).mono ?_)
    rintro e w3 ⟨rfl, hd3⟩
    have HB3 := Lib.hid (HB2.out.trans (hd3.mono HB2.out.size))
    clear hd3
    go_wp2
    go_ret3
    exact ⟨ret_t3 HE.out.1.symm HE.out.2.1.symm HE.out.2.2.symm, HB3.out⟩
  · have HE := Lib.hid (show seA J xs lv = 0 ∧ seM J xs lv = 0 ∧ seC J xs lv = rlB J xs lv by simp [seA, seM, seC, hc])
    have hz1 : (rlB J xs lv != 0) = true := by simp [hc]
    have hz2 : (rlB J xs lv == 0) = false := by simp [hc]
    generalize hzz : rlB J xs lv = z at *
    go_enter Try.func38, Try.ntmps38
    go_wp2_with fail
    (with_reducible refine (reliefOf_bad J A cap xs _ lv (w.alloc (.cells #[.int .i64 J, .slice A xs.length cap] 36)) HR.out HS.out hl HV.out hvl (by rw [hzz]; exact hc)).mono ?_)
    rw [hzz]
    rintro e w1 ⟨rfl, hd1⟩
    have HB1 := Lib.hid (HB0.out.trans (hd1.mono HB0.out.size))
    clear hd1
    go_wp2
    go_ret3
    exact ⟨ret_t3 HE.out.1.symm HE.out.2.1.symm HE.out.2.2.symm, HB1.out.alloc HB1.out.size _⟩
set_option maxHeartbeats 2000000 in
set_option maxRecDepth 100000 in
theorem sSteepestOf_any (J : Int) (A : Option Addr) (cap : Nat) (xs : List Aw) (V : Value) (lv : List Int) (w : World) (hr : AwR w A xs) (hs : ∀ a ∈ xs, a.s.size ≤ maxLen) (hl : xs.length ≤ 1048576) (hv : Row .i64 w V lv) (hvl : lv.length ≤ 1048576) :
    Calls Try.prog 37 #[.agg #[.int .i64 J, .slice A xs.length cap], V] w fun e w' => e = .returned (.tuple #[.int .i64 (seA J xs lv), .int .i64 (seM J xs lv), .int .i64 (seC J xs lv)]) ∧ Below w.heap.size w w' := by
  obtain ⟨F, fcap, rfl⟩ := hv.form
  have HB0 := Lib.hid (below_box w (.cells #[.int .i64 J, .slice A xs.length cap] 36))
  have HOKC := Lib.hid (l04Ok_any w.heap.size J A cap xs (w.alloc (.cells #[.int .i64 J, .slice A xs.length cap] 36)) (by simp) (by simp) (hr.below HB0.out) hs hl)
  have HV := Lib.hid (RowW.of_row (hv.below HB0.out))
  have HJ := Lib.hid (show (w.alloc (.cells #[.int .i64 J, .slice A xs.length cap] 36)).cell? ⟨w.heap.size, 0, none⟩ = some (.int .i64 J) by simp)
  have HA := Lib.hid (show (w.alloc (.cells #[.int .i64 J, .slice A xs.length cap] 36)).cell? ⟨w.heap.size, 1, none⟩ = some (.slice A xs.length cap) by simp)
  have HR := Lib.hid (hr.below HB0.out)
  have HS := Lib.hid hs
  clear hr hv hs
  cases hok : mineOk J xs
  · have HE := Lib.hid (show seA J xs lv = 0 ∧ seM J xs lv = 0 ∧ seC J xs lv = 1 by simp [rlB, seA, seM, seC, hok])
    go_enter Try.func37, Try.ntmps37
    go_wp2_with fail
    (with_reducible refine (HOKC.out).mono ?_)
    rintro e w1 ⟨rfl, n, rfl⟩
    rw [hok]
    have HB1 := Lib.hid (show Below w.heap.size w ((w.alloc (.cells #[.int .i64 J, .slice A xs.length cap] 36)).drewN n) from below_drewN' HB0.out n)
    have HV1 := Lib.hid (show RowW .i64 ((w.alloc (.cells #[.int .i64 J, .slice A xs.length cap] 36)).drewN n) _ lv from HV.out)
    have HJ1 := Lib.hid (show ((w.alloc (.cells #[.int .i64 J, .slice A xs.length cap] 36)).drewN n).cell? ⟨w.heap.size, 0, none⟩ = some (.int .i64 J) from HJ.out)
    have HA1 := Lib.hid (show ((w.alloc (.cells #[.int .i64 J, .slice A xs.length cap] 36)).drewN n).cell? ⟨w.heap.size, 1, none⟩ = some (.slice A xs.length cap) from HA.out)
    have HR1 := Lib.hid (show AwR ((w.alloc (.cells #[.int .i64 J, .slice A xs.length cap] 36)).drewN n) A xs from HR.out)
    generalize (w.alloc (.cells #[.int .i64 J, .slice A xs.length cap] 36)).drewN n = W1 at *
    go_wp2
    go_ret3
    exact ⟨ret_t3 HE.out.1.symm HE.out.2.1.symm HE.out.2.2.symm, HB1.out⟩
  · cases hlv : lvOk J lv
    · have HE := Lib.hid (show seA J xs lv = 0 ∧ seM J xs lv = 0 ∧ seC J xs lv = 7 by simp [rlB, seA, seM, seC, hok, hlv])
      go_enter Try.func37, Try.ntmps37
      go_wp2_with fail
      (with_reducible refine (HOKC.out).mono ?_)
      rintro e w1 ⟨rfl, n, rfl⟩
      rw [hok]
      have HB1 := Lib.hid (show Below w.heap.size w ((w.alloc (.cells #[.int .i64 J, .slice A xs.length cap] 36)).drewN n) from below_drewN' HB0.out n)
      have HV1 := Lib.hid (show RowW .i64 ((w.alloc (.cells #[.int .i64 J, .slice A xs.length cap] 36)).drewN n) _ lv from HV.out)
      have HJ1 := Lib.hid (show ((w.alloc (.cells #[.int .i64 J, .slice A xs.length cap] 36)).drewN n).cell? ⟨w.heap.size, 0, none⟩ = some (.int .i64 J) from HJ.out)
      have HA1 := Lib.hid (show ((w.alloc (.cells #[.int .i64 J, .slice A xs.length cap] 36)).drewN n).cell? ⟨w.heap.size, 1, none⟩ = some (.slice A xs.length cap) from HA.out)
      have HR1 := Lib.hid (show AwR ((w.alloc (.cells #[.int .i64 J, .slice A xs.length cap] 36)).drewN n) A xs from HR.out)
      generalize (w.alloc (.cells #[.int .i64 J, .slice A xs.length cap] 36)).drewN n = W1 at *
      go_wp2_with (go_at_call 80; (with_reducible refine (l09Levels_any w.heap.size J _ lv W1 HJ1.out HV1.out (by omega)).mono ?_); rintro e w' ⟨rfl, rfl⟩; rw [hlv])
      go_ret3
      exact ⟨ret_t3 HE.out.1.symm HE.out.2.1.symm HE.out.2.2.symm, HB1.out⟩
    · have HE := Lib.hid (show seA J xs lv = fgB (slR xs lv) xs.length ∧ seM J xs lv = fgM (slR xs lv) xs.length ∧ seC J xs lv = fgC xs.length by simp [rlB, seA, seM, seC, hok, hlv])
      have h24 := (mineOk_iff.1 hok).2.2
      have hl16 : lv.length ≤ 16 := by have := (lvOk_iff.1 hlv).1; have := (mineOk_iff.1 hok).1; omega
      have HOK := Lib.hid hok
      have HLV := Lib.hid hlv
      by_cases hx0 : xs.length = 0
      · have HE2 := Lib.hid (show seA J xs lv = 0 ∧ seM J xs lv = 0 ∧ seC J xs lv = 3 by rw [HE.out.1, HE.out.2.1, HE.out.2.2, hx0]; exact ⟨rfl, rfl, rfl⟩)
        have t1 : ((xs.length : Int) == 0) = true := beq_iff_eq.2 (by omega)
        have t2 : decide ((xs.length : Int) = 0) = true := decide_eq_true (by omega)
        clear hx0
        go_enter Try.func37, Try.ntmps37
        go_wp2_with fail
        (with_reducible refine (HOKC.out).mono ?_)
        rintro e w1 ⟨rfl, n, rfl⟩
        rw [hok]
        have HB1 := Lib.hid (show Below w.heap.size w ((w.alloc (.cells #[.int .i64 J, .slice A xs.length cap] 36)).drewN n) from below_drewN' HB0.out n)
        have HV1 := Lib.hid (show RowW .i64 ((w.alloc (.cells #[.int .i64 J, .slice A xs.length cap] 36)).drewN n) _ lv from HV.out)
        have HJ1 := Lib.hid (show ((w.alloc (.cells #[.int .i64 J, .slice A xs.length cap] 36)).drewN n).cell? ⟨w.heap.size, 0, none⟩ = some (.int .i64 J) from HJ.out)
        have HA1 := Lib.hid (show ((w.alloc (.cells #[.int .i64 J, .slice A xs.length cap] 36)).drewN n).cell? ⟨w.heap.size, 1, none⟩ = some (.slice A xs.length cap) from HA.out)
        have HR1 := Lib.hid (show AwR ((w.alloc (.cells #[.int .i64 J, .slice A xs.length cap] 36)).drewN n) A xs from HR.out)
        generalize (w.alloc (.cells #[.int .i64 J, .slice A xs.length cap] 36)).drewN n = W1 at *
        have hm := HA1.out
        go_wp2_with (go_at_call 80; (with_reducible refine (l09Levels_any w.heap.size J _ lv W1 HJ1.out HV1.out (by omega)).mono ?_); rintro e w' ⟨rfl, rfl⟩; rw [hlv])
        go_ret3
        exact ⟨ret_t3 HE2.out.1.symm HE2.out.2.1.symm HE2.out.2.2.symm, HB1.out⟩
      · have t0 : ¬ (xs.length : Int) = 0 := by omega
        have t1 : ((xs.length : Int) == 0) = false := beq_false_of_ne t0
        have HZ := Lib.hid (show fgB (slR xs lv) 0 = 0 ∧ fgN (slR xs lv) 0 = -1 from ⟨rfl, rfl⟩)
        go_enter Try.func37, Try.ntmps37
        go_wp2_with fail
        (with_reducible refine (HOKC.out).mono ?_)
        rintro e w1 ⟨rfl, n, rfl⟩
        rw [hok]
        have HB1 := Lib.hid (show Below w.heap.size w ((w.alloc (.cells #[.int .i64 J, .slice A xs.length cap] 36)).drewN n) from below_drewN' HB0.out n)
        have HV1 := Lib.hid (show RowW .i64 ((w.alloc (.cells #[.int .i64 J, .slice A xs.length cap] 36)).drewN n) _ lv from HV.out)
        have HJ1 := Lib.hid (show ((w.alloc (.cells #[.int .i64 J, .slice A xs.length cap] 36)).drewN n).cell? ⟨w.heap.size, 0, none⟩ = some (.int .i64 J) from HJ.out)
        have HA1 := Lib.hid (show ((w.alloc (.cells #[.int .i64 J, .slice A xs.length cap] 36)).drewN n).cell? ⟨w.heap.size, 1, none⟩ = some (.slice A xs.length cap) from HA.out)
        have HR1 := Lib.hid (show AwR ((w.alloc (.cells #[.int .i64 J, .slice A xs.length cap] 36)).drewN n) A xs from HR.out)
        generalize (w.alloc (.cells #[.int .i64 J, .slice A xs.length cap] 36)).drewN n = W1 at *
        have hm := HA1.out
        go_wp2_with (go_at_call 80; (with_reducible refine (l09Levels_any w.heap.size J _ lv W1 HJ1.out HV1.out (by omega)).mono ?_); rintro e w' ⟨rfl, rfl⟩; rw [hlv])
        clear hm
        go_loopw [7, 8, 9] (fun b m i wr => ∃ k n : Nat, k ≤ xs.length ∧ i = .int .i64 k ∧ b = .int .i64 (fgB (slR xs lv) k) ∧ m = .int .i64 (fgN (slR xs lv) k) ∧ Hid (wr = W1.drewN n)) (fun b m i wr => xs.length - (intOf i).toNat)
        case atStart => exact ⟨0, 0, by omega, rfl, by rw [HZ.out.1], by rw [HZ.out.2], Lib.hid rfl⟩
        case round =>
          obtain ⟨k, n, hk, rfl, rfl, rfl, hwr⟩ := hrel
          have hm : wr.cell? ⟨w.heap.size, 1, none⟩ = some (.slice A xs.length cap) := by rw [hwr.out]; exact HA1.out
          by_cases hlt : k < xs.length
          · obtain ⟨fn, tn, hf, ht, h1, h2⟩ := ends_nat HOK.out HLV.out hlt
            have HRI := Lib.hid (riR_eq (lv := lv) hlt hf ht)
            have HV2 := Lib.hid (show RowW .i64 wr _ lv by rw [hwr.out]; exact HV1.out)
            have HR2 := Lib.hid (show AwR wr A xs by rw [hwr.out]; exact HR1.out)
            obtain ⟨lb, lo, rfl, -, d2⟩ := RowW.cell HV2.out h2
            obtain ⟨lb', lo', e', -, d1⟩ := RowW.cell HV2.out h1
            injection e' with e'; injection e' with e1 e2; subst e1; subst e2
            obtain ⟨gb, gof, rfl, hrg⟩ := HR2.out k hlt
            obtain ⟨⟨c0, c1, c2, c3⟩, c4, c5, c6⟩ := lay_row hrg
            rw [hf] at c1
            rw [ht] at c2
            obtain ⟨b1, b2⟩ := lv_bd HLV.out tn
            obtain ⟨b3, b4⟩ := lv_bd HLV.out fn
            obtain ⟨b5, b6⟩ := len_bd HOK.out hlt
            have HSL := Lib.hid (show slR xs lv k = 1000 * absR (lv.getD tn 0 - lv.getD fn 0) / xs[k].l by unfold slR; rw [HRI.out, getD_of_lt hlt])
            have HSB := Lib.hid (slR_bd (xs := xs) HLV.out HOK.out hlt)
            have HCE := Lib.hid (fun (h : k ≠ 0) => (fgN_eq (f := slR xs lv) h))
            clear c0 c4 c5 c6 hrg hf ht
            generalize xs[k].l = l at *
            generalize lv.getD tn 0 = y at *
            generalize lv.getD fn 0 = z at *
            have hab := absR_cases (y - z)
            obtain ⟨b7, b8⟩ : 0 ≤ absR (y - z) ∧ absR (y - z) ≤ 6000 := by omega
            clear hab
            have hw1 : IntKind.i64.wrap (y - z) = y - z := IntWalk.i64_in _ (by omega)
            have hw2 : IntKind.i64.wrap (1000 * absR (y - z)) = 1000 * absR (y - z) := IntWalk.i64_in _ (by omega)
            have hl0 : ¬ l = 0 := by omega
            have htd : (1000 * absR (y - z)).tdiv l = 1000 * absR (y - z) / l := Int.tdiv_eq_ediv_of_nonneg (by omega)
            have hq0 : 0 ≤ 1000 * absR (y - z) / l := Int.ediv_nonneg (by omega) (by omega)
            have hq1 := Int.ediv_le_self (a := 1000 * absR (y - z)) l (by omega)
            have hw3 : wrap64 (1000 * absR (y - z) / l) = 1000 * absR (y - z) / l := by unfold wrap64; omega
            have hw4 : IntKind.i64.wrap (1000 * absR (y - z) / l) = 1000 * absR (y - z) / l := IntWalk.i64_in _ (by omega)
            by_cases hcm : fgN (slR xs lv) k < slR xs lv k
            · have HCY := Lib.hid (show k = 0 ∨ fgM (slR xs lv) k < slR xs lv k from by
                by_cases h0 : k = 0
                · exact Or.inl h0
                · exact Or.inr (by rw [← HCE.out h0]; exact hcm))
              have HY := Lib.hid (fg_yes (f := slR xs lv) (k := k) HCY.out)
              have HNN := Lib.hid (show fgN (slR xs lv) (k + 1) = fgM (slR xs lv) (k + 1) from fgN_eq (by omega))
              rw [HSL.out] at hcm HY
              generalize hmm : fgN (slR xs lv) k = m at *
              generalize hbb : fgB (slR xs lv) k = b at *
              go_wp2_with fail
              go_quiet ((go_at_call 84; exact quiet_lft (l03Abs_any _ _ (by omega) (by omega))))
              go_wp2
              go_roundw
              case rel => exact ⟨k + 1, _, by omega, by go_num, by rw [HY.out.1], by rw [HNN.out, HY.out.2.1], Lib.hid (by rw [hwr.out]; first | rfl | exact World.drewN_drewN _ _ _)⟩
              case measure => simp [intOf]; omega
            · have h0 : k ≠ 0 := by
                intro h0
                subst h0
                rw [HZ.out.2] at hcm
                have := HSB.out.1
                omega
              replace HCE := Lib.hid (HCE.out h0)
              have HCY := Lib.hid (And.intro h0 (show ¬ fgM (slR xs lv) k < slR xs lv k by rw [← HCE.out]; exact hcm))
              have HY := Lib.hid (fg_no (f := slR xs lv) HCY.out.1 HCY.out.2)
              have HNN := Lib.hid (show fgN (slR xs lv) (k + 1) = fgM (slR xs lv) (k + 1) from fgN_eq (by omega))
              rw [HSL.out] at hcm
              generalize hmm : fgN (slR xs lv) k = m at *
              generalize hbb : fgB (slR xs lv) k = b at *
              have hcd : decide (m < 1000 * absR (y - z) / l) = false := decide_eq_false hcm
              go_wp2_with fail
              go_quiet ((go_at_call 84; exact quiet_lft (l03Abs_any _ _ (by omega) (by omega))))
              go_wp2
              go_roundw
              case rel => exact ⟨k + 1, _, by omega, by go_num, by rw [HY.out.1], by rw [HNN.out, HY.out.2.1, ← HCE.out], Lib.hid (by rw [hwr.out]; first | rfl | exact World.drewN_drewN _ _ _)⟩
              case measure => simp [intOf]; omega
          · obtain rfl : k = xs.length := by omega
            have HNN := Lib.hid (show fgN (slR xs lv) xs.length = fgM (slR xs lv) xs.length from fgN_eq hx0)
            have HEC := Lib.hid (show fgC xs.length = 0 by unfold fgC; rw [if_neg hx0])
            generalize hbb : fgB (slR xs lv) xs.length = b at *
            generalize hmm : fgN (slR xs lv) xs.length = m at *
            have HBW := Lib.hid (show Below w.heap.size w wr by rw [hwr.out]; exact below_drewN' HB1.out n)
            go_wp2
            go_ret3
            exact ⟨ret_t3 HE.out.1.symm (HNN.out.trans HE.out.2.1.symm) (by rw [HE.out.2.2, HEC.out]), HBW.out⟩
end Go.Proofs.Ytjooebiiceillaa
