/-
  The walk of the law of loops: closed loops have no error, and each drop is changed by nearly the same. Conditions: those that each theorem states.
-/
import Derived.Test.YtbjfdhbgnklahaaHc
import Derived.Test.YtbjfdhbgnklahaaKb
import Derived.Maps.AppendAt
namespace Go.Proofs.Ytbjfdhbgnklahaa
open Go.RowKit
set_option linter.unusedVariables false
set_option linter.unusedSimpArgs false

theorem belowB (w : World) (o : Obj) : Below w.heap.size w (w.alloc o) := (Below.refl _ _).alloc (Nat.le_refl _) o
theorem r8Wide_fun (a : Option Addr) (len cap : Nat) (n : Int) (w0 : World) (hB : Byt w0 a len) (hl : len ≤ 1048576) (hn : 1 ≤ n ∧ n ≤ 100000) :
    ∃ f : Nat → Int, ∀ k : Nat, k ≤ 8 → (0 ≤ f k ∧ f k < n) ∧ ∀ w, Below w0.heap.size w0 w → Calls Try.prog 33 #[.slice a len cap, .int .i64 (1 + 2 * (k : Int)), .int .i64 n] w fun e w' => e = .returned (.int .i64 (f k)) ∧ w = w' := by
  have h : ∀ k : Nat, ∃ x : Int, k ≤ 8 → (0 ≤ x ∧ x < n) ∧ ∀ w, Below w0.heap.size w0 w → Calls Try.prog 33 #[.slice a len cap, .int .i64 (1 + 2 * (k : Int)), .int .i64 n] w fun e w' => e = .returned (.int .i64 x) ∧ w = w' := by
    intro k
    by_cases hk : k ≤ 8
    · obtain ⟨x, hx, hX⟩ := r8Wide_at a len cap (1 + 2 * k) n w0 hB hl (by omega) hn
      rw [show ((1 + 2 * k : Nat) : Int) = 1 + 2 * (k : Int) by omega] at hX
      exact ⟨x, fun _ => ⟨hx, hX⟩⟩
    · exact ⟨0, fun h => absurd h hk⟩
  exact ⟨fun k => Classical.choose (h k), fun k => Classical.choose_spec (h k)⟩
/-- A table of numbers. -/
def tabF (f : Nat → Int) (k : Nat) : List Int := (List.range k).map f
theorem tabF_succ (f : Nat → Int) (k : Nat) : tabF f (k + 1) = tabF f k ++ [f k] := by simp [tabF, List.range_succ]
theorem tabF_len (f : Nat → Int) (k : Nat) : (tabF f k).length = k := by simp [tabF]
theorem tabF_mem {f : Nat → Int} {k : Nat} {y : Int} (h : y ∈ tabF f k) : ∃ j, j < k ∧ y = f j := by
  obtain ⟨j, hj, rfl⟩ := List.mem_map.1 h
  exact ⟨j, by simpa using hj, rfl⟩
theorem tabF_get (f : Nat → Int) (k j : Nat) (h : j < k) : (tabF f k).getD j 0 = f j := by
  simp [tabF, List.getD_eq_getElem?_getD, h]
def absI (n : Int) : Int := if n < -n then -n else n
theorem r8Abs_any (n : Int) (w : World) (h : -1000000000000 ≤ n ∧ n ≤ 1000000000000) :
    Calls Try.prog 34 #[.int .i64 n] w fun e w' => e = .returned (.int .i64 (absI n)) ∧ w = w' := by
  obtain ⟨h1, h2⟩ := h
  by_cases h0 : n < -n
  · have HE := Lib.hid (show absI n = -n from if_pos h0)
    go_enter Try.func34, Try.ntmps34
    go_wp2
    all_goals first | (exfalso; omega) | (go_ret; exact ⟨ret_int (by rw [HE.out] <;> omega), rfl⟩)
  · have HE := Lib.hid (show absI n = n from if_neg h0)
    go_enter Try.func34, Try.ntmps34
    go_wp2
    all_goals first | (exfalso; omega) | (go_ret; exact ⟨ret_int (by rw [HE.out] <;> omega), rfl⟩)
theorem absI_nat (n : Int) : absI n = n.natAbs := by unfold absI; split <;> omega
/-- Two rows that lie apart. -/
def ApartV (u v : Value) : Prop := ∀ k, u.ownBlock = some k → v.ownBlock ≠ some k
theorem ApartV.symm {u v : Value} (h : ApartV u v) : ApartV v u := fun k e e2 => h k e2 e
theorem ApartV.moved {u v u' : Value} {n : Nat} (h : ApartV u v) (hl : u'.ownBlock = u.ownBlock ∨ u'.ownBlock = some n) (hv : ∀ k, v.ownBlock = some k → k < n) : ApartV u' v := by
  intro k e e2
  rcases hl with hl | hl
  · exact h k (hl ▸ e) e2
  · have := hv k e2
    rw [hl] at e
    injection e with e
    omega
theorem ApartV.keeps {w w' : World} {B e s n : Nat} {u v : Value} {xs : List Value} (h : ApartV u v) (hv : w.ownsRow B e s v n xs) (hg : w.grownBy w' u.ownBlock) : w'.ownsRow B e s v n xs := by
  refine hv.kept hg ?_
  cases e : v.ownBlock with
  | none => exact Or.inl rfl
  | some k => exact Or.inr fun e2 => h k e2.symm e
theorem sum_bd200 : ∀ xs : List Int, (∀ y ∈ xs, -200 ≤ y ∧ y ≤ 199) → -200 * (xs.length : Int) ≤ xs.sum ∧ xs.sum ≤ 200 * (xs.length : Int)
  | [], _ => by simp
  | x :: t, h => by
    have h1 := sum_bd200 t (fun y hy => h y (List.mem_cons_of_mem _ hy))
    have h2 := h x List.mem_cons_self
    rw [List.sum_cons, List.length_cons]
    omega
theorem sum_nn : ∀ xs : List Int, (∀ y ∈ xs, 0 ≤ y ∧ y ≤ 3999) → 0 ≤ xs.sum ∧ xs.sum ≤ 3999 * (xs.length : Int)
  | [], _ => by simp
  | x :: t, h => by
    have h1 := sum_nn t (fun y hy => h y (List.mem_cons_of_mem _ hy))
    have h2 := h x List.mem_cons_self
    rw [List.sum_cons, List.length_cons]
    omega
theorem loops_facts {xs ys : List Int} (hx : ∀ y ∈ xs, -200 ≤ y ∧ y ≤ 199) (hy : ∀ y ∈ ys, 0 ≤ y ∧ y ≤ 3999) (h1 : 1 ≤ xs.length) (hl : xs.length ≤ 8) (hl2 : ys.length ≤ 8) :
    (loopA xs = xs.sum ∧ loopB xs = 0) ∧ (closR xs = closeL xs ∧ closB xs = 0) ∧ (loopA (closeL xs) = 0 ∧ loopB (closeL xs) = 0) ∧ (junA ys ys = 0 ∧ junB ys ys = 0) ∧ (junA ys [] = ys.sum ∧ junB ys [] = 0) ∧ (0 ≤ ys.sum ∧ ys.sum ≤ 32000) ∧ -1600 ≤ xs.sum ∧ xs.sum ≤ 1600 ∧
    ∀ k (h : k < xs.length) (h' : k < (closeL xs).length), (-(absI xs.sum / xs.length + 1) ≤ xs[k] - (closeL xs)[k] ∧ xs[k] - (closeL xs)[k] ≤ absI xs.sum / xs.length + 1) ∧ (-200 ≤ xs[k] ∧ xs[k] ≤ 199) ∧ (-10000 ≤ (closeL xs)[k] ∧ (closeL xs)[k] ≤ 10000) := by
  have b1 := sum_bd200 xs hx
  have b2 := sum_nn ys hy
  have d1 : dropsL xs = true := dropsL_iff.2 ⟨fun y hy => by have := hx y hy; omega, by omega⟩
  have near : ∀ k (h : k < xs.length) (h' : k < (closeL xs).length), (-(absI xs.sum / xs.length + 1) ≤ xs[k] - (closeL xs)[k] ∧ xs[k] - (closeL xs)[k] ≤ absI xs.sum / xs.length + 1) ∧ (-200 ≤ xs[k] ∧ xs[k] ≤ 199) ∧ (-10000 ≤ (closeL xs)[k] ∧ (closeL xs)[k] ≤ 10000) := by
    intro k h h'
    have hn := close_near h
    rw [closeL_get, absI_nat]
    rw [show xs.getD k 0 = xs[k] by simp [List.getD, h]] at hn
    have hq := hx _ (List.getElem_mem h)
    have e1 : 0 ≤ (xs.sum.natAbs : Int) / xs.length := Int.ediv_nonneg (by omega) (by omega)
    have e2 : (xs.sum.natAbs : Int) / xs.length ≤ xs.sum.natAbs := Int.ediv_le_self _ (by omega)
    omega
  have d2 : dropsL (closeL xs) = true := dropsL_iff.2 ⟨fun y hy => by
    obtain ⟨k, hk, rfl⟩ := List.mem_iff_getElem.1 hy
    exact (near k (by rwa [closeL_len] at hk) hk).2.2, by rw [closeL_len]; omega⟩
  have d3 : flowsL ys = true := flowsL_good fun j h => by have := hy _ (List.getElem_mem h); omega
  have d4 : flowsL [] = true := flowsL_good fun j h => absurd h (by simp)
  have z := close_zero (xs := xs) (by intro e; rw [e] at h1; simp at h1)
  have hl3 : ys.length ≤ 64 := by omega
  refine ⟨⟨by simp [loopA, d1], by simp [loopB, d1]⟩, ⟨by simp [closR, d1], by simp [closB, d1]⟩, ⟨by simp [loopA, d2, z], by simp [loopB, d2]⟩, ⟨by simp [junA, d3, hl3], by simp [junB, d3, hl3]⟩, ⟨by simp [junA, d3, d4, hl3], by simp [junB, d3, d4, hl3]⟩, ⟨b2.1, by omega⟩, by omega, by omega, near⟩
theorem emptyRow2 (w : World) (o : Obj) : ((w.alloc o).alloc (.cells #[] 2)).ownsRow w.heap.size 2 1 (.slice (some ⟨w.heap.size + 1, 0, none⟩) 0 0) 0 [] := by
  have h := World.ownsRow_lit (base := w.heap.size) (e := 2) (size := 1) (w.alloc o) #[] 0 (by simp) (by simp [maxLen]) rfl
  rwa [World.size_alloc] at h
theorem emptyRow (w : World) : Row .i64 (w.alloc (.cells #[] 2)) (.slice (some ⟨w.heap.size, 0, none⟩) 0 0) [] := Row.of_own (B := w.heap.size) (World.ownsRow_lit (base := w.heap.size) w #[] 0 (Nat.le_refl _) (by simp [maxLen]) rfl)
theorem below_dr2 {B : Nat} {a w : World} (h : Below B a w) (n : Nat) : Below B a (w.drewN n) := ⟨h.os, h.tape, h.output, h.size, h.block⟩
theorem ownsRow_pos {w : World} {B e s n : Nat} {v : Value} {xs : List Value} (h : w.ownsRow B e s v n xs) (hn : 0 < n) : ∃ g cap, v = .slice (some ⟨g, 0, none⟩) n cap := by
  rcases h.2 with ⟨_, h0⟩ | ⟨g, cap, _, hv, _⟩
  · omega
  · exact ⟨g, cap, hv⟩
/-- The drops and the flows that are drawn: ten lists behind the loop. -/
def inLim (lo hi : Int) (f : Nat → Int) (n : Nat) : Prop := ∀ k, k < n → lo ≤ f k ∧ f k ≤ hi
set_option maxHeartbeats 2000000 in
set_option maxRecDepth 100000 in
theorem fnLoops_any (a : Option Addr) (len cap : Nat) (w : World) (hB : Byt w a len) :
    Calls Try.prog 10 #[.slice a len cap] w fun e w' => e = .returned (.bool true) ∧ Below w.heap.size w w' := by
  have HB := Lib.hid hB
  clear hB
  by_cases hlong : 1048576 < len
  · have t1 : (1048576 : Int) < (len : Int) := by omega
    go_enter Try.func10, Try.ntmps10
    go_wp2
    go_ret
    exact ⟨rfl, Below.refl _ _⟩
  · have t1 : ¬ (1048576 : Int) < (len : Int) := by omega
    have hl : len ≤ 1048576 := by omega
    clear hlong
    obtain ⟨i0, hi, hz0, hz1, hz2⟩ := info_parts info_i64
    obtain ⟨x, hx, hX⟩ := r8At_at a len cap 0 8 w HB.out hl (by omega) (by omega)
    obtain ⟨f, hf⟩ := r8Wide_fun a len cap 400 w HB.out hl (by omega)
    obtain ⟨g, hg⟩ := r8Wide_fun a len cap 4000 w HB.out hl (by omega)
    obtain ⟨N, rfl, hN⟩ : ∃ N : Nat, x = N ∧ N < 8 := ⟨x.toNat, by omega, by omega⟩
    have HX := Lib.hid hX
    have HF := Lib.hid hf
    have HG := Lib.hid hg
    clear hX hf hg hx
    go_enter Try.func10, Try.ntmps10
    go_wp2
    go_loopw [3, 4, 5] (fun ds is k wr => ∃ j : Nat, j ≤ N + 1 ∧ k = .int .i64 j ∧ wr.ownsRow w.heap.size 2 1 ds j (intsV (tabF (fun i => f i - 200) j)) ∧ wr.ownsRow w.heap.size 2 1 is j (intsV (tabF g j)) ∧ ApartV ds is ∧ Below w.heap.size w wr) (fun ds is k wr => N + 1 - (intOf k).toNat)
    case atStart => exact ⟨0, by omega, rfl, (World.ownsRow_lit (base := w.heap.size) w #[] 0 (Nat.le_refl _) (by simp [maxLen]) rfl).alloc _, emptyRow2 w _, (by intro k e e2; revert e e2; simp [Value.ownBlock]; try omega), ((Below.refl _ _).alloc (Nat.le_refl _) _).alloc (by simp) _⟩
    case round =>
      obtain ⟨j, hj, rfl, hd, hi1, hap, hbel⟩ := hrel
      have hwsz := hbel.size
      by_cases hlt : j < N + 1
      · have t2 : (j : Int) < 1 + (N : Int) := by omega
        obtain ⟨⟨f1, f2⟩, hf⟩ := HF.out j (by omega)
        obtain ⟨⟨g1, g2⟩, hg⟩ := HG.out j (by omega)
        have H1 := Lib.hid (HX.out wr hbel)
        have H2 := Lib.hid (hf wr hbel)
        have HGJ := Lib.hid hg
        have HS := Lib.hid (And.intro (tabF_succ (fun i => f i - 200) j) (tabF_succ g j))
        have HAP := Lib.hid hap
        have HD := Lib.hid hd
        have HI := Lib.hid hi1
        have HBE := Lib.hid hbel
        clear hf hg hap hd hi1 hbel
        generalize hfj : f j = fj at *
        generalize hgj : g j = gj at *
        have HFJ := Lib.hid hfj
        have HFG := Lib.hid hgj
        clear hfj hgj
        go_wp2_with fail
        refine (H1.out).mono ?_
        rintro e w' ⟨rfl, rfl⟩
        go_wp2_with fail
        refine (H2.out).mono ?_
        rintro e w' ⟨rfl, rfl⟩
        go_wp2_with (first
          | (at_builtin; refine wpList_append_own_at _ rfl _ _ 35 rfl w.heap.size 2 i0 (.int .i64 0) 1 8 Try.underlying35 hi hz0 hz1 hz2 rfl (by decide) _ _ _ rfl (HD.out.alloc _) ⟨wr.heap.size, 0, none⟩ 1 1 [.int .i64 (fj - 200)] rfl rfl ?c1z ?c2z ?c3z ?c4z ?c5z ?_))
        case c1z => intro j u hj; match j, hj with | 0, hj => (simp at hj; subst hj; simp [Addr.add]) | j + 1, hj => (simp at hj)
        case c2z => simp [Value.oneCell']
        case c3z => unfold maxLen; omega
        case c4z => omega
        case c5z => (simp; omega)
        intro v1 w1 ho1 hg1 _ hl1
        have HO1 := Lib.hid ho1
        have hB1 : Below w.heap.size w w1 := (HBE.out.alloc HBE.out.size _).grown hg1 (by simp; omega) (fun k hk => (HD.out.lt k hk).1)
        have HI1 := Lib.hid (HAP.out.keeps (HI.out.alloc _) hg1)
        have HAP1 := Lib.hid (HAP.out.moved hl1 (fun k hk => by have := (HI.out.lt k hk).2; simp; omega))
        have HBE1 := Lib.hid hB1
        have hws1 : w.heap.size ≤ w1.heap.size := hB1.size
        have H3 := Lib.hid (HGJ.out w1 hB1)
        clear ho1 hg1 hl1 hB1 HGJ
        go_wp2_with fail
        refine (H3.out).mono ?_
        rintro e w' ⟨rfl, rfl⟩
        go_wp2_with (first
          | (at_builtin; refine wpList_append_own_at _ rfl _ _ 35 rfl w.heap.size 2 i0 (.int .i64 0) 1 8 Try.underlying35 hi hz0 hz1 hz2 rfl (by decide) _ _ _ rfl (HI1.out.alloc _) ⟨w1.heap.size, 0, none⟩ 1 1 [.int .i64 (gj)] rfl rfl ?c1z ?c2z ?c3z ?c4z ?c5z ?_))
        case c1z => intro j u hj; match j, hj with | 0, hj => (simp at hj; subst hj; simp [Addr.add]) | j + 1, hj => (simp at hj)
        case c2z => simp [Value.oneCell']
        case c3z => unfold maxLen; omega
        case c4z => omega
        case c5z => (simp; omega)
        intro v2 w2 ho2 hg2 _ hl2
        have HO2 := Lib.hid ho2
        have HBE2 := Lib.hid ((HBE1.out.alloc HBE1.out.size _).grown hg2 (by simp; omega) (fun k hk => (HI1.out.lt k hk).1))
        have HO1' := Lib.hid (HAP1.out.symm.keeps (HO1.out.alloc _) hg2)
        have HAP2 := Lib.hid ((HAP1.out.symm.moved hl2 (fun k hk => by have := (HO1.out.lt k hk).2; simp; omega)).symm)
        clear ho2 hg2 hl2
        go_wp2
        go_roundw
        case rel => exact ⟨j + 1, by omega, by go_num, (by rw [HS.out.1]; simpa [intsV, HFJ.out] using HO1'.out), (by rw [HS.out.2]; simpa [intsV, HFG.out] using HO2.out), HAP2.out, HBE2.out⟩
        case measure => simp [intOf]; omega
      · obtain rfl : j = N + 1 := by omega
        have H1 := Lib.hid (HX.out wr hbel)
        have t2 : ¬ (((N + 1 : Nat) : Int) < 1 + (N : Int)) := by omega
        have t3 : decide (((N + 1 : Nat) : Int) < 1 + (N : Int)) = false := decide_eq_false t2
        obtain ⟨xs, hxs⟩ : ∃ xs, tabF (fun i => f i - 200) (N + 1) = xs := ⟨_, rfl⟩
        obtain ⟨ys, hys⟩ : ∃ ys, tabF g (N + 1) = ys := ⟨_, rfl⟩
        have hxl : xs.length = N + 1 := by rw [← hxs]; exact tabF_len _ _
        have hyl : ys.length = N + 1 := by rw [← hys]; exact tabF_len _ _
        have FX := loops_facts (xs := xs) (ys := ys) (fun y hy => by
            rw [← hxs] at hy
            obtain ⟨j, hj, rfl⟩ := tabF_mem hy
            have := (HF.out j (by omega)).1
            show -200 ≤ f j - 200 ∧ f j - 200 ≤ 199
            omega) (fun y hy => by
            rw [← hys] at hy
            obtain ⟨j, hj, rfl⟩ := tabF_mem hy
            have := (HG.out j (by omega)).1
            omega) (by omega) (by omega) (by omega)
        obtain ⟨⟨l1, l2⟩, ⟨c1, c2⟩, ⟨z1, z2⟩, ⟨j1, j2⟩, ⟨k1, k2⟩, ⟨s1, s2⟩, s3, s4, FN⟩ := FX
        rw [hxs] at hd
        rw [hys] at hi1
        have HFN := Lib.hid FN
        clear FN
        obtain ⟨S, hS⟩ : ∃ S, xs.sum = S := ⟨_, rfl⟩
        obtain ⟨T, hT⟩ : ∃ T, ys.sum = T := ⟨_, rfl⟩
        have HLE := Lib.hid (fun v W (hv : Row .i64 W v xs) => iLoopError_any v xs W hv (by omega))
        have HCL := Lib.hid (fun v W (hv : Row .i64 W v xs) => iCloseLoop_any v xs W hv (by omega))
        have HLZ := Lib.hid (fun v W (hv : Row .i64 W v (closeL xs)) => iLoopError_any v (closeL xs) W hv (by rw [closeL_len]; omega))
        have HJ1 := Lib.hid (fun v u W (hv : Row .i64 W v ys) (hu : Row .i64 W u ys) => iJunctionError_any v u ys ys W hv hu (by omega) (by omega))
        have HJ2 := Lib.hid (fun v u W (hv : Row .i64 W v ys) (hu : Row .i64 W u []) => iJunctionError_any v u ys [] W hv hu (by omega) (by simp))
        rw [l1, l2, hS] at HLE
        rw [c1, c2] at HCL
        rw [z1, z2] at HLZ
        rw [j1, j2] at HJ1
        rw [k1, k2, hT] at HJ2
        rw [hT] at s1 s2
        rw [hS] at s3 s4 HFN
        have HCN := Lib.hid (closeL_len xs)
        clear l1 l2 c1 c2 z1 z2 j1 j2 k1 k2 hS hT hxs hys HF HG HX hap
        obtain ⟨gd, cd, rfl⟩ := ownsRow_pos hd (by omega)
        obtain ⟨gi, ci, rfl⟩ := ownsRow_pos hi1 (by omega)
        have RD := Lib.hid (show Row .i64 wr _ xs from Row.of_own hd)
        have RI := Lib.hid (show Row .i64 wr _ ys from Row.of_own hi1)
        have HBE := Lib.hid hbel
        clear hd hi1 hbel hj
        go_wp2_with fail
        refine (H1.out).mono ?_
        rintro e w' ⟨rfl, rfl⟩
        clear H1
        go_wp2_with fail
        refine (HLE.out _ _ RD.out).mono ?_
        rintro e w' ⟨rfl, rfl⟩
        go_wp2_with fail
        refine (HCL.out _ _ RD.out).mono ?_
        rintro e w1 ⟨vc, rfl, hoc, hbc⟩
        unfold OwnI at hoc
        rw [HCN.out, hxl] at hoc
        obtain ⟨gc, cc, rfl⟩ := ownsRow_pos hoc (by omega)
        have RC := Lib.hid (show Row .i64 w1 _ (closeL xs) from Row.of_own hoc)
        have RD1 := Lib.hid (RD.out.below hbc)
        have RI1 := Lib.hid (RI.out.below hbc)
        have HB1 := Lib.hid (show Below w.heap.size w w1 from HBE.out.trans (hbc.mono HBE.out.size))
        clear hoc hbc RD RI HBE HLE HCL
        go_wp2_with fail
        refine (HLZ.out _ _ RC.out).mono ?_
        rintro e w' ⟨rfl, rfl⟩
        go_wp2_with fail
        refine (HJ1.out _ _ _ RI1.out RI1.out).mono ?_
        rintro e w' ⟨rfl, rfl⟩
        go_wp2_with fail
        refine (HJ2.out _ _ _ (RI1.out.below (belowB _ _)) (emptyRow w1)).mono ?_
        rintro e w' ⟨rfl, rfl⟩
        obtain ⟨A, hA⟩ : ∃ A, absI S = A := ⟨_, rfl⟩
        have hA1 : 0 ≤ A ∧ A ≤ 1600 := by rw [← hA]; unfold absI; split <;> omega
        obtain ⟨hA1, hA2⟩ := hA1
        have HAB := Lib.hid (fun W => hA ▸ r8Abs_any S W (by omega))
        rw [hA] at HFN
        clear hA HLZ HJ1 HJ2
        go_wp2_with fail
        refine (HAB.out _).mono ?_
        rintro e w' ⟨rfl, rfl⟩
        have RC2 := Lib.hid (RC.out.below (belowB w1 (.cells #[] 2)))
        have RD2 := Lib.hid (RD1.out.below (belowB w1 (.cells #[] 2)))
        have HB2 := Lib.hid (HB1.out.alloc HB1.out.size (.cells #[] 2))
        clear RC RD1 RI1 HB1
        generalize w1.alloc (.cells #[] 2) = w2 at *
        have hq1 : 0 ≤ A / ((N : Int) + 1) := Int.ediv_nonneg hA1 (by omega)
        have hq2 : A / ((N : Int) + 1) ≤ 1600 := Int.le_trans (Int.ediv_le_self _ hA1) hA2
        have HF2 := Lib.hid (show ∀ k (h : k < xs.length) (h' : k < (closeL xs).length), (-(A / ((N : Int) + 1) + 1) ≤ xs[k] - (closeL xs)[k] ∧ xs[k] - (closeL xs)[k] ≤ A / ((N : Int) + 1) + 1) ∧ (-200 ≤ xs[k] ∧ xs[k] ≤ 199) ∧ (-10000 ≤ (closeL xs)[k] ∧ (closeL xs)[k] ≤ 10000) from fun k h h' => by
          have := HFN.out k h h'
          rwa [hxl, show ((N + 1 : Nat) : Int) = (N : Int) + 1 by omega] at this)
        clear HFN
        go_wp2_with fail
        generalize A / ((N : Int) + 1) = q at *
        go_loopw [17] (fun i wr => ∃ j : Nat, j ≤ N + 1 ∧ i = .int .i64 j ∧ Below w2.heap.size w2 wr) (fun i wr => N + 1 - (intOf i).toNat)
        case atStart => exact ⟨0, by omega, rfl, Below.refl _ _⟩
        case round =>
          obtain ⟨j, hj, rfl, hbel⟩ := hrel
          have HBL := Lib.hid hbel
          clear hbel
          by_cases hlt : j < N + 1
          · have hcl : (closeL xs).length = N + 1 := by rw [HCN.out, hxl]
            obtain ⟨b1, o1, e1, -, hc1⟩ := Row.cell (RD2.out.below HBL.out) (j := j) (by omega)
            obtain ⟨b2, o2, e2, -, hc2⟩ := Row.cell (RC2.out.below HBL.out) (j := j) (by omega)
            injection e1 with e1
            injection e2 with e2
            injection e1 with e1a e1b
            injection e2 with e2a e2b
            subst e1a e1b e2a e2b
            rw [Nat.zero_add] at hc1 hc2
            obtain ⟨⟨n1, n2⟩, ⟨n3, n4⟩, n5, n6⟩ := HF2.out j (by omega) (by omega)
            rw [show xs.getD j 0 = xs[j] by simp [List.getD, show j < xs.length by omega]] at hc1
            rw [show (closeL xs).getD j 0 = (closeL xs)[j] by simp [List.getD, show j < (closeL xs).length by omega]] at hc2
            generalize xs[j] = x at *
            generalize (closeL xs)[j] = c at *
            clear hcl
            have hab : ¬ q + 1 < absI (x - c) := by unfold absI; split <;> omega
            have hab2 : decide (q + 1 < absI (x - c)) = false := decide_eq_false hab
            have HRA := Lib.hid (fun W => r8Abs_any (x - c) W (by omega))
            have hw : IntKind.i64.wrap (x - c) = x - c := IntWalk.i64_in _ (by omega)
            go_wp2_with fail
            go_quiet ((go_at_call 34; exact Calls.quiet_of_same ((HRA.out _).mono fun _ _ h => ⟨h.1, h.2.symm⟩)))
            go_wp2
            go_roundw
            case rel => exact ⟨j + 1, by omega, by go_num, below_dr2 HBL.out _⟩
            case measure => simp [intOf]; omega
          · obtain rfl : j = N + 1 := by omega
            go_wp2
            go_ret
            exact ⟨rfl, HB2.out.trans (HBL.out.mono HB2.out.size)⟩
end Go.Proofs.Ytbjfdhbgnklahaa
