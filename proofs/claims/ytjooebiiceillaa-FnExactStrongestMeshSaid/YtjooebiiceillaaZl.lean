/-
  Contracts of chapter 9: the draught along a walk; the model's and the program's. Conditions: those that each theorem states.
-/
import Derived.RangeFuncNested
import Derived.RangeFuncBound
import Derived.RangeFuncCalls
import Derived.RangeFuncLeaves
import Derived.Shelf.Abstract
import Derived.Shelf.RegionOpen
import Derived.WalkKit
import Derived.OwnWalkIn
import Derived.TacticsInMore
import Derived.LoopNIn
import Derived.LoopIn
import Derived.Test.YtjooebiiceillaaZk
import Derived.Test.YtjooebiiceillaaZd
namespace Go.Proofs.Ytjooebiiceillaa
open Go.RowKit Go.Shelf
set_option linter.unusedVariables false
set_option linter.unusedSimpArgs false
attribute [local go_sem] Oper.semAt_some

theorem draT_at {xs : List Aw} {lv tp : List Int} {n q : Nat} (h : q < n) : (draT xs lv tp n).getD q 0 = draR xs lv tp q := by
  simp [draT, List.getD, h]
theorem sumY_bd {m : Nat} {ds : List Int} (h : ∀ j : Nat, -1489158000 ≤ ds.getD j 0 ∧ ds.getD j 0 ≤ 1489158000) (pre : List (St m)) : ∀ k : Nat, -1489158000 * (k : Int) ≤ sumY ds (pre.take k) ∧ sumY ds (pre.take k) ≤ 1489158000 * (k : Int)
  | 0 => by simp [sumY]
  | k + 1 => by
    have ih := sumY_bd h pre k
    by_cases hk : k < pre.length
    · rw [List.take_succ_eq_append_getElem hk, sumY_snoc]
      have hd := h pre[k].1.1
      have hs := pre[k].2.2
      generalize ds.getD pre[k].1.1 0 = d at *
      generalize pre[k].1.2 = sd at *
      rcases hs with rfl | rfl <;> omega
    · rw [List.take_of_length_le (by omega)]
      rw [List.take_of_length_le (by omega)] at ih
      omega
theorem draR_bd {J : Int} {xs : List Aw} {lv tp : List Int} (hlv : lvOk J lv = true) (hft : flOk (-300) 600 xs.length tp = true) (j : Nat) : -1489158000 ≤ (draT xs lv tp xs.length).getD j 0 ∧ (draT xs lv tp xs.length).getD j 0 ≤ 1489158000 := by
  by_cases hj : j < xs.length
  · rw [draT_at hj]
    have a := riR_bd (xs := xs) hlv j
    have b := tp_bd hft hj
    exact colR_bd b.1 b.2 a.1 a.2
  · rw [show (draT xs lv tp xs.length).getD j 0 = 0 by simp [draT, List.getD, hj]]; omega
set_option maxRecDepth 100000 in
set_option maxHeartbeats 4000000 in
theorem draughtAlong_st (J : Int) (A : Option Addr) (cap : Nat) (xs : List Aw) (V T : Value) (lv tp : List Int) (SA : Option Addr) (scap : Nat) (ys : List (St xs.length)) (w : World) (hr : AwR w A xs) (hv : RowW .i64 w V lv) (ht : RowW .i64 w T tp) (hok : mineOk J xs = true) (hlv : lvOk J lv = true) (hft : flOk (-300) 600 xs.length tp = true)
    (hyl : ys.length ≤ 64) (hS : ∀ (j : Nat) (h : j < ys.length), ∃ b off, SA = some ⟨b, off, none⟩ ∧ w.cell? ⟨b, off + j, none⟩ = some (.int .i64 (stZ ys[j]))) :
    Calls Try.prog 71 #[.agg #[.int .i64 J, .slice A xs.length cap, V, T], .slice SA ys.length scap] w fun e w' => e = .returned (.int .i64 (sumY (draT xs lv tp xs.length) ys)) ∧ Below w.heap.size w w' := by
  obtain ⟨F, fcap, rfl, _⟩ := id hv
  obtain ⟨G, gcap, rfl, _⟩ := id ht
  have h24 := (mineOk_iff.1 hok).2.2
  have HB0 := Lib.hid (below_box w (.cells #[.int .i64 J, .slice A xs.length cap, .slice F lv.length fcap, .slice G tp.length gcap] 74))
  have HR := Lib.hid (hr.below HB0.out)
  have HV := Lib.hid (hv.below HB0.out)
  have HT := Lib.hid (ht.below HB0.out)
  have HC := Lib.hid (show (w.alloc (.cells #[.int .i64 J, .slice A xs.length cap, .slice F lv.length fcap, .slice G tp.length gcap] 74)).cell? ⟨w.heap.size, 0, none⟩ = some (.int .i64 J) ∧ (w.alloc (.cells #[.int .i64 J, .slice A xs.length cap, .slice F lv.length fcap, .slice G tp.length gcap] 74)).cell? ⟨w.heap.size, 1, none⟩ = some (.slice A xs.length cap) ∧ (w.alloc (.cells #[.int .i64 J, .slice A xs.length cap, .slice F lv.length fcap, .slice G tp.length gcap] 74)).cell? ⟨w.heap.size, 2, none⟩ = some (.slice F lv.length fcap) ∧ (w.alloc (.cells #[.int .i64 J, .slice A xs.length cap, .slice F lv.length fcap, .slice G tp.length gcap] 74)).cell? ⟨w.heap.size, 3, none⟩ = some (.slice G tp.length gcap) from ⟨by simp, by simp, by simp, by simp⟩)
  have HOK := Lib.hid (And.intro hok (And.intro hlv hft))
  have hsz : (w.alloc (.cells #[.int .i64 J, .slice A xs.length cap, .slice F lv.length fcap, .slice G tp.length gcap] 74)).heap.size = w.heap.size + 1 := by simp
  have HS := Lib.hid (show ∀ (j : Nat) (h : j < ys.length), ∃ b off, SA = some ⟨b, off, none⟩ ∧ b < w.heap.size + 1 ∧ (((w.alloc (.cells #[.int .i64 J, .slice A xs.length cap, .slice F lv.length fcap, .slice G tp.length gcap] 74)).alloc (.cells #[.int .i64 0] 2)).alloc (.cells #[.slice SA ys.length scap] 99)).cell? ⟨b, off + j, none⟩ = some (.int .i64 (stZ ys[j])) from fun j h => by
    obtain ⟨b, off, e, hc⟩ := hS j h
    have hb := World.block_lt_of_cell? _ _ hc
    exact ⟨b, off, e, by simp only at hb; omega, cell_keep hc (((below_box w _).alloc (by simp) _).alloc (by simp; omega) _)⟩)
  have HB3 := Lib.hid (show Below (w.heap.size + 1) (w.alloc (.cells #[.int .i64 J, .slice A xs.length cap, .slice F lv.length fcap, .slice G tp.length gcap] 74)) (((w.alloc (.cells #[.int .i64 J, .slice A xs.length cap, .slice F lv.length fcap, .slice G tp.length gcap] 74)).alloc (.cells #[.int .i64 0] 2)).alloc (.cells #[.slice SA ys.length scap] 99)) from (((Below.refl _ _).alloc (by simp) _).alloc (by simp) _))
  have hDR := Lib.hid (fun (W : World) (hW : Below (w.heap.size + 1) (w.alloc (.cells #[.int .i64 J, .slice A xs.length cap, .slice F lv.length fcap, .slice G tp.length gcap] 74)) W) (x : St xs.length) => draught_any J A cap xs (.slice F lv.length fcap) (.slice G tp.length gcap) lv tp x.1.1 W (HR.out.below (by rw [hsz]; exact hW)) (HV.out.below (by rw [hsz]; exact hW)) (HT.out.below (by rw [hsz]; exact hW)) hok hlv hft x.2.1)
  clear hr hv ht hok hlv hft hS
  refine (callsIn_wide (n := 3)).1 ?_
  refine callsIn_of_wp_marks Try.func71 rfl trivial ?_ rfl
  simp only [Try.ntmps71, List.size_toArray, List.length_cons, List.length_nil, Nat.reduceAdd, Nat.reduceSub, Array.replicate_succ, Array.replicate_zero, List.push_toArray, List.append_toArray, List.nil_append, List.cons_append]
  gi_wp2_with (refine ⟨trivial, ?_⟩; gi_at_call 112; refine (callsIn_wide.2 (airways_any _ _ _ _)).mono ?_; rintro e w' ⟨rfl, rfl⟩)
  have bS := Boxed.new (w.alloc (.cells #[.int .i64 J, .slice A xs.length cap, .slice F lv.length fcap, .slice G tp.length gcap] 74)) 2 (.int .i64 0)
  have bW := Boxed.new ((w.alloc (.cells #[.int .i64 J, .slice A xs.length cap, .slice F lv.length fcap, .slice G tp.length gcap] 74)).alloc (.cells #[.int .i64 0] 2)) 99 (.slice SA ys.length scap)
  rw [World.size_alloc, hsz] at bW
  rw [hsz] at bS
  refine wpIn_rangeFunc_ownG rfl (by omega) (gf := 126) (lb := #[.pointer (some ⟨w.heap.size + 1 + 1, 0, none⟩)]) rfl trivial (enters_of Try.func126 (by kernel_rfl) rfl)
    (airways_stops (3 - 1) (by omega) (w.heap.size + 1 + 1) (w.heap.size + 1) scap SA ys (by omega) (by omega) (((w.alloc (.cells #[.int .i64 J, .slice A xs.length cap, .slice F lv.length fcap, .slice G tp.length gcap] 74)).alloc (.cells #[.int .i64 0] 2)).alloc (.cells #[.slice SA ys.length scap] 99)) (by simp) (by simp) bW.cell HS.out) belowK_t (belowK_b (by simp)) (Below.refl _ _) (fun _ => rfl)
    (fun pre W => (W.cell? ⟨w.heap.size + 1, 0, none⟩ = some (.int .i64 (sumY (draT xs lv tp xs.length) pre)) ∧ W.frozen? ⟨w.heap.size + 1, 0, none⟩ = false) ∧ Below (w.heap.size + 1) (w.alloc (.cells #[.int .i64 J, .slice A xs.length cap, .slice F lv.length fcap, .slice G tp.length gcap] 74)) W)
    (fun _ _ _ => False)
    (OwnFrom.and (Own.from (fun s A B row hs hg hr => ⟨cell_kept hs.1 hg hr, (frozen_kept hs.1 hg hr).trans hs.2⟩) _) (ownFrom_below (by rw [hsz]; exact Nat.le_refl _) (by simp)))
    (fun _ _ _ _ _ hs _ _ => hs)
    ⟨⟨(bS.alloc _).cell, (bS.alloc _).frozen⟩, HB3.out⟩
    (fun x => { tmps := #[.agg #[.int .i64 J, .slice A xs.length cap, .slice F lv.length fcap, .slice G tp.length gcap], .slice SA ys.length scap, .pointer (some ⟨w.heap.size, 0, none⟩), undef, .int .i64 0, .pointer (some ⟨w.heap.size + 1, 0, none⟩), .int .i64 (x.1.1 : Int), .int .i64 x.1.2, .slice SA ys.length scap, .func (.func 126) #[] #[.pointer (some ⟨w.heap.size + 1 + 1, 0, none⟩)], .int .i64 (x.1.1 : Int), .int .i64 x.1.2, undef, undef, undef, undef, undef, undef, undef, undef], defers := [] }) ?assign ?body ?done ?stop
  case assign =>
    intro l x W K hK
    gi_wp2
    exact hK
  case body =>
    rintro l pre x W ⟨⟨hc, hf⟩, hB⟩ hlp
    have k0 := (hB.cell (p := ⟨w.heap.size, 0, none⟩) (by show w.heap.size < w.heap.size + 1; omega)).trans HC.out.1
    have k1 := (hB.cell (p := ⟨w.heap.size, 1, none⟩) (by show w.heap.size < w.heap.size + 1; omega)).trans HC.out.2.1
    have k2 := (hB.cell (p := ⟨w.heap.size, 2, none⟩) (by show w.heap.size < w.heap.size + 1; omega)).trans HC.out.2.2.1
    have k3 := (hB.cell (p := ⟨w.heap.size, 3, none⟩) (by show w.heap.size < w.heap.size + 1; omega)).trans HC.out.2.2.2
    have HSN := Lib.hid (sumY_snoc (draT xs lv tp xs.length) pre x)
    have hbd := sumY_bd (draR_bd HOK.out.2.1 HOK.out.2.2) pre pre.length
    rw [List.take_length] at hbd
    have hXW := hDR.out
    obtain ⟨⟨q, sd⟩, hq, hsd⟩ := x
    replace hXW := fun (W2 : World) (h2 : Below (w.heap.size + 1) (w.alloc (.cells #[.int .i64 J, .slice A xs.length cap, .slice F lv.length fcap, .slice G tp.length gcap] 74)) W2) => hXW W2 h2 ⟨(q, sd), hq, hsd⟩
    have hdb := draR_bd (xs := xs) HOK.out.2.1 HOK.out.2.2 q
    rw [draT_at hq] at hdb
    dsimp only at HSN hXW
    rw [draT_at hq] at HSN
    have HXW := Lib.hid hXW
    clear hXW
    obtain ⟨s, hs⟩ : ∃ s, sumY (draT xs lv tp xs.length) pre = s := ⟨_, rfl⟩
    rw [hs] at HSN hbd hc
    generalize draR xs lv tp q = d at *
    have hpd : -1489158000 ≤ sd * d ∧ sd * d ≤ 1489158000 := by rcases hsd with h | h <;> (simp only at h; subst h; omega)
    have hsb : -95306112000 ≤ s ∧ s ≤ 95306112000 := by omega
    clear hbd hs
    have hw1 : IntKind.i64.wrap (sd * d) = sd * d := IntWalk.i64_in _ (by omega)
    have hw2 : IntKind.i64.wrap (s + sd * d) = s + sd * d := IntWalk.i64_in _ (by omega)
    have hw3 : wrap64 (sd * d) = sd * d := by unfold wrap64; omega
    have hw4 : wrap64 (s + sd * d) = s + sd * d := by unfold wrap64; omega
    have hWs : w.heap.size + 1 < W.heap.size := World.block_lt_of_cell? _ _ hc
    have hmx : Try.prog.follows .mixedOrders = true := by kernel_rfl
    gi_wp2
    gi_region_with_o (refine ⟨trivial, ?_⟩; gi_at_call 65; refine (CallsIn.inRound l (callsIn_wide.2 (HXW.out _ (by first | exact hB | exact hB.drew)))).mono ?_; rintro e W2 ⟨rfl, hd⟩; have hc2 := cell_keep (w := W.drew) hc hd; have hf2 := (hd.frozen (p := ⟨w.heap.size + 1, 0, none⟩) (by show w.heap.size + 1 < W.heap.size; exact hWs)).trans hf; have hB2 := hB.drew.trans (hd.mono (by show w.heap.size + 1 ≤ W.heap.size; omega)))
    all_goals gi_wp2
    all_goals (try go_bits)
    all_goals
      have hdW : Below W.heap.size W W2 := (Below.refl W.heap.size W).drew.trans (hd.mono (show W.heap.size ≤ W.drew.heap.size from Nat.le_refl _))
      have hcs : (W2.setCell ⟨w.heap.size + 1, 0, none⟩ (.int .i64 (s + sd * d))).cell? ⟨w.heap.size + 1, 0, none⟩ = some (.int .i64 (s + sd * d)) := World.cell?_setCell_same' _ _ _ (by rw [hc2]; rfl)
      exact ⟨(show KeepsFrom _ W W2 from keeps_below hdW).trans ((KeepsOthers.setCell _ _ _).from _), ((show Below (w.heap.size + 1) W W2 from hdW.mono (by omega)).setCell (p := ⟨w.heap.size + 1, 0, none⟩) (Nat.le_refl _) _), ⟨by rw [HSN.out]; exact hcs, by rw [World.frozen?_setCell]; exact hf2⟩, hB2.setCell (p := ⟨w.heap.size + 1, 0, none⟩) (Nat.le_refl _) _⟩
  case done =>
    rintro D zs W hD rfl ⟨⟨hc, _⟩, hB⟩ hK
    gi_wp2
    refine ⟨by simp, .inl ⟨_, _, rfl, run_takeDeferred hK, ?_⟩⟩
    exact ⟨_, results_tmp rfl _ _ _, rfl, (below_box w _).trans ((hB.mono (Nat.le_succ _)).trans (belowK_b (w := w) (Nat.le_refl _) W D _ _ (by simp at hD; omega) hK rfl rfl))⟩
  case stop =>
    rintro D c pre W _ _ h _
    exact h.elim
end Go.Proofs.Ytjooebiiceillaa
