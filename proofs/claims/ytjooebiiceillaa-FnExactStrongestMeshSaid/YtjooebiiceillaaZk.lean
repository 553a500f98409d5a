/-
  Contracts: a walk's airways handed to a function (a range over a function), the draughts along a walk; the program's. Conditions: those that each theorem states.
-/
import Derived.RangeFuncNested
import Derived.RangeFuncBound
import Derived.RangeFuncCalls
import Derived.RangeFuncLeaves
import Derived.Shelf.Abstract
import Derived.Shelf.RegionOpen
import Derived.WalkKit
import Derived.OwnWalkIn
import Derived.TacticsInMore
import Derived.LoopNIn
import Derived.LoopIn
import Derived.Test.YtjooebiiceillaaZj
import Derived.Test.YtjooebiiceillaaZc
namespace Go.Proofs.Ytjooebiiceillaa
open Go.RowKit Go.Shelf
set_option linter.unusedVariables false
set_option linter.unusedSimpArgs false
attribute [local go_sem] Oper.semAt_some

/-- A step: an airway below m, and 1 or -1. -/
abbrev St (m : Nat) := { x : Nat × Int // x.1 < m ∧ (x.2 = 1 ∨ x.2 = -1) }
def stZ {m : Nat} (x : St m) : Int := x.1.2 * ((x.1.1 : Int) + 1)
theorem stZ_of {m : Nat} {z : Int} (h0 : z ≠ 0) (h1 : -(m : Int) ≤ z ∧ z ≤ m) : ∃ x : St m, stZ x = z := by
  obtain ⟨q, hq, -, hc⟩ := step_aw h0 h1
  rcases hc with ⟨-, h⟩ | ⟨-, h⟩
  · exact ⟨⟨(q, 1), hq, Or.inl rfl⟩, by unfold stZ; rw [h]; simp⟩
  · exact ⟨⟨(q, -1), hq, Or.inr rfl⟩, by unfold stZ; rw [h]; simp only; omega⟩
theorem sts_of {m : Nat} : ∀ zs : List Int, (∀ y ∈ zs, y ≠ 0 ∧ -(m : Int) ≤ y ∧ y ≤ m) → ∃ ys : List (St m), ys.map stZ = zs
  | [], _ => ⟨[], rfl⟩
  | z :: zs, h => by
    obtain ⟨ys, hy⟩ := sts_of zs (fun y hy => h y (List.mem_cons_of_mem _ hy))
    obtain ⟨x, hx⟩ := stZ_of (h z List.mem_cons_self).1 (h z List.mem_cons_self).2
    exact ⟨x :: ys, by rw [List.map_cons, hx, hy]⟩
/-- The sum of numbers of airways along steps. -/
def sumY {m : Nat} (ds : List Int) (pre : List (St m)) : Int := pre.foldl (fun s x => s + x.1.2 * ds.getD x.1.1 0) 0
theorem sumY_snoc {m : Nat} (ds : List Int) (pre : List (St m)) (x : St m) : sumY ds (pre ++ [x]) = sumY ds pre + x.1.2 * ds.getD x.1.1 0 := by simp [sumY]
theorem alV_st {m : Nat} (ds : List Int) (x : St m) : alV ds (stZ x) = x.1.2 * ds.getD x.1.1 0 := by
  obtain ⟨⟨q, sd⟩, hq, hs⟩ := x
  rcases hs with h | h
  · simp only at h; subst h; unfold stZ; simp only [Int.one_mul]; exact alV_at.1
  · simp only at h; subst h; unfold stZ; simp only; rw [show (-1 : Int) * ((q : Int) + 1) = -((q : Int) + 1) by omega, alV_at.2]; omega
theorem sumY_alS {m : Nat} (ds : List Int) (ys : List (St m)) : ∀ k, k ≤ ys.length → sumY ds (ys.take k) = alS ds (ys.map stZ) k
  | 0, _ => by simp [sumY, alS]
  | k + 1, h => by
    have hk : k < ys.length := by omega
    rw [List.take_succ_eq_append_getElem hk, sumY_snoc, sumY_alS ds ys k (by omega), alS, ← alV_st]
    congr 2
    simp [List.getD, hk]
theorem sumY_all {m : Nat} (ds : List Int) (ys : List (St m)) : sumY ds ys = alS ds (ys.map stZ) (ys.map stZ).length := by
  have := sumY_alS ds ys ys.length (Nat.le_refl _)
  rw [List.take_length] at this
  rw [this, List.length_map]
theorem cmpZ_any (z c : Int) (w : World) (h : (z < 0 ∧ c = -1) ∨ (0 < z ∧ c = 1)) : Calls Try.prog 127 #[.int .i64 z, .int .i64 0] w fun e w' => e = .returned (.int .i64 c) ∧ w = w' := by
  have hn : ∀ x : Int, Calls Try.prog 135 #[.int .i64 x] w fun e w' => e = .returned (.bool false) ∧ w = w' := fun x => by
    go_enter Try.func135, Try.ntmps135
    go_wp2
    go_ret
    exact ⟨rfl, rfl⟩
  rcases h with ⟨h, rfl⟩ | ⟨h, rfl⟩
  · go_enter Try.func127, Try.ntmps127
    go_wp2_with (go_at_call 135; (with_reducible refine (hn _).mono ?_); rintro e w' ⟨rfl, rfl⟩)
    go_ret
    exact ⟨rfl, rfl⟩
  · have h2 : ¬ z < 0 := by omega
    have h3 : decide (z < 0) = false := decide_eq_false h2
    go_enter Try.func127, Try.ntmps127
    go_wp2_with (go_at_call 135; (with_reducible refine (hn _).mono ?_); rintro e w' ⟨rfl, rfl⟩)
    go_ret
    exact ⟨rfl, rfl⟩
theorem absP_at (z m : Int) (w : World) (h : absR z = m) (h1 : -9223372036854775807 ≤ z) (h2 : z ≤ 9223372036854775807) : Calls Try.prog 89 #[.int .i64 z] w fun e w' => e = .returned (.int .i64 m) ∧ w = w' := h ▸ absolute_any z w h1 h2
theorem airways_any (SA : Option Addr) (sn sc : Nat) (w : World) : Calls Try.prog 112 #[.slice SA sn sc] w fun e w' => e = .returned (.func (.func 126) #[] #[.pointer (some ⟨w.heap.size, 0, none⟩)]) ∧ w' = w.alloc (.cells #[.slice SA sn sc] 99) := by
  go_enter Try.func112, Try.ntmps112
  go_wp2
  go_ret
  exact ⟨rfl, rfl⟩
set_option maxRecDepth 100000 in
set_option maxHeartbeats 4000000 in
theorem airways1_in {m : Nat} (n : Nat) (hn : 1 ≤ n) (l Bs n₀ cap : Nat) (SA : Option Addr) (ys : List (St m)) (hlen : ys.length ≤ 1048576) (hm : m ≤ 1048576) (J Jx : List (St m) → World → Prop)
    (hY : ∀ pre x W, J pre W → pre.length < ys.length → YieldAt Fence.wide (n - 1) Try.prog l #[.int .i64 (x.1.1 : Int), .int .i64 x.1.2] W fun e W' =>
      (e = .returned (.bool true) ∧ J (pre ++ [x]) W' ∧ Below n₀ W W') ∨ (e = .returned (.bool false) ∧ Jx (pre ++ [x]) W'))
    (W : World) (hBs : W.cell? ⟨Bs, 0, none⟩ = some (.slice SA ys.length cap)) (hc : ∀ (j : Nat) (h : j < ys.length), ∃ b off, SA = some ⟨b, off, none⟩ ∧ b < n₀ ∧ W.cell? ⟨b, off + j, none⟩ = some (.int .i64 (stZ ys[j]))) (h0 : J [] W) :
    CallsIn Fence.wide n Try.prog 126 #[.func (.yield l) #[] #[], .pointer (some ⟨Bs, 0, none⟩)] W fun e W' => (∃ v, e = .returned v) ∧
      ((∃ zs, zs = ys ∧ J zs W') ∨ (∃ pre, pre <+: ys ∧ Jx pre W')) := by
  have HC := Lib.hid hc
  have HY := Lib.hid hY
  clear hc hY
  refine callsIn_of_wp Try.func126 rfl trivial ?_ rfl
  simp only [Try.ntmps126, List.size_toArray, List.length_cons, List.length_nil, Nat.reduceAdd, Nat.reduceSub, Array.replicate_succ, Array.replicate_zero, List.push_toArray, List.append_toArray, List.nil_append, List.cons_append]
  gi_wp2
  gi_loopw [7] (fun i wr => ∃ k : Nat, k ≤ ys.length ∧ i = .int .i64 k ∧ J (ys.take k) wr ∧ Below n₀ W wr)
    (fun i _ => ys.length - (intOf i).toNat)
  case atStart => exact ⟨0, Nat.zero_le _, rfl, by simpa using h0, Below.refl _ _⟩
  case round =>
    obtain ⟨k, hk, rfl, hJs, hnx⟩ := hrel
    by_cases hlt : k < ys.length
    · obtain ⟨b, off, rfl, hb, hcw⟩ := HC.out k hlt
      have hcx := (hnx.cell (p := ⟨b, off + k, none⟩) hb).trans hcw
      obtain ⟨fn, tmps, assign, body, hy, hR⟩ := HY.out _ ys[k] wr hJs (by rw [List.length_take]; omega)
      have HT := Lib.hid (List.take_succ_eq_append_getElem hlt)
      clear hcw hJs
      generalize ys[k] = x at *
      obtain ⟨⟨q, sd⟩, hq, hsd⟩ := x
      unfold stZ at hcx
      dsimp only at hy hsd hcx hq hR
      have hwq : IntKind.i64.wrap (q : Int) = (q : Int) := IntWalk.i64_in _ (by omega)
      have hwq1 : IntKind.i64.wrap ((q : Int) + 1 - 1) = (q : Int) := by rw [IntWalk.i64_in _ (by omega)]; omega
      rcases hsd with rfl | rfl
      · have hcx' : wr.cell? ⟨b, off + k, none⟩ = some (.int .i64 ((q : Int) + 1)) := by rw [hcx]; congr 2; simp
        clear hcx
        have HAB := Lib.hid (show absR ((q : Int) + 1) = (q : Int) + 1 by unfold absR; rw [if_neg (by omega)])
        have HCM := Lib.hid (fun (w : World) => cmpZ_any ((q : Int) + 1) 1 w (by omega))
        generalize hzz : ((q : Int) + 1) = z at *
        have hz1 : -9223372036854775807 ≤ z := by omega
        have hz2 : z ≤ 9223372036854775807 := by omega
        clear hzz
        gi_wp2_with (first
          | (refine ⟨trivial, ?_⟩; gi_at_call 89; refine (callsIn_wide.2 (absP_at z _ wr HAB.out hz1 hz2)).mono ?_; rintro e w' ⟨rfl, rfl⟩)
          | (refine ⟨trivial, ?_⟩; gi_at_call 127; refine (callsIn_wide.2 (HCM.out wr)).mono ?_; rintro e w' ⟨rfl, rfl⟩))
        refine hR.mono ?_
        rintro e W3 (⟨rfl, hJ3, hk3⟩ | ⟨rfl, hJx3⟩)
        · gi_wp2
          go_roundw
          case rel => exact ⟨k + 1, by omega, by simp, by rw [HT.out]; exact hJ3, hnx.trans hk3⟩
          case measure => simp [intOf]; omega
        · gi_wp2
          refine bodyPost_ret (results_none rfl _ _ _) rfl ?_
          exact ⟨⟨_, rfl⟩, .inr ⟨_, List.take_prefix (k + 1) ys, by rw [HT.out]; exact hJx3⟩⟩
      · have hcx' : wr.cell? ⟨b, off + k, none⟩ = some (.int .i64 (-((q : Int) + 1))) := by rw [hcx]; congr 2; omega
        clear hcx
        have HAB := Lib.hid (show absR (-((q : Int) + 1)) = (q : Int) + 1 by unfold absR; rw [if_pos (by omega)]; omega)
        have HCM := Lib.hid (fun (w : World) => cmpZ_any (-((q : Int) + 1)) (-1) w (by omega))
        generalize hzz : (-((q : Int) + 1)) = z at *
        have hz1 : -9223372036854775807 ≤ z := by omega
        have hz2 : z ≤ 9223372036854775807 := by omega
        clear hzz
        gi_wp2_with (first
          | (refine ⟨trivial, ?_⟩; gi_at_call 89; refine (callsIn_wide.2 (absP_at z _ wr HAB.out hz1 hz2)).mono ?_; rintro e w' ⟨rfl, rfl⟩)
          | (refine ⟨trivial, ?_⟩; gi_at_call 127; refine (callsIn_wide.2 (HCM.out wr)).mono ?_; rintro e w' ⟨rfl, rfl⟩))
        refine hR.mono ?_
        rintro e W3 (⟨rfl, hJ3, hk3⟩ | ⟨rfl, hJx3⟩)
        · gi_wp2
          go_roundw
          case rel => exact ⟨k + 1, by omega, by simp, by rw [HT.out]; exact hJ3, hnx.trans hk3⟩
          case measure => simp [intOf]; omega
        · gi_wp2
          refine bodyPost_ret (results_none rfl _ _ _) rfl ?_
          exact ⟨⟨_, rfl⟩, .inr ⟨_, List.take_prefix (k + 1) ys, by rw [HT.out]; exact hJx3⟩⟩
    · obtain rfl : k = ys.length := by omega
      rw [List.take_length] at hJs
      gi_wp2
      go_end0
      exact ⟨⟨_, rfl⟩, .inl ⟨_, rfl, hJs⟩⟩
theorem airways_stops {m : Nat} (n : Nat) (hn : 1 ≤ n) (Bs n₀ cap : Nat) (SA : Option Addr) (ys : List (St m)) (hlen : ys.length ≤ 1048576) (hm : m ≤ 1048576) (w : World) (hBs : Bs < w.heap.size) (hn₀ : n₀ ≤ w.heap.size)
    (hc : w.cell? ⟨Bs, 0, none⟩ = some (.slice SA ys.length cap)) (hI : ∀ (j : Nat) (h : j < ys.length), ∃ b off, SA = some ⟨b, off, none⟩ ∧ b < n₀ ∧ w.cell? ⟨b, off + j, none⟩ = some (.int .i64 (stZ ys[j]))) :
    SeqStopsK Fence.wide n Try.prog 126 #[.pointer (some ⟨Bs, 0, none⟩)] (fun x : St m => #[Value.int .i64 (x.1.1 : Int), Value.int .i64 x.1.2]) (Below n₀) (fun zs => zs = ys) (fun pre => pre <+: ys) ys.length w := fun l J Jx W hW _ _ hY h0 =>
  airways1_in n hn l Bs n₀ cap SA ys hlen hm J Jx hY W ((hW.cell (p := ⟨Bs, 0, none⟩) hBs).trans hc) (fun j h => by
    obtain ⟨b, off, e, hb, h2⟩ := hI j h
    exact ⟨b, off, e, hb, (hW.cell (p := ⟨b, off + j, none⟩) (Nat.lt_of_lt_of_le hb hn₀)).trans h2⟩) h0
theorem keeps_below {B : Nat} {W W' : World} (h : Below W.heap.size W W') : KeepsFrom B W W' := ⟨h.size, fun k o _ hk _ => (h.block k (Array.getElem?_eq_some_iff.1 hk).1).trans hk⟩
end Go.Proofs.Ytjooebiiceillaa
