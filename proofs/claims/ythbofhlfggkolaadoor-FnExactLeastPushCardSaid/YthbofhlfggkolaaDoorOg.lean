/-
  Contracts: the steps of a demand handed to a function (a range over a function); the program's. Conditions: those that each theorem states.
-/
import Derived.RangeFuncNested
import Derived.RangeFuncBound
import Derived.RangeFuncCalls
import Derived.RangeFuncLeaves
import Derived.Shelf.Abstract
import Derived.Shelf.RegionOpen
import Derived.WalkKit
import Derived.OwnWalkIn
import Derived.TacticsInMore
import Derived.LoopNIn
import Derived.LoopIn
import Derived.Test.YthbofhlfggkolaaDoorOe
namespace Go.Proofs.YthbofhlfggkolaaDoor
open Go.RowKit Go.Shelf
set_option linter.unusedVariables false
set_option linter.unusedSimpArgs false
attribute [local go_sem] Oper.semAt_some

/-- The steps of an airway, each with its gain, and those of the first k airways. -/
def stI (ex : List Int) (rg : List Bool) (i : Nat) : List (Int × Int) := ((i : Int) + 1, ex.getD i 0) :: (if rg.getD i false then [] else [(-((i : Int) + 1), -(ex.getD i 0))])
def stT (ex : List Int) (rg : List Bool) : Nat → List (Int × Int)
  | 0 => []
  | k + 1 => stT ex rg k ++ stI ex rg k
theorem stT_mono (ex : List Int) (rg : List Bool) {k : Nat} : ∀ n, k ≤ n → stT ex rg k <+: stT ex rg n
  | 0, h => by obtain rfl : k = 0 := by omega
               exact List.prefix_refl _
  | n + 1, h => by
    by_cases e : k = n + 1
    · subst e; exact List.prefix_refl _
    · exact (stT_mono ex rg n (by omega)).trans (List.prefix_append _ _)
theorem stT_lt (ex : List Int) (rg : List Bool) {k n : Nat} (h : k < n) : (stT ex rg k).length < (stT ex rg n).length := by
  have h1 := (stT_mono ex rg (k := k + 1) n (by omega)).length_le
  rw [stT, List.length_append] at h1
  have : 1 ≤ (stI ex rg k).length := by unfold stI; simp
  omega
theorem stT_lt2 (ex : List Int) (rg : List Bool) {k n : Nat} (h : k < n) (hr : rg.getD k false = false) : (stT ex rg k).length + 1 < (stT ex rg n).length := by
  have h1 := (stT_mono ex rg (k := k + 1) n (by omega)).length_le
  rw [stT, List.length_append] at h1
  have : 2 ≤ (stI ex rg k).length := by unfold stI; rw [hr]; simp
  omega
theorem st_reg {ex : List Int} {rg : List Bool} {k : Nat} (h : rg.getD k false = true) : stT ex rg (k + 1) = stT ex rg k ++ [((k : Int) + 1, ex.getD k 0)] := by
  rw [stT]; unfold stI; rw [if_pos h]
theorem st_free {ex : List Int} {rg : List Bool} {k : Nat} (h : rg.getD k false = false) : stT ex rg (k + 1) = (stT ex rg k ++ [((k : Int) + 1, ex.getD k 0)]) ++ [(-((k : Int) + 1), -(ex.getD k 0))] := by
  rw [stT]; unfold stI; rw [if_neg (by rw [h]; simp), List.append_assoc]; rfl
theorem st_pre1 (ex : List Int) (rg : List Bool) (k : Nat) : stT ex rg k ++ [((k : Int) + 1, ex.getD k 0)] <+: stT ex rg (k + 1) := by
  rw [stT]
  unfold stI
  exact ⟨(if rg.getD k false then [] else [(-((k : Int) + 1), -(ex.getD k 0))]), by rw [List.append_assoc]; rfl⟩
/-- All cells lie as they lay, but for those in some blocks. -/
def KS (S : Nat → Prop) (A B : World) : Prop := A.heap.size ≤ B.heap.size ∧ ∀ (p : Addr) (v : Value), ¬ S p.block → A.cell? p = some v → B.cell? p = some v
theorem KS.refl (S : Nat → Prop) (A : World) : KS S A A := ⟨Nat.le_refl _, fun _ _ _ h => h⟩
theorem KS.trans {S : Nat → Prop} {A B C : World} (h : KS S A B) (k : KS S B C) : KS S A C := ⟨Nat.le_trans h.1 k.1, fun p v hp hv => k.2 p v hp (h.2 p v hp hv)⟩
theorem ks_b {S : Nat → Prop} (W : World) (l : Nat) (o o' : Obj) (h : W.heap[l]? = some o) (ho : o.isCells = false) : KS S W (W.putObj l o') :=
  ⟨(grownBy_putObj' W l o').size, fun p v _ hv => cell_kept hv (grownBy_putObj' W l o') (fun r e => by cases e; exact ⟨o, h, ho⟩)⟩
theorem ownFrom_ks {β : Type} {S : Nat → Prop} {B : Nat} {w0 : World} : OwnFrom B (fun (_ : β) W => KS S w0 W) :=
  fun _ _ _ _ hs hg hr => ⟨Nat.le_trans hs.1 hg.size, fun p v hp h => cell_kept (hs.2 p v hp h) hg (fun r e => (hr r e).2)⟩
theorem KS.below {S : Nat → Prop} {A B : World} (h : Below A.heap.size A B) : KS S A B := ⟨h.size, fun p v _ hv => (h.cell (World.block_lt_of_cell? _ _ hv)).trans hv⟩
theorem KS.set {S : Nat → Prop} {A B : World} (h : KS S A B) {b o : Nat} (hb : S b) (v : Value) : KS S A (B.setCell ⟨b, o, none⟩ v) :=
  ⟨Nat.le_trans h.1 (by simp), fun p u hp hu => (World.cell?_setCell_other _ _ _ _ (fun e => hp (by subst e; exact hb))).trans (h.2 p u hp hu)⟩
theorem steps_any (J : Int) (A : Option Addr) (n cap : Nat) (X G : Value) (w : World) (hX : X.oneCell' = true) (hG : G.oneCell' = true) : Calls Tryd.prog 96 #[.agg #[.int .i64 J, .slice A n cap, X, G]] w fun e w' => e = .returned (.func (.func 112) #[] #[.pointer (some ⟨w.heap.size, 0, none⟩)]) ∧ w' = w.alloc (.cells #[.int .i64 J, .slice A n cap, X, G] 75) := by
  go_enter Tryd.func96, Tryd.ntmps96
  go_wp2
  go_ret
  exact ⟨rfl, rfl⟩
set_option maxRecDepth 100000 in
set_option maxHeartbeats 4000000 in
theorem steps1_in (n : Nat) (hn : 1 ≤ n) (l Bs xcap gcap : Nat) (S : Nat → Prop) (XA GA : Option Addr) (ex : List Int) (rg : List Bool) (hlen : ex.length ≤ 1000) (hgl : rg.length = ex.length) (hxb : ∀ i, i < ex.length → -2000000 ≤ ex.getD i 0 ∧ ex.getD i 0 ≤ 2000000) (J Jx : List (Int × Int) → World → Prop)
    (hY : ∀ pre x W, J pre W → pre ++ [x] <+: stT ex rg ex.length → YieldAt Fence.wide (n - 1) Tryd.prog l #[.int .i64 x.1, .int .i64 x.2] W fun e W' =>
      (e = .returned (.bool true) ∧ J (pre ++ [x]) W' ∧ KS S W W') ∨ (e = .returned (.bool false) ∧ Jx (pre ++ [x]) W'))
    (W : World) (hBn : ¬ S Bs) (hBc : W.cell? ⟨Bs, 2, none⟩ = some (.slice XA ex.length xcap) ∧ W.cell? ⟨Bs, 3, none⟩ = some (.slice GA rg.length gcap))
    (hX : ∀ (j : Nat) (h : j < ex.length), ∃ b off, XA = some ⟨b, off, none⟩ ∧ ¬ S b ∧ W.cell? ⟨b, off + j, none⟩ = some (.int .i64 (ex.getD j 0)))
    (hG : ∀ (j : Nat) (h : j < rg.length), ∃ b off, GA = some ⟨b, off, none⟩ ∧ ¬ S b ∧ W.cell? ⟨b, off + j, none⟩ = some (.bool rg[j])) (h0 : J [] W) :
    CallsIn Fence.wide n Tryd.prog 112 #[.func (.yield l) #[] #[], .pointer (some ⟨Bs, 0, none⟩)] W fun e W' => (∃ v, e = .returned v) ∧
      ((∃ zs, zs = stT ex rg ex.length ∧ J zs W') ∨ (∃ pre, pre <+: stT ex rg ex.length ∧ Jx pre W')) := by
  have HX := Lib.hid hX
  have HG := Lib.hid hG
  have HY := Lib.hid hY
  have HBC := Lib.hid hBc
  have HXB := Lib.hid hxb
  have c1 := hBc.1
  clear hX hG hY hBc hxb
  refine callsIn_of_wp Tryd.func112 rfl trivial ?_ rfl
  simp only [Tryd.ntmps112, List.size_toArray, List.length_cons, List.length_nil, Nat.reduceAdd, Nat.reduceSub, Array.replicate_succ, Array.replicate_zero, List.push_toArray, List.append_toArray, List.nil_append, List.cons_append]
  gi_wp2
  clear c1
  gi_loopw [9] (fun i wr => ∃ k : Nat, k ≤ ex.length ∧ i = .int .i64 k ∧ J (stT ex rg k) wr ∧ KS S W wr)
    (fun i _ => ex.length - (intOf i).toNat)
  case atStart => exact ⟨0, Nat.zero_le _, rfl, h0, KS.refl _ _⟩
  case round =>
    obtain ⟨k, hk, rfl, hJs, hnx⟩ := hrel
    by_cases hlt : k < ex.length
    · obtain ⟨xb, xoff, rfl, hxbn, D0⟩ := HX.out k hlt
      obtain ⟨gb, goff, rfl, hgb, R0⟩ := HG.out k (by omega)
      have c0 := hnx.2 ⟨xb, xoff + k, none⟩ _ hxbn D0
      obtain ⟨fn, tmps, assign, body, hy, hR⟩ := HY.out _ (((k : Int) + 1, ex.getD k 0) : Int × Int) wr hJs ((st_pre1 ex rg k).trans (stT_mono ex rg (k := k + 1) ex.length (by omega)))
      have HYk := Lib.hid (fun (h : rg.getD k false = false) W2 (hJ2 : J (stT ex rg k ++ [((k : Int) + 1, ex.getD k 0)]) W2) => HY.out _ ((-((k : Int) + 1), -(ex.getD k 0)) : Int × Int) W2 hJ2 (by rw [← st_free h]; exact stT_mono ex rg (k := k + 1) ex.length (by omega)))
      have hrk : rg.getD k false = rg[k]'(by omega) := by simp [List.getD, show k < rg.length by omega]
      have HT1 := Lib.hid (fun h => st_reg (ex := ex) (rg := rg) (k := k) h)
      have HT2 := Lib.hid (fun h => st_free (ex := ex) (rg := rg) (k := k) h)
      have hxk := HXB.out k hlt
      have HP1 := Lib.hid (st_pre1 ex rg k)
      have HPN := Lib.hid (stT_mono ex rg (k := k + 1) ex.length (by omega))
      rw [hrk] at HYk HT1 HT2
      generalize rg[k]'(by omega) = r at *
      generalize ex.getD k 0 = x at *
      clear hJs hrk
      have hki : (k : Int) < (ex.length : Int) := by omega
      have hkg : (k : Int) < (rg.length : Int) := by omega
      have hkn : k < rg.length := by omega
      have HGL := Lib.hid hgl
      clear hgl
      dsimp only at hy hR
      gi_wp2
      refine hR.mono ?_
      rintro e W3 (⟨rfl, hJ3, hk3⟩ | ⟨rfl, hJx3⟩)
      · have hn3 := hnx.trans hk3
        have c2' := hn3.2 ⟨Bs, 3, none⟩ _ hBn HBC.out.2
        have r0' := hn3.2 ⟨gb, goff + k, none⟩ _ hgb R0
        cases r
        · have HT3 := Lib.hid (HT2.out rfl)
          clear HT1 HT2
          obtain ⟨fn2, tmps2, assign2, body2, hy2, hR2⟩ := HYk.out rfl W3 hJ3
          try dsimp only at hy2 hR2
          have hwx : wrap64 (-x) = -x := by unfold wrap64; omega
          gi_wp2
          refine hR2.mono ?_
          rintro e W4 (⟨rfl, hJ4, hk4⟩ | ⟨rfl, hJx4⟩)
          · gi_wp2
            go_roundw
            case rel => exact ⟨k + 1, by omega, by simp, by rw [HT3.out]; exact hJ4, hn3.trans hk4⟩
            case measure => simp [intOf]; omega
          · gi_wp2
            refine bodyPost_ret (results_none rfl _ _ _) rfl ?_
            exact ⟨⟨_, rfl⟩, .inr ⟨_, HT3.out ▸ HPN.out, hJx4⟩⟩
        · have HT3 := Lib.hid (HT1.out rfl)
          clear HT1 HT2
          gi_wp2
          refine ⟨(fun f h => by cases h), ?_⟩
          gi_wp2
          go_roundw
          case rel => exact ⟨k + 1, by omega, by simp, by rw [HT3.out]; exact hJ3, hn3⟩
          case measure => simp [intOf]; omega
      · gi_wp2
        case h_3 => (exfalso; obtain ⟨b, hb⟩ : ∃ b, some undef = some (Value.bool b) := ⟨_, by assumption⟩; simp [undef] at hb)
        case h_2 => (exfalso; obtain ⟨b, hb⟩ : ∃ b, some undef = some (Value.bool b) := ⟨_, by assumption⟩; simp [undef] at hb)
        refine ⟨(fun f h => by cases h), ?_⟩
        gi_wp2
        refine bodyPost_ret (results_none rfl _ _ _) rfl ?_
        exact ⟨⟨_, rfl⟩, .inr ⟨_, HP1.out.trans HPN.out, hJx3⟩⟩
    · obtain rfl : k = ex.length := by omega
      clear hgl
      gi_wp2
      go_end0
      exact ⟨⟨_, rfl⟩, .inl ⟨_, rfl, hJs⟩⟩
end Go.Proofs.YthbofhlfggkolaaDoor
