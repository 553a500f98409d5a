/-
  Marks on rows of rows of any size: what lies ahead of the copy and behind it stays. Conditions: those that each theorem states. Conditions: those that each theorem states.
-/
import Derived.Test.YthbofhlfggkolaaUy
import Derived.Test.YthbofhlfggkolaaWe
import Derived.Test.YthbofhlfggkolaaJo
namespace Go.Proofs.Ythbofhlfggkolaa
open Go.RowKit
set_option linter.unusedVariables false
set_option linter.unusedSimpArgs false

/-- Blocks ahead of B and from H on are as they were. -/
structure Mid (B H : Nat) (w w' : World) : Prop where
  os : w'.os = w.os
  tape : w'.tape = w.tape
  output : w'.output = w.output
  size : w.heap.size ≤ w'.heap.size
  block : ∀ k, k < w.heap.size → (k < B ∨ H ≤ k) → w'.heap[k]? = w.heap[k]?
theorem Mid.refl (B H : Nat) (w : World) : Mid B H w w := ⟨rfl, rfl, rfl, Nat.le_refl _, fun _ _ _ => rfl⟩
theorem Mid.grown {B H : Nat} {a w w' : World} {row : Option Nat} (h : Mid B H a w) (hg : w.grownBy w' row) (hr : ∀ k, row = some k → B ≤ k ∧ k < H) : Mid B H a w' :=
  ⟨hg.os.trans h.os, hg.tape.trans h.tape, hg.output.trans h.output, Nat.le_trans h.size hg.size, fun k hk hb => (hg.block k (Nat.lt_of_lt_of_le hk h.size) (fun e => by have := hr k e.symm; omega)).trans (h.block k hk hb)⟩
theorem Mid.below {B H B' : Nat} {a w w' : World} (h : Below B' a w) (m : Mid B H w w') (h1 : B' ≤ B) (h2 : B' ≤ w.heap.size) : Below B' a w' :=
  h.trans ⟨m.os, m.tape, m.output, m.size, fun k hk => m.block k (by omega) (.inl (by omega))⟩
theorem Mid.row {B H B' n : Nat} {T : TypeId} {w w' : World} {v : Value} {l : List Value} (h : w.ownsRow B' T 1 v n l) (m : Mid B H w w') (hf : ∀ q, v.ownBlock = some q → q < B ∨ H ≤ q) : w'.ownsRow B' T 1 v n l := by
  have hlt := fun q hq => World.ownsRow.lt h q hq
  refine ⟨h.1, h.2.imp id fun ⟨g, cap, cur, e, hg, hc, r⟩ => ⟨g, cap, cur, e, hg, ?_, r⟩⟩
  subst e
  rw [← hc]
  exact m.block g (hlt g rfl).2 (hf g rfl)
def OwnSSH (w : World) (B H : Nat) (v : Value) (xs : List (List Int)) : Prop :=
  ∃ vs, w.ownsRow B 43 1 v xs.length vs ∧ OwnRs w B vs xs ∧ (∀ k (h : k < vs.length), ∀ b, vs[k].ownBlock = some b → v.ownBlock ≠ some b) ∧ ∀ k (h : k < vs.length), ∀ b, vs[k].ownBlock = some b → b < H
theorem OwnSSH.of {w : World} {B : Nat} {v : Value} {xs : List (List Int)} (h : OwnSS w B v xs) : OwnSSH w B w.heap.size v xs := by
  obtain ⟨vs, h1, h2, h3⟩ := h
  exact ⟨vs, h1, h2, h3, fun k hk b e => (World.ownsRow.lt (h2.own k hk (by rw [← h2.len]; exact hk)) b e).2⟩
theorem OwnSSH.below {w w' : World} {B H : Nat} {v : Value} {xs : List (List Int)} (h : OwnSSH w B H v xs) (hb : Below w.heap.size w w') : OwnSSH w' B H v xs := by
  obtain ⟨vs, h1, h2, h3, h4⟩ := h
  exact ⟨vs, own_below h1 hb, h2.below hb, h3, h4⟩
theorem OwnSSH.ss {w : World} {B H : Nat} {v : Value} {xs : List (List Int)} (h : OwnSSH w B H v xs) : OwnSS w B v xs := by
  obtain ⟨vs, h1, h2, h3, -⟩ := h
  exact ⟨vs, h1, h2, h3⟩
theorem OwnSSH.form {w : World} {B H : Nat} {v : Value} {xs : List (List Int)} (h : OwnSSH w B H v xs) : ∃ A cap, v = .slice A xs.length cap := h.ss.form
theorem totS_cons (a : List Int) (r : List (List Int)) : ∀ i, totS (a :: r) (i + 1) = a.length + totS r i
  | 0 => by simp [totS]
  | i + 1 => by rw [totS, totS_cons a r i, totS]; simp; omega
theorem szSS_tot {left : Int} {xs : List (List Int)} (h0 : 0 ≤ left) (h : 0 ≤ szSS left xs) : (totS xs xs.length : Int) ≤ left := by
  unfold szSS at h
  split at h
  · omega
  · rename_i hl
    have key : ∀ (xs : List (List Int)) (left : Int), 0 ≤ left → 0 ≤ szRs left xs → (totS xs xs.length : Int) ≤ left := by
      intro xs
      induction xs with
      | nil => intro left h0 _; simpa [totS] using h0
      | cons x r ih =>
        intro left h0 h
        simp only [szRs] at h
        split at h
        · omega
        · have := ih _ (by omega) h
          rw [List.length_cons, totS_cons]
          push_cast
          omega
    have := key xs _ (by omega) h
    omega
theorem ss_markH {w w' : World} {B : Nat} {v : Value} {vs : List Value} {L : List (List Int)} {r : List Int} {j : Nat} (h1 : w.ownsRow B 43 1 v L.length vs) (h2 : OwnRs w B vs L) (h3 : ∀ k (h : k < vs.length), ∀ b, vs[k].ownBlock = some b → v.ownBlock ≠ some b) {H : Nat} (h4 : ∀ k (h : k < vs.length), ∀ b, vs[k].ownBlock = some b → b < H)
    (hj : j < vs.length) (hr : OwnI w' B vs[j] r) (hg : w.grownBy w' vs[j].ownBlock) : OwnSSH w' B H v (L.set j r) := by
  refine ⟨vs, ?_, ⟨by rw [List.length_set]; exact h2.len, fun i a b => ?_, h2.apart⟩, h3, h4⟩
  · rw [List.length_set]
    refine h1.kept hg ?_
    cases e : v.ownBlock with
    | none => exact Or.inl rfl
    | some q => exact Or.inr (fun e3 => h3 j hj q e3.symm e)
  · by_cases e : j = i
    · subst e
      rw [List.getElem_set_self]
      exact hr
    · rw [List.getElem_set_ne e]
      refine (h2.own i a (by rw [← h2.len]; exact a)).kept hg ?_
      cases e2 : vs[i].ownBlock with
      | none => exact Or.inl rfl
      | some q =>
        refine Or.inr (fun e3 => ?_)
        rcases Nat.lt_or_gt_of_ne e with q1 | q1
        · exact h2.apart j i hj a q1 q e3.symm e2
        · exact h2.apart i j a hj q1 q e2 e3.symm
set_option maxHeartbeats 2000000 in
theorem markInt64SSH_any (B H : Nat) (v : Value) (xs : List (List Int)) (k : Int) (w : World) (hv : OwnSSH w B H v xs) (hB : B ≤ w.heap.size) (hl : xs.length ≤ 1048576) (hrl : ∀ r ∈ xs, r.length ≤ 1048576) (hk : 0 ≤ k ∧ k ≤ 1000) (ht : totS xs xs.length ≤ 1048576) :
    Calls Try.prog 34 #[v, .int .i64 k] w fun e w' => e = .returned (.int .i64 (k + totS xs xs.length)) ∧ Mid B H w w' := by
  obtain ⟨A, cap, rfl⟩ := hv.form
  have HV := Lib.hid hv
  clear hv
  go_enter Try.func34, Try.ntmps34
  go_wp2
  go_loopw [1, 5] (fun kv iv wr => ∃ i : Nat, i ≤ xs.length ∧ iv = .int .i64 (i : Int) ∧ kv = .int .i64 (k + totS xs i) ∧ Hid (OwnSSH wr B H (.slice A xs.length cap) (mkS k xs i)) ∧ Hid (Mid B H w wr)) (fun kv iv wr => xs.length - (intOf iv).toNat)
  case atStart => exact ⟨0, by omega, rfl, by simp [totS], Lib.hid (by rw [mkS_zero]; exact HV.out), Lib.hid (Mid.refl _ _ _)⟩
  case round =>
    obtain ⟨i, hi, rfl, rfl, HO, HB⟩ := hrel
    by_cases hlt : i < xs.length
    · have hiI : (i : Int) < (xs.length : Int) := by omega
      obtain ⟨vs, h1, h2, h3, h4⟩ := HO.out
      have hvl : i < vs.length := by rw [h2.len, mkS_len]; exact hlt
      rw [mkS_len] at h1
      rcases id h1.2 with ⟨e, h0⟩ | ⟨g, cap', cur, e, hr⟩
      · omega
      injection e with e1 e2 e3
      subst e1 e3
      clear e2 hr
      have hc : wr.cell? ⟨g, i, none⟩ = some vs[i] := by rw [h1.cellAt i (by omega), List.getElem?_eq_getElem hvl]
      have hown := h2.own i hvl (by rw [mkS_len]; exact hlt)
      rw [mkS_at hlt] at hown
      have HS := Lib.hid (show ∀ (r : List Int) (w' : World), OwnI w' B vs[i] r → wr.grownBy w' vs[i].ownBlock → OwnSSH w' B H (.slice (some ⟨g, 0, none⟩) xs.length cap) ((mkS k xs i).set i r) from fun r w' hr hg => ss_markH (by rw [mkS_len]; exact h1) h2 h3 h4 hvl hr hg)
      have HP := Lib.hid (mkS_put (k := k) hlt)
      have HTS := Lib.hid (totS_succ hlt)
      have hle := totS_mono (xs := xs) (i + 1) (xs.length - (i + 1))
      rw [show i + 1 + (xs.length - (i + 1)) = xs.length by omega, totS_succ hlt] at hle
      have HQ := Lib.hid (fun b e => h4 i hvl b e)
      have hXl : xs[i].length ≤ 1048576 := hrl _ (List.getElem_mem hlt)
      clear h1 h2 h3 h4
      generalize vs[i] = vi at *
      generalize xs[i] = X at *
      obtain ⟨uA, uc, rfl⟩ := hown.form
      have HW := Lib.hid hown
      have hBw : B ≤ wr.heap.size := Nat.le_trans hB HB.out.size
      clear hown
      go_wp2_with fail
      (with_reducible refine (markInt64SB_any B _ X (k + totS xs i) _ HW.out (by omega) (by omega)).mono ?_)
      rintro e w2 ⟨rfl, ho, hg⟩
      have HO2 := Lib.hid (show OwnSSH w2 B H (.slice (some ⟨g, 0, none⟩) xs.length cap) (mkS k xs (i + 1)) from by rw [← HP.out]; exact HS.out _ _ ho hg)
      have HB2 := Lib.hid (HB.out.grown hg (fun j hj => ⟨(World.ownsRow.lt HW.out j hj).1, HQ.out j hj⟩))
      have hi1 : (i : Int) ≤ 1048576 := by omega
      clear ho hg
      go_wp2
      go_roundw
      case rel => exact ⟨i + 1, by omega, by go_num, by rw [HTS.out]; congr 1; omega, HO2, HB2⟩
      case measure => simp [intOf]; omega
    · obtain rfl : i = xs.length := by omega
      go_wp2
      go_ret
      exact ⟨rfl, HB.out⟩
end Go.Proofs.Ythbofhlfggkolaa
