/-
  Contracts of the laws' helpers on slices of strings that a call made: held against each other, marked, looked at again. Conditions: those that each theorem states.
-/
import Derived.Test.YtofpecgmnodflaaMx
import Derived.Test.YtofpecgmnodflaaNe
namespace Go.Proofs.Ytofpecgmnodflaa
open Go.RowKit
set_option linter.unusedVariables false
set_option linter.unusedSimpArgs false

/-- A row of strings that a call made, in blocks from B on. -/
def OwnS (w : World) (B : Nat) (v : Value) (ps : List ByteArray) : Prop := w.ownsRow B 9 1 v ps.length (strsN ps)
theorem OwnS.below {w w' : World} {B : Nat} {v : Value} {ps : List ByteArray} (h : OwnS w B v ps) (hb : Below w.heap.size w w') : OwnS w' B v ps := own_below h hb
theorem OwnS.form {w : World} {B : Nat} {v : Value} {ps : List ByteArray} (h : OwnS w B v ps) : ∃ A cap, v = .slice A ps.length cap := by
  rcases h.2 with ⟨rfl, h0⟩ | ⟨g, cap, cur, rfl, hr⟩
  · exact ⟨none, 0, by rw [h0]⟩
  · exact ⟨_, cap, rfl⟩
theorem OwnS.cell {w : World} {B n cap : Nat} {A : Option Addr} {ps : List ByteArray} (h : OwnS w B (.slice A n cap) ps) {j : Nat} (hj : j < ps.length) : ∃ g, A = some ⟨g, 0, none⟩ ∧ n = ps.length ∧ w.cell? ⟨g, j, none⟩ = some (.string ps[j]) ∧ w.frozen? ⟨g, j, none⟩ = false := by
  rcases h.2 with ⟨hv, h0⟩ | ⟨g, cap', cur, hv, hr⟩
  · omega
  · injection hv with e1 e2 e3
    subst e1 e2 e3
    have hh : w.ownsRow B 9 1 (.slice (some ⟨g, 0, none⟩) ps.length cap) ps.length (strsN ps) := h
    refine ⟨g, rfl, rfl, ?_, hh.frozenAt j⟩
    rw [hh.cellAt j (by omega)]
    simp [strsN, List.getElem?_eq_getElem hj]
theorem eqStringS_s (B B' : Nat) (v v' : Value) (ps : List ByteArray) (w : World) (hv : OwnS w B v ps) (hv' : OwnS w B' v' ps) (hl : ps.length ≤ 4000000000000000000) :
    Calls Try.prog 21 #[v, v'] w fun e w' => e = .returned (.bool true) ∧ ∃ n, w' = w.drewN n := by
  obtain ⟨A, cap, rfl⟩ := hv.form
  obtain ⟨A', cap', rfl⟩ := hv'.form
  have HV := Lib.hid (And.intro hv hv')
  clear hv hv'
  go_enter Try.func21, Try.ntmps21
  go_wp2
  go_loopw [5] (fun i wr => ∃ k n : Nat, k ≤ ps.length ∧ i = .int .i64 k ∧ wr = w.drewN n) (fun i wr => ps.length - (intOf i).toNat)
  case atStart => exact ⟨0, 0, by omega, rfl, rfl⟩
  case round =>
    obtain ⟨k, n, hk, rfl, rfl⟩ := hrel
    by_cases hlt : k < ps.length
    · obtain ⟨g, rfl, -, hc, -⟩ := HV.out.1.cell hlt
      obtain ⟨g', rfl, -, hc', -⟩ := HV.out.2.cell hlt
      generalize ps[k] = z at *
      go_wp2
      go_quiet (fail)
      go_wp2
      go_roundw
      case rel => exact ⟨k + 1, _, by omega, by go_num, rfl⟩
      case measure => simp [intOf]; omega
    · go_wp2
      go_ret
      exact ⟨rfl, n, rfl⟩
/-- The marks that are laid into a row of strings. -/
def markL (k n : Nat) : List ByteArray := (List.range n).map (fun j => markT (k + j))
theorem markL_len (k n : Nat) : (markL k n).length = n := by simp [markL]
theorem markL_get (k n j : Nat) (h : j < (markL k n).length) : (markL k n)[j] = markT (k + j) := by simp [markL]
set_option maxHeartbeats 1000000 in
theorem markStringS_s (B : Nat) (v : Value) (ps : List ByteArray) (k : Nat) (w : World) (hv : OwnS w B v ps) (hl : ps.length ≤ 2000000) (hk : k ≤ 1000) :
    Calls Try.prog 22 #[v, .int .i64 (k : Int)] w fun e w' => e = .returned (.int .i64 ((k : Int) + ps.length)) ∧ OwnS w' B v (markL k ps.length) ∧ w.grownBy w' v.ownBlock := by
  obtain ⟨A, cap, rfl⟩ := hv.form
  have HV := Lib.hid hv
  clear hv
  go_enter Try.func22, Try.ntmps22
  go_wp2
  go_loopw [1, 5] (fun m i wr => ∃ (j : Nat) (qs : List ByteArray), j ≤ ps.length ∧ i = .int .i64 j ∧ m = .int .i64 ((k : Int) + j) ∧ qs.length = ps.length ∧ Hid (∀ i (h : i < j) (h' : i < qs.length), qs[i] = markT (k + i)) ∧ OwnS wr B (.slice A ps.length cap) qs ∧ w.grownBy wr (Value.slice A ps.length cap).ownBlock) (fun m i wr => ps.length - (intOf i).toNat)
  case atStart => exact ⟨0, ps, by omega, rfl, by simp, rfl, Lib.hid (fun i h => absurd h (by omega)), HV.out, World.grownBy.refl _ _⟩
  case round =>
    obtain ⟨j, qs, hj, rfl, rfl, hqs, HY, hown, hgr⟩ := hrel
    by_cases hlt : j < ps.length
    · obtain ⟨g, rfl, -, hc, hf⟩ := hown.cell (j := j) (by omega)
      obtain ⟨q, hq⟩ : ∃ q : Nat, k + j = q := ⟨_, rfl⟩
      have hq2 : (k : Int) + (j : Int) = q := by omega
      have hqb : q ≤ 8000000 := by omega
      have HQ := Lib.hid hq
      have HO := Lib.hid hown
      have HG := Lib.hid hgr
      have hgl := World.block_lt_of_cell? _ _ hc
      rw [hq2]
      clear hq hq2 hown hgr hc hf
      go_wp2_with fail
      (with_reducible refine (markText_x q wr (by omega)).mono ?_)
      rintro e w2 ⟨rfl, hb2⟩
      have HO2 := Lib.hid (HO.out.below hb2)
      have HG2 := Lib.hid (show w.grownBy w2 (some g) from HG.out.trans (grown_of hb2))
      obtain ⟨g', e', -, hc, hf⟩ := HO2.out.cell (j := j) (by omega)
      injection e' with e'
      injection e' with e'
      subst e'
      have HST := Lib.hid (show OwnS (w2.setCell ⟨g, j, none⟩ (.string (markT q))) B (.slice (some ⟨g, 0, none⟩) ps.length cap) (qs.set j (markT q)) from by
        have h := (show w2.ownsRow B 9 1 (.slice (some ⟨g, 0, none⟩) ps.length cap) ps.length (strsN qs) from by have := HO2.out; unfold OwnS at this; rw [hqs] at this; exact this).stored j (.string (markT q))
        unfold OwnS
        rw [List.length_set, hqs]
        unfold strsN at h ⊢
        rw [List.map_set]
        exact h.1)
      have HY2 := Lib.hid (show ∀ i (h : i < j + 1) (h' : i < (qs.set j (markT q)).length), (qs.set j (markT q))[i] = markT (k + i) from fun i h h' => by
        rw [List.getElem_set]
        by_cases e : j = i
        · subst e; rw [if_pos rfl, HQ.out]
        · rw [if_neg e]; exact HY.out i (by omega) (by simpa using h'))
      clear hb2
      go_wp2
      go_roundw
      case rel => exact ⟨j + 1, _, by omega, by go_num, by have := HQ.out; congr 1; omega, by rw [List.length_set]; exact hqs, HY2, HST.out, HG2.out.trans (grown_set g _ _ _)⟩
      case measure => simp [intOf]; omega
    · obtain rfl : j = ps.length := by omega
      have HG := Lib.hid hgr
      have HE := Lib.hid (show qs = markL k ps.length from List.ext_getElem (by rw [markL_len, hqs]) (fun i h1 h2 => by rw [markL_get]; exact HY.out i (by omega) h1))
      have HO := Lib.hid hown
      clear hgr hown
      go_wp2
      go_ret
      exact ⟨rfl, by rw [← HE.out]; exact HO.out, HG.out⟩
set_option maxHeartbeats 1000000 in
theorem heldStringS_s (B : Nat) (v : Value) (n k : Nat) (w : World) (hv : OwnS w B v (markL k n)) (hl : n ≤ 2000000) (hk : k ≤ 1000) :
    Calls Try.prog 23 #[v, .int .i64 (k : Int)] w fun e w' => e = .returned (.int .i64 ((k : Int) + n)) ∧ Below w.heap.size w w' := by
  obtain ⟨A, cap, rfl⟩ := hv.form
  rw [markL_len] at *
  have HV := Lib.hid hv
  clear hv
  go_enter Try.func23, Try.ntmps23
  go_wp2
  go_loopw [1, 5] (fun m i wr => ∃ j : Nat, j ≤ n ∧ i = .int .i64 j ∧ m = .int .i64 ((k : Int) + j) ∧ Below w.heap.size w wr) (fun m i wr => n - (intOf i).toNat)
  case atStart => exact ⟨0, by omega, rfl, by simp, Below.refl _ _⟩
  case round =>
    obtain ⟨j, hj, rfl, rfl, hbel⟩ := hrel
    by_cases hlt : j < n
    · obtain ⟨g, rfl, -, hc0, -⟩ := (HV.out.below hbel).cell (j := j) (by rw [markL_len]; exact hlt)
      rw [markL_get] at hc0
      obtain ⟨q, hq⟩ : ∃ q : Nat, k + j = q := ⟨_, rfl⟩
      have hq2 : (k : Int) + (j : Int) = q := by omega
      have hqb : q ≤ 8000000 := by omega
      rw [hq] at hc0
      have HQ := Lib.hid hq
      have HBL := Lib.hid hbel
      rw [hq2]
      clear hq hq2 hbel
      go_wp2_with fail
      refine wp_region_held (S := fun w' => w'.cell? ⟨g, j, none⟩ = some (.string (markT q)) ∧ Below wr.heap.size wr w') (by kernel_rfl) ?_
      try (change wpAnyH _ _ _ _ _ _ _ _ (World.drew _))
      have hS0 := (show wr.drew.cell? ⟨g, j, none⟩ = some (.string (markT q)) ∧ Below wr.heap.size wr wr.drew from ⟨hc0, Below.drew (Below.refl _ _)⟩)
      refine gTake 0 (v := ?_) rfl (by kernel_rfl) (by kernel_rfl) (by kernel_rfl) (fun _ _ _ h => h) (by kernel_rfl) ?_ hS0 ?_
      rotate_left
      · (intro W hW; clear hW; go_simp; try with_reducible rfl)
      refine gTake 1 (v := ?_) rfl (by kernel_rfl) (by kernel_rfl) (by kernel_rfl) (fun _ _ _ h => h) (by kernel_rfl) ?_ hS0 ?_
      rotate_left
      · (intro W hW; clear hW; go_simp; try with_reducible rfl)
      refine gTake 2 (v := ?_) rfl (by kernel_rfl) (by kernel_rfl) (by kernel_rfl) (fun _ _ _ h => h) (by kernel_rfl) ?_ hS0 ?_
      rotate_left
      · (intro W hW; clear hW; go_simp; try with_reducible rfl)
      refine gTake 3 (v := ?_) rfl (by kernel_rfl) (by kernel_rfl) (by kernel_rfl) (fun _ _ _ h => h) (by kernel_rfl) ?_ hS0 ?_
      rotate_left
      · (intro W hW; have q0 := hW.1; clear hW; go_simp; try with_reducible rfl)
      refine gTake 4 (v := ?_) rfl (by kernel_rfl) (by kernel_rfl) (by kernel_rfl) (fun _ _ _ h => h) (by kernel_rfl) ?_ hS0 ?_
      rotate_left
      · (intro W hW; clear hW; go_simp; try with_reducible rfl)
      refine gOne 5 rfl (by kernel_rfl) (by kernel_rfl) (fun K hK => ?_)
      go_simp
      go_at_call 53
      (with_reducible refine (markText_x q _ (by omega)).mono ?_)
      rintro e w2 ⟨rfl, hd2⟩
      try go_simp
      have hS1 := (show w2.cell? ⟨g, j, none⟩ = some (.string (markT q)) ∧ Below wr.heap.size wr w2 from ⟨(hd2.cell (World.block_lt_of_cell? _ _ hS0.1)).trans hS0.1, hS0.2.trans (hd2.mono hS0.2.size)⟩)
      refine hK _ _ hS1 ?_
      clear hK K
      refine gTake 6 (v := ?_) rfl (by kernel_rfl) (by kernel_rfl) (by kernel_rfl) (fun _ _ _ h => h) (by kernel_rfl) ?_ hS1 ?_
      rotate_left
      · (intro W hW; clear hW; go_simp; try with_reducible rfl)
      refine wpAnyH_done (by kernel_rfl) ?_ _
      go_simp
      have HB2 := Lib.hid (HBL.out.trans (hS1.2.mono HBL.out.size))
      clear hS0 hS1 hc0
      go_wp2
      go_roundw
      case rel => exact ⟨j + 1, by omega, by go_num, by have := HQ.out; congr 1; omega, HB2.out⟩
      case measure => simp [intOf]; omega
    · obtain rfl : j = n := by omega
      have HBL := Lib.hid hbel
      clear hbel
      go_wp2
      go_ret
      exact ⟨rfl, HBL.out⟩
theorem markOne (B : Nat) (v : Value) (ps : List ByteArray) (w : World) (hv : OwnS w B v ps) (hl : ps.length ≤ 2000000) :
    Calls Try.prog 22 #[v, .int .i64 1] w fun e w' => e = .returned (.int .i64 (1 + ps.length)) ∧ OwnS w' B v (markL 1 ps.length) ∧ w.grownBy w' v.ownBlock := markStringS_s B v ps 1 w hv hl (by omega)
theorem heldOne (B : Nat) (v : Value) (n : Nat) (w : World) (hv : OwnS w B v (markL 1 n)) (hl : n ≤ 2000000) :
    Calls Try.prog 23 #[v, .int .i64 1] w fun e w' => e = .returned (.int .i64 (1 + n)) ∧ Below w.heap.size w w' := heldStringS_s B v n 1 w hv hl (by omega)
theorem OwnS.apart {w w' : World} {B B' : Nat} {v v' : Value} {ps qs : List ByteArray} (h : OwnS w B v ps) (hB : ∀ k, v.ownBlock = some k → k < B') (h' : OwnS w B' v' qs) (hg : w.grownBy w' v'.ownBlock) : OwnS w' B v ps := by
  refine h.kept hg ?_
  cases e : v.ownBlock with
  | none => exact Or.inl rfl
  | some k =>
    refine Or.inr fun e2 => ?_
    have := hB k e
    have := (h'.lt k e2.symm).1
    omega
end Go.Proofs.Ytofpecgmnodflaa
