/-
  Meshes. Conditions: those that each theorem states.
-/
import Derived.Test.YtjooebiiceillaaUr
import Derived.Test.YtjooebiiceillaaRa
import Derived.WalkMore
namespace Go.Proofs.Ytjooebiiceillaa
open Go.RowKit
set_option linter.unusedVariables false
set_option linter.unusedSimpArgs false

theorem wlkR_lenV (Jn : Nat) (xs : List Aw) (ls : List Int) (x y : Int) : (wlkR Jn xs ls x y).length ≤ Jn := by
  unfold wlkR
  split
  · have h1 := pathN_len (endsOf xs) (levD Jn xs ls y) ls (levD Jn xs ls y x).toNat x
    have h2 := levD_bd Jn xs ls y x
    omega
  · simp
theorem ret_boolV {b b' : Bool} (h : b = b') : Ending.returned (.bool b) = .returned (.bool b') := by rw [h]
/-- The mesh of an airway that is not in the tree. -/
def rowM (Jn : Nat) (xs : List Aw) (k : Nat) : List Int := ((k : Int) + 1) :: wlkR Jn xs (treeL xs xs.length) (xs.getD k Aw.none).t (xs.getD k Aw.none).f
/-- The meshes of the airways below k. -/
def mshT (Jn : Nat) (xs : List Aw) : Nat → List (List Int)
  | 0 => []
  | k + 1 => if treeP xs k then mshT Jn xs k else mshT Jn xs k ++ [rowM Jn xs k]
theorem mshT_yes {Jn : Nat} {xs : List Aw} {k : Nat} (h : treeP xs k = true) : mshT Jn xs (k + 1) = mshT Jn xs k := by rw [mshT, if_pos h]
theorem mshT_no {Jn : Nat} {xs : List Aw} {k : Nat} (h : treeP xs k = false) : mshT Jn xs (k + 1) = mshT Jn xs k ++ [rowM Jn xs k] := by rw [mshT, h]; rfl
theorem mshT_len (Jn : Nat) (xs : List Aw) : ∀ k, (mshT Jn xs k).length ≤ k
  | 0 => Nat.le_refl _
  | k + 1 => by have := mshT_len Jn xs k; rw [mshT]; split; omega; (rw [List.length_append]; simp; omega)
theorem rowM_len (Jn : Nat) (xs : List Aw) (k : Nat) : (rowM Jn xs k).length ≤ Jn + 1 := by
  unfold rowM
  have := wlkR_lenV Jn xs (treeL xs xs.length) (xs.getD k Aw.none).t (xs.getD k Aw.none).f
  rw [List.length_cons]; omega
theorem mshT_row {Jn : Nat} {xs : List Aw} : ∀ k, ∀ r ∈ mshT Jn xs k, r.length ≤ Jn + 1
  | 0, r, h => by cases h
  | k + 1, r, h => by
    rw [mshT] at h
    split at h
    · exact mshT_row k r h
    · rcases List.mem_append.1 h with q | q
      · exact mshT_row k r q
      · rw [List.mem_singleton.1 q]; exact rowM_len _ _ _
theorem labs_grow {xs : List Aw} {a b : Int} {k : Nat} (h : labsE (es2 xs k) a = labsE (es2 xs k) b) : ∀ d, k + d ≤ xs.length → labsE (es2 xs (k + d)) a = labsE (es2 xs (k + d)) b
  | 0, _ => h
  | d + 1, hd => by
    have ih := labs_grow h d (by omega)
    rw [show k + (d + 1) = (k + d) + 1 by omega, es2_snoc (by omega)]
    exact labS_keep ih
theorem treeL_in {xs : List Aw} : ∀ y ∈ treeL xs xs.length, 0 ≤ y ∧ y < (xs.length : Int) := fun y hy => ixT_mem _ _ _ hy
theorem mesh_on {Jn : Nat} {xs : List Aw} (hok : mineOk (Jn : Int) xs = true) {k : Nat} (hk : k < xs.length) (hp : treeP xs k = false) : 0 ≤ levD Jn xs (treeL xs xs.length) xs[k].f xs[k].t := by
  have hen := ends_in hok hk
  have hd := levD_dist (ls := treeL xs xs.length) (to := xs[k].f) hok treeL_in (by omega)
  have h := dist_lab (E' := ((treeL xs xs.length).map (endsOf xs)).reverse) hd (fun e => by unfold enL; rw [List.mem_reverse]) xs[k].t
  rw [h, ← labT_full, tree_lab xs xs.length (Nat.le_refl _)]
  have h0 : labsE (es2 xs k) xs[k].f = labsE (es2 xs k) xs[k].t := by
    unfold treeP at hp
    rw [getD_of_lt hk] at hp
    simpa using hp
  have h1 := labs_grow h0 (xs.length - k) (by omega)
  rw [show k + (xs.length - k) = xs.length by omega] at h1
  exact h1.symm
theorem mesh_ne {Jn : Nat} {xs : List Aw} (hok : mineOk (Jn : Int) xs = true) {k : Nat} (hk : k < xs.length) (hp : treeP xs k = false) : wlkR Jn xs (treeL xs xs.length) xs[k].t xs[k].f ≠ [] := by
  have h0 := mesh_on hok hk hp
  have hen := ends_in hok hk
  have hd := levD_dist (ls := treeL xs xs.length) (to := xs[k].f) hok treeL_in (by omega)
  have hne : levD Jn xs (treeL xs xs.length) xs[k].f xs[k].t ≠ 0 := fun e => hen.2.2 (hd.eq_to e).symm
  obtain ⟨n, hn⟩ : ∃ n : Nat, levD Jn xs (treeL xs xs.length) xs[k].f xs[k].t = (n : Int) + 1 := ⟨(levD Jn xs (treeL xs xs.length) xs[k].f xs[k].t - 1).toNat, by omega⟩
  obtain ⟨ki, bb, hst, -, -, -⟩ := stp_some (L := treeL xs xs.length) hd hn
  unfold wlkR
  rw [if_pos h0, hn, show ((n : Int) + 1).toNat = n + 1 by omega, pathN_step hst]
  simp
theorem ixT_has (p : Nat → Bool) (k : Nat) : ∀ n, decide ((k : Int) ∈ ixT p n) = (decide (k < n) && p k)
  | 0 => by simp [ixT]
  | n + 1 => by
    have ih := ixT_has p k n
    rw [ixT]
    by_cases e : k = n
    · subst e
      cases hp : p k
      · rw [if_neg (by simp), ih]; simp
      · rw [if_pos rfl]; simp
    · have e2 : decide (k < n + 1) = decide (k < n) := by rw [decide_eq_decide]; omega
      rw [e2, ← ih]
      split
      · rw [decide_eq_decide, List.mem_append]
        constructor
        · rintro (q | q)
          · exact q
          · exfalso; simp at q; omega
        · exact Or.inl
      · rfl
/-- A row is put behind rows of rows that a call made. -/
theorem ss_app {wr w0 w' : World} {B : Nat} {v v' u : Value} {vs : List Value} {xs : List (List Int)} {x : List Int} (hv : wr.ownsRow B 30 1 v xs.length vs) (hrs : OwnRs wr B vs xs) (hap : ∀ k (h : k < vs.length), ∀ b, vs[k].ownBlock = some b → v.ownBlock ≠ some b)
    (hb : Below wr.heap.size wr w0) (hu : OwnI w0 wr.heap.size u x) (hB : B ≤ wr.heap.size) (ho : w'.ownsRow B 30 1 v' (xs.length + 1) (vs ++ [u])) (hg : w0.grownBy w' v.ownBlock) (hm : v'.ownBlock = v.ownBlock ∨ v'.ownBlock = some w0.heap.size) : OwnSS w' B v' (xs ++ [x]) := by
  have h1 := (hrs.below hb).snoc hu hB (fun k hk b hbk => (World.ownsRow.lt (hrs.own k hk (by rw [← hrs.len]; exact hk)) b hbk).2)
  have key : ∀ k (h : k < (vs ++ [u]).length) q, (vs ++ [u])[k].ownBlock = some q → v.ownBlock ≠ some q := by
    intro k h q e e2
    by_cases hk : k < vs.length
    · rw [List.getElem_append_left hk] at e
      exact hap k hk q e e2
    · have h3 : k = vs.length := by simp at h; omega
      subst h3
      rw [List.getElem_append_right (Nat.le_refl _)] at e
      simp at e
      have h5 := (World.ownsRow.lt hu q e).1
      have h6 := (World.ownsRow.lt hv q e2).2
      omega
  refine ⟨vs ++ [u], by rw [List.length_append]; exact ho, ⟨h1.len, fun k a b => (h1.own k a b).kept hg ?_, h1.apart⟩, ?_⟩
  · cases e : (vs ++ [u])[k].ownBlock with
    | none => exact Or.inl rfl
    | some q => exact Or.inr (fun e2 => key k a q e e2.symm)
  · intro k hk q e e2
    rcases hm with m | m
    · rw [m] at e2
      exact key k hk q e e2
    · rw [m] at e2
      injection e2 with e2
      have := (World.ownsRow.lt (h1.own k hk (by rw [← h1.len]; exact hk)) q e).2
      omega
set_option maxHeartbeats 1000000 in
theorem l00Has_any (v : Value) (ls : List Int) (n : Int) (w : World) (hv : RowW .i64 w v ls) (hl : ls.length ≤ 1000) :
    Calls Try.prog 118 #[v, .int .i64 n] w fun e w' => e = .returned (.bool (decide (n ∈ ls))) ∧ w = w' := by
  obtain ⟨A, cap, rfl, _⟩ := id hv
  have HV := Lib.hid hv
  clear hv
  go_enter Try.func118, Try.ntmps118
  go_wp2
  go_loopw [5] (fun i wr => ∃ k : Nat, k ≤ ls.length ∧ i = .int .i64 (k : Int) ∧ wr = w ∧ Hid (n ∉ ls.take k)) (fun i wr => ls.length - (intOf i).toNat)
  case atStart => exact ⟨0, by omega, rfl, rfl, Lib.hid (by simp)⟩
  case round =>
    obtain ⟨k, hk, rfl, rfl, HN⟩ := hrel
    by_cases hlt : k < ls.length
    · obtain ⟨lb, lo, rfl, -, hcl⟩ := RowW.cell HV.out hlt
      have hkI : (k : Int) < (ls.length : Int) := by omega
      have HG := Lib.hid (show ls.getD k 0 ∈ ls by rw [show ls.getD k 0 = ls[k] by simp [List.getD, hlt]]; exact List.getElem_mem hlt)
      have HT := Lib.hid (show ls.take (k + 1) = ls.take k ++ [ls.getD k 0] by rw [show ls.getD k 0 = ls[k] by simp [List.getD, hlt]]; exact List.take_succ_eq_append_getElem hlt)
      generalize ls.getD k 0 = y at *
      by_cases e : y = n
      · subst e
        have HD := Lib.hid (show decide (y ∈ ls) = true from decide_eq_true HG.out)
        have e2 : (y == y) = true := by simp
        go_wp2
        go_ret
        exact ⟨ret_boolV HD.out.symm, rfl⟩
      · have e2 : (y == n) = false := by simp [e]
        go_wp2
        go_roundw
        case rel => exact ⟨k + 1, by omega, by go_num, by trivial, Lib.hid (by rw [HT.out, List.mem_append, List.mem_singleton]; intro q; rcases q with q | q; exact HN.out q; exact e q.symm)⟩
        case measure => simp [intOf]; omega
    · have HD := Lib.hid (show decide (n ∈ ls) = false from decide_eq_false (by have := HN.out; rwa [List.take_of_length_le (by omega)] at this))
      go_wp2
      go_ret
      exact ⟨ret_boolV HD.out.symm, rfl⟩
end Go.Proofs.Ytjooebiiceillaa
