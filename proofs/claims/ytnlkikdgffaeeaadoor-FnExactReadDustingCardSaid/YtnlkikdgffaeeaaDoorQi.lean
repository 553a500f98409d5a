/-
  Contracts: rows filled from the left; copies of rows; strictly increasing indices; the model's and the program's. Conditions: those that each theorem states.
-/
import Derived.Test.YtnlkikdgffaeeaaDoorNh
import Derived.Test.YtnlkikdgffaeeaaDoorPw
import Derived.Lib.SliceRun
namespace Go.Proofs.YtnlkikdgffaeeaaDoor
open Go.RowKit
set_option linter.unusedVariables false
set_option linter.unusedSimpArgs false

/-- A row that is filled from the left: the first k numbers are there, zeros behind. -/
def fillL (n : Nat) (f : Nat → Int) (k : Nat) : List Int := (List.range n).map (fun j => if j < k then f j else 0)
theorem fillL_len (n : Nat) (f : Nat → Int) (k : Nat) : (fillL n f k).length = n := by simp [fillL]
theorem fillL_zero (n : Nat) (f : Nat → Int) : fillL n f 0 = List.replicate n 0 := by
  apply List.ext_getElem (by simp [fillL])
  intro j h1 h2
  simp [fillL]
theorem fillL_full (n : Nat) (f : Nat → Int) : fillL n f n = (List.range n).map f := by
  apply List.ext_getElem (by simp [fillL])
  intro j h1 h2
  have : j < n := by simpa [fillL] using h1
  simp [fillL, this]
theorem fillL_put {n : Nat} (f : Nat → Int) {k : Nat} (h : k < n) : (intsV (fillL n f k)).set k (.int .i64 (f k)) = intsV (fillL n f (k + 1)) := by
  unfold intsV
  rw [← List.map_set]
  congr 1
  apply List.ext_getElem (by simp [fillL])
  intro j h1 h2
  have hj : j < n := by simpa [fillL] using h2
  simp only [List.getElem_set, fillL, List.getElem_map, List.getElem_range]
  by_cases e : k = j
  · subst e; rw [if_pos rfl, if_pos (by omega)]
  · rw [if_neg e]
    by_cases q : j < k
    · rw [if_pos q, if_pos (by omega)]
    · rw [if_neg q, if_neg (by omega)]
theorem fillL_at {n : Nat} (f : Nat → Int) {k : Nat} (h : k < n) : (intsV (fillL n f k))[k]? = some (.int .i64 0) := by
  simp [intsV, fillL, h]
theorem fillL_made (n : Nat) (f : Nat → Int) : (madeCells #[.int .i64 0] n).toList = intsV (fillL n f 0) := by
  rw [fillL_zero]
  simp [madeCells, intsV, Nat.mod_one, List.map_const']
theorem ret_vz {v : Value} {b b' : Int} (h : b = b') : Ending.returned (.tuple #[v, .int .i64 b]) = .returned (.tuple #[v, .int .i64 b']) := by rw [h]
theorem own_lez {w : World} {B B' : Nat} {v : Value} {xs : List Int} (h : OwnI w B v xs) (hb : B' ≤ B) : OwnI w B' v xs := by
  obtain ⟨hl, h⟩ := h
  refine ⟨hl, ?_⟩
  rcases h with h | ⟨g, cap, cur, e, hg, r⟩
  · exact .inl h
  · exact .inr ⟨g, cap, cur, e, Nat.le_trans hb hg, r⟩
theorem own_nilz (w : World) (B : Nat) : OwnI w B (.slice none 0 0) [] := World.ownsRow_nil _ _ _ _
def incB (ai : List Int) : Bool := (List.range (ai.length - 1)).all (fun j => decide (ai.getD j 0 < ai.getD (j + 1) 0))
theorem incB_iff {ai : List Int} : incB ai = true ↔ ∀ j : Nat, j + 1 < ai.length → ai.getD j 0 < ai.getD (j + 1) 0 := by
  unfold incB
  rw [List.all_eq_true]
  constructor
  · intro h j hj
    simpa using h j (List.mem_range.2 (by omega))
  · intro h j hj
    have := List.mem_range.1 hj
    simpa using h j (by omega)
def risR (lo hi : Int) (ai : List Int) : Bool := allR lo hi ai && incB ai
/-- Up to k all is well. -/
def risT (lo hi : Int) (ai : List Int) (k : Nat) : Prop := (∀ j : Nat, j < k → j < ai.length → lo ≤ ai.getD j 0 ∧ ai.getD j 0 ≤ hi) ∧ ∀ j : Nat, j + 1 < k → j + 1 < ai.length → ai.getD j 0 < ai.getD (j + 1) 0
theorem risT_zero (lo hi : Int) (ai : List Int) : risT lo hi ai 0 := ⟨fun j h => absurd h (by omega), fun j h => absurd h (by omega)⟩
theorem risT_snoc {lo hi : Int} {ai : List Int} {k : Nat} (h : risT lo hi ai k) (h1 : lo ≤ ai.getD k 0 ∧ ai.getD k 0 ≤ hi) (h2 : ∀ p : Nat, k = p + 1 → ai.getD p 0 < ai.getD k 0) : risT lo hi ai (k + 1) := by
  refine ⟨fun j hj hl => ?_, fun j hj hl => ?_⟩
  · rcases Nat.lt_or_ge j k with q | q
    · exact h.1 j q hl
    · obtain rfl : j = k := by omega
      exact h1
  · rcases Nat.lt_or_ge (j + 1) k with q | q
    · exact h.2 j q hl
    · obtain rfl : k = j + 1 := by omega
      exact h2 j rfl
theorem mem_at {ai : List Int} {y : Int} (h : y ∈ ai) : ∃ j : Nat, j < ai.length ∧ ai.getD j 0 = y := by
  obtain ⟨j, hj, e⟩ := List.mem_iff_getElem.1 h
  exact ⟨j, hj, by simp [List.getD, hj, e]⟩
theorem at_mem {ai : List Int} {j : Nat} (hj : j < ai.length) : ai.getD j 0 ∈ ai := by
  rw [show ai.getD j 0 = ai[j] by simp [List.getD, hj]]; exact List.getElem_mem hj
theorem risR_yes {lo hi : Int} {ai : List Int} (h : risT lo hi ai ai.length) : risR lo hi ai = true := by
  unfold risR
  rw [allR_iff.2 (fun y hy => by obtain ⟨j, hj, rfl⟩ := mem_at hy; exact h.1 j hj hj), incB_iff.2 (fun j hj => h.2 j hj hj)]
  rfl
theorem risR_out {lo hi : Int} {ai : List Int} {k : Nat} (hk : k < ai.length) (h : ¬ (lo ≤ ai.getD k 0 ∧ ai.getD k 0 ≤ hi)) : risR lo hi ai = false := by
  unfold risR
  rw [allR_not (fun hh => h (hh _ (at_mem hk))), Bool.false_and]
theorem risR_dec {lo hi : Int} {ai : List Int} {p : Nat} (hk : p + 1 < ai.length) (h : ¬ ai.getD p 0 < ai.getD (p + 1) 0) : risR lo hi ai = false := by
  have : incB ai = false := by
    rw [← Bool.not_eq_true, incB_iff]
    exact fun hh => h (hh p hk)
  unfold risR
  rw [this, Bool.and_false]
theorem risR_iff {lo hi : Int} {ai : List Int} : risR lo hi ai = true ↔ (∀ y ∈ ai, lo ≤ y ∧ y ≤ hi) ∧ incB ai = true := by
  unfold risR
  rw [Bool.and_eq_true, allR_iff]
theorem row_none {w : World} {n cap : Nat} {xs : List Int} (h : Row .i64 w (.slice none n cap) xs) : xs = [] ∧ n = 0 ∧ cap = 0 := by
  rcases h with ⟨h1, h2⟩ | ⟨b, off, c, h1, -⟩
  · injection h2 with _ h3 h4
    exact ⟨h1, h3, h4⟩
  · injection h1 with h2; cases h2
theorem row_some {w : World} {A : Addr} {n cap : Nat} {xs : List Int} (h : Row .i64 w (.slice (some A) n cap) xs) : n = xs.length ∧ ∃ b off, A = ⟨b, off, none⟩ ∧ ∀ j, j < xs.length → w.cell? ⟨b, off + j, none⟩ = some (.int .i64 (xs.getD j 0)) := by
  rcases h with ⟨h1, h2⟩ | ⟨b, off, c, h1, h3⟩
  · injection h2 with h4; cases h4
  · injection h1 with h2 h4 h5
    injection h2 with h2
    exact ⟨h4, b, off, h2, h3⟩
theorem news_cells {w : World} {b off : Nat} {xs : List Int} (h : ∀ j, j < xs.length → w.cell? ⟨b, off + j, none⟩ = some (.int .i64 (xs.getD j 0))) : ∀ (j : Nat) (u : Value), (intsV xs)[j]? = some u → (w.alloc (.cells #[] 2)).cell? ((⟨b, off, none⟩ : Addr).add j) = some u := by
  intro j u hj
  have hjl : j < xs.length := by
    have := (List.getElem?_eq_some_iff.1 hj).1
    simpa [intsV] using this
  have e : u = .int .i64 (xs.getD j 0) := by
    have : (intsV xs)[j]? = some (.int .i64 (xs.getD j 0)) := by simp [intsV, List.getD, hjl]
    rw [this] at hj
    exact (Option.some.inj hj).symm
  have hc := h j hjl
  rw [e]
  have ea : ((⟨b, off, none⟩ : Addr).add j) = ⟨b, off + j, none⟩ := by
    unfold Addr.add
    split
    · rename_i q; subst q; rfl
    · rfl
  rw [ea]
  exact (World.cell?_alloc_old _ _ _ (Nat.ne_of_lt (World.block_lt_of_cell? _ _ hc))).trans hc
theorem ones_int (xs : List Int) : ∀ u ∈ intsV xs, u.oneCell' = true := by
  intro u hu
  unfold intsV at hu
  obtain ⟨x, -, rfl⟩ := List.mem_map.1 hu
  rfl
theorem areIncreasing_any (v : Value) (ai : List Int) (w : World) (hv : Row .i64 w v ai) (hl : ai.length ≤ 1048576) :
    Calls Tryd.prog 43 #[v] w fun e w' => e = .returned (.bool (incB ai)) ∧ w = w' := by
  obtain ⟨A, cap, rfl⟩ := hv.form
  have HV := Lib.hid hv
  clear hv
  go_enter Tryd.func43, Tryd.ntmps43
  go_wp2
  go_loop [7] (fun i => ∃ k : Nat, k ≤ ai.length ∧ i = .int .i64 k ∧ Hid (∀ j : Nat, j + 1 < k → j + 1 < ai.length → ai.getD j 0 < ai.getD (j + 1) 0)) (fun i => ai.length - (intOf i).toNat)
  case atStart => exact ⟨0, by omega, rfl, Lib.hid (fun j h => absurd h (by omega))⟩
  case round =>
    obtain ⟨k, hk, rfl, HA⟩ := hrel
    by_cases hlt : k < ai.length
    · obtain ⟨b, off, rfl, -, hc⟩ := Row.cell HV.out hlt
      have hlI : (k : Int) < (ai.length : Int) := by omega
      cases k with
      | zero =>
        rw [Nat.add_zero] at hc
        generalize ai.getD 0 0 = z at *
        go_wp2
        go_round
        case rel => exact ⟨1, by omega, by first | rfl | go_num, Lib.hid (fun j h => absurd h (by omega))⟩
        case measure => simp [intOf]; omega
      | succ p =>
        obtain ⟨b', off', e1, -, hd⟩ := Row.cell HV.out (show p < ai.length by omega)
        injection e1 with e1
        injection e1 with e1 e3
        subst e1 e3
        by_cases hx : ai.getD p 0 < ai.getD (p + 1) 0
        · have HN := Lib.hid (show ∀ j : Nat, j + 1 < p + 1 + 1 → j + 1 < ai.length → ai.getD j 0 < ai.getD (j + 1) 0 from fun j h h2 => by
            rcases Nat.lt_or_ge (j + 1) (p + 1) with q | q
            · exact HA.out j q h2
            · obtain rfl : j = p := by omega
              exact hx)
          generalize ai.getD p 0 = y at *
          generalize ai.getD (p + 1) 0 = z at *
          go_wp2
          go_round
          case rel => exact ⟨p + 1 + 1, by omega, by go_num, HN⟩
          case measure => simp [intOf]; omega
        · have HE := Lib.hid (show incB ai = false by
            rw [← Bool.not_eq_true, incB_iff]
            exact fun hh => hx (hh p hlt))
          generalize ai.getD p 0 = y at *
          generalize ai.getD (p + 1) 0 = z at *
          have hzy : z ≤ y := by omega
          go_wp2
          go_ret
          exact ⟨ret_bool HE.out.symm, rfl⟩
    · obtain rfl : k = ai.length := by omega
      have HE := Lib.hid (show incB ai = true from incB_iff.2 (fun j h => HA.out j h h))
      go_wp2
      go_ret
      exact ⟨ret_bool HE.out.symm, rfl⟩
theorem areIdx_any (n : Nat) (v : Value) (ai : List Int) (w : World) (hv : Row .i64 w v ai) (hl : ai.length ≤ 1048576) (hn : n ≤ 1048576) :
    Calls Tryd.prog 32 #[.int .i64 (n : Int), v] w fun e w' => e = .returned (.bool (risR 0 ((n : Int) - 1) ai)) ∧ w = w' := by
  obtain ⟨F, fcap, rfl⟩ := hv.form
  have HV := Lib.hid hv
  clear hv
  cases ha : allR 0 ((n : Int) - 1) ai
  · have HE := Lib.hid (show risR 0 ((n : Int) - 1) ai = false by unfold risR; rw [ha, Bool.false_and])
    go_enter Tryd.func32, Tryd.ntmps32
    go_wp2_with (go_at_call 25; (with_reducible refine (within64_any _ _ _ ai _ HV.out (by omega)).mono ?_); rintro e w' ⟨rfl, rfl⟩; rw [ha])
    go_ret
    exact ⟨ret_bool HE.out.symm, rfl⟩
  · have HE := Lib.hid (show risR 0 ((n : Int) - 1) ai = incB ai by unfold risR; rw [ha, Bool.true_and])
    go_enter Tryd.func32, Tryd.ntmps32
    go_wp2_with (first
      | (go_at_call 25; (with_reducible refine (within64_any _ _ _ ai _ HV.out (by omega)).mono ?_); rintro e w' ⟨rfl, rfl⟩; rw [ha])
      | (go_at_call 43; (with_reducible refine (areIncreasing_any _ ai _ HV.out hl).mono ?_); rintro e w' ⟨rfl, rfl⟩))
    go_ret
    exact ⟨ret_bool HE.out.symm, rfl⟩
theorem areIdx_one (n : Nat) (x : Int) (W : World) (T : TypeId) (b : Nat) (hb : b = W.heap.size) (hn : n ≤ 1048576) :
    Calls Tryd.prog 32 #[.int .i64 n, .slice (some ⟨b, 0, none⟩) 1 1] (W.alloc (.cells #[.int .i64 x] T)) fun e w' => e = .returned (.bool (inB x 0 ((n : Int) - 1))) ∧ Below W.heap.size W w' := by
  have h := areIdx_any n (.slice (some ⟨b, 0, none⟩) 1 1) [x] _ (row_here .i64 W [x] T b 1 1 hb rfl) (by simp) hn
  have e : risR 0 ((n : Int) - 1) [x] = inB x 0 ((n : Int) - 1) := by unfold risR; rw [allR_one]; simp [incB]
  rw [e] at h
  exact h.mono fun _ _ ⟨a, q⟩ => ⟨a, q ▸ below_box _ _⟩
theorem areIdx_c24 (x : Int) (W : World) (T : TypeId) (b : Nat) (hb : b = W.heap.size) :
    Calls Tryd.prog 32 #[.int .i64 24, .slice (some ⟨b, 0, none⟩) 1 1] (W.alloc (.cells #[.int .i64 x] T)) fun e w' => e = .returned (.bool (inB x 0 23)) ∧ Below W.heap.size W w' := areIdx_one 24 x W T b hb (by omega)
theorem areIdx_c1440 (x : Int) (W : World) (T : TypeId) (b : Nat) (hb : b = W.heap.size) :
    Calls Tryd.prog 32 #[.int .i64 1440, .slice (some ⟨b, 0, none⟩) 1 1] (W.alloc (.cells #[.int .i64 x] T)) fun e w' => e = .returned (.bool (inB x 0 1439)) ∧ Below W.heap.size W w' := areIdx_one 1440 x W T b hb (by omega)
end Go.Proofs.YtnlkikdgffaeeaaDoor
