/-
  Slices of rows of numbers: those that came in, their sizes, copies and comparisons. Conditions: those that each theorem states.
-/
import Derived.Test.YtnlkikdgffaeeaaNh
import Derived.Test.YtnlkikdgffaeeaaDa
import Derived.Deep.Slices
import Derived.Deep.LoopGhost
import Derived.ChangeSlices
import Derived.Lib.SmallJoins
import Derived.Laws.OwnMore
import Derived.Deep.OwnRows
import Derived.OwnWalk
import Derived.WalkSmall
import Derived.Deep.RegionWith
namespace Go.Proofs.Ytnlkikdgffaeeaa
open Go.RowKit Go.ChangeShapes Go.WideShapes Go.Deep
set_option linter.unusedVariables false
set_option linter.unusedSimpArgs false

/-- A slice that reads as rows of numbers, at whatever address if there are none. -/
def RowsR (w : World) (A : Option Addr) (xs : List (List Int)) : Prop :=
  ∀ k (h : k < xs.length), ∃ b off v, A = some ⟨b, off, none⟩ ∧ w.cell? ⟨b, off + k, none⟩ = some v ∧ RowW .i64 w v xs[k]
theorem RowsR.below {w w' : World} {A : Option Addr} {xs : List (List Int)} (h : RowsR w A xs) (hb : Below w.heap.size w w') : RowsR w' A xs := fun k hk => by
  obtain ⟨b, off, v, e, hc, hr⟩ := h k hk
  exact ⟨b, off, v, e, (hb.cell (p := ⟨b, off + k, none⟩) (World.block_lt_of_cell? (a := ⟨b, off + k, none⟩) _ hc)).trans hc, hr.below hb⟩
theorem RowsR.drewN {w : World} {A : Option Addr} {xs : List (List Int)} (h : RowsR w A xs) (n : Nat) : RowsR (w.drewN n) A xs := h
/-- One row: its slice and its cells. -/
theorem RowsR.row {w : World} {A : Option Addr} {xs : List (List Int)} (h : RowsR w A xs) {k : Nat} (hk : k < xs.length) :
    ∃ b off A' cap, A = some ⟨b, off, none⟩ ∧ w.cell? ⟨b, off + k, none⟩ = some (.slice A' xs[k].length cap) ∧ RowW .i64 w (.slice A' xs[k].length cap) xs[k] := by
  obtain ⟨b, off, v, e, hc, hr⟩ := h k hk
  obtain ⟨A', cap, rfl, hx⟩ := id hr
  exact ⟨b, off, A', cap, e, hc, hr⟩
/-- Rows of a size that any slice may have, with numbers that are int64s. -/
def rowsFit (xs : List (List Int)) : Prop := ∀ r ∈ xs, r.length ≤ maxLen ∧ ∀ n ∈ r, (Lit.int .i64 n).wf = true
theorem spot_noneR {w : World} {a : Addr} {v : Value} (h : w.cell? (a.add 0) = some v) : ∃ b off, a = ⟨b, off, none⟩ := by
  obtain ⟨b, off, sp⟩ := a
  cases sp with
  | none => exact ⟨b, off, rfl⟩
  | some q =>
    unfold Addr.add World.cell? at h
    rw [if_pos rfl] at h
    cases hq : w.heap[b]? with
    | none => simp [hq] at h
    | some o => cases o <;> simp [hq] at h
theorem add_layR (b off i : Nat) : (⟨b, off, none⟩ : Addr).add i = ⟨b, off + i, none⟩ := by
  unfold Addr.add
  split
  · rename_i h; subst h; rfl
  · rfl
theorem open_rows {H : Type} {enc : TypeId × Value → H} {w : World} {base : Nat} {spare : Nat → Bool} {held : Bool} {fuel : Nat} {cs : List Value} {x : DataW H × List MemPlace}
    (h : DataW.trod enc Try.prog w base spare held fuel 49 cs = some x) :
    ∃ (A : Option Addr) (cap : Nat) (xs : List (List Int)), cs = [.slice A xs.length cap] ∧ xs.length ≤ maxLen ∧ RowsR w A xs ∧ rowsFit xs := by
  rcases open_slice1 Try.underlying49 (by kernel_rfl) h with ⟨rfl, _⟩ | ⟨a, len, cap, m, n, V, D, Pl, rfl, hb, hl, hm, hmm, _, hi⟩
  · exact ⟨none, 0, [], rfl, Nat.zero_le _, fun k hk => absurd hk (by simp), fun r hr => absurd hr (by simp)⟩
  · have hx : ∀ i, i < len → ∃ r : List Int, (r.length ≤ maxLen ∧ ∀ n ∈ r, (Lit.int .i64 n).wf = true) ∧ ∃ b off v, some a = some ⟨b, off, none⟩ ∧ w.cell? ⟨b, off + i, none⟩ = some v ∧ RowW .i64 w v r := by
      intro i hil
      have him : i < m := by rw [hmm]; split <;> omega
      obtain ⟨hc, ht⟩ := hi i him
      have hsp : ∃ b off, a = ⟨b, off, none⟩ := spot_noneR (hi 0 (by omega)).1
      obtain ⟨b, off, rfl⟩ := hsp
      rw [add_layR] at hc
      rcases open_ints Try.underlying40 Try.underlying2 (by kernel_rfl) ht with ⟨hcs, _⟩ | ⟨x, l, c, zs, hcs, _, hl2, hm2, hz, _, hcell, hwz⟩
      · have hV := List.cons.inj hcs |>.1
        exact ⟨[], ⟨Nat.zero_le _, by simp⟩, b, off, _, rfl, hc, none, 0, hV, fun j hj => absurd hj (by simp)⟩
      · have hV := List.cons.inj hcs |>.1
        have hlz : l ≤ zs.length := by rw [hz]; split <;> omega
        have htl : (zs.take l).length = l := by rw [List.length_take, Nat.min_eq_left hlz]
        refine ⟨zs.take l, ⟨by rw [htl]; omega, fun q hq => hwz q (List.mem_of_mem_take hq)⟩, b, off, _, rfl, hc, some x, c, by rw [hV, htl], fun j hj => ?_⟩
        rw [htl] at hj
        obtain ⟨b', off', rfl⟩ := spot_noneR (hcell 0 (by omega))
        refine ⟨b', off', rfl, ?_⟩
        have h1 := hcell j (by omega)
        rw [add_layR] at h1
        rw [h1]
        simp [List.getD, List.getElem?_take, hj]
    refine ⟨some a, cap, (List.range len).map (fun i => if h : i < len then Classical.choose (hx i h) else []), by simp, by simp; omega, fun k hk => ?_, fun r hr => ?_⟩
    · have hk' : k < len := by simpa using hk
      have hs := (Classical.choose_spec (hx k hk')).2
      simpa [hk'] using hs
    · obtain ⟨i, hi', rfl⟩ := List.mem_map.1 hr
      have hil : i < len := by simpa using hi'
      rw [dif_pos hil]
      exact (Classical.choose_spec (hx i hil)).1
/-- What is left of a size behind rows. -/
def szRs (left : Int) : List (List Int) → Int
  | [] => left
  | a :: r => if left - a.length < 0 then -1 else szRs (left - a.length) r
def szSS (left : Int) (xs : List (List Int)) : Int := if left - xs.length < 0 then -1 else szRs (left - xs.length) xs
theorem szRs_le : ∀ (xs : List (List Int)) (left : Int), 0 ≤ left → -1 ≤ szRs left xs ∧ szRs left xs ≤ left
  | [], left, h => ⟨by simp only [szRs]; omega, Int.le_refl _⟩
  | a :: r, left, h => by
    simp only [szRs]
    split
    · omega
    · have := szRs_le r (left - a.length) (by omega); omega
theorem szSS_bd {left : Int} {xs : List (List Int)} (h0 : 0 ≤ left) (h : 0 ≤ szSS left xs) : (xs.length : Int) ≤ left ∧ ∀ a ∈ xs, (a.length : Int) ≤ left := by
  unfold szSS at h
  split at h
  · omega
  · rename_i hl
    refine ⟨by omega, ?_⟩
    have key : ∀ (xs : List (List Int)) (left : Int), 0 ≤ left → 0 ≤ szRs left xs → ∀ a ∈ xs, (a.length : Int) ≤ left := by
      intro xs
      induction xs with
      | nil => intro _ _ _ a ha; cases ha
      | cons x r ih =>
        intro left h0 h a ha
        simp only [szRs] at h
        split at h
        · omega
        · rcases List.mem_cons.1 ha with rfl | ha
          · omega
          · have := ih _ (by omega) h a ha; omega
    intro a ha
    have := key xs _ (by omega) h a ha
    omega
theorem szSS_le {left : Int} {xs : List (List Int)} (h0 : 0 ≤ left) : -1 ≤ szSS left xs ∧ szSS left xs ≤ left := by
  unfold szSS
  split
  · omega
  · have := szRs_le xs (left - xs.length) (by omega); omega
theorem szInt64S_any (A : Option Addr) (n cap : Nat) (left : Int) (w : World) (hm : n ≤ maxLen) (h0 : 0 ≤ left ∧ left ≤ 1048576) :
    Calls Try.prog 67 #[.slice A n cap, .int .i64 left] w fun e w' => e = .returned (.int .i64 (if left - n < 0 then -1 else left - n)) ∧ w = w' := by
  unfold maxLen at hm
  by_cases h : left - n < 0
  · rw [if_pos h]
    go_enter Try.func67, Try.ntmps67
    go_wp2
    go_ret
    exact ⟨rfl, rfl⟩
  · rw [if_neg h]
    go_enter Try.func67, Try.ntmps67
    go_wp2
    go_ret
    exact ⟨rfl, rfl⟩
set_option maxHeartbeats 1000000 in
theorem szInt64SS_any (A : Option Addr) (cap : Nat) (xs : List (List Int)) (left : Int) (w : World) (hr : RowsR w A xs) (hs : rowsFit xs) (hl : xs.length ≤ maxLen) (h0 : 0 ≤ left ∧ left ≤ 1048576) :
    Calls Try.prog 33 #[.slice A xs.length cap, .int .i64 left] w fun e w' => e = .returned (.int .i64 (szSS left xs)) ∧ Below w.heap.size w w' := by
  unfold maxLen at hl
  by_cases h : left - xs.length < 0
  · have HE := Lib.hid (show szSS left xs = -1 by unfold szSS; rw [if_pos h])
    clear hr hs
    go_enter Try.func33, Try.ntmps33
    go_wp2
    go_ret
    exact ⟨ret_int HE.out.symm, Below.refl _ _⟩
  · have HE := Lib.hid (show szSS left xs = szRs (left - xs.length) xs by unfold szSS; rw [if_neg h])
    have HR := Lib.hid hr
    have HS := Lib.hid hs
    clear hr hs
    go_enter Try.func33, Try.ntmps33
    go_wp2
    go_loopw [1, 5] (fun t i wr => ∃ (k : Nat) (x : Int), k ≤ xs.length ∧ i = .int .i64 k ∧ t = .int .i64 x ∧ 0 ≤ x ∧ x ≤ 1048576 ∧ Hid (szRs x (xs.drop k) = szSS left xs) ∧ Below w.heap.size w wr) (fun t i wr => xs.length - (intOf i).toNat)
    case atStart => exact ⟨0, _, by omega, rfl, rfl, by omega, by omega, Lib.hid (by rw [HE.out, List.drop_zero]), Below.refl _ _⟩
    case round =>
      obtain ⟨k, x, hk, rfl, rfl, hx0, hx1, HX, hbel⟩ := hrel
      by_cases hlt : k < xs.length
      · obtain ⟨b, off, A', c', rfl, hc, hrw⟩ := (HR.out.below hbel).row hlt
        have hsz := (HS.out xs[k] (List.getElem_mem hlt)).1
        have HZ := Lib.hid (show szRs x (xs.drop k) = if x - xs[k].length < 0 then -1 else szRs (x - xs[k].length) (xs.drop (k + 1)) by rw [List.drop_eq_getElem_cons hlt]; rfl)
        clear hrw
        generalize xs[k].length = L at *
        by_cases hn : x - L < 0
        · have HF := Lib.hid (show szSS left xs = -1 by rw [← HX.out, HZ.out, if_pos hn])
          go_wp2_with (go_at_call 67; (with_reducible refine (szInt64S_any A' L c' x _ hsz ⟨hx0, hx1⟩).mono ?_); rw [if_pos hn]; rintro e w1 ⟨rfl, rfl⟩)
          go_ret
          exact ⟨ret_int HF.out.symm, hbel⟩
        · have HF := Lib.hid (show szRs (x - L) (xs.drop (k + 1)) = szSS left xs by rw [← HX.out, HZ.out, if_neg hn])
          go_wp2_with (go_at_call 67; (with_reducible refine (szInt64S_any A' L c' x _ hsz ⟨hx0, hx1⟩).mono ?_); rw [if_neg hn]; rintro e w1 ⟨rfl, rfl⟩)
          go_roundw
          case rel => exact ⟨k + 1, _, by omega, by go_num, rfl, by omega, by omega, HF, hbel⟩
          case measure => simp [intOf]; omega
      · obtain rfl : k = xs.length := by omega
        have HF := Lib.hid (show x = szSS left xs by rw [← HX.out, List.drop_length]; rfl)
        go_wp2
        go_ret
        exact ⟨ret_int HF.out, hbel⟩
/-- Rows that a call made: each in a block of its own, from B on. -/
structure OwnRs (w : World) (B : Nat) (vs : List Value) (xs : List (List Int)) : Prop where
  len : vs.length = xs.length
  own : ∀ k (h : k < vs.length) (h' : k < xs.length), OwnI w B vs[k] xs[k]
  apart : ∀ i j (hi : i < vs.length) (hj : j < vs.length), i < j → ∀ b, vs[i].ownBlock = some b → vs[j].ownBlock ≠ some b
theorem OwnRs.nil (w : World) (B : Nat) : OwnRs w B [] [] := ⟨rfl, fun k h => absurd h (by simp), fun i j hi => absurd hi (by simp)⟩
theorem OwnRs.below {w w' : World} {B : Nat} {vs : List Value} {xs : List (List Int)} (h : OwnRs w B vs xs) (hb : Below w.heap.size w w') : OwnRs w' B vs xs :=
  ⟨h.len, fun k a b => (h.own k a b).below hb, h.apart⟩
theorem OwnI.mono {w : World} {B B' : Nat} {v : Value} {xs : List Int} (h : OwnI w B v xs) (hb : B' ≤ B) : OwnI w B' v xs := ⟨h.1, h.2.imp id fun ⟨g, cap, cur, e, hg, r⟩ => ⟨g, cap, cur, e, Nat.le_trans hb hg, r⟩⟩
theorem OwnRs.mono {w : World} {B B' : Nat} {vs : List Value} {xs : List (List Int)} (h : OwnRs w B vs xs) (hb : B' ≤ B) : OwnRs w B' vs xs :=
  ⟨h.len, fun k a b => (h.own k a b).mono hb, h.apart⟩
theorem OwnRs.snoc {w : World} {B B' : Nat} {vs : List Value} {xs : List (List Int)} {v : Value} {x : List Int} (h : OwnRs w B vs xs) (hv : OwnI w B' v x) (hb : B ≤ B')
    (hB : ∀ k (h : k < vs.length), ∀ b, vs[k].ownBlock = some b → b < B') : OwnRs w B (vs ++ [v]) (xs ++ [x]) := by
  refine ⟨by simp [h.len], fun k h1 h2 => ?_, fun i j hi hj hij b hbi hbj => ?_⟩
  · by_cases hk : k < vs.length
    · rw [List.getElem_append_left hk, List.getElem_append_left (by rw [← h.len]; exact hk)]
      exact h.own k hk _
    · have h3 : k = vs.length := by simp at h1; omega
      subst h3
      rw [List.getElem_append_right (Nat.le_refl _), List.getElem_append_right (by rw [h.len]; exact Nat.le_refl _)]
      simpa [h.len] using hv.mono hb
  · have hi' : i < vs.length := by simp at hj; omega
    rw [List.getElem_append_left hi'] at hbi
    by_cases hj' : j < vs.length
    · rw [List.getElem_append_left hj'] at hbj
      exact h.apart i j hi' hj' hij b hbi hbj
    · have h3 : j = vs.length := by simp at hj; omega
      subst h3
      rw [List.getElem_append_right (Nat.le_refl _)] at hbj
      simp at hbj
      have := hB i hi' b hbi
      have := (World.ownsRow.lt hv b hbj).1
      omega
/-- A slice of rows that a call made, the outer block apart from the rows'. -/
def OwnSS (w : World) (B : Nat) (v : Value) (xs : List (List Int)) : Prop :=
  ∃ vs, w.ownsRow B 40 1 v xs.length vs ∧ OwnRs w B vs xs ∧ ∀ k (h : k < vs.length), ∀ b, vs[k].ownBlock = some b → v.ownBlock ≠ some b
theorem OwnSS.below {w w' : World} {B : Nat} {v : Value} {xs : List (List Int)} (h : OwnSS w B v xs) (hb : Below w.heap.size w w') : OwnSS w' B v xs := by
  obtain ⟨vs, h1, h2, h3⟩ := h
  exact ⟨vs, own_below h1 hb, h2.below hb, h3⟩
theorem OwnSS.form {w : World} {B : Nat} {v : Value} {xs : List (List Int)} (h : OwnSS w B v xs) : ∃ A cap, v = .slice A xs.length cap := by
  obtain ⟨vs, h1, -⟩ := h
  rcases h1.2 with ⟨rfl, h0⟩ | ⟨g, cap, cur, rfl, hr⟩
  · exact ⟨none, 0, by rw [h0]⟩
  · exact ⟨_, cap, rfl⟩
theorem OwnSS.rows {w : World} {B : Nat} {A : Option Addr} {n cap : Nat} {xs : List (List Int)} (h : OwnSS w B (.slice A n cap) xs) : RowsR w A xs := by
  obtain ⟨vs, h1, h2, -⟩ := h
  intro k hk
  rcases id h1.2 with ⟨e, h0⟩ | ⟨g, cap', cur, e, hr⟩
  · omega
  · injection e with e1 e2 e3
    subst e1
    subst e2
    subst e3
    refine ⟨g, 0, vs[k]'(by rw [h2.len]; exact hk), rfl, ?_, RowW.of_ownI (h2.own k (by rw [h2.len]; exact hk) hk)⟩
    rw [Nat.zero_add, h1.cellAt k (by omega), List.getElem?_eq_getElem]
theorem info_rows : (Try.prog.info? 40).map (fun i => (i.zero, i.size, i.bytes)) = some (some (.slice none 0 0), 1, 24) := by kernel_rfl
theorem toSS_put {vs : List Value} {n : Nat} (h : vs.length < n) (u z : Value) : (vs ++ List.replicate (n - vs.length) z).set vs.length u = (vs ++ [u]) ++ List.replicate (n - (vs.length + 1)) z := by
  rw [List.set_append_right _ _ (Nat.le_refl _), Nat.sub_self, show n - vs.length = (n - (vs.length + 1)) + 1 by omega, List.replicate_succ, List.set_cons_zero, List.append_assoc]
  rfl
set_option maxHeartbeats 1000000 in
theorem toInt64SS_own (A : Option Addr) (cap : Nat) (xs : List (List Int)) (w : World) (hr : RowsR w A xs) (hl : xs.length ≤ 1048576) (hs : ∀ r ∈ xs, r.length ≤ 1048576) :
    Calls Try.prog 35 #[.slice A xs.length cap] w fun e w' => ∃ g, e = .returned (.slice (some ⟨g, 0, none⟩) xs.length xs.length) ∧ OwnSS w' w.heap.size (.slice (some ⟨g, 0, none⟩) xs.length xs.length) xs ∧ Below w.heap.size w w' := by
  have hmk := run_make_row' (P := Try.prog) 49 40 (.slice none 0 0) 24 Try.underlying49 info_rows rfl .i64 .i64 xs.length (by omega) (by omega)
  have HR := Lib.hid hr
  have HS := Lib.hid hs
  clear hr hs
  go_enter Try.func35, Try.ntmps35
  go_wp2
  clear hmk
  go_loopw [4] (fun i wr => ∃ vs : List Value, vs.length ≤ xs.length ∧ i = .int .i64 vs.length ∧ wr.ownsRow w.heap.size 40 1 (.slice (some ⟨w.heap.size, 0, none⟩) xs.length xs.length) xs.length (vs ++ List.replicate (xs.length - vs.length) (.slice none 0 0)) ∧ OwnRs wr (w.heap.size + 1) vs (xs.take vs.length) ∧ Below w.heap.size w wr) (fun i wr => xs.length - (intOf i).toNat)
  case atStart =>
    refine ⟨[], by simp, rfl, ?_, by simpa using OwnRs.nil _ _, (Below.refl _ _).alloc (Nat.le_refl _) _⟩
    have h := World.ownsRow_lit (base := w.heap.size) (e := 40) (size := 1) w (madeCells #[.slice none 0 0] xs.length) xs.length (Nat.le_refl _) (by unfold maxLen; omega) (by simp [madeCells])
    rw [toList_madeCells_one] at h
    simpa using h
  case round =>
    obtain ⟨vs, hk, rfl, hown, hrs, hbel⟩ := hrel
    by_cases hlt : vs.length < xs.length
    · obtain ⟨b, off, A', c', rfl, hc, hrw⟩ := (HR.out.below hbel).row hlt
      have hsz := HS.out xs[vs.length] (List.getElem_mem hlt)
      have HW := Lib.hid hrw
      have HT := Lib.hid (show xs.take (vs.length + 1) = xs.take vs.length ++ [xs[vs.length]] from List.take_succ_eq_append_getElem hlt)
      have HO := Lib.hid hown
      have HRS := Lib.hid hrs
      clear hrw hown hrs
      generalize hX : xs[vs.length] = X at *
      clear hX
      obtain ⟨wo, rfl⟩ : ∃ wo : World, wo = wr := ⟨_, rfl⟩
      go_wp2_with fail
      refine (toInt64S_ownI _ X _ HW.out hsz).mono ?_
      rintro e w1 ⟨u, rfl, hu, -, hd⟩
      obtain ⟨uA, uc, rfl⟩ := hu.form
      have HU := Lib.hid hu
      have HO1 := Lib.hid (own_below HO.out hd)
      have HRS1 := Lib.hid (HRS.out.below hd)
      have hb1 := hbel.trans (hd.mono hbel.size)
      have hbs := hbel.size
      have hfz := HO1.out.frozenAt vs.length
      have hcd : w1.cell? ⟨w.heap.size, vs.length, none⟩ = some (.slice none 0 0) := by
        rw [HO1.out.cellAt vs.length (by omega), List.getElem?_append_right (Nat.le_refl _), List.getElem?_replicate, if_pos (by omega)]
      have hsz0 : w.heap.size < wo.heap.size := by
        have := (World.ownsRow.lt HO.out w.heap.size rfl).2
        exact this
      clear hu hd
      go_wp2
      go_roundw
      case rel =>
        refine ⟨vs ++ [.slice uA X.length uc], by simp; omega, by simp, ?_, ?_, hb1.setCell (by simp) _⟩
        · have h := (HO1.out.stored vs.length (.slice uA X.length uc)).1
          rw [toSS_put hlt] at h
          simpa using h
        · have hg := (HO1.out.stored vs.length (.slice uA X.length uc)).2
          have h1 : OwnRs w1 (w.heap.size + 1) (vs ++ [.slice uA X.length uc]) (xs.take vs.length ++ [X]) := HRS1.out.snoc HU.out (by omega) (fun k hk b hb => (World.ownsRow.lt (HRS.out.own k hk (by rw [← HRS.out.len]; exact hk)) b hb).2)
          rw [List.length_append, List.length_singleton, HT.out]
          refine ⟨h1.len, fun k a b => (h1.own k a b).kept hg ?_, h1.apart⟩
          cases e : (vs ++ [.slice uA X.length uc])[k].ownBlock with
          | none => exact Or.inl rfl
          | some q =>
            refine Or.inr fun e2 => ?_
            have := (World.ownsRow.lt (h1.own k a b) q e).1
            injection e2 with e2
            omega
      case measure => simp [intOf]; omega
    · have hkx : vs.length = xs.length := by omega
      have HO := Lib.hid hown
      have HRS := Lib.hid hrs
      clear hown hrs
      have hfin : ¬ (vs.length < xs.length) := hlt
      go_wp2
      go_ret
      refine ⟨_, rfl, ⟨vs, ?_, ?_, ?_⟩, hbel⟩
      · have h := HO.out
        rw [hkx, Nat.sub_self, List.replicate_zero, List.append_nil] at h
        exact h
      · have h := HRS.out
        rw [hkx, List.take_length] at h
        exact h.mono (by omega)
      · intro k hk q hq e
        have := (World.ownsRow.lt (HRS.out.own k hk (by rw [← HRS.out.len]; exact hk)) q hq).1
        have e' : w.heap.size = q := by injection e
        omega
set_option maxHeartbeats 1000000 in
theorem eqInt64SS_w (A A' : Option Addr) (cap cap' : Nat) (xs : List (List Int)) (w : World) (hr : RowsR w A xs) (hr' : RowsR w A' xs) (hl : xs.length ≤ 1048576) (hs : ∀ r ∈ xs, r.length ≤ 1048576) :
    Calls Try.prog 37 #[.slice A xs.length cap, .slice A' xs.length cap'] w fun e w' => e = .returned (.bool true) ∧ Below w.heap.size w w' := by
  have HR := Lib.hid (And.intro hr hr')
  have HS := Lib.hid hs
  clear hr hr' hs
  go_enter Try.func37, Try.ntmps37
  go_wp2
  go_loopw [5] (fun i wr => ∃ k : Nat, k ≤ xs.length ∧ i = .int .i64 k ∧ Below w.heap.size w wr) (fun i wr => xs.length - (intOf i).toNat)
  case atStart => exact ⟨0, by omega, rfl, Below.refl _ _⟩
  case round =>
    obtain ⟨k, hk, rfl, hbel⟩ := hrel
    by_cases hlt : k < xs.length
    · obtain ⟨b, off, B1, c1, rfl, hc, hrw⟩ := (HR.out.1.below hbel).row hlt
      obtain ⟨b', off', B2, c2, rfl, hc', hrw'⟩ := (HR.out.2.below hbel).row hlt
      have HW := Lib.hid (And.intro hrw hrw')
      have hsz := HS.out xs[k] (List.getElem_mem hlt)
      clear hrw hrw'
      generalize xs[k] = X at *
      obtain ⟨wo, rfl⟩ : ∃ wo : World, wo = wr := ⟨_, rfl⟩
      go_wp2
      go_region_with ((go_at_call 28; refine (eqInt64S_w _ _ X wo.drew (show RowW .i64 wo.drew _ X from HW.out.1) (show RowW .i64 wo.drew _ X from HW.out.2) (by omega)).mono ?_; rintro e w1 ⟨rfl, nn, rfl⟩))
      all_goals
        go_wp2
        go_roundw
        case rel => exact ⟨k + 1, by omega, by go_num, below_drewN' hbel _⟩
        case measure => simp [intOf]; omega
    · go_wp2
      go_ret
      exact ⟨rfl, hbel⟩
end Go.Proofs.Ytnlkikdgffaeeaa
