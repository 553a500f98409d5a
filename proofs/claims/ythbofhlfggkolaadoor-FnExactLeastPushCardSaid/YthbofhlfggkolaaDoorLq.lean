/-
  Contracts of chapter 12: the least push; the program's. Conditions: those that each theorem states.
-/
import Derived.Test.YthbofhlfggkolaaDoorLp
import Derived.Deep.LoopGhost
namespace Go.Proofs.YthbofhlfggkolaaDoor
open Go.RowKit
set_option linter.unusedVariables false
set_option linter.unusedSimpArgs false

theorem hide {p : Prop} (h : p) : Hid p := h
theorem unhide {p : Prop} (h : Hid p) : p := h
/-- What is pushed too much, with more at some airways. -/
def bsL (t : Int) (ex : List Int) (ais : List Int) : List Int := ais.foldl (fun l i => l.set i.toNat (l.getD i.toNat 0 + t)) ex
theorem bsL_len (t : Int) : ∀ (ais ex : List Int), (bsL t ex ais).length = ex.length
  | [], ex => rfl
  | i :: r, ex => by
    show (bsL t (ex.set i.toNat (ex.getD i.toNat 0 + t)) r).length = _
    rw [bsL_len t r, List.length_set]
theorem bsL_snoc (t : Int) (ex ais : List Int) (i : Int) : bsL t ex (ais ++ [i]) = (bsL t ex ais).set i.toNat ((bsL t ex ais).getD i.toNat 0 + t) := by simp [bsL, List.foldl_append]
theorem getD_setL (l : List Int) (i : Nat) (y : Int) (v : Nat) : (l.set i y).getD v 0 = y ∨ (l.set i y).getD v 0 = l.getD v 0 := by
  simp only [List.getD_eq_getElem?_getD, List.getElem?_set]
  by_cases e : i = v
  · subst e
    rw [if_pos rfl]
    by_cases h : i < l.length
    · rw [if_pos h]; exact .inl rfl
    · rw [if_neg h]; exact .inr (by simp [List.getElem?_eq_none (Nat.le_of_not_lt h)])
  · rw [if_neg e]; exact .inr rfl
theorem bsL_bd {t : Int} (ht : 0 ≤ t ∧ t ≤ 20000) : ∀ (ais ex : List Int) (c : Int), (∀ v, -1020000 ≤ ex.getD v 0 ∧ ex.getD v 0 ≤ c) → ∀ v, -1020000 ≤ (bsL t ex ais).getD v 0 ∧ (bsL t ex ais).getD v 0 ≤ c + 20000 * (ais.length : Int)
  | [], ex, c, h, v => by have := h v; simp only [bsL, List.foldl_nil, List.length_nil]; omega
  | i :: r, ex, c, h, v => by
    have h2 := bsL_bd ht r (ex.set i.toNat (ex.getD i.toNat 0 + t)) (c + 20000) (fun v => by
      have a := h v
      have b := h i.toNat
      rcases getD_setL ex i.toNat (ex.getD i.toNat 0 + t) v with e | e <;> rw [e] <;> omega) v
    have e : bsL t ex (i :: r) = bsL t (ex.set i.toNat (ex.getD i.toNat 0 + t)) r := rfl
    rw [e, List.length_cons]
    omega
theorem bsL_take {t : Int} {ex ais : List Int} {j : Nat} (hj : j < ais.length) {k : Nat} (hk : ais.getD j 0 = (k : Int)) : bsL t ex (ais.take (j + 1)) = (bsL t ex (ais.take j)).set k ((bsL t ex (ais.take j)).getD k 0 + t) := by
  have e : ais.take (j + 1) = ais.take j ++ [ais.getD j 0] := by
    rw [List.take_succ_eq_append_getElem hj]
    simp [List.getD, hj]
  rw [e, bsL_snoc, hk, Int.toNat_natCast]
set_option maxHeartbeats 4000000 in
set_option maxRecDepth 100000 in
theorem boosted_any (J : Int) (A : Option Addr) (cap n : Nat) (XA : Option Addr) (xcap : Nat) (ex : List Int) (G : Option Addr) (gcap gn : Nat) (t : Int) (AI : Value) (ais : List Int) (w : World) (hX : Row .i64 w (.slice XA ex.length xcap) ex) (hx0 : 0 < ex.length) (hxl : ex.length ≤ 1048576) (hA : Row .i64 w AI ais) (hal : ais.length ≤ 24) (hin : ∀ j, j < ais.length → 0 ≤ ais.getD j 0 ∧ ais.getD j 0 < (ex.length : Int))
    (hxb : ∀ v, -1020000 ≤ ex.getD v 0 ∧ ex.getD v 0 ≤ 1020000) (ht : 0 ≤ t ∧ t ≤ 20000) :
    Calls Tryd.prog 54 #[.agg #[.int .i64 J, .slice A n cap, .slice XA ex.length xcap, .slice G gn gcap], .int .i64 t, AI] w fun e w' => ∃ u, e = .returned (.agg #[.int .i64 J, .slice A n cap, u, .slice G gn gcap]) ∧ OwnI w' w.heap.size u (bsL t ex ais) ∧ Below w.heap.size w w' := by
  obtain ⟨AA, acap, rfl⟩ := hA.form
  have HB0 := Lib.hid (show Below w.heap.size w ((w.alloc (.cells #[.int .i64 J, .slice A n cap, .slice XA ex.length xcap, .slice G gn gcap] 75)).alloc (.cells #[.int .i64 0, .slice none 0 0, .slice none 0 0, .slice none 0 0] 75)) from (below_box w _).alloc (by simp) _)
  have HX := Lib.hid (hX.below HB0.out)
  have HA := Lib.hid hA
  have HIN := Lib.hid hin
  have HXB := Lib.hid hxb
  have HC := Lib.hid (show ∀ i v, ([.int .i64 J, .slice A n cap, .slice XA ex.length xcap, .slice G gn gcap] : List Value)[i]? = some v → ((w.alloc (.cells #[.int .i64 J, .slice A n cap, .slice XA ex.length xcap, .slice G gn gcap] 75)).alloc (.cells #[.int .i64 0, .slice none 0 0, .slice none 0 0, .slice none 0 0] 75)).cell? ⟨w.heap.size, i, none⟩ = some v ∧ ((w.alloc (.cells #[.int .i64 J, .slice A n cap, .slice XA ex.length xcap, .slice G gn gcap] 75)).alloc (.cells #[.int .i64 0, .slice none 0 0, .slice none 0 0, .slice none 0 0] 75)).frozen? ⟨w.heap.size, i, none⟩ = false from fun i v hi => by
    match i, hi with
    | 0, hi | 1, hi | 2, hi | 3, hi => (simp at hi; subst hi; exact ⟨by simp, by simp⟩)
    | i + 4, hi => simp at hi)
  have HZ := Lib.hid (show ∀ i v, ([.int .i64 0, .slice none 0 0, .slice none 0 0, .slice none 0 0] : List Value)[i]? = some v → ((w.alloc (.cells #[.int .i64 J, .slice A n cap, .slice XA ex.length xcap, .slice G gn gcap] 75)).alloc (.cells #[.int .i64 0, .slice none 0 0, .slice none 0 0, .slice none 0 0] 75)).cell? ⟨w.heap.size + 1, i, none⟩ = some v ∧ ((w.alloc (.cells #[.int .i64 J, .slice A n cap, .slice XA ex.length xcap, .slice G gn gcap] 75)).alloc (.cells #[.int .i64 0, .slice none 0 0, .slice none 0 0, .slice none 0 0] 75)).frozen? ⟨w.heap.size + 1, i, none⟩ = false from fun i v hi => by
    match i, hi with
    | 0, hi | 1, hi | 2, hi | 3, hi => (simp at hi; subst hi; exact ⟨by simp, by simp⟩)
    | i + 4, hi => simp at hi)
  have hsz : ((w.alloc (.cells #[.int .i64 J, .slice A n cap, .slice XA ex.length xcap, .slice G gn gcap] 75)).alloc (.cells #[.int .i64 0, .slice none 0 0, .slice none 0 0, .slice none 0 0] 75)).heap.size = w.heap.size + 2 := by simp
  have HSZ := Lib.hid hsz
  have hc2 := (HC.out 2 _ rfl).1
  clear hX hA hin hxb hsz
  go_enter Tryd.func54, Tryd.ntmps54
  go_wp2_with fail
  (with_reducible refine (clone_any _ ex _ HX.out hxl).mono ?_)
  rintro e w1 ⟨u, rfl, ho, hd⟩
  rw [HSZ.out] at ho hd
  obtain ⟨g, cg, rfl, hg, hcp⟩ := own_someP ho hx0
  have HB1 := Lib.hid (HB0.out.trans (hd.mono (by omega)))
  have HC1 := Lib.hid (show ∀ i v, ([.int .i64 J, .slice A n cap, .slice XA ex.length xcap, .slice G gn gcap] : List Value)[i]? = some v → w1.cell? ⟨w.heap.size, i, none⟩ = some v ∧ w1.frozen? ⟨w.heap.size, i, none⟩ = false from fun i v hi => by
    obtain ⟨h1, h2⟩ := HC.out i v hi
    exact ⟨(hd.cell (p := ⟨w.heap.size, i, none⟩) (by show w.heap.size < w.heap.size + 2; omega)).trans h1, (hd.frozen (p := ⟨w.heap.size, i, none⟩) (by show w.heap.size < w.heap.size + 2; omega)).trans h2⟩)
  have HZ1 := Lib.hid (show ∀ i v, ([.int .i64 0, .slice none 0 0, .slice none 0 0, .slice none 0 0] : List Value)[i]? = some v → w1.cell? ⟨w.heap.size + 1, i, none⟩ = some v ∧ w1.frozen? ⟨w.heap.size + 1, i, none⟩ = false from fun i v hi => by
    obtain ⟨h1, h2⟩ := HZ.out i v hi
    exact ⟨(hd.cell (p := ⟨w.heap.size + 1, i, none⟩) (by show w.heap.size + 1 < w.heap.size + 2; omega)).trans h1, (hd.frozen (p := ⟨w.heap.size + 1, i, none⟩) (by show w.heap.size + 1 < w.heap.size + 2; omega)).trans h2⟩)
  obtain ⟨m2, f2⟩ := HC1.out 2 _ rfl
  have HO2 := Lib.hid (show (w1.setCell ⟨w.heap.size, 2, none⟩ (.slice (some ⟨g, 0, none⟩) ex.length cg)).ownsRow (w.heap.size + 2) 2 1 (.slice (some ⟨g, 0, none⟩) ex.length cg) ex.length (intsV (bsL t ex (ais.take 0))) from own_setLowE ho (p := ⟨w.heap.size, 2, none⟩) (by show w.heap.size < w.heap.size + 2; omega) _)
  have HB2 := Lib.hid (show Below w.heap.size w (w1.setCell ⟨w.heap.size, 2, none⟩ (.slice (some ⟨g, 0, none⟩) ex.length cg)) from HB1.out.setCell (Nat.le_refl _) _)
  have HC2 := Lib.hid (show ∀ i v, ([.int .i64 J, .slice A n cap, (.slice (some ⟨g, 0, none⟩) ex.length cg), .slice G gn gcap] : List Value)[i]? = some v → (w1.setCell ⟨w.heap.size, 2, none⟩ (.slice (some ⟨g, 0, none⟩) ex.length cg)).cell? ⟨w.heap.size, i, none⟩ = some v from fun i v hi => by
    match i, hi with
    | 0, hi => exact (World.cell?_setCell_other _ _ _ _ (by intro e; injection e with e1 e2; omega)).trans (HC1.out 0 v hi).1
    | 1, hi => exact (World.cell?_setCell_other _ _ _ _ (by intro e; injection e with e1 e2; omega)).trans (HC1.out 1 v hi).1
    | 2, hi => (simp at hi; subst hi; exact World.cell?_setCell_same _ _ _ m2)
    | 3, hi => exact (World.cell?_setCell_other _ _ _ _ (by intro e; injection e with e1 e2; omega)).trans (HC1.out 3 v hi).1
    | i + 4, hi => simp at hi)
  have HZ2 := Lib.hid (show ∀ i v, ([.int .i64 0, .slice none 0 0, .slice none 0 0, .slice none 0 0] : List Value)[i]? = some v → (w1.setCell ⟨w.heap.size, 2, none⟩ (.slice (some ⟨g, 0, none⟩) ex.length cg)).cell? ⟨w.heap.size + 1, i, none⟩ = some v ∧ (w1.setCell ⟨w.heap.size, 2, none⟩ (.slice (some ⟨g, 0, none⟩) ex.length cg)).frozen? ⟨w.heap.size + 1, i, none⟩ = false from fun i v hi => by
    obtain ⟨h1, h2⟩ := HZ1.out i v hi
    exact ⟨(World.cell?_setCell_other _ _ _ _ (by intro e; injection e with e1 e2; omega)).trans h1, by simpa using h2⟩)
  clear ho hd hc2
  go_wp2
  clear m2 f2
  generalize (w1.setCell ⟨w.heap.size, 2, none⟩ (.slice (some ⟨g, 0, none⟩) ex.length cg)) = W2 at *
  go_loopw [15] (fun i wr => ∃ j : Nat, j ≤ ais.length ∧ i = .int .i64 (j : Int) ∧ Hid (wr.ownsRow (w.heap.size + 2) 2 1 (.slice (some ⟨g, 0, none⟩) ex.length cg) ex.length (intsV (bsL t ex (ais.take j)))) ∧ Hid (Below (w.heap.size + 2) W2 wr)) (fun i wr => ais.length - (intOf i).toNat)
  case atStart => exact ⟨0, by omega, rfl, HO2, Lib.hid (Below.refl _ _)⟩
  case round =>
    obtain ⟨j, hj, rfl, HO, HBL⟩ := hrel
    have HBw := Lib.hid (HB2.out.trans (HBL.out.mono (by omega : w.heap.size ≤ w.heap.size + 2)))
    have b2 := (HBL.out.cell (p := ⟨w.heap.size, 2, none⟩) (by show w.heap.size < w.heap.size + 2; omega)).trans (HC2.out 2 _ rfl)
    by_cases hlt : j < ais.length
    · obtain ⟨ab, aof, rfl, -, ca⟩ := Row.cell HA.out hlt
      have ca' := cellK ca HBw.out
      obtain ⟨hy0, hy1⟩ := HIN.out j hlt
      obtain ⟨k, hk⟩ := Int.eq_ofNat_of_zero_le hy0
      rw [hk] at ca' hy1
      have hkl : k < ex.length := by omega
      have HT := Lib.hid (bsL_take (t := t) (ex := ex) hlt hk)
      have hzb := bsL_bd ht (ais.take j) ex 1020000 HXB.out k
      have hlj : ((ais.take j).length : Int) ≤ 24 := by rw [List.length_take]; omega
      have cr : wr.cell? ⟨g, k, none⟩ = some (.int .i64 ((bsL t ex (ais.take j)).getD k 0)) := (HO.out.cellAt k (by omega)).trans (by simp [intsV, List.getD, bsL_len, hkl])
      have fr : wr.frozen? ⟨g, k, none⟩ = false := HO.out.frozenAt k
      have hjI : (j : Int) < (ais.length : Int) := by omega
      clear hk hy0 ca
      generalize (bsL t ex (ais.take j)).getD k 0 = z at *
      have hw1 : IntKind.i64.wrap (z + t) = z + t := IntWalk.i64_in _ (by omega)
      go_wp2
      go_roundw
      case rel => exact ⟨j + 1, by omega, by go_num, Lib.hid (by
        have h := (HO.out.stored k (.int .i64 (z + t))).1
        rw [ints_set, ← HT.out] at h
        exact h), Lib.hid (HBL.out.setCell hg _)⟩
      case measure => simp [intOf]; omega
    · obtain rfl : j = ais.length := by omega
      have HOO := Lib.hid (show wr.ownsRow (w.heap.size + 2) 2 1 (.slice (some ⟨g, 0, none⟩) ex.length cg) ex.length (intsV (bsL t ex ais)) by have h := HO.out; rw [List.take_length] at h; exact h)
      have b0 := (HBL.out.cell (p := ⟨w.heap.size, 0, none⟩) (by show w.heap.size < w.heap.size + 2; omega)).trans (HC2.out 0 _ rfl)
      have b1 := (HBL.out.cell (p := ⟨w.heap.size, 1, none⟩) (by show w.heap.size < w.heap.size + 2; omega)).trans (HC2.out 1 _ rfl)
      have b3 := (HBL.out.cell (p := ⟨w.heap.size, 3, none⟩) (by show w.heap.size < w.heap.size + 2; omega)).trans (HC2.out 3 _ rfl)
      have RZ : ∀ i v, ([.int .i64 0, .slice none 0 0, .slice none 0 0, .slice none 0 0] : List Value)[i]? = some v → wr.cell? ⟨w.heap.size + 1, i, none⟩ = some v ∧ wr.frozen? ⟨w.heap.size + 1, i, none⟩ = false := fun i v hi => by
        obtain ⟨h1, h2⟩ := HZ2.out i v hi
        exact ⟨(HBL.out.cell (p := ⟨w.heap.size + 1, i, none⟩) (by show w.heap.size + 1 < w.heap.size + 2; omega)).trans h1, (HBL.out.frozen (p := ⟨w.heap.size + 1, i, none⟩) (by show w.heap.size + 1 < w.heap.size + 2; omega)).trans h2⟩
      obtain ⟨m0, g0⟩ := RZ 0 _ rfl
      obtain ⟨m1, g1⟩ := RZ 1 _ rfl
      obtain ⟨m2, g2⟩ := RZ 2 _ rfl
      obtain ⟨m3, g3⟩ := RZ 3 _ rfl
      clear HO RZ
      go_wp2
      refine bodyPost_ret (v := .agg #[.int .i64 J, .slice A n cap, (.slice (some ⟨g, 0, none⟩) ex.length cg), .slice G gn gcap]) (by simp [results, Tryd.results54, go_sem, World.cell?_setCell_same', World.cell?_setCell_other, m0, m1, m2, m3]) rfl ⟨_, rfl, ?_, ?_⟩
      · have hw1 : w.heap.size + 1 < w.heap.size + 2 := by omega
        have h1 := own_setLowE (own_setLowE (own_setLowE (own_setLowE HOO.out (p := ⟨w.heap.size + 1, 0, none⟩) (by exact hw1) (.int .i64 J)) (p := ⟨w.heap.size + 1, 1, none⟩) (by exact hw1) (.slice A n cap)) (p := ⟨w.heap.size + 1, 2, none⟩) (by exact hw1) (.slice (some ⟨g, 0, none⟩) ex.length cg)) (p := ⟨w.heap.size + 1, 3, none⟩) (by exact hw1) (.slice G gn gcap)
        refine own_leE (B := w.heap.size + 2) ?_ (by omega)
        unfold OwnI
        rw [bsL_len]
        exact h1
      · have hB := HBw.out
        repeat (first | (with_reducible exact hB) | (with_reducible refine Below.setCell ?_ (by show w.heap.size ≤ w.heap.size + 1; omega) _))
/-- The sentinel as it was laid. -/
def ErrN (w : World) (e0 : Addr) : Prop := w.cell? ⟨0, 0, none⟩ = some (.iface 202 (.pointer (some e0)))
theorem ErrN.below {w w' : World} {e0 : Addr} (h : ErrN w e0) (hb : Below w.heap.size w w') : ErrN w' e0 := cellK h hb
set_option maxHeartbeats 1000000 in
theorem misfit_any (Jn : Nat) (A : Option Addr) (cap : Nat) (xs : List Aw) (X : Option Addr) (xcap : Nat) (ex : List Int) (G : Option Addr) (gcap : Nat) (rg : List Bool) (e0 : Addr) (w : World) (hok : mineOk (Jn : Int) xs = true) (hr : AwR w A xs) (hxl : ex.length = xs.length) (hX : Row .i64 w (.slice X xs.length xcap) ex) (hgl : rg.length = xs.length) (hG : BoR w G rg)
    (hxb : ∀ i, i < xs.length → -2000000 ≤ ex.getD i 0 ∧ ex.getD i 0 ≤ 2000000) (hE : ErrN w e0) :
    Calls Tryd.prog 55 #[.agg #[.int .i64 (Jn : Int), .slice A xs.length cap, .slice X xs.length xcap, .slice G xs.length gcap]] w fun e w' => ∃ err, e = .returned err ∧ ((ptOk Jn (edT xs (fun i => ex.getD i 0) rg xs.length) = true ∧ err = .nilIface) ∨ (ptOk Jn (edT xs (fun i => ex.getD i 0) rg xs.length) = false ∧ err = (.iface 202 (.pointer (some e0))))) ∧ Below w.heap.size w w' := by
  have HB0 := Lib.hid (below_box w (.cells #[.int .i64 (Jn : Int), .slice A xs.length cap, .slice X xs.length xcap, .slice G xs.length gcap] 75))
  have HP := Lib.hid (potentials_any Jn A cap xs X xcap ex G gcap rg e0 _ hok (hr.below HB0.out) hxl (hX.below HB0.out) hgl (hG.below HB0.out) hxb (hE.below HB0.out))
  clear hok hr hxl hX hgl hG hxb hE
  go_enter Tryd.func55, Tryd.ntmps55
  go_wp2_with fail
  (with_reducible refine (HP.out).mono ?_)
  rintro e w1 ⟨v, err, rfl, hcase, ho, hd⟩
  have HB1 := Lib.hid (HB0.out.trans (hd.mono HB0.out.size))
  have HC := Lib.hid hcase
  obtain ⟨A2, c2, rfl⟩ := OwnI.form ho
  clear hcase ho hd
  go_wp2
  go_ret
  exact ⟨_, rfl, HC.out, HB1.out⟩
theorem lq_edges {xs : List Aw} {dr pu : List Int} {rg : List Bool} {k : Nat} {t : Int} (hk : k < pu.length) (hpl : pu.length = xs.length) : edT xs (fun i => (bsL t (exL dr pu xs.length) [(k : Int)]).getD i 0) rg xs.length = edT xs (exF dr (puW pu k t)) rg xs.length := by
  refine edT_congr _ (fun i hi => ?_)
  show ((exL dr pu xs.length).set ((k : Int)).toNat ((exL dr pu xs.length).getD ((k : Int)).toNat 0 + t)).getD i 0 = _
  rw [Int.toNat_natCast, exL_at (show k < xs.length by omega)]
  have e2 : exF dr (puW pu k t) i = (if i = k then pu.getD k 0 + t else pu.getD i 0) - dr.getD i 0 := by unfold exF; rw [puW_at hk]
  rw [e2]
  by_cases e : i = k
  · subst e
    rw [if_pos rfl]
    simp only [List.getD_eq_getElem?_getD]
    rw [List.getElem?_set_self (by rw [exL_len]; omega)]
    unfold exF
    simp only [List.getD_eq_getElem?_getD, Option.getD_some]
    omega
  · rw [if_neg e]
    have h1 := exL_at (dr := dr) (pu := pu) hi
    simp only [List.getD_eq_getElem?_getD] at h1 ⊢
    rw [List.getElem?_set_ne (fun h => e h.symm), h1]
    unfold exF
    simp only [List.getD_eq_getElem?_getD]
/-- What the closure holds: the demand and the airway. -/
def LqC (w : World) (bd ba : Nat) (Jn : Nat) (A : Option Addr) (n cap : Nat) (X : Option Addr) (xcap : Nat) (G : Option Addr) (gcap : Nat) (k : Nat) : Prop :=
  w.cell? ⟨bd, 0, none⟩ = some (.int .i64 (Jn : Int)) ∧ w.cell? ⟨bd, 1, none⟩ = some (.slice A n cap) ∧ w.cell? ⟨bd, 2, none⟩ = some (.slice X n xcap) ∧ w.cell? ⟨bd, 3, none⟩ = some (.slice G n gcap) ∧ w.cell? ⟨ba, 0, none⟩ = some (.int .i64 (k : Int))
theorem LqC.below {w w' : World} {bd ba Jn n cap xcap gcap k : Nat} {A X G : Option Addr} (h : LqC w bd ba Jn A n cap X xcap G gcap k) (hb : Below w.heap.size w w') : LqC w' bd ba Jn A n cap X xcap G gcap k := ⟨cellK h.1 hb, cellK h.2.1 hb, cellK h.2.2.1 hb, cellK h.2.2.2.1 hb, cellK h.2.2.2.2 hb⟩
set_option maxHeartbeats 2000000 in
set_option maxRecDepth 100000 in
theorem lqClo_any (bd ba : Nat) (Jn : Nat) (A : Option Addr) (cap : Nat) (xs : List Aw) (X : Option Addr) (xcap : Nat) (dr pu : List Int) (G : Option Addr) (gcap : Nat) (rg : List Bool) (k : Nat) (t : Int) (e0 : Addr) (w : World) (hc : LqC w bd ba Jn A xs.length cap X xcap G gcap k) (hok : mineOk (Jn : Int) xs = true) (hr : AwR w A xs) (hX : Row .i64 w (.slice X xs.length xcap) (exL dr pu xs.length)) (hgl : rg.length = xs.length) (hG : BoR w G rg)
    (hpl : pu.length = xs.length) (hk : k < pu.length) (hxb : ∀ v, -1020000 ≤ (exL dr pu xs.length).getD v 0 ∧ (exL dr pu xs.length).getD v 0 ≤ 1020000) (ht : 0 ≤ t ∧ t ≤ 20000) (hE : ErrN w e0) :
    Calls Tryd.prog 53 #[.int .i64 t, .pointer (some ⟨bd, 0, none⟩), .pointer (some ⟨ba, 0, none⟩)] w fun e w' => e = .returned (.bool (lpP (Jn : Int) xs dr pu rg k t)) ∧ Below w.heap.size w w' := by
  have h24 := (mineOk_iff.1 hok).2.2
  have HE := Lib.hid (lq_edges (dr := dr) (rg := rg) (t := t) hk hpl)
  have hb := below_box w (.cells #[.int .i64 (k : Int)] 2)
  have HBX := Lib.hid hb
  have hkx : k < xs.length := by omega
  have el := exL_len dr pu xs.length
  have HBO := Lib.hid (boosted_any (Jn : Int) A cap xs.length X xcap (exL dr pu xs.length) G gcap xs.length t (.slice (some ⟨w.heap.size, 0, none⟩) 1 1) [(k : Int)] (w.alloc (.cells #[.int .i64 (k : Int)] 2)) (by rw [el]; exact hX.below hb) (by rw [el]; omega) (by rw [el]; omega) (row_here .i64 w [(k : Int)] _ _ 1 1 rfl rfl) (by simp) (fun j hj => by
    obtain rfl : j = 0 := by simpa using hj
    rw [el]
    exact ⟨by simp, by simpa using hkx⟩) hxb ht)
  rw [el] at HBO
  have HXB := Lib.hid hxb
  have HR := Lib.hid (hr.below hb)
  have HG := Lib.hid (hG.below hb)
  have HEE := Lib.hid (hE.below hb)
  have HOK := Lib.hid hok
  have HGL := Lib.hid hgl
  obtain ⟨d0, d1, d2, d3, a0⟩ := hc
  clear hok hr hX hgl hG hpl hxb hE hb el
  go_enter Tryd.func53, Tryd.ntmps53
  go_wp2_with fail
  (with_reducible refine (HBO.out).mono ?_)
  rintro e w1 ⟨u, rfl, ho, hd⟩
  obtain ⟨XB, xc2, rfl⟩ : ∃ XB xc2, u = .slice XB xs.length xc2 := by
    obtain ⟨XB, xc2, e⟩ := OwnI.form ho
    rw [bsL_len, exL_len] at e
    exact ⟨XB, xc2, e⟩
  have HB1 := Lib.hid (HBX.out.trans (hd.mono HBX.out.size))
  have HX1 := Lib.hid (row_ownI ho)
  have HM := Lib.hid (misfit_any Jn A cap xs XB xc2 (bsL t (exL dr pu xs.length) [(k : Int)]) G gcap rg e0 w1 HOK.out (HR.out.below hd) (by rw [bsL_len, exL_len]) HX1.out HGL.out (HG.out.below hd) (fun i hi => by
    have := bsL_bd ht [(k : Int)] _ 1020000 HXB.out i
    simp only [List.length_cons, List.length_nil] at this
    omega) (HEE.out.below hd))
  clear ho hd d0 d1 d2 d3 a0
  go_wp2_with fail
  (with_reducible refine (HM.out).mono ?_)
  rintro e w2 ⟨err, rfl, hcase, hd2⟩
  have HB2 := Lib.hid (HB1.out.trans (hd2.mono HB1.out.size))
  rw [HE.out] at hcase
  have hz : lpP (Jn : Int) xs dr pu rg k t = ptOk Jn (edT xs (exF dr (puW pu k t)) rg xs.length) := by unfold lpP; rw [Int.toNat_natCast]
  rcases hcase with ⟨h1, rfl⟩ | ⟨h1, rfl⟩
  · have HZ := Lib.hid (hz.trans h1)
    clear hz h1 hd2
    go_wp2
    go_ret
    exact ⟨ret_bool HZ.out.symm, HB2.out⟩
  · have HZ := Lib.hid (hz.trans h1)
    clear hz h1 hd2
    go_wp2
    go_ret
    exact ⟨ret_bool HZ.out.symm, HB2.out⟩
theorem stepQ (bd ba : Nat) (p : Int → Bool) (lo : Int) (i : Nat) (bf bl : Nat) (w1 : World) (c0 : w1.cell? ⟨bf, 0, none⟩ = some (.func (.func 53) #[] #[.pointer (some ⟨bd, 0, none⟩), .pointer (some ⟨ba, 0, none⟩)])) (c1 : w1.cell? ⟨bl, 0, none⟩ = some (.int .i64 lo))
    (h1 : -1000000 ≤ lo ∧ lo ≤ 1000000) (h2 : i ≤ 1000000) (hf : Calls Tryd.prog 53 #[.int .i64 (lo + (i : Int)), .pointer (some ⟨bd, 0, none⟩), .pointer (some ⟨ba, 0, none⟩)] w1 fun e w2 => e = .returned (.bool (p (lo + (i : Int)))) ∧ Below w1.heap.size w1 w2) :
    Calls Tryd.prog 78 #[.int .i64 (i : Int), .pointer (some ⟨bf, 0, none⟩), .pointer (some ⟨bl, 0, none⟩)] w1 fun e w2 => e = .returned (.bool (p (lo + (i : Int)))) ∧ Below w1.heap.size w1 w2 := by
  have HF := hide hf
  clear hf
  go_enter Tryd.func78, Tryd.ntmps78
  go_wp2_with (go_at_call 53; refine (unhide HF).mono ?_; rintro e w2 ⟨rfl, hb⟩)
  go_ret
  exact ⟨rfl, hb⟩
theorem searchQ (bd ba : Nat) (p : Int → Bool) (lo : Int) (n m : Nat) (bf bl : Nat) (w : World) (c0 : w.cell? ⟨bf, 0, none⟩ = some (.func (.func 53) #[] #[.pointer (some ⟨bd, 0, none⟩), .pointer (some ⟨ba, 0, none⟩)])) (c1 : w.cell? ⟨bl, 0, none⟩ = some (.int .i64 lo))
    (h1 : -1000000 ≤ lo ∧ lo ≤ 1000000) (h2 : n ≤ 1000000) (hm : m ≤ n) (hl : ∀ t, t < m → p (lo + (t : Int)) = false) (hh : ∀ t, m ≤ t → t < n → p (lo + (t : Int)) = true)
    (hf : ∀ (x : Int) (w1 : World), lo ≤ x → x < lo + n → Below w.heap.size w w1 → Calls Tryd.prog 53 #[.int .i64 x, .pointer (some ⟨bd, 0, none⟩), .pointer (some ⟨ba, 0, none⟩)] w1 fun e w2 => e = .returned (.bool (p x)) ∧ Below w1.heap.size w1 w2) :
    Calls Tryd.prog 77 #[.int .i64 (n : Int), .func (.func 78) #[] #[.pointer (some ⟨bf, 0, none⟩), .pointer (some ⟨bl, 0, none⟩)]] w fun e w2 => e = .returned (.int .i64 (m : Int)) ∧ Below w.heap.size w w2 := by
  have HF := Lib.hid hf
  have HL := Lib.hid hl
  have HH := Lib.hid hh
  have C0 := Lib.hid c0
  have C1 := Lib.hid c1
  clear hf hl hh c0 c1
  go_enter Tryd.func77, Tryd.ntmps77
  go_wp2
  go_loopw [5, 6] (fun x y wr => ∃ a b : Nat, x = .int .i64 a ∧ y = .int .i64 b ∧ (a ≤ m ∧ m ≤ b) ∧ b ≤ n ∧ Below w.heap.size w wr) (fun x y wr => (intOf y).toNat - (intOf x).toNat)
  case atStart => exact ⟨0, n, rfl, rfl, ⟨by omega, hm⟩, by omega, Below.refl _ _⟩
  case round =>
    obtain ⟨a, b, rfl, rfl, ⟨hab, hmb⟩, hbn, hbel⟩ := hrel
    by_cases hlt : a < b
    · have hc0 := (hbel.cell (World.block_lt_of_cell? _ _ C0.out)).trans C0.out
      have hc1 := (hbel.cell (World.block_lt_of_cell? _ _ C1.out)).trans C1.out
      have hs := stepQ bd ba p lo ((a + b) / 2) bf bl wr hc0 hc1 h1 (by omega) (HF.out _ _ (by omega) (by omega) hbel)
      rw [show (((a + b) / 2 : Nat) : Int) = ((a : Int) + (b : Int)) / 2 by omega] at hs
      cases hp : p (lo + ((a : Int) + (b : Int)) / 2)
      · rw [hp] at hs
        have hx : (a + b) / 2 < m := by
          apply Nat.lt_of_not_le; intro hle
          have := HH.out ((a + b) / 2) hle (by omega)
          rw [show (((a + b) / 2 : Nat) : Int) = ((a : Int) + (b : Int)) / 2 by omega, hp] at this
          cases this
        have HS := hide hs
        have HP := Lib.hid hp
        have HB := Lib.hid hbel
        clear hs hp hc0 hc1 hbel
        go_wp2_with (go_at_call 78; refine (unhide HS).mono ?_; rintro e w2 ⟨rfl, hb2⟩)
        go_roundw
        case rel => exact ⟨(a + b) / 2 + 1, b, by rw [show ((a : Int) + (b : Int)) / 2 + 1 = (((a + b) / 2 + 1 : Nat) : Int) by omega], rfl, ⟨by omega, hmb⟩, hbn, HB.out.trans (hb2.mono HB.out.size)⟩
        case measure => simp [intOf]; omega
      · rw [hp] at hs
        have hx : m ≤ (a + b) / 2 := by
          apply Nat.le_of_not_lt; intro hle
          have := HL.out ((a + b) / 2) hle
          rw [show (((a + b) / 2 : Nat) : Int) = ((a : Int) + (b : Int)) / 2 by omega, hp] at this
          cases this
        have HS := hide hs
        have HP := Lib.hid hp
        have HB := Lib.hid hbel
        clear hs hp hc0 hc1 hbel
        go_wp2_with (go_at_call 78; refine (unhide HS).mono ?_; rintro e w2 ⟨rfl, hb2⟩)
        go_roundw
        case rel => exact ⟨a, (a + b) / 2, rfl, by rw [show ((a : Int) + (b : Int)) / 2 = (((a + b) / 2 : Nat) : Int) by omega], ⟨hab, hx⟩, by omega, HB.out.trans (hb2.mono HB.out.size)⟩
        case measure => simp [intOf]; omega
    · obtain rfl : m = a := by omega
      go_wp2
      go_ret
      exact ⟨rfl, hbel⟩
theorem leastQ (bd ba : Nat) (p : Int → Bool) (lo hi : Int) (n m : Nat) (w : World) (h1 : -1000000 ≤ lo ∧ lo ≤ 1000000) (h3 : (n : Int) = hi - lo + 1) (h4 : hi ≤ 900000) (h5 : lo ≤ hi) (h6 : n ≤ 1000000) (hm : m ≤ n)
    (hl : ∀ t, t < m → p (lo + (t : Int)) = false) (hh : ∀ t, m ≤ t → t < n → p (lo + (t : Int)) = true)
    (hf : ∀ (x : Int) (w1 : World), lo ≤ x → x < lo + n → Below w.heap.size w w1 → Calls Tryd.prog 53 #[.int .i64 x, .pointer (some ⟨bd, 0, none⟩), .pointer (some ⟨ba, 0, none⟩)] w1 fun e w2 => e = .returned (.bool (p x)) ∧ Below w1.heap.size w1 w2) :
    Calls Tryd.prog 52 #[.int .i64 lo, .int .i64 hi, .func (.func 53) #[] #[.pointer (some ⟨bd, 0, none⟩), .pointer (some ⟨ba, 0, none⟩)]] w fun e w2 => e = .returned (.int .i64 (lo + (m : Int))) ∧ Below w.heap.size w w2 := by
  have HF := Lib.hid hf
  have HL := Lib.hid hl
  have HH := Lib.hid hh
  clear hf hl hh
  have e3 : hi - lo + 1 = (n : Int) := h3.symm
  have H3 := Lib.hid e3
  clear e3
  go_enter Tryd.func52, Tryd.ntmps52
  go_wp2_with fail
  rw [H3.out]
  have hB2 : Below w.heap.size w ((w.alloc (.cells #[.int .i64 lo] 2)).alloc (.cells #[.func (.func 53) #[] #[.pointer (some ⟨bd, 0, none⟩), .pointer (some ⟨ba, 0, none⟩)]] 93)) := (below_box _ _).alloc (by simp) _
  have hz : w.heap.size + 1 < ((w.alloc (.cells #[.int .i64 lo] 2)).alloc (.cells #[.func (.func 53) #[] #[.pointer (some ⟨bd, 0, none⟩), .pointer (some ⟨ba, 0, none⟩)]] 93)).heap.size := by simp
  refine (searchQ bd ba p lo n m (w.heap.size + 1) w.heap.size _ (by simp) (by simp) h1 h6 hm HL.out HH.out (fun x w1 hx1 hx2 hb => HF.out x w1 hx1 hx2 (hB2.trans (hb.mono hB2.size)))).mono ?_
  rintro e w2 ⟨rfl, hb⟩
  obtain ⟨hc, hfz⟩ := bcell hb
  have HN := Lib.hid hB2
  have HZ := Lib.hid hz
  clear hB2
  go_wp2
  go_ret
  exact ⟨rfl, HN.out.trans (hb.mono HN.out.size)⟩
theorem areIdx_one (n : Nat) (x : Int) (W : World) (T : TypeId) (b : Nat) (hb : b = W.heap.size) (hn : n ≤ 1048576) :
    Calls Tryd.prog 51 #[.int .i64 n, .slice (some ⟨b, 0, none⟩) 1 1] (W.alloc (.cells #[.int .i64 x] T)) fun e w' => e = .returned (.bool (inB x 0 ((n : Int) - 1))) ∧ Below W.heap.size W w' := by
  have h := areIdx_any n (.slice (some ⟨b, 0, none⟩) 1 1) [x] _ (row_here .i64 W [x] T b 1 1 hb rfl) (by simp) hn
  have e : risR 0 ((n : Int) - 1) [x] = inB x 0 ((n : Int) - 1) := by unfold risR; rw [allR_one]; simp [incB]
  rw [e] at h
  exact h.mono fun _ _ ⟨a, q⟩ => ⟨a, q ▸ below_box _ _⟩
set_option maxHeartbeats 4000000 in
set_option maxRecDepth 100000 in
theorem iLeastPush_any (J : Int) (A : Option Addr) (cap : Nat) (xs : List Aw) (D : Value) (dr : List Int) (U : Value) (pu : List Int) (G : Option Addr) (gcap : Nat) (rg : List Bool) (a : Int) (e0 : Addr) (w : World) (hr : AwR w A xs) (hs : ∀ a ∈ xs, a.s.size ≤ maxLen) (hl : xs.length ≤ 1048576) (hd : Row .i64 w D dr) (hdl : dr.length ≤ 1048576) (hu : Row .i64 w U pu) (hul : pu.length ≤ 1048576) (hg : BoR w G rg) (hgl : rg.length ≤ 1048576) (hE : ErrN w e0) :
    Calls Tryd.prog 31 #[.agg #[.int .i64 J, .slice A xs.length cap], D, U, .slice G rg.length gcap, .int .i64 a] w fun e w' => e = .returned (.tuple #[.int .i64 (lpV J xs dr pu rg a), .int .i64 (lpC J xs dr pu rg a)]) ∧ Below w.heap.size w w' := by
  obtain ⟨D, dcap, rfl⟩ := hd.form
  obtain ⟨U, ucap, rfl⟩ := hu.form
  have HS := Lib.hid hs
  clear hs
  by_cases hc : dmC J xs dr pu rg = 0
  · obtain ⟨hmo, hdo, huo, hgo⟩ := dmC_ok hc
    have h24 := (mineOk_iff.1 hmo).2.2
    obtain ⟨Jn, rfl⟩ := Int.eq_ofNat_of_zero_le (show 0 ≤ J by have := (mineOk_iff.1 hmo).1; omega)
    have HMO := Lib.hid hmo
    have HDO := Lib.hid hdo
    have HUO := Lib.hid huo
    have HGO := Lib.hid hgo
    have HPL := Lib.hid (flOk_iff.1 huo).1
    have hgx : rg.length ≤ xs.length := Nat.le_of_eq hgo
    have hxg : xs.length ≤ rg.length := Nat.le_of_eq hgo.symm
    clear hmo hdo huo hgo
    cases hin : inB a 0 ((xs.length : Int) - 1)
    · have HZ := Lib.hid (lp_out hc hin)
      have HB0 := Lib.hid (show Below w.heap.size w ((w.alloc (.cells #[.int .i64 (Jn : Int), .slice A xs.length cap] 43)).alloc (.cells #[.int .i64 a] 2)) from (below_box w _).alloc (by simp) _)
      have HR := Lib.hid (hr.below HB0.out)
      have HD := Lib.hid (hd.below HB0.out)
      have HU := Lib.hid (hu.below HB0.out)
      have HG := Lib.hid (hg.below HB0.out)
      have HE := Lib.hid (hE.below HB0.out)
      have HC := Lib.hid (show ((w.alloc (.cells #[.int .i64 (Jn : Int), .slice A xs.length cap] 43)).alloc (.cells #[.int .i64 a] 2)).cell? ⟨w.heap.size, 1, none⟩ = some (.slice A xs.length cap) ∧ ((w.alloc (.cells #[.int .i64 (Jn : Int), .slice A xs.length cap] 43)).alloc (.cells #[.int .i64 a] 2)).cell? ⟨w.heap.size + 1, 0, none⟩ = some (.int .i64 a) from ⟨by simp, by simp⟩)
      have hsz0 : w.heap.size + 1 < ((w.alloc (.cells #[.int .i64 (Jn : Int), .slice A xs.length cap] 43)).alloc (.cells #[.int .i64 a] 2)).heap.size := by simp
      have HSZ := Lib.hid hsz0
      clear hr hd hu hg hE hsz0
      have HDM := Lib.hid (demandOf_ok (Jn : Int) A cap xs (.slice D dr.length dcap) dr (.slice U pu.length ucap) pu G gcap rg _ HR.out HS.out hl HD.out hdl HU.out hul hgl hc)
      rw [HGO.out] at HDM
      clear hc
      rw [HGO.out]
      go_enter Tryd.func31, Tryd.ntmps31
      go_wp2_with fail
      (with_reducible refine (HDM.out).mono ?_)
      rintro e w1 ⟨X, rfl, hox, hd1⟩
      have HB1 := Lib.hid (HB0.out.trans (hd1.mono HB0.out.size))
      have HX1 := Lib.hid (row_ownI hox)
      obtain ⟨XA, xcap, rfl⟩ : ∃ XA xcap, X = .slice XA xs.length xcap := by
        obtain ⟨XA, xcap, e⟩ := OwnI.form hox
        rw [exL_len] at e
        exact ⟨XA, xcap, e⟩
      have HR1 := Lib.hid (HR.out.below hd1)
      have HG1 := Lib.hid (HG.out.below hd1)
      have HE1 := Lib.hid (HE.out.below hd1)
      have m1 := cellK HC.out.1 hd1
      have a1 := cellK HC.out.2 hd1
      have hs1 : w.heap.size + 1 < w1.heap.size := Nat.lt_of_lt_of_le HSZ.out hd1.size
      have hn0 : ¬ w.heap.size = w1.heap.size := by omega
      have hn1 : ¬ w.heap.size + 1 = w1.heap.size := by omega
      have HCB := Lib.hid (below_box w1 (.cells #[.int .i64 (Jn : Int), .slice A xs.length cap, .slice XA xs.length xcap, .slice G xs.length gcap] 75))
      have m1x := cellK m1 HCB.out
      have a1x := cellK a1 HCB.out
      have HBD := Lib.hid (HB1.out.trans (HCB.out.mono HB1.out.size))
      clear hox hd1
      go_wp2_with fail
      (with_reducible refine (areIdx_one xs.length a (w1.alloc (.cells #[.int .i64 (Jn : Int), .slice A xs.length cap, .slice XA xs.length xcap, .slice G xs.length gcap] 75)) _ (w1.heap.size + 1) (by simp) hl).mono ?_)
      rintro e w2 ⟨rfl, hd2⟩
      have HB2 := Lib.hid (HBD.out.trans (hd2.mono HBD.out.size))
      have HX2 := Lib.hid ((HX1.out.below HCB.out).below hd2)
      have HR2 := Lib.hid ((HR1.out.below HCB.out).below hd2)
      have HG2 := Lib.hid ((HG1.out.below HCB.out).below hd2)
      have HE2 := Lib.hid ((HE1.out.below HCB.out).below hd2)
      have a2 := cellK (cellK a1 HCB.out) hd2
      have k0 : w2.cell? ⟨w1.heap.size, 0, none⟩ = some (.int .i64 (Jn : Int)) := (hd2.cell (by simp)).trans (by simp)
      have k1 : w2.cell? ⟨w1.heap.size, 1, none⟩ = some (.slice A xs.length cap) := (hd2.cell (by simp)).trans (by simp)
      have k2 : w2.cell? ⟨w1.heap.size, 2, none⟩ = some (.slice XA xs.length xcap) := (hd2.cell (by simp)).trans (by simp)
      have k3 : w2.cell? ⟨w1.heap.size, 3, none⟩ = some (.slice G xs.length gcap) := (hd2.cell (by simp)).trans (by simp)
      clear hd2 m1 a1 m1x a1x
      rw [hin]
      go_wp2
      go_ret2
      exact ⟨ret_iiL HZ.out.1.symm HZ.out.2.symm, HB2.out⟩
    · obtain ⟨hb0, hb1⟩ := inB_iff.1 hin
      obtain ⟨k, rfl⟩ := Int.eq_ofNat_of_zero_le hb0
      have hkl : k < xs.length := by omega
      have hkg : k < rg.length := by omega
      have hkp : k < pu.length := by rw [HPL.out]; exact hkl
      have hkI : (k : Int) < (xs.length : Int) := by omega
      cases hrk : rg.getD k false
      · have HZ := Lib.hid (lp_free hc hin hrk)
        have HB0 := Lib.hid (show Below w.heap.size w ((w.alloc (.cells #[.int .i64 (Jn : Int), .slice A xs.length cap] 43)).alloc (.cells #[.int .i64 (k : Int)] 2)) from (below_box w _).alloc (by simp) _)
        have HR := Lib.hid (hr.below HB0.out)
        have HD := Lib.hid (hd.below HB0.out)
        have HU := Lib.hid (hu.below HB0.out)
        have HG := Lib.hid (hg.below HB0.out)
        have HE := Lib.hid (hE.below HB0.out)
        have HC := Lib.hid (show ((w.alloc (.cells #[.int .i64 (Jn : Int), .slice A xs.length cap] 43)).alloc (.cells #[.int .i64 (k : Int)] 2)).cell? ⟨w.heap.size, 1, none⟩ = some (.slice A xs.length cap) ∧ ((w.alloc (.cells #[.int .i64 (Jn : Int), .slice A xs.length cap] 43)).alloc (.cells #[.int .i64 (k : Int)] 2)).cell? ⟨w.heap.size + 1, 0, none⟩ = some (.int .i64 (k : Int)) from ⟨by simp, by simp⟩)
        have hsz0 : w.heap.size + 1 < ((w.alloc (.cells #[.int .i64 (Jn : Int), .slice A xs.length cap] 43)).alloc (.cells #[.int .i64 (k : Int)] 2)).heap.size := by simp
        have HSZ := Lib.hid hsz0
        clear hr hd hu hg hE hsz0
        have HDM := Lib.hid (demandOf_ok (Jn : Int) A cap xs (.slice D dr.length dcap) dr (.slice U pu.length ucap) pu G gcap rg _ HR.out HS.out hl HD.out hdl HU.out hul hgl hc)
        rw [HGO.out] at HDM
        clear hc
        rw [HGO.out]
        go_enter Tryd.func31, Tryd.ntmps31
        go_wp2_with fail
        (with_reducible refine (HDM.out).mono ?_)
        rintro e w1 ⟨X, rfl, hox, hd1⟩
        have HB1 := Lib.hid (HB0.out.trans (hd1.mono HB0.out.size))
        have HX1 := Lib.hid (row_ownI hox)
        obtain ⟨XA, xcap, rfl⟩ : ∃ XA xcap, X = .slice XA xs.length xcap := by
          obtain ⟨XA, xcap, e⟩ := OwnI.form hox
          rw [exL_len] at e
          exact ⟨XA, xcap, e⟩
        have HR1 := Lib.hid (HR.out.below hd1)
        have HG1 := Lib.hid (HG.out.below hd1)
        have HE1 := Lib.hid (HE.out.below hd1)
        have m1 := cellK HC.out.1 hd1
        have a1 := cellK HC.out.2 hd1
        have hs1 : w.heap.size + 1 < w1.heap.size := Nat.lt_of_lt_of_le HSZ.out hd1.size
        have hn0 : ¬ w.heap.size = w1.heap.size := by omega
        have hn1 : ¬ w.heap.size + 1 = w1.heap.size := by omega
        have HCB := Lib.hid (below_box w1 (.cells #[.int .i64 (Jn : Int), .slice A xs.length cap, .slice XA xs.length xcap, .slice G xs.length gcap] 75))
        have m1x := cellK m1 HCB.out
        have a1x := cellK a1 HCB.out
        have HBD := Lib.hid (HB1.out.trans (HCB.out.mono HB1.out.size))
        clear hox hd1
        go_wp2_with fail
        (with_reducible refine (areIdx_one xs.length (k : Int) (w1.alloc (.cells #[.int .i64 (Jn : Int), .slice A xs.length cap, .slice XA xs.length xcap, .slice G xs.length gcap] 75)) _ (w1.heap.size + 1) (by simp) hl).mono ?_)
        rintro e w2 ⟨rfl, hd2⟩
        have HB2 := Lib.hid (HBD.out.trans (hd2.mono HBD.out.size))
        have HX2 := Lib.hid ((HX1.out.below HCB.out).below hd2)
        have HR2 := Lib.hid ((HR1.out.below HCB.out).below hd2)
        have HG2 := Lib.hid ((HG1.out.below HCB.out).below hd2)
        have HE2 := Lib.hid ((HE1.out.below HCB.out).below hd2)
        have a2 := cellK (cellK a1 HCB.out) hd2
        have k0 : w2.cell? ⟨w1.heap.size, 0, none⟩ = some (.int .i64 (Jn : Int)) := (hd2.cell (by simp)).trans (by simp)
        have k1 : w2.cell? ⟨w1.heap.size, 1, none⟩ = some (.slice A xs.length cap) := (hd2.cell (by simp)).trans (by simp)
        have k2 : w2.cell? ⟨w1.heap.size, 2, none⟩ = some (.slice XA xs.length xcap) := (hd2.cell (by simp)).trans (by simp)
        have k3 : w2.cell? ⟨w1.heap.size, 3, none⟩ = some (.slice G xs.length gcap) := (hd2.cell (by simp)).trans (by simp)
        clear hd2 m1 a1 m1x a1x
        rw [hin]
        obtain ⟨rb, rof, er, r0⟩ := HG2.out k hkg
        rw [show rg[k] = rg.getD k false by simp [List.getD, hkg], hrk] at r0
        subst er
        go_wp2
        go_ret2
        exact ⟨ret_iiL HZ.out.1.symm HZ.out.2.symm, HB2.out⟩
      · have hsp := lpN_spec (dr := dr) HMO.out hkp hrk
        have M2 := Lib.hid (show ∀ t : Nat, t < lpN (Jn : Int) xs dr pu rg k → lpP (Jn : Int) xs dr pu rg k (0 + (t : Int)) = false from fun t ht => by rw [Int.zero_add]; exact hsp.2.1 t ht)
        have M3 := Lib.hid (show ∀ t : Nat, lpN (Jn : Int) xs dr pu rg k ≤ t → t < 20001 → lpP (Jn : Int) xs dr pu rg k (0 + (t : Int)) = true from fun t h1 h2 => by rw [Int.zero_add]; exact hsp.2.2 t h1 h2)
        have hm := hsp.1
        have HEN := Lib.hid (And.intro (fun h => lp_none hc hin hrk h) (fun h => lp_some hc hin hrk h))
        have HXB := Lib.hid (show ∀ v, -1020000 ≤ (exL dr pu xs.length).getD v 0 ∧ (exL dr pu xs.length).getD v 0 ≤ 1020000 from fun v => by
          by_cases hv : v < xs.length
          · have h1 := wf_allO HDO.out (show v < dr.length by have := (flOk_iff.1 HDO.out).1; omega)
            have h2 := wf_allO HUO.out (show v < pu.length by have := (flOk_iff.1 HUO.out).1; omega)
            rw [exL_at hv]
            unfold exF
            omega
          · have h0 : (exL dr pu xs.length).getD v 0 = 0 := by
              simp only [List.getD_eq_getElem?_getD]
              rw [List.getElem?_eq_none (by rw [exL_len]; omega)]
              rfl
            rw [h0]
            omega)
        clear hsp
        have HB0 := Lib.hid (show Below w.heap.size w ((w.alloc (.cells #[.int .i64 (Jn : Int), .slice A xs.length cap] 43)).alloc (.cells #[.int .i64 (k : Int)] 2)) from (below_box w _).alloc (by simp) _)
        have HR := Lib.hid (hr.below HB0.out)
        have HD := Lib.hid (hd.below HB0.out)
        have HU := Lib.hid (hu.below HB0.out)
        have HG := Lib.hid (hg.below HB0.out)
        have HE := Lib.hid (hE.below HB0.out)
        have HC := Lib.hid (show ((w.alloc (.cells #[.int .i64 (Jn : Int), .slice A xs.length cap] 43)).alloc (.cells #[.int .i64 (k : Int)] 2)).cell? ⟨w.heap.size, 1, none⟩ = some (.slice A xs.length cap) ∧ ((w.alloc (.cells #[.int .i64 (Jn : Int), .slice A xs.length cap] 43)).alloc (.cells #[.int .i64 (k : Int)] 2)).cell? ⟨w.heap.size + 1, 0, none⟩ = some (.int .i64 (k : Int)) from ⟨by simp, by simp⟩)
        have hsz0 : w.heap.size + 1 < ((w.alloc (.cells #[.int .i64 (Jn : Int), .slice A xs.length cap] 43)).alloc (.cells #[.int .i64 (k : Int)] 2)).heap.size := by simp
        have HSZ := Lib.hid hsz0
        clear hr hd hu hg hE hsz0
        have HDM := Lib.hid (demandOf_ok (Jn : Int) A cap xs (.slice D dr.length dcap) dr (.slice U pu.length ucap) pu G gcap rg _ HR.out HS.out hl HD.out hdl HU.out hul hgl hc)
        rw [HGO.out] at HDM
        clear hc
        generalize lpN (Jn : Int) xs dr pu rg k = m at *
        rw [HGO.out]
        go_enter Tryd.func31, Tryd.ntmps31
        go_wp2_with fail
        (with_reducible refine (HDM.out).mono ?_)
        rintro e w1 ⟨X, rfl, hox, hd1⟩
        have HB1 := Lib.hid (HB0.out.trans (hd1.mono HB0.out.size))
        have HX1 := Lib.hid (row_ownI hox)
        obtain ⟨XA, xcap, rfl⟩ : ∃ XA xcap, X = .slice XA xs.length xcap := by
          obtain ⟨XA, xcap, e⟩ := OwnI.form hox
          rw [exL_len] at e
          exact ⟨XA, xcap, e⟩
        have HR1 := Lib.hid (HR.out.below hd1)
        have HG1 := Lib.hid (HG.out.below hd1)
        have HE1 := Lib.hid (HE.out.below hd1)
        have m1 := cellK HC.out.1 hd1
        have a1 := cellK HC.out.2 hd1
        have hs1 : w.heap.size + 1 < w1.heap.size := Nat.lt_of_lt_of_le HSZ.out hd1.size
        have hn0 : ¬ w.heap.size = w1.heap.size := by omega
        have hn1 : ¬ w.heap.size + 1 = w1.heap.size := by omega
        have HCB := Lib.hid (below_box w1 (.cells #[.int .i64 (Jn : Int), .slice A xs.length cap, .slice XA xs.length xcap, .slice G xs.length gcap] 75))
        have m1x := cellK m1 HCB.out
        have a1x := cellK a1 HCB.out
        have HBD := Lib.hid (HB1.out.trans (HCB.out.mono HB1.out.size))
        clear hox hd1
        go_wp2_with fail
        (with_reducible refine (areIdx_one xs.length (k : Int) (w1.alloc (.cells #[.int .i64 (Jn : Int), .slice A xs.length cap, .slice XA xs.length xcap, .slice G xs.length gcap] 75)) _ (w1.heap.size + 1) (by simp) hl).mono ?_)
        rintro e w2 ⟨rfl, hd2⟩
        have HB2 := Lib.hid (HBD.out.trans (hd2.mono HBD.out.size))
        have HX2 := Lib.hid ((HX1.out.below HCB.out).below hd2)
        have HR2 := Lib.hid ((HR1.out.below HCB.out).below hd2)
        have HG2 := Lib.hid ((HG1.out.below HCB.out).below hd2)
        have HE2 := Lib.hid ((HE1.out.below HCB.out).below hd2)
        have a2 := cellK (cellK a1 HCB.out) hd2
        have k0 : w2.cell? ⟨w1.heap.size, 0, none⟩ = some (.int .i64 (Jn : Int)) := (hd2.cell (by simp)).trans (by simp)
        have k1 : w2.cell? ⟨w1.heap.size, 1, none⟩ = some (.slice A xs.length cap) := (hd2.cell (by simp)).trans (by simp)
        have k2 : w2.cell? ⟨w1.heap.size, 2, none⟩ = some (.slice XA xs.length xcap) := (hd2.cell (by simp)).trans (by simp)
        have k3 : w2.cell? ⟨w1.heap.size, 3, none⟩ = some (.slice G xs.length gcap) := (hd2.cell (by simp)).trans (by simp)
        clear hd2 m1 a1 m1x a1x
        rw [hin]
        have r0 := HG2.out k hkg
        obtain ⟨rb, rof, er, r0⟩ := r0
        rw [show rg[k] = rg.getD k false by simp [List.getD, hkg], hrk] at r0
        have HLC := Lib.hid (show LqC w2 w1.heap.size (w.heap.size + 1) Jn A xs.length cap XA xcap G gcap k from ⟨k0, k1, k2, k3, a2⟩)
        subst er
        clear hrk
        go_wp2_with fail
        (with_reducible refine (leastQ w1.heap.size (w.heap.size + 1) (fun x => lpP (Jn : Int) xs dr pu rg k x) 0 20000 20001 m w2 (by omega) (by omega) (by omega) (by omega) (by omega) hm M2.out M3.out (fun x w3 hx1 hx2 hb => lqClo_any w1.heap.size (w.heap.size + 1) Jn A cap xs XA xcap dr pu _ gcap rg k x e0 w3 (HLC.out.below hb) HMO.out (HR2.out.below hb) (HX2.out.below hb) HGO.out (HG2.out.below hb) HPL.out hkp HXB.out ⟨hx1, by omega⟩ (HE2.out.below hb))).mono ?_)
        rintro e w3 ⟨rfl, hd3⟩
        have HB3 := Lib.hid (HB2.out.trans (hd3.mono HB2.out.size))
        clear hd3 r0 k0 k1 k2 k3 a2
        rw [Int.zero_add]
        by_cases hmx : m = 20001
        · have HZ := Lib.hid (HEN.out.1 hmx)
          subst hmx
          go_wp2
          go_ret2
          exact ⟨ret_iiL HZ.out.1.symm HZ.out.2.symm, HB3.out⟩
        · have HZ := Lib.hid (HEN.out.2 hmx)
          have hm2 : m ≤ 20000 := by omega
          go_wp2
          go_ret2
          exact ⟨ret_iiL HZ.out.1.symm HZ.out.2.symm, HB3.out⟩
  · have HZ := Lib.hid (lp_bad (a := a) hc)
    have hz1 : (dmC J xs dr pu rg != 0) = true := by simp [hc]
    have HB0 := Lib.hid (show Below w.heap.size w ((w.alloc (.cells #[.int .i64 J, .slice A xs.length cap] 43)).alloc (.cells #[.int .i64 a] 2)) from (below_box w _).alloc (by simp) _)
    have HR := Lib.hid (hr.below HB0.out)
    have HD := Lib.hid (hd.below HB0.out)
    have HU := Lib.hid (hu.below HB0.out)
    have HG := Lib.hid (hg.below HB0.out)
    have HE := Lib.hid (hE.below HB0.out)
    have HC := Lib.hid (show ((w.alloc (.cells #[.int .i64 J, .slice A xs.length cap] 43)).alloc (.cells #[.int .i64 a] 2)).cell? ⟨w.heap.size, 1, none⟩ = some (.slice A xs.length cap) ∧ ((w.alloc (.cells #[.int .i64 J, .slice A xs.length cap] 43)).alloc (.cells #[.int .i64 a] 2)).cell? ⟨w.heap.size + 1, 0, none⟩ = some (.int .i64 a) from ⟨by simp, by simp⟩)
    have hsz0 : w.heap.size + 1 < ((w.alloc (.cells #[.int .i64 J, .slice A xs.length cap] 43)).alloc (.cells #[.int .i64 a] 2)).heap.size := by simp
    have HSZ := Lib.hid hsz0
    clear hr hd hu hg hE hsz0
    have HDM := Lib.hid (demandOf_bad J A cap xs (.slice D dr.length dcap) dr (.slice U pu.length ucap) pu G gcap rg _ HR.out HS.out hl HD.out hdl HU.out hul hgl hc)
    generalize dmC J xs dr pu rg = z at *
    go_enter Tryd.func31, Tryd.ntmps31
    go_wp2_with fail
    (with_reducible refine (HDM.out).mono ?_)
    rintro e w1 ⟨rfl, hd1⟩
    have HB1 := Lib.hid (HB0.out.trans (hd1.mono HB0.out.size))
    clear hd1
    go_wp2
    go_ret2
    exact ⟨ret_iiL HZ.out.1.symm HZ.out.2.symm, HB1.out.alloc HB1.out.size _⟩
end Go.Proofs.YthbofhlfggkolaaDoor
