/-
  Contracts of chapter 12: a demand of a mine; the program's. Conditions: those that each theorem states.
-/
import Derived.Test.YthbofhlfggkolaaDoorOc
import Derived.Test.YthbofhlfggkolaaDoorGf
namespace Go.Proofs.YthbofhlfggkolaaDoor
open Go.RowKit
set_option linter.unusedVariables false
set_option linter.unusedSimpArgs false

/-- A row that is filled from the left: the first k numbers are there, zeros behind. -/
def fillO (n : Nat) (f : Nat → Int) (k : Nat) : List Int := (List.range n).map (fun j => if j < k then f j else 0)
theorem fillO_len (n : Nat) (f : Nat → Int) (k : Nat) : (fillO n f k).length = n := by simp [fillO]
theorem fillO_zero (n : Nat) (f : Nat → Int) : fillO n f 0 = List.replicate n 0 := by
  apply List.ext_getElem (by simp [fillO])
  intro j h1 h2
  simp [fillO]
theorem fillO_full (n : Nat) (f : Nat → Int) : fillO n f n = (List.range n).map f := by
  apply List.ext_getElem (by simp [fillO])
  intro j h1 h2
  have : j < n := by simpa [fillO] using h1
  simp [fillO, this]
theorem fillO_put {n : Nat} (f : Nat → Int) {k : Nat} (h : k < n) : (intsV (fillO n f k)).set k (.int .i64 (f k)) = intsV (fillO n f (k + 1)) := by
  unfold intsV
  rw [← List.map_set]
  congr 1
  apply List.ext_getElem (by simp [fillO])
  intro j h1 h2
  have hj : j < n := by simpa [fillO] using h2
  simp only [List.getElem_set, fillO, List.getElem_map, List.getElem_range]
  by_cases e : k = j
  · subst e; rw [if_pos rfl, if_pos (by omega)]
  · rw [if_neg e]
    by_cases q : j < k
    · rw [if_pos q, if_pos (by omega)]
    · rw [if_neg q, if_neg (by omega)]
theorem fillO_at {n : Nat} (f : Nat → Int) {k : Nat} (h : k < n) : (intsV (fillO n f k))[k]? = some (.int .i64 0) := by
  simp [intsV, fillO, h]
theorem fillO_made (n : Nat) (f : Nat → Int) : (madeCells #[.int .i64 0] n).toList = intsV (fillO n f 0) := by
  rw [fillO_zero]
  simp [madeCells, intsV, Nat.mod_one, List.map_const']
/-- What is pushed too much in each airway. -/
def exL (dr pu : List Int) (n : Nat) : List Int := (List.range n).map (exF dr pu)
theorem own_leE {w : World} {B B' : Nat} {v : Value} {xs : List Int} (h : OwnI w B v xs) (hb : B' ≤ B) : OwnI w B' v xs := ⟨h.1, h.2.imp id fun ⟨g, cap, cur, e, hg, r⟩ => ⟨g, cap, cur, e, Nat.le_trans hb hg, r⟩⟩
theorem own_setLowE {w : World} {B n : Nat} {T : TypeId} {v : Value} {l : List Value} (h : w.ownsRow B T 1 v n l) {p : Addr} (hp : p.block < B) (u : Value) : (w.setCell p u).ownsRow B T 1 v n l := by
  refine ⟨h.1, h.2.imp id fun ⟨g, cap, cur, e, hg, hc, r⟩ => ⟨g, cap, cur, e, hg, ?_, r⟩⟩
  rw [← hc]
  exact Below.heap_setCell w p u g (by omega)
theorem exL_len (dr pu : List Int) (n : Nat) : (exL dr pu n).length = n := by simp [exL]
set_option maxHeartbeats 4000000 in
theorem demandOf_bad (J : Int) (A : Option Addr) (cap : Nat) (xs : List Aw) (D : Value) (dr : List Int) (U : Value) (pu : List Int) (G : Option Addr) (gcap : Nat) (rg : List Bool) (w : World) (hr : AwR w A xs) (hs : ∀ a ∈ xs, a.s.size ≤ maxLen) (hl : xs.length ≤ 1048576) (hd : Row .i64 w D dr) (hdl : dr.length ≤ 1048576) (hu : Row .i64 w U pu) (hul : pu.length ≤ 1048576) (hgl : rg.length ≤ 1048576) (hc : dmC J xs dr pu rg ≠ 0) :
    Calls Tryd.prog 44 #[.agg #[.int .i64 J, .slice A xs.length cap], D, U, .slice G rg.length gcap] w fun e w' => e = .returned (.tuple #[.agg #[.int .i64 0, .slice none 0 0, .slice none 0 0, .slice none 0 0], .int .i64 (dmC J xs dr pu rg)]) ∧ Below w.heap.size w w' := by
  obtain ⟨D, dcap, rfl⟩ := hd.form
  obtain ⟨U, ucap, rfl⟩ := hu.form
  have HB0 := Lib.hid (show Below w.heap.size w ((w.alloc (.cells #[.int .i64 J, .slice A xs.length cap] 43)).alloc (.cells #[.int .i64 0, .slice none 0 0, .slice none 0 0, .slice none 0 0] 75)) from (below_box w _).alloc (by simp) _)
  have HR := Lib.hid (hr.below HB0.out)
  have HD := Lib.hid (hd.below HB0.out)
  have HU := Lib.hid (hu.below HB0.out)
  have HC := Lib.hid (show ((w.alloc (.cells #[.int .i64 J, .slice A xs.length cap] 43)).alloc (.cells #[.int .i64 0, .slice none 0 0, .slice none 0 0, .slice none 0 0] 75)).cell? ⟨w.heap.size, 0, none⟩ = some (.int .i64 J) ∧ ((w.alloc (.cells #[.int .i64 J, .slice A xs.length cap] 43)).alloc (.cells #[.int .i64 0, .slice none 0 0, .slice none 0 0, .slice none 0 0] 75)).cell? ⟨w.heap.size, 1, none⟩ = some (.slice A xs.length cap) from ⟨by simp, by simp⟩)
  have HZ := Lib.hid (show ∀ i v, ([.int .i64 0, .slice none 0 0, .slice none 0 0, .slice none 0 0] : List Value)[i]? = some v → ((w.alloc (.cells #[.int .i64 J, .slice A xs.length cap] 43)).alloc (.cells #[.int .i64 0, .slice none 0 0, .slice none 0 0, .slice none 0 0] 75)).cell? ⟨w.heap.size + 1, i, none⟩ = some v ∧ ((w.alloc (.cells #[.int .i64 J, .slice A xs.length cap] 43)).alloc (.cells #[.int .i64 0, .slice none 0 0, .slice none 0 0, .slice none 0 0] 75)).frozen? ⟨w.heap.size + 1, i, none⟩ = false from fun i v hi => by
    match i, hi with
    | 0, hi | 1, hi | 2, hi | 3, hi => (simp at hi; subst hi; exact ⟨by simp, by simp⟩)
    | i + 4, hi => simp at hi)
  have HS := Lib.hid hs
  have hlt0 : w.heap.size + 1 < ((w.alloc (.cells #[.int .i64 J, .slice A xs.length cap] 43)).alloc (.cells #[.int .i64 0, .slice none 0 0, .slice none 0 0, .slice none 0 0] 75)).heap.size := by simp
  clear hr hd hu hs
  cases hok : mineOk J xs
  · have HE := Lib.hid (dm_not (dr := dr) (pu := pu) (rg := rg) hok)
    go_enter Tryd.func44, Tryd.ntmps44
    have c0_0 := HC.out.1
    have c1_0 := HC.out.2
    go_wp2_with fail
    (with_reducible refine (iValidMine_any J A cap xs _ HR.out HS.out hl).mono ?_)
    rintro e w1 ⟨rfl, hd1⟩
    rw [hok]
    have HB1 := Lib.hid (HB0.out.trans (hd1.mono HB0.out.size))
    have HR1 := Lib.hid (HR.out.below hd1)
    have HD1 := Lib.hid (HD.out.below hd1)
    have HU1 := Lib.hid (HU.out.below hd1)
    have HC1 := Lib.hid (And.intro (cellK HC.out.1 hd1) (cellK HC.out.2 hd1))
    have HZ1 := Lib.hid (show ∀ i v, ([.int .i64 0, .slice none 0 0, .slice none 0 0, .slice none 0 0] : List Value)[i]? = some v → w1.cell? ⟨w.heap.size + 1, i, none⟩ = some v ∧ w1.frozen? ⟨w.heap.size + 1, i, none⟩ = false from fun i v hi => by
      obtain ⟨h1, h2⟩ := HZ.out i v hi
      exact ⟨cellK h1 hd1, (hd1.frozen (p := ⟨w.heap.size + 1, i, none⟩) (World.block_lt_of_cell? _ _ h1)).trans h2⟩)
    have c0_1 := HC1.out.1
    have c1_1 := HC1.out.2
    clear hd1
    clear c0_0 c1_0
    obtain ⟨m0, g0⟩ := HZ1.out 0 _ rfl
    obtain ⟨m1, g1⟩ := HZ1.out 1 _ rfl
    obtain ⟨m2, g2⟩ := HZ1.out 2 _ rfl
    obtain ⟨m3, g3⟩ := HZ1.out 3 _ rfl
    go_wp2
    refine bodyPost_ret (v := .tuple #[.agg #[.int .i64 0, .slice none 0 0, .slice none 0 0, .slice none 0 0], .int .i64 1]) (by simp [results, Tryd.results44, go_sem, World.cell?_setCell_same', World.cell?_setCell_other, m0, m1, m2, m3]) rfl ⟨by rw [HE.out], ?_⟩
    have hB := HB1.out
    repeat (first | (with_reducible exact hB) | (with_reducible refine Below.setCell ?_ (by show w.heap.size ≤ w.heap.size + 1; omega) _))
  · cases hf1 : flOk (-1000000) 1000000 xs.length dr
    · have HE := Lib.hid (dm_no (dr := dr) (pu := pu) (rg := rg) hok (fun h => by rw [hf1] at h; exact absurd h.1 (by simp)))
      go_enter Tryd.func44, Tryd.ntmps44
      have c0_0 := HC.out.1
      have c1_0 := HC.out.2
      go_wp2_with fail
      (with_reducible refine (iValidMine_any J A cap xs _ HR.out HS.out hl).mono ?_)
      rintro e w1 ⟨rfl, hd1⟩
      rw [hok]
      have HB1 := Lib.hid (HB0.out.trans (hd1.mono HB0.out.size))
      have HR1 := Lib.hid (HR.out.below hd1)
      have HD1 := Lib.hid (HD.out.below hd1)
      have HU1 := Lib.hid (HU.out.below hd1)
      have HC1 := Lib.hid (And.intro (cellK HC.out.1 hd1) (cellK HC.out.2 hd1))
      have HZ1 := Lib.hid (show ∀ i v, ([.int .i64 0, .slice none 0 0, .slice none 0 0, .slice none 0 0] : List Value)[i]? = some v → w1.cell? ⟨w.heap.size + 1, i, none⟩ = some v ∧ w1.frozen? ⟨w.heap.size + 1, i, none⟩ = false from fun i v hi => by
        obtain ⟨h1, h2⟩ := HZ.out i v hi
        exact ⟨cellK h1 hd1, (hd1.frozen (p := ⟨w.heap.size + 1, i, none⟩) (World.block_lt_of_cell? _ _ h1)).trans h2⟩)
      have c0_1 := HC1.out.1
      have c1_1 := HC1.out.2
      clear hd1
      clear c0_0 c1_0
      go_wp2_with fail
      (with_reducible refine (hasOneEach_any J _ _ A xs.length cap _ dr _ HD1.out (by omega) hl).mono ?_)
      rintro e w2 ⟨rfl, hd2⟩
      rw [hf1]
      have HB2 := Lib.hid (HB1.out.trans (hd2.mono HB1.out.size))
      have HR2 := Lib.hid (HR1.out.below hd2)
      have HD2 := Lib.hid (HD1.out.below hd2)
      have HU2 := Lib.hid (HU1.out.below hd2)
      have HC2 := Lib.hid (And.intro (cellK HC1.out.1 hd2) (cellK HC1.out.2 hd2))
      have HZ2 := Lib.hid (show ∀ i v, ([.int .i64 0, .slice none 0 0, .slice none 0 0, .slice none 0 0] : List Value)[i]? = some v → w2.cell? ⟨w.heap.size + 1, i, none⟩ = some v ∧ w2.frozen? ⟨w.heap.size + 1, i, none⟩ = false from fun i v hi => by
        obtain ⟨h1, h2⟩ := HZ1.out i v hi
        exact ⟨cellK h1 hd2, (hd2.frozen (p := ⟨w.heap.size + 1, i, none⟩) (World.block_lt_of_cell? _ _ h1)).trans h2⟩)
      have c0_2 := HC2.out.1
      have c1_2 := HC2.out.2
      clear hd2
      clear c0_1 c1_1
      obtain ⟨m0, g0⟩ := HZ2.out 0 _ rfl
      obtain ⟨m1, g1⟩ := HZ2.out 1 _ rfl
      obtain ⟨m2, g2⟩ := HZ2.out 2 _ rfl
      obtain ⟨m3, g3⟩ := HZ2.out 3 _ rfl
      go_wp2
      refine bodyPost_ret (v := .tuple #[.agg #[.int .i64 0, .slice none 0 0, .slice none 0 0, .slice none 0 0], .int .i64 2]) (by simp [results, Tryd.results44, go_sem, World.cell?_setCell_same', World.cell?_setCell_other, m0, m1, m2, m3]) rfl ⟨by rw [HE.out], ?_⟩
      have hB := HB2.out
      repeat (first | (with_reducible exact hB) | (with_reducible refine Below.setCell ?_ (by show w.heap.size ≤ w.heap.size + 1; omega) _))
    · cases hf2 : flOk (-20000) 20000 xs.length pu
      · have HE := Lib.hid (dm_no (dr := dr) (pu := pu) (rg := rg) hok (fun h => by rw [hf2] at h; exact absurd h.2.1 (by simp)))
        go_enter Tryd.func44, Tryd.ntmps44
        have c0_0 := HC.out.1
        have c1_0 := HC.out.2
        go_wp2_with fail
        (with_reducible refine (iValidMine_any J A cap xs _ HR.out HS.out hl).mono ?_)
        rintro e w1 ⟨rfl, hd1⟩
        rw [hok]
        have HB1 := Lib.hid (HB0.out.trans (hd1.mono HB0.out.size))
        have HR1 := Lib.hid (HR.out.below hd1)
        have HD1 := Lib.hid (HD.out.below hd1)
        have HU1 := Lib.hid (HU.out.below hd1)
        have HC1 := Lib.hid (And.intro (cellK HC.out.1 hd1) (cellK HC.out.2 hd1))
        have HZ1 := Lib.hid (show ∀ i v, ([.int .i64 0, .slice none 0 0, .slice none 0 0, .slice none 0 0] : List Value)[i]? = some v → w1.cell? ⟨w.heap.size + 1, i, none⟩ = some v ∧ w1.frozen? ⟨w.heap.size + 1, i, none⟩ = false from fun i v hi => by
          obtain ⟨h1, h2⟩ := HZ.out i v hi
          exact ⟨cellK h1 hd1, (hd1.frozen (p := ⟨w.heap.size + 1, i, none⟩) (World.block_lt_of_cell? _ _ h1)).trans h2⟩)
        have c0_1 := HC1.out.1
        have c1_1 := HC1.out.2
        clear hd1
        clear c0_0 c1_0
        go_wp2_with fail
        (with_reducible refine (hasOneEach_any J _ _ A xs.length cap _ dr _ HD1.out (by omega) hl).mono ?_)
        rintro e w2 ⟨rfl, hd2⟩
        rw [hf1]
        have HB2 := Lib.hid (HB1.out.trans (hd2.mono HB1.out.size))
        have HR2 := Lib.hid (HR1.out.below hd2)
        have HD2 := Lib.hid (HD1.out.below hd2)
        have HU2 := Lib.hid (HU1.out.below hd2)
        have HC2 := Lib.hid (And.intro (cellK HC1.out.1 hd2) (cellK HC1.out.2 hd2))
        have HZ2 := Lib.hid (show ∀ i v, ([.int .i64 0, .slice none 0 0, .slice none 0 0, .slice none 0 0] : List Value)[i]? = some v → w2.cell? ⟨w.heap.size + 1, i, none⟩ = some v ∧ w2.frozen? ⟨w.heap.size + 1, i, none⟩ = false from fun i v hi => by
          obtain ⟨h1, h2⟩ := HZ1.out i v hi
          exact ⟨cellK h1 hd2, (hd2.frozen (p := ⟨w.heap.size + 1, i, none⟩) (World.block_lt_of_cell? _ _ h1)).trans h2⟩)
        have c0_2 := HC2.out.1
        have c1_2 := HC2.out.2
        clear hd2
        clear c0_1 c1_1
        go_wp2_with fail
        (with_reducible refine (hasOneEach_any J _ _ A xs.length cap _ pu _ HU2.out (by omega) hl).mono ?_)
        rintro e w3 ⟨rfl, hd3⟩
        rw [hf2]
        have HB3 := Lib.hid (HB2.out.trans (hd3.mono HB2.out.size))
        have HR3 := Lib.hid (HR2.out.below hd3)
        have HD3 := Lib.hid (HD2.out.below hd3)
        have HU3 := Lib.hid (HU2.out.below hd3)
        have HC3 := Lib.hid (And.intro (cellK HC2.out.1 hd3) (cellK HC2.out.2 hd3))
        have HZ3 := Lib.hid (show ∀ i v, ([.int .i64 0, .slice none 0 0, .slice none 0 0, .slice none 0 0] : List Value)[i]? = some v → w3.cell? ⟨w.heap.size + 1, i, none⟩ = some v ∧ w3.frozen? ⟨w.heap.size + 1, i, none⟩ = false from fun i v hi => by
          obtain ⟨h1, h2⟩ := HZ2.out i v hi
          exact ⟨cellK h1 hd3, (hd3.frozen (p := ⟨w.heap.size + 1, i, none⟩) (World.block_lt_of_cell? _ _ h1)).trans h2⟩)
        have c0_3 := HC3.out.1
        have c1_3 := HC3.out.2
        clear hd3
        clear c0_2 c1_2
        obtain ⟨m0, g0⟩ := HZ3.out 0 _ rfl
        obtain ⟨m1, g1⟩ := HZ3.out 1 _ rfl
        obtain ⟨m2, g2⟩ := HZ3.out 2 _ rfl
        obtain ⟨m3, g3⟩ := HZ3.out 3 _ rfl
        go_wp2
        refine bodyPost_ret (v := .tuple #[.agg #[.int .i64 0, .slice none 0 0, .slice none 0 0, .slice none 0 0], .int .i64 2]) (by simp [results, Tryd.results44, go_sem, World.cell?_setCell_same', World.cell?_setCell_other, m0, m1, m2, m3]) rfl ⟨by rw [HE.out], ?_⟩
        have hB := HB3.out
        repeat (first | (with_reducible exact hB) | (with_reducible refine Below.setCell ?_ (by show w.heap.size ≤ w.heap.size + 1; omega) _))
      · have hg3 : ¬ rg.length = xs.length := fun h => hc (dm_yes hok ⟨hf1, hf2, h⟩)
        have HE := Lib.hid (dm_no (dr := dr) (pu := pu) (rg := rg) hok (fun h => hg3 h.2.2))
        have e3 : ((rg.length : Int) != (xs.length : Int)) = true := by simp; omega
        clear hg3 hc
        go_enter Tryd.func44, Tryd.ntmps44
        have c0_0 := HC.out.1
        have c1_0 := HC.out.2
        go_wp2_with fail
        (with_reducible refine (iValidMine_any J A cap xs _ HR.out HS.out hl).mono ?_)
        rintro e w1 ⟨rfl, hd1⟩
        rw [hok]
        have HB1 := Lib.hid (HB0.out.trans (hd1.mono HB0.out.size))
        have HR1 := Lib.hid (HR.out.below hd1)
        have HD1 := Lib.hid (HD.out.below hd1)
        have HU1 := Lib.hid (HU.out.below hd1)
        have HC1 := Lib.hid (And.intro (cellK HC.out.1 hd1) (cellK HC.out.2 hd1))
        have HZ1 := Lib.hid (show ∀ i v, ([.int .i64 0, .slice none 0 0, .slice none 0 0, .slice none 0 0] : List Value)[i]? = some v → w1.cell? ⟨w.heap.size + 1, i, none⟩ = some v ∧ w1.frozen? ⟨w.heap.size + 1, i, none⟩ = false from fun i v hi => by
          obtain ⟨h1, h2⟩ := HZ.out i v hi
          exact ⟨cellK h1 hd1, (hd1.frozen (p := ⟨w.heap.size + 1, i, none⟩) (World.block_lt_of_cell? _ _ h1)).trans h2⟩)
        have c0_1 := HC1.out.1
        have c1_1 := HC1.out.2
        clear hd1
        clear c0_0 c1_0
        go_wp2_with fail
        (with_reducible refine (hasOneEach_any J _ _ A xs.length cap _ dr _ HD1.out (by omega) hl).mono ?_)
        rintro e w2 ⟨rfl, hd2⟩
        rw [hf1]
        have HB2 := Lib.hid (HB1.out.trans (hd2.mono HB1.out.size))
        have HR2 := Lib.hid (HR1.out.below hd2)
        have HD2 := Lib.hid (HD1.out.below hd2)
        have HU2 := Lib.hid (HU1.out.below hd2)
        have HC2 := Lib.hid (And.intro (cellK HC1.out.1 hd2) (cellK HC1.out.2 hd2))
        have HZ2 := Lib.hid (show ∀ i v, ([.int .i64 0, .slice none 0 0, .slice none 0 0, .slice none 0 0] : List Value)[i]? = some v → w2.cell? ⟨w.heap.size + 1, i, none⟩ = some v ∧ w2.frozen? ⟨w.heap.size + 1, i, none⟩ = false from fun i v hi => by
          obtain ⟨h1, h2⟩ := HZ1.out i v hi
          exact ⟨cellK h1 hd2, (hd2.frozen (p := ⟨w.heap.size + 1, i, none⟩) (World.block_lt_of_cell? _ _ h1)).trans h2⟩)
        have c0_2 := HC2.out.1
        have c1_2 := HC2.out.2
        clear hd2
        clear c0_1 c1_1
        go_wp2_with fail
        (with_reducible refine (hasOneEach_any J _ _ A xs.length cap _ pu _ HU2.out (by omega) hl).mono ?_)
        rintro e w3 ⟨rfl, hd3⟩
        rw [hf2]
        have HB3 := Lib.hid (HB2.out.trans (hd3.mono HB2.out.size))
        have HR3 := Lib.hid (HR2.out.below hd3)
        have HD3 := Lib.hid (HD2.out.below hd3)
        have HU3 := Lib.hid (HU2.out.below hd3)
        have HC3 := Lib.hid (And.intro (cellK HC2.out.1 hd3) (cellK HC2.out.2 hd3))
        have HZ3 := Lib.hid (show ∀ i v, ([.int .i64 0, .slice none 0 0, .slice none 0 0, .slice none 0 0] : List Value)[i]? = some v → w3.cell? ⟨w.heap.size + 1, i, none⟩ = some v ∧ w3.frozen? ⟨w.heap.size + 1, i, none⟩ = false from fun i v hi => by
          obtain ⟨h1, h2⟩ := HZ2.out i v hi
          exact ⟨cellK h1 hd3, (hd3.frozen (p := ⟨w.heap.size + 1, i, none⟩) (World.block_lt_of_cell? _ _ h1)).trans h2⟩)
        have c0_3 := HC3.out.1
        have c1_3 := HC3.out.2
        clear hd3
        clear c0_2 c1_2
        obtain ⟨m0, g0⟩ := HZ3.out 0 _ rfl
        obtain ⟨m1, g1⟩ := HZ3.out 1 _ rfl
        obtain ⟨m2, g2⟩ := HZ3.out 2 _ rfl
        obtain ⟨m3, g3⟩ := HZ3.out 3 _ rfl
        go_wp2
        refine bodyPost_ret (v := .tuple #[.agg #[.int .i64 0, .slice none 0 0, .slice none 0 0, .slice none 0 0], .int .i64 2]) (by simp [results, Tryd.results44, go_sem, World.cell?_setCell_same', World.cell?_setCell_other, m0, m1, m2, m3]) rfl ⟨by rw [HE.out], ?_⟩
        have hB := HB3.out
        repeat (first | (with_reducible exact hB) | (with_reducible refine Below.setCell ?_ (by show w.heap.size ≤ w.heap.size + 1; omega) _))
set_option maxHeartbeats 4000000 in
set_option maxRecDepth 100000 in
theorem demandOf_ok (J : Int) (A : Option Addr) (cap : Nat) (xs : List Aw) (D : Value) (dr : List Int) (U : Value) (pu : List Int) (G : Option Addr) (gcap : Nat) (rg : List Bool) (w : World) (hr : AwR w A xs) (hs : ∀ a ∈ xs, a.s.size ≤ maxLen) (hl : xs.length ≤ 1048576) (hd : Row .i64 w D dr) (hdl : dr.length ≤ 1048576) (hu : Row .i64 w U pu) (hul : pu.length ≤ 1048576) (hgl : rg.length ≤ 1048576) (hc : dmC J xs dr pu rg = 0) :
    Calls Tryd.prog 44 #[.agg #[.int .i64 J, .slice A xs.length cap], D, U, .slice G rg.length gcap] w fun e w' => ∃ X, e = .returned (.tuple #[.agg #[.int .i64 J, .slice A xs.length cap, X, .slice G rg.length gcap], .int .i64 0]) ∧ OwnI w' w.heap.size X (exL dr pu xs.length) ∧ Below w.heap.size w w' := by
  obtain ⟨D, dcap, rfl⟩ := hd.form
  obtain ⟨U, ucap, rfl⟩ := hu.form
  have HB0 := Lib.hid (show Below w.heap.size w ((w.alloc (.cells #[.int .i64 J, .slice A xs.length cap] 43)).alloc (.cells #[.int .i64 0, .slice none 0 0, .slice none 0 0, .slice none 0 0] 75)) from (below_box w _).alloc (by simp) _)
  have HR := Lib.hid (hr.below HB0.out)
  have HD := Lib.hid (hd.below HB0.out)
  have HU := Lib.hid (hu.below HB0.out)
  have HC := Lib.hid (show ((w.alloc (.cells #[.int .i64 J, .slice A xs.length cap] 43)).alloc (.cells #[.int .i64 0, .slice none 0 0, .slice none 0 0, .slice none 0 0] 75)).cell? ⟨w.heap.size, 0, none⟩ = some (.int .i64 J) ∧ ((w.alloc (.cells #[.int .i64 J, .slice A xs.length cap] 43)).alloc (.cells #[.int .i64 0, .slice none 0 0, .slice none 0 0, .slice none 0 0] 75)).cell? ⟨w.heap.size, 1, none⟩ = some (.slice A xs.length cap) from ⟨by simp, by simp⟩)
  have HZ := Lib.hid (show ∀ i v, ([.int .i64 0, .slice none 0 0, .slice none 0 0, .slice none 0 0] : List Value)[i]? = some v → ((w.alloc (.cells #[.int .i64 J, .slice A xs.length cap] 43)).alloc (.cells #[.int .i64 0, .slice none 0 0, .slice none 0 0, .slice none 0 0] 75)).cell? ⟨w.heap.size + 1, i, none⟩ = some v ∧ ((w.alloc (.cells #[.int .i64 J, .slice A xs.length cap] 43)).alloc (.cells #[.int .i64 0, .slice none 0 0, .slice none 0 0, .slice none 0 0] 75)).frozen? ⟨w.heap.size + 1, i, none⟩ = false from fun i v hi => by
    match i, hi with
    | 0, hi | 1, hi | 2, hi | 3, hi => (simp at hi; subst hi; exact ⟨by simp, by simp⟩)
    | i + 4, hi => simp at hi)
  have HS := Lib.hid hs
  have hlt0 : w.heap.size + 1 < ((w.alloc (.cells #[.int .i64 J, .slice A xs.length cap] 43)).alloc (.cells #[.int .i64 0, .slice none 0 0, .slice none 0 0, .slice none 0 0] 75)).heap.size := by simp
  clear hr hd hu hs
  obtain ⟨hok, hf1, hf2, hg3⟩ := dmC_ok hc
  have h24 := (mineOk_iff.1 hok).2.2
  have HL := Lib.hid (And.intro (flOk_iff.1 hf1).1 (And.intro (flOk_iff.1 hf2).1 hg3))
  have HF := Lib.hid (And.intro hf1 hf2)
  have l2a := Nat.le_of_eq HL.out.2.1
  have l2b := Nat.le_of_eq HL.out.2.1.symm
  have l1a := Nat.le_of_eq HL.out.1
  have l1b := Nat.le_of_eq HL.out.1.symm
  have e3 : ((rg.length : Int) != (xs.length : Int)) = false := by simp [hg3]
  have HMK := Lib.hid (run_make_row' (P := Tryd.prog) 36 2 (.int .i64 0) 8 Tryd.underlying36 info_i64 rfl .i64 .i64 pu.length (by omega) (by omega))
  clear hg3 hc
  go_enter Tryd.func44, Tryd.ntmps44
  have c0_0 := HC.out.1
  have c1_0 := HC.out.2
  go_wp2_with fail
  (with_reducible refine (iValidMine_any J A cap xs _ HR.out HS.out hl).mono ?_)
  rintro e w1 ⟨rfl, hd1⟩
  rw [hok]
  have HB1 := Lib.hid (HB0.out.trans (hd1.mono HB0.out.size))
  have HR1 := Lib.hid (HR.out.below hd1)
  have HD1 := Lib.hid (HD.out.below hd1)
  have HU1 := Lib.hid (HU.out.below hd1)
  have HC1 := Lib.hid (And.intro (cellK HC.out.1 hd1) (cellK HC.out.2 hd1))
  have HZ1 := Lib.hid (show ∀ i v, ([.int .i64 0, .slice none 0 0, .slice none 0 0, .slice none 0 0] : List Value)[i]? = some v → w1.cell? ⟨w.heap.size + 1, i, none⟩ = some v ∧ w1.frozen? ⟨w.heap.size + 1, i, none⟩ = false from fun i v hi => by
    obtain ⟨h1, h2⟩ := HZ.out i v hi
    exact ⟨cellK h1 hd1, (hd1.frozen (p := ⟨w.heap.size + 1, i, none⟩) (World.block_lt_of_cell? _ _ h1)).trans h2⟩)
  have c0_1 := HC1.out.1
  have c1_1 := HC1.out.2
  clear hd1
  clear c0_0 c1_0
  go_wp2_with fail
  (with_reducible refine (hasOneEach_any J _ _ A xs.length cap _ dr _ HD1.out (by omega) hl).mono ?_)
  rintro e w2 ⟨rfl, hd2⟩
  rw [hf1]
  have HB2 := Lib.hid (HB1.out.trans (hd2.mono HB1.out.size))
  have HR2 := Lib.hid (HR1.out.below hd2)
  have HD2 := Lib.hid (HD1.out.below hd2)
  have HU2 := Lib.hid (HU1.out.below hd2)
  have HC2 := Lib.hid (And.intro (cellK HC1.out.1 hd2) (cellK HC1.out.2 hd2))
  have HZ2 := Lib.hid (show ∀ i v, ([.int .i64 0, .slice none 0 0, .slice none 0 0, .slice none 0 0] : List Value)[i]? = some v → w2.cell? ⟨w.heap.size + 1, i, none⟩ = some v ∧ w2.frozen? ⟨w.heap.size + 1, i, none⟩ = false from fun i v hi => by
    obtain ⟨h1, h2⟩ := HZ1.out i v hi
    exact ⟨cellK h1 hd2, (hd2.frozen (p := ⟨w.heap.size + 1, i, none⟩) (World.block_lt_of_cell? _ _ h1)).trans h2⟩)
  have c0_2 := HC2.out.1
  have c1_2 := HC2.out.2
  clear hd2
  clear c0_1 c1_1
  go_wp2_with fail
  (with_reducible refine (hasOneEach_any J _ _ A xs.length cap _ pu _ HU2.out (by omega) hl).mono ?_)
  rintro e w3 ⟨rfl, hd3⟩
  rw [hf2]
  have HB3 := Lib.hid (HB2.out.trans (hd3.mono HB2.out.size))
  have HR3 := Lib.hid (HR2.out.below hd3)
  have HD3 := Lib.hid (HD2.out.below hd3)
  have HU3 := Lib.hid (HU2.out.below hd3)
  have HC3 := Lib.hid (And.intro (cellK HC2.out.1 hd3) (cellK HC2.out.2 hd3))
  have HZ3 := Lib.hid (show ∀ i v, ([.int .i64 0, .slice none 0 0, .slice none 0 0, .slice none 0 0] : List Value)[i]? = some v → w3.cell? ⟨w.heap.size + 1, i, none⟩ = some v ∧ w3.frozen? ⟨w.heap.size + 1, i, none⟩ = false from fun i v hi => by
    obtain ⟨h1, h2⟩ := HZ2.out i v hi
    exact ⟨cellK h1 hd3, (hd3.frozen (p := ⟨w.heap.size + 1, i, none⟩) (World.block_lt_of_cell? _ _ h1)).trans h2⟩)
  have c0_3 := HC3.out.1
  have c1_3 := HC3.out.2
  clear hd3
  clear c0_2 c1_2
  have hmk := HMK.out
  go_wp2
  clear hmk e3
  go_loopw [40] (fun i wr => ∃ k : Nat, k ≤ pu.length ∧ i = .int .i64 (k : Int) ∧ wr.ownsRow w3.heap.size 2 1 (.slice (some ⟨w3.heap.size, 0, none⟩) pu.length pu.length) pu.length (intsV (fillO pu.length (exF dr pu) k)) ∧ Below w3.heap.size w3 wr) (fun i wr => pu.length - (intOf i).toNat)
  case atStart =>
    refine ⟨0, by omega, rfl, ?_, (Below.refl _ _).alloc (Nat.le_refl _) _⟩
    have h := World.ownsRow_lit (base := w3.heap.size) (e := 2) (size := 1) w3 (madeCells #[.int .i64 0] pu.length) pu.length (Nat.le_refl _) (by unfold maxLen; omega) (by simp [madeCells])
    rwa [fillO_made _ (exF dr pu)] at h
  case round =>
    obtain ⟨k, hk, rfl, hown, hbel⟩ := hrel
    by_cases hlt : k < pu.length
    · have hld : k < dr.length := by omega
      obtain ⟨ub, uof, eu, -, D1⟩ := Row.cell HU3.out hlt
      obtain ⟨db, dof, ed, -, D0⟩ := Row.cell HD3.out hld
      subst eu ed
      have c1 := cellK D1 hbel
      have c0 := cellK D0 hbel
      have hub : ub < w3.heap.size := World.block_lt_of_cell? _ _ D1
      have hdb : db < w3.heap.size := World.block_lt_of_cell? _ _ D0
      have hzb := wf_allO HF.out.2 hlt
      have hyb := wf_allO HF.out.1 hld
      have HP := Lib.hid (fillO_put (exF dr pu) hlt)
      have HX := Lib.hid (show exF dr pu k = pu.getD k 0 - dr.getD k 0 from rfl)
      rw [HX.out] at HP
      have dz : wr.drew.cell? ⟨w3.heap.size, k, none⟩ = some (.int .i64 0) := by
        show wr.cell? _ = _
        rw [hown.cellAt k (by omega), fillO_at _ hlt]
      have fz : wr.drew.frozen? ⟨w3.heap.size, k, none⟩ = false := hown.frozenAt k
      have HO := Lib.hid hown
      clear hown
      generalize pu.getD k 0 = z at *
      generalize dr.getD k 0 = y at *
      have hku : (k : Int) < (pu.length : Int) := by omega
      have hkd : (k : Int) < (dr.length : Int) := by omega
      have h0k : (0 : Int) ≤ (k : Int) := by omega
      have hwk : IntKind.i64.wrap (k : Int) = (k : Int) := IntWalk.i64_in _ (by omega)
      have hwx : IntKind.i64.wrap (z - y) = z - y := IntWalk.i64_in _ (by omega)
      go_wp2_with fail
      refine wp_region_held (S := fun w' => w'.cell? ⟨ub, uof + k, none⟩ = some (.int .i64 z) ∧ w'.cell? ⟨db, dof + k, none⟩ = some (.int .i64 y) ∧ Below w3.heap.size w3 w') (by kernel_rfl) ?_
      try (change wpAnyH _ _ _ _ _ _ _ _ (World.drew _))
      have hS0 := (show wr.drew.cell? ⟨ub, uof + k, none⟩ = some (.int .i64 z) ∧ wr.drew.cell? ⟨db, dof + k, none⟩ = some (.int .i64 y) ∧ Below w3.heap.size w3 wr.drew from ⟨c1, c0, Below.drew hbel⟩)
      refine gTake 0 (v := ?_) rfl (by kernel_rfl) (by kernel_rfl) (by kernel_rfl) (fun _ _ _ h => h) (by kernel_rfl) ?_ hS0 ?_
      rotate_left
      · (intro W hW; clear hW; go_simp; try with_reducible rfl)
      refine gTake 1 (v := ?_) rfl (by kernel_rfl) (by kernel_rfl) (by kernel_rfl) (fun _ _ _ h => h) (by kernel_rfl) ?_ hS0 ?_
      rotate_left
      · (intro W hW; clear hW; go_simp; try with_reducible rfl)
      refine gTake 2 (v := ?_) rfl (by kernel_rfl) (by kernel_rfl) (by kernel_rfl) (fun _ _ _ h => h) (by kernel_rfl) ?_ hS0 ?_
      rotate_left
      · (intro W hW; clear hW; go_simp; try with_reducible rfl)
      refine gTake 3 (v := ?_) rfl (by kernel_rfl) (by kernel_rfl) (by kernel_rfl) (fun _ _ _ h => h) (by kernel_rfl) ?_ hS0 ?_
      rotate_left
      · (intro W hW; clear hW; go_simp; try with_reducible rfl)
      refine gTake 4 (v := ?_) rfl (by kernel_rfl) (by kernel_rfl) (by kernel_rfl) (fun _ _ _ h => h) (by kernel_rfl) ?_ hS0 ?_
      rotate_left
      · (intro W hW; clear hW; go_simp; try with_reducible rfl)
      refine gTake 5 (v := ?_) rfl (by kernel_rfl) (by kernel_rfl) (by kernel_rfl) (fun _ _ _ h => h) (by kernel_rfl) ?_ hS0 ?_
      rotate_left
      · (intro W hW; have q0 := hW.1; have q1 := hW.2.1; clear hW; go_simp; try with_reducible rfl)
      refine gTake 6 (v := ?_) rfl (by kernel_rfl) (by kernel_rfl) (by kernel_rfl) (fun _ _ _ h => h) (by kernel_rfl) ?_ hS0 ?_
      rotate_left
      · (intro W hW; clear hW; go_simp; try with_reducible rfl)
      refine gTake 7 (v := ?_) rfl (by kernel_rfl) (by kernel_rfl) (by kernel_rfl) (fun _ _ _ h => h) (by kernel_rfl) ?_ hS0 ?_
      rotate_left
      · (intro W hW; clear hW; go_simp; try with_reducible rfl)
      refine gTake 8 (v := ?_) rfl (by kernel_rfl) (by kernel_rfl) (by kernel_rfl) (fun _ _ _ h => h) (by kernel_rfl) ?_ hS0 ?_
      rotate_left
      · (intro W hW; clear hW; go_simp; try with_reducible rfl)
      refine gTake 9 (v := ?_) rfl (by kernel_rfl) (by kernel_rfl) (by kernel_rfl) (fun _ _ _ h => h) (by kernel_rfl) ?_ hS0 ?_
      rotate_left
      · (intro W hW; have q0 := hW.1; have q1 := hW.2.1; clear hW; go_simp; try with_reducible rfl)
      refine gTake 10 (v := ?_) rfl (by kernel_rfl) (by kernel_rfl) (by kernel_rfl) (fun _ _ _ h => h) (by kernel_rfl) ?_ hS0 ?_
      rotate_left
      · (intro W hW; clear hW; go_simp; try with_reducible rfl)
      refine gTake 11 (v := ?_) rfl (by kernel_rfl) (by kernel_rfl) (by kernel_rfl) (fun _ _ _ h => h) (by kernel_rfl) ?_ hS0 ?_
      rotate_left
      · (intro W hW; clear hW; go_simp; try with_reducible rfl)
      refine gOne 12 rfl (by kernel_rfl) (by kernel_rfl) (fun K hK => ?_)
      go_simp
      skip
      have hS1 := (show (wr.drew.setCell ⟨w3.heap.size, k, none⟩ (.int .i64 (z - y))).cell? ⟨ub, uof + k, none⟩ = some (.int .i64 z) ∧ (wr.drew.setCell ⟨w3.heap.size, k, none⟩ (.int .i64 (z - y))).cell? ⟨db, dof + k, none⟩ = some (.int .i64 y) ∧ Below w3.heap.size w3 (wr.drew.setCell ⟨w3.heap.size, k, none⟩ (.int .i64 (z - y))) from ⟨(World.cell?_setCell_other _ _ _ _ (by intro e; injection e with e1 e2; omega)).trans c1, (World.cell?_setCell_other _ _ _ _ (by intro e; injection e with e1 e2; omega)).trans c0, (Below.drew hbel).setCell (Nat.le_refl _) _⟩)
      refine hK _ _ hS1 ?_
      clear hK K
      refine wpAnyH_done (by kernel_rfl) ?_ _
      go_simp
      have HBz := Lib.hid hS1.2.2
      clear hS0 hS1
      go_wp2
      go_roundw
      case rel => exact ⟨k + 1, by omega, by go_num, by
        have h := ((show wr.drew.ownsRow w3.heap.size 2 1 (.slice (some ⟨w3.heap.size, 0, none⟩) pu.length pu.length) pu.length (intsV (fillO pu.length (exF dr pu) k)) from HO.out).stored k (.int .i64 (z - y))).1
        rw [HP.out] at h
        exact h, HBz.out⟩
      case measure => simp [intOf]; omega
    · obtain rfl : k = pu.length := by omega
      rw [fillO_full] at hown
      have HO := Lib.hid hown
      have HBz := Lib.hid hbel
      have RZ : ∀ i v, ([.int .i64 0, .slice none 0 0, .slice none 0 0, .slice none 0 0] : List Value)[i]? = some v → wr.cell? ⟨w.heap.size + 1, i, none⟩ = some v ∧ wr.frozen? ⟨w.heap.size + 1, i, none⟩ = false := fun i v hi => by
        obtain ⟨h1, h2⟩ := HZ3.out i v hi
        exact ⟨cellK h1 hbel, (hbel.frozen (p := ⟨w.heap.size + 1, i, none⟩) (World.block_lt_of_cell? _ _ h1)).trans h2⟩
      have c0_4 := cellK HC3.out.1 hbel
      have c1_4 := cellK HC3.out.2 hbel
      have hw1 : w.heap.size + 1 < w3.heap.size := World.block_lt_of_cell? (a := ⟨w.heap.size + 1, 0, none⟩) _ (HZ3.out 0 _ rfl).1
      obtain ⟨m0, g0⟩ := RZ 0 _ rfl
      obtain ⟨m1, g1⟩ := RZ 1 _ rfl
      obtain ⟨m2, g2⟩ := RZ 2 _ rfl
      obtain ⟨m3, g3⟩ := RZ 3 _ rfl
      clear hown hbel RZ
      go_wp2
      refine bodyPost_ret (v := .tuple #[.agg #[.int .i64 J, .slice A xs.length cap, .slice (some ⟨w3.heap.size, 0, none⟩) pu.length pu.length, .slice G rg.length gcap], .int .i64 0]) (by simp [results, Tryd.results44, go_sem, World.cell?_setCell_same', World.cell?_setCell_other, m0, m1, m2, m3]) rfl ⟨_, rfl, ?_, ?_⟩
      · have h1 := own_setLowE (own_setLowE (own_setLowE (own_setLowE HO.out (p := ⟨w.heap.size + 1, 0, none⟩) (by exact hw1) (.int .i64 J)) (p := ⟨w.heap.size + 1, 1, none⟩) (by exact hw1) (.slice A xs.length cap)) (p := ⟨w.heap.size + 1, 2, none⟩) (by exact hw1) (.slice (some ⟨w3.heap.size, 0, none⟩) pu.length pu.length)) (p := ⟨w.heap.size + 1, 3, none⟩) (by exact hw1) (.slice G rg.length gcap)
        rw [show exL dr pu xs.length = exL dr pu pu.length by rw [HL.out.2.1]]
        refine own_leE (B := w3.heap.size) ?_ HB3.out.size
        unfold OwnI
        rw [exL_len]
        exact h1
      · have hB := HB3.out.trans (HBz.out.mono HB3.out.size)
        repeat (first | (with_reducible exact hB) | (with_reducible refine Below.setCell ?_ (by show w.heap.size ≤ w.heap.size + 1; omega) _))
end Go.Proofs.YthbofhlfggkolaaDoor
