/-
  Slices of Bools: those that came in, the laws' copies, comparisons and marks. Conditions: those that each theorem states.
-/
import Derived.Test.YthbofhlfggkolaaRa
import Derived.Test.YthbofhlfggkolaaGa
import Derived.Test.YthbofhlfggkolaaRg
namespace Go.Proofs.Ythbofhlfggkolaa
open Go.RowKit Go.ChangeShapes Go.WideShapes Go.Deep
set_option linter.unusedVariables false
set_option linter.unusedSimpArgs false

/-- A slice that reads as Bools, at whatever address if there are none. -/
def BoR (w : World) (A : Option Addr) (xs : List Bool) : Prop :=
  ∀ k (h : k < xs.length), ∃ b off, A = some ⟨b, off, none⟩ ∧ w.cell? ⟨b, off + k, none⟩ = some (.bool xs[k])
theorem BoR.below {w w' : World} {A : Option Addr} {xs : List Bool} (h : BoR w A xs) (hb : Below w.heap.size w w') : BoR w' A xs := fun k hk => by
  obtain ⟨b, off, e, hc⟩ := h k hk
  exact ⟨b, off, e, cellK hc hb⟩
theorem BoR.nil (w : World) (A : Option Addr) : BoR w A [] := fun k hk => absurd hk (by simp)
def boV (xs : List Bool) : List Value := xs.map Value.bool
theorem boV_len (xs : List Bool) : (boV xs).length = xs.length := by simp [boV]
theorem boV_app (xs ys : List Bool) : boV (xs ++ ys) = boV xs ++ boV ys := by simp [boV]
theorem boV_get (xs : List Bool) (k : Nat) (h : k < xs.length) : (boV xs)[k]? = some (.bool xs[k]) := by simp [boV, h]
theorem open_bools {H : Type} {enc : TypeId × Value → H} {w : World} {base : Nat} {spare : Nat → Bool} {held : Bool} {fuel : Nat} {cs : List Value} {x : DataW H × List MemPlace}
    (h : DataW.trod enc Try.prog w base spare held fuel 48 cs = some x) :
    ∃ (A : Option Addr) (cap : Nat) (xs : List Bool), cs = [.slice A xs.length cap] ∧ xs.length ≤ maxLen ∧ BoR w A xs ∧ True := by
  rcases open_slice1 Try.underlying48 (by kernel_rfl) h with ⟨rfl, _⟩ | ⟨a, len, cap, m, n, V, D, Pl, rfl, hb, hl, hm, hmm, _, hi⟩
  · exact ⟨none, 0, [], rfl, Nat.zero_le _, fun k hk => absurd hk (by simp), trivial⟩
  · have hx : ∀ i, i < len → ∃ r : Bool, ∃ b off, some a = some ⟨b, off, none⟩ ∧ w.cell? ⟨b, off + i, none⟩ = some (.bool r) := by
      intro i hil
      have him : i < m := by rw [hmm]; split <;> omega
      obtain ⟨hc, ht⟩ := hi i him
      have hsp : ∃ b off, a = ⟨b, off, none⟩ := spot_noneR (hi 0 (by omega)).1
      obtain ⟨b, off, rfl⟩ := hsp
      rw [add_layR] at hc
      obtain ⟨r, q, _⟩ := DataW.trod_bool Try.underlying4 ht
      have hV := List.cons.inj q |>.1
      exact ⟨r, b, off, rfl, by rw [hc, hV]⟩
    refine ⟨some a, cap, (List.range len).map (fun i => if h : i < len then Classical.choose (hx i h) else false), by simp, by simp; omega, fun k hk => ?_, trivial⟩
    have hk' : k < len := by simpa using hk
    have hs := Classical.choose_spec (hx k hk')
    simpa [hk'] using hs
/-- A row of Bools that a call made, in blocks from B on. -/
def OwnB (w : World) (B : Nat) (v : Value) (xs : List Bool) : Prop := w.ownsRow B 4 1 v xs.length (boV xs)
theorem OwnB.form {w : World} {B : Nat} {v : Value} {xs : List Bool} (h : OwnB w B v xs) : ∃ A cap, v = .slice A xs.length cap := by
  rcases h.2 with ⟨rfl, h0⟩ | ⟨g, cap, cur, rfl, hr⟩
  · exact ⟨none, 0, by rw [h0]⟩
  · exact ⟨_, cap, rfl⟩
theorem OwnB.read {w : World} {B : Nat} {v : Value} {xs : List Bool} (h : OwnB w B v xs) : ∃ A cap, v = .slice A xs.length cap ∧ BoR w A xs := by
  rcases h.2 with ⟨rfl, h0⟩ | ⟨g, cap, cur, rfl, hr⟩
  · exact ⟨none, 0, by rw [h0], fun j hj => absurd hj (by omega)⟩
  · refine ⟨_, cap, rfl, fun j hj => ⟨g, 0, rfl, ?_⟩⟩
    have hh : w.ownsRow B 4 1 (.slice (some ⟨g, 0, none⟩) xs.length cap) xs.length (boV xs) := h
    rw [Nat.zero_add, hh.cellAt j (by omega)]
    exact boV_get xs j hj
theorem OwnB.below {w w' : World} {B : Nat} {v : Value} {xs : List Bool} (h : OwnB w B v xs) (hb : Below w.heap.size w w') : OwnB w' B v xs := own_below h hb
theorem OwnB.apart {w w' : World} {B B' : Nat} {v v' : Value} {xs ys : List Bool} (h : OwnB w B v xs) (hB : ∀ k, v.ownBlock = some k → k < B') (h' : OwnB w B' v' ys) (hg : w.grownBy w' v'.ownBlock) : OwnB w' B v xs := by
  refine h.kept hg ?_
  cases e : v.ownBlock with
  | none => exact Or.inl rfl
  | some k =>
    refine Or.inr fun e2 => ?_
    have := hB k e
    have := (h'.lt k e2.symm).1
    omega
theorem OwnB.apart2 {w w' : World} {B : Nat} {v v' : Value} {xs : List Bool} (h : OwnB w B v xs) (hB : ∀ k, v'.ownBlock = some k → k < B) (hg : w.grownBy w' v'.ownBlock) : OwnB w' B v xs := by
  refine h.kept hg ?_
  cases e : v.ownBlock with
  | none => exact Or.inl rfl
  | some k =>
    refine Or.inr fun e2 => ?_
    have := hB k e2.symm
    have := (h.lt k e).1
    omega
theorem ownB_read {w : World} {B g n cap : Nat} {xs : List Bool} (h : OwnB w B (.slice (some ⟨g, 0, none⟩) n cap) xs) : BoR w (some ⟨g, 0, none⟩) xs := by
  obtain ⟨A, c, e, hr⟩ := h.read
  injection e with e1 e2 e3
  subst e1
  exact hr
theorem ownB_far {w w' : World} {B g : Nat} {v : Value} {xs : List Bool} (h : OwnB w B v xs) (hne : ∀ k, v.ownBlock = some k → k ≠ g) (hg : w.grownBy w' (some g)) : OwnB w' B v xs := by
  refine h.kept hg ?_
  cases e : v.ownBlock with
  | none => exact Or.inl rfl
  | some k => exact Or.inr fun e2 => hne k e (by injection e2)
theorem bo_put {xs : List Bool} {k : Nat} (hk : k < xs.length) (z : Bool) (hz : z = xs[k]) :
    (boV (xs.take k ++ List.replicate (xs.length - k) false)).set k (.bool z) = boV (xs.take (k + 1) ++ List.replicate (xs.length - (k + 1)) false) := by
  subst hz
  unfold boV
  rw [← List.map_set, List.set_append_right _ _ (by simp; omega), List.length_take, Nat.min_eq_left (by omega), Nat.sub_self]
  congr 1
  rw [show xs.length - k = (xs.length - (k + 1)) + 1 by omega, List.replicate_succ, List.set_cons_zero, List.take_succ_eq_append_getElem hk, List.append_assoc]
  rfl
theorem info_bo : (Try.prog.info? 4).map (fun i => (i.zero, i.size, i.bytes)) = some (some (.bool false), 1, 1) := by kernel_rfl
set_option maxHeartbeats 1000000 in
theorem toBoolS_own (A : Option Addr) (cap : Nat) (xs : List Bool) (w : World) (hv : BoR w A xs) (hl : xs.length ≤ 1048576) :
    Calls Try.prog 30 #[.slice A xs.length cap] w fun e w' => ∃ g, e = .returned (.slice (some ⟨g, 0, none⟩) xs.length xs.length) ∧ OwnB w' w.heap.size (.slice (some ⟨g, 0, none⟩) xs.length xs.length) xs ∧ Below w.heap.size w w' := by
  have hmk := run_make_row' (P := Try.prog) 48 4 (.bool false) 1 Try.underlying48 info_bo rfl .i64 .i64 xs.length (by omega) (by omega)
  have HV := Lib.hid hv
  clear hv
  go_enter Try.func30, Try.ntmps30
  go_wp2
  clear hmk
  go_loopw [4] (fun i wr => ∃ k : Nat, k ≤ xs.length ∧ i = .int .i64 k ∧ wr.ownsRow w.heap.size 4 1 (.slice (some ⟨w.heap.size, 0, none⟩) xs.length xs.length) xs.length (boV (xs.take k ++ List.replicate (xs.length - k) false)) ∧ Below w.heap.size w wr) (fun i wr => xs.length - (intOf i).toNat)
  case atStart =>
    refine ⟨0, by omega, rfl, ?_, (Below.refl _ _).alloc (Nat.le_refl _) _⟩
    have h := World.ownsRow_lit (base := w.heap.size) (e := 4) (size := 1) w (madeCells #[.bool false] xs.length) xs.length (Nat.le_refl _) (by unfold maxLen; omega) (by simp [madeCells])
    have e : (madeCells #[.bool false] xs.length).toList = boV (xs.take 0 ++ List.replicate (xs.length - 0) false) := by
      simp [madeCells, boV, Nat.mod_one, List.map_const']
    rw [e] at h
    exact h
  case round =>
    obtain ⟨k, hk, rfl, hown, hbel⟩ := hrel
    by_cases hlt : k < xs.length
    · obtain ⟨b, off, rfl, hc⟩ := (HV.out.below hbel) k hlt
      have hfz := hown.frozenAt k
      have hcd : wr.cell? ⟨w.heap.size, k, none⟩ = some (.bool false) := by
        rw [hown.cellAt k (by omega)]
        unfold boV
        rw [List.getElem?_map, List.getElem?_append_right (by simp; omega), List.getElem?_replicate, if_pos (by simp; omega)]
        rfl
      have HO := Lib.hid (And.intro (hown.stored k (.bool xs[k])) (bo_put hlt xs[k] rfl))
      clear hown
      go_wp2
      go_roundw
      case rel => exact ⟨k + 1, by omega, by go_num, by rw [← HO.out.2]; exact HO.out.1.1, hbel.setCell (by simp) _⟩
      case measure => simp [intOf]; omega
    · obtain rfl : k = xs.length := by omega
      go_wp2
      go_ret
      refine ⟨_, rfl, (by simpa [OwnB] using hown), hbel⟩
theorem eqBoolS_same (A A' : Option Addr) (cap cap' : Nat) (xs : List Bool) (w : World) (hr : BoR w A xs) (hr' : BoR w A' xs) (hl : xs.length ≤ 1048576) :
    Calls Try.prog 33 #[.slice A xs.length cap, .slice A' xs.length cap'] w fun e w' => e = .returned (.bool true) ∧ Below w.heap.size w w' := by
  have HR := Lib.hid (And.intro hr hr')
  clear hr hr'
  go_enter Try.func33, Try.ntmps33
  go_wp2
  go_loopw [5] (fun i wr => ∃ k : Nat, k ≤ xs.length ∧ i = .int .i64 k ∧ Below w.heap.size w wr) (fun i wr => xs.length - (intOf i).toNat)
  case atStart => exact ⟨0, by omega, rfl, Below.refl _ _⟩
  case round =>
    obtain ⟨k, hk, rfl, hbel⟩ := hrel
    by_cases hlt : k < xs.length
    · obtain ⟨b, off, rfl, c0⟩ := (HR.out.1.below hbel) k hlt
      obtain ⟨b', off', rfl, d0⟩ := (HR.out.2.below hbel) k hlt
      have HB := Lib.hid hbel
      clear hbel
      generalize xs[k] = z at *
      cases z
      all_goals
        go_wp2
        go_quiet (fail)
        go_wp2
        go_roundw
        case rel => exact ⟨k + 1, by omega, by go_num, below_drewN' HB.out _⟩
        case measure => simp [intOf]; omega
    · go_wp2
      go_ret
      exact ⟨rfl, hbel⟩
theorem eqBoolS_w (v v' : Value) (xs : List Bool) (w : World) {B B' : Nat} (hv : OwnB w B v xs) (hv' : OwnB w B' v' xs) (hl : xs.length ≤ 1048576) :
    Calls Try.prog 33 #[v, v'] w fun e w' => e = .returned (.bool true) ∧ Below w.heap.size w w' := by
  obtain ⟨A, cap, rfl, h⟩ := hv.read
  obtain ⟨A', cap', rfl, h'⟩ := hv'.read
  exact eqBoolS_same A A' cap cap' xs w h h' hl
/-- The marks that are laid into a row of Bools. -/
def markB (k : Int) : Nat → List Bool
  | 0 => []
  | n + 1 => markB k n ++ [decide ((k + n) % 3 = 0)]
theorem markB_len (k : Int) : ∀ n, (markB k n).length = n
  | 0 => rfl
  | n + 1 => by simp [markB, markB_len k n]
theorem markB_get (k : Int) : ∀ (n j : Nat) (h : j < (markB k n).length), (markB k n)[j] = decide ((k + j) % 3 = 0)
  | n + 1, j, h => by
    rw [markB_len] at h
    by_cases e : j < n
    · simp only [markB]
      rw [List.getElem_append_left (by rw [markB_len]; exact e)]
      exact markB_get k n j _
    · obtain rfl : j = n := by omega
      simp only [markB]
      rw [List.getElem_append_right (by rw [markB_len]; exact Nat.le_refl _)]
      simp [markB_len]
theorem markB_put {xs : List Bool} {k : Int} {j : Nat} (hj : j < xs.length) : (boV (markB k j ++ xs.drop j)).set j (.bool (decide ((k + j) % 3 = 0))) = boV (markB k (j + 1) ++ xs.drop (j + 1)) := by
  unfold boV
  rw [← List.map_set, List.set_append_right _ _ (by rw [markB_len]; exact Nat.le_refl _), markB_len, Nat.sub_self, List.drop_eq_getElem_cons hj, List.set_cons_zero]
  simp [markB]
set_option maxHeartbeats 1000000 in
theorem markBoolS_any (B : Nat) (v : Value) (xs : List Bool) (k : Int) (w : World) (hv : OwnB w B v xs) (hl : xs.length ≤ 1048576) (hk : 0 ≤ k ∧ k ≤ 1000000000) :
    Calls Try.prog 35 #[v, .int .i64 k] w fun e w' => e = .returned (.int .i64 (k + xs.length)) ∧ OwnB w' B v (markB k xs.length) ∧ w.grownBy w' v.ownBlock := by
  obtain ⟨A, cap, rfl⟩ := hv.form
  have HV := Lib.hid hv
  clear hv
  go_enter Try.func35, Try.ntmps35
  go_wp2
  go_loopw [1, 5] (fun m i wr => ∃ j : Nat, j ≤ xs.length ∧ i = .int .i64 j ∧ m = .int .i64 (k + j) ∧ wr.ownsRow B 4 1 (.slice A xs.length cap) xs.length (boV (markB k j ++ xs.drop j)) ∧ w.grownBy wr (Value.slice A xs.length cap).ownBlock) (fun m i wr => xs.length - (intOf i).toNat)
  case atStart => exact ⟨0, by omega, rfl, by simp, HV.out, World.grownBy.refl _ _⟩
  case round =>
    obtain ⟨j, hj, rfl, rfl, hown, hgr⟩ := hrel
    by_cases hlt : j < xs.length
    · obtain ⟨g, cap', e, hg, hgl⟩ := hown.form (by omega)
      injection e with e1 e2 e3
      subst e1 e3
      have HP := Lib.hid (markB_put (k := k) hlt)
      have hcd : ∃ u, wr.cell? ⟨g, j, none⟩ = some u := by
        rw [hown.cellAt j (by omega)]
        exact ⟨_, List.getElem?_eq_getElem (by simp [boV, markB_len]; omega)⟩
      obtain ⟨u, hcd⟩ := hcd
      have hfz := hown.frozenAt j
      have HO := Lib.hid hown
      have HG := Lib.hid hgr
      clear hown hgr
      have z1 : 0 ≤ k + (j : Int) ∧ k + (j : Int) ≤ 2000000000 := by omega
      obtain ⟨z, hz⟩ : ∃ z : Int, k + (j : Int) = z := ⟨_, rfl⟩
      rw [hz] at z1 HP ⊢
      have HZ := Lib.hid hz
      clear hz
      obtain ⟨z2, z3⟩ := z1
      have hmod : IntKind.i64.wrap (Int.tmod z 3) = z % 3 := by
        rw [Int.tmod_eq_emod_of_nonneg z2]
        exact IntWalk.i64_in _ (by omega)
      have hm2 : Int.tmod z 3 = z % 3 := Int.tmod_eq_emod_of_nonneg z2
      by_cases h3 : z % 3 = 0
      · have HD := Lib.hid (show decide (z % 3 = 0) = true from decide_eq_true h3)
        go_wp2
        go_roundw
        case rel => exact ⟨j + 1, by omega, by go_num, by have := HZ.out; rw [show k + ((j + 1 : Nat) : Int) = z + 1 by omega], by
          have h := (HO.out.stored j (.bool true)).1
          rw [HD.out] at HP
          rwa [HP.out] at h, HG.out.trans (HO.out.stored j (.bool true)).2⟩
        case measure => simp [intOf]; omega
      · have HD := Lib.hid (show decide (z % 3 = 0) = false from decide_eq_false h3)
        have hbq : (z % 3 == 0) = false := by simp [h3]
        go_wp2
        go_roundw
        case rel => exact ⟨j + 1, by omega, by go_num, by have := HZ.out; rw [show k + ((j + 1 : Nat) : Int) = z + 1 by omega], by
          have h := (HO.out.stored j (.bool false)).1
          rw [HD.out] at HP
          rwa [HP.out] at h, HG.out.trans (HO.out.stored j (.bool false)).2⟩
        case measure => simp [intOf]; omega
    · obtain rfl : j = xs.length := by omega
      rw [List.drop_length, List.append_nil] at hown
      have HO := Lib.hid hown
      have HG := Lib.hid hgr
      clear hown hgr
      go_wp2
      go_ret
      exact ⟨rfl, by unfold OwnB; rw [markB_len]; exact HO.out, HG.out⟩
end Go.Proofs.Ythbofhlfggkolaa
