/-
  Contracts of chapter 13: whether sources are valid for a mine; the model's and the program's. Conditions: those that each theorem states.
-/
import Derived.Test.YthbofhlfggkolaaPa
import Derived.Test.YthbofhlfggkolaaPe
import Derived.Test.YthbofhlfggkolaaGf
import Derived.Test.YthbofhlfggkolaaRg
namespace Go.Proofs.Ythbofhlfggkolaa
open Go.RowKit
set_option linter.unusedVariables false
set_option linter.unusedSimpArgs false

theorem less_totalP : ∀ x y : List UInt8, (!Op.bytesLess x y) = (Op.bytesLess y x || y == x)
  | [], [] => rfl
  | [], b :: y => rfl
  | a :: x, [] => rfl
  | a :: x, b :: y => by
    have ih := less_totalP x y
    have e : (a :: x == b :: y) = (a == b && x == y) := rfl
    have e' : (b :: y == a :: x) = (b == a && y == x) := rfl
    rw [e']
    simp only [Op.bytesLess]
    by_cases h : a = b
    · subst h
      have hi : ¬ a < a := by simp
      simp only [hi, decide_false, beq_self_eq_true, Bool.true_and, Bool.false_or]
      exact ih
    · have h1 : (a == b) = false := beq_false_of_ne h
      have h2 : (b == a) = false := beq_false_of_ne (Ne.symm h)
      rw [h1, h2, Bool.false_and, Bool.or_false, Bool.false_and, Bool.or_false, Bool.false_and, Bool.or_false]
      rcases UInt8.lt_or_lt_of_ne h with g | g
      · have g' : ¬ b < a := fun q => UInt8.lt_irrefl _ (UInt8.lt_trans g q)
        simp [g, g']
      · have g' : ¬ a < b := fun q => UInt8.lt_irrefl _ (UInt8.lt_trans g q)
        simp [g, g']
def So.ok (x : So) : Bool := soOk x.s x.a x.r
def soG (ss : List So) (i : Nat) : So := ss.getD i So.none
theorem soG_lt {ss : List So} {k : Nat} (h : k < ss.length) : soG ss k = ss[k] := by simp [soG, List.getD, h]
def sGood (n : Nat) (ss : List So) (i : Nat) : Bool := ((soG ss i).ok && decide ((soG ss i).a < (n : Int))) && (decide (i = 0) || Op.bytesLess (soG ss (i - 1)).s.toList (soG ss i).s.toList)
/-- Valid sources of a mine with n airways. -/
def ssOk (n : Nat) (ss : List So) : Bool := decide (∀ i, i < ss.length → sGood n ss i = true) && decide (ss.length ≤ 8)
theorem ssOk_iff {n : Nat} {ss : List So} : ssOk n ss = true ↔ (∀ i, i < ss.length → sGood n ss i = true) ∧ ss.length ≤ 8 := by
  simp only [ssOk, Bool.and_eq_true, decide_eq_true_eq]
theorem ssOk_bad {n : Nat} {ss : List So} {i : Nat} (h : i < ss.length) (hb : sGood n ss i = false) : ssOk n ss = false := by
  rw [← Bool.not_eq_true, ssOk_iff]
  rintro ⟨h1, -⟩
  rw [h1 i h] at hb; cases hb
theorem ssOk_each {n : Nat} {ss : List So} (h : ssOk n ss = true) {i : Nat} (hi : i < ss.length) : ss[i].ok = true ∧ ss[i].a < (n : Int) := by
  have h1 := (ssOk_iff.1 h).1 i hi
  simp only [sGood, Bool.and_eq_true, decide_eq_true_eq] at h1
  rw [soG_lt hi] at h1
  exact h1.1
def svOk (J : Int) (xs : List Aw) (ss : List So) : Bool := mineOk J xs && ssOk xs.length ss
theorem sv_two {J : Int} {xs : List Aw} {ss : List So} (h : svOk J xs ss = true) : mineOk J xs = true ∧ ssOk xs.length ss = true := by
  unfold svOk at h
  rwa [Bool.and_eq_true] at h
set_option maxHeartbeats 4000000 in
theorem l13List_any (b : Nat) (A : Option Addr) (cap : Nat) (xs : List Aw) (D : Option Addr) (dcap : Nat) (ss : List So) (w : World) (hA : w.cell? ⟨b, 1, none⟩ = some (.slice A xs.length cap)) (hl : xs.length ≤ 1048576)
    (hd : SoR w D ss) (hds : ∀ d ∈ ss, d.s.size ≤ maxLen) (hdl : ss.length ≤ 1048576) :
    Calls Try.prog 41 #[.pointer (some ⟨b, 0, none⟩), .slice D ss.length dcap] w fun e w' => e = .returned (.bool (ssOk xs.length ss)) ∧ Below w.heap.size w w' := by
  have HD := Lib.hid hd
  have HDS := Lib.hid hds
  have HA := Lib.hid hA
  have hbw := World.block_lt_of_cell? _ _ hA
  clear hA hd hds
  go_enter Try.func41, Try.ntmps41
  go_wp2
  go_loopw [5] (fun i wr => ∃ k : Nat, k ≤ ss.length ∧ i = .int .i64 k ∧ Hid (∀ j, j < k → sGood xs.length ss j = true) ∧ Below w.heap.size w wr) (fun i wr => ss.length - (intOf i).toNat)
  case atStart => exact ⟨0, by omega, rfl, Lib.hid (fun j hj => absurd hj (by omega)), Below.refl _ _⟩
  case round =>
    obtain ⟨k, hk, rfl, HG, hbel⟩ := hrel
    obtain ⟨wo, rfl⟩ : ∃ wo : World, wo = wr := ⟨_, rfl⟩
    have HBL := Lib.hid hbel
    by_cases hlt : k < ss.length
    · have kA : wo.cell? ⟨b, 1, none⟩ = some (.slice A xs.length cap) := cellK HA.out hbel
      obtain ⟨bd, off, rfl, hrg⟩ := (HD.out.below HBL.out) k hlt
      obtain ⟨c0, c1, c2⟩ := so_lay hrg
      have hsz := HDS.out ss[k] (List.getElem_mem hlt)
      have HPV := Lib.hid (show 0 < k → ∃ ps : ByteArray, (soG ss (k - 1)).s = ps ∧ wo.cell? ⟨bd, off + (k - 1) * 3, none⟩ = some (.string ps) from fun h => by
        obtain ⟨b', off', e, hr'⟩ := (HD.out.below HBL.out) (k - 1) (by omega)
        injection e with e
        injection e with e1 e2
        subst e1
        subst e2
        exact ⟨_, rfl, by rw [soG_lt (show k - 1 < ss.length by omega)]; exact (so_lay hr').1⟩)
      have HGD := Lib.hid (show sGood xs.length ss k = (((ss[k]).ok && decide ((ss[k]).a < (xs.length : Int))) && (decide (k = 0) || Op.bytesLess (soG ss (k - 1)).s.toList (ss[k]).s.toList)) by unfold sGood; rw [soG_lt hlt])
      clear hrg
      generalize ss[k] = d at *
      obtain ⟨s, a, r⟩ := d
      dsimp only at c0 c1 c2 hsz
      have HGE := Lib.hid (show sGood xs.length ss k = ((soOk s a r && decide (a < (xs.length : Int))) && (decide (k = 0) || Op.bytesLess (soG ss (k - 1)).s.toList s.toList)) from HGD.out)
      clear HGD
      have hbd : bd < wo.heap.size := World.block_lt_of_cell? _ _ c0
      clear hbel
      cases hd1 : soOk s a r
      · have HF := Lib.hid (ssOk_bad (n := xs.length) hlt (by rw [HGE.out, hd1]; simp))
        go_wp2_with fail
        refine wp_region_held (S := fun w' => w'.cell? ⟨bd, off + k * 3, none⟩ = some (.string s) ∧ w'.cell? ⟨bd, off + k * 3 + 1, none⟩ = some (.int .i64 a) ∧ w'.cell? ⟨b, 1, none⟩ = some (.slice A xs.length cap) ∧ Below wo.heap.size wo w') (by kernel_rfl) ?_
        try (change wpAnyH _ _ _ _ _ _ _ _ (World.drew _))
        have hS0 := (show wo.drew.cell? ⟨bd, off + k * 3, none⟩ = some (.string s) ∧ wo.drew.cell? ⟨bd, off + k * 3 + 1, none⟩ = some (.int .i64 a) ∧ wo.drew.cell? ⟨b, 1, none⟩ = some (.slice A xs.length cap) ∧ Below wo.heap.size wo wo.drew from ⟨c0, c1, kA, Below.drew (Below.refl _ _)⟩)
        refine gTake 0 (v := ?_) rfl (by kernel_rfl) (by kernel_rfl) (by kernel_rfl) (fun _ _ _ h => h) (by kernel_rfl) ?_ hS0 ?_
        rotate_left
        · (intro W hW; clear hW; go_simp; try with_reducible rfl)
        refine gTake 1 (v := ?_) rfl (by kernel_rfl) (by kernel_rfl) (by kernel_rfl) (fun _ _ _ h => h) (by kernel_rfl) ?_ hS0 ?_
        rotate_left
        · (intro W hW; clear hW; go_simp; try with_reducible rfl)
        refine gTake 2 (v := ?_) rfl (by kernel_rfl) (by kernel_rfl) (by kernel_rfl) (fun _ _ _ h => h) (by kernel_rfl) ?_ hS0 ?_
        rotate_left
        · (intro W hW; clear hW; go_simp; try with_reducible rfl)
        refine gOne 3 rfl (by kernel_rfl) (by kernel_rfl) (fun K hK => ?_)
        go_simp
        go_at_call 76
        (with_reducible refine (l13One_below bd (off + k * 3) s a r _ hsz ((soAt_mk c0 c1 c2).below hS0.2.2.2 hbd)).mono ?_)
        rintro e wq0 ⟨rfl, hdq0⟩
        try go_simp
        have hS1 := (show wq0.cell? ⟨bd, off + k * 3, none⟩ = some (.string s) ∧ wq0.cell? ⟨bd, off + k * 3 + 1, none⟩ = some (.int .i64 a) ∧ wq0.cell? ⟨b, 1, none⟩ = some (.slice A xs.length cap) ∧ Below wo.heap.size wo wq0 from ⟨cellK hS0.1 hdq0, cellK hS0.2.1 hdq0, cellK hS0.2.2.1 hdq0, hS0.2.2.2.trans (hdq0.mono hS0.2.2.2.size)⟩)
        refine hK _ _ hS1 ?_
        clear hK K
        refine gTake 4 (v := ?_) rfl (by kernel_rfl) (by kernel_rfl) (by kernel_rfl) (fun _ _ _ h => h) (by kernel_rfl) ?_ hS1 ?_
        rotate_left
        · (intro W hW; clear hW; go_simp; try with_reducible rfl)
        refine gTake 5 (v := ?_) rfl (by kernel_rfl) (by kernel_rfl) (by kernel_rfl) (fun _ _ _ h => h) (by kernel_rfl) ?_ hS1 ?_
        rotate_left
        · (intro W hW; clear hW; go_simp; try with_reducible rfl)
        refine gSkip 6 rfl (by kernel_rfl) (by kernel_rfl) (by kernel_rfl) (fun _ _ _ h => h) (by kernel_rfl) hS1 ?_
        refine gSkip 7 rfl (by kernel_rfl) (by kernel_rfl) (by kernel_rfl) (fun _ _ _ h => h) (by kernel_rfl) hS1 ?_
        refine gSkip 8 rfl (by kernel_rfl) (by kernel_rfl) (by kernel_rfl) (fun _ _ _ h => h) (by kernel_rfl) hS1 ?_
        refine gSkip 9 rfl (by kernel_rfl) (by kernel_rfl) (by kernel_rfl) (fun _ _ _ h => h) (by kernel_rfl) hS1 ?_
        refine gSkip 10 rfl (by kernel_rfl) (by kernel_rfl) (by kernel_rfl) (fun _ _ _ h => h) (by kernel_rfl) hS1 ?_
        refine gSkip 11 rfl (by kernel_rfl) (by kernel_rfl) (by kernel_rfl) (fun _ _ _ h => h) (by kernel_rfl) hS1 ?_
        refine gSkip 12 rfl (by kernel_rfl) (by kernel_rfl) (by kernel_rfl) (fun _ _ _ h => h) (by kernel_rfl) hS1 ?_
        refine gSkip 13 rfl (by kernel_rfl) (by kernel_rfl) (by kernel_rfl) (fun _ _ _ h => h) (by kernel_rfl) hS1 ?_
        refine gSkip 14 rfl (by kernel_rfl) (by kernel_rfl) (by kernel_rfl) (fun _ _ _ h => h) (by kernel_rfl) hS1 ?_
        refine gSkip 15 rfl (by kernel_rfl) (by kernel_rfl) (by kernel_rfl) (fun _ _ _ h => h) (by kernel_rfl) hS1 ?_
        refine gSkip 16 rfl (by kernel_rfl) (by kernel_rfl) (by kernel_rfl) (fun _ _ _ h => h) (by kernel_rfl) hS1 ?_
        refine gTake 17 (v := ?_) rfl (by kernel_rfl) (by kernel_rfl) (by kernel_rfl) (fun _ _ _ h => h) (by kernel_rfl) ?_ hS1 ?_
        rotate_left
        · (intro W hW; clear hW; go_simp; try with_reducible rfl)
        refine gTake 18 (v := ?_) rfl (by kernel_rfl) (by kernel_rfl) (by kernel_rfl) (fun _ _ _ h => h) (by kernel_rfl) ?_ hS1 ?_
        rotate_left
        · (intro W hW; clear hW; go_simp; try with_reducible rfl)
        refine gSkip 19 rfl (by kernel_rfl) (by kernel_rfl) (by kernel_rfl) (fun _ _ _ h => h) (by kernel_rfl) hS1 ?_
        refine gSkip 20 rfl (by kernel_rfl) (by kernel_rfl) (by kernel_rfl) (fun _ _ _ h => h) (by kernel_rfl) hS1 ?_
        refine gSkip 21 rfl (by kernel_rfl) (by kernel_rfl) (by kernel_rfl) (fun _ _ _ h => h) (by kernel_rfl) hS1 ?_
        refine gSkip 22 rfl (by kernel_rfl) (by kernel_rfl) (by kernel_rfl) (fun _ _ _ h => h) (by kernel_rfl) hS1 ?_
        refine gSkip 23 rfl (by kernel_rfl) (by kernel_rfl) (by kernel_rfl) (fun _ _ _ h => h) (by kernel_rfl) hS1 ?_
        refine gSkip 24 rfl (by kernel_rfl) (by kernel_rfl) (by kernel_rfl) (fun _ _ _ h => h) (by kernel_rfl) hS1 ?_
        refine gSkip 25 rfl (by kernel_rfl) (by kernel_rfl) (by kernel_rfl) (fun _ _ _ h => h) (by kernel_rfl) hS1 ?_
        refine gSkip 26 rfl (by kernel_rfl) (by kernel_rfl) (by kernel_rfl) (fun _ _ _ h => h) (by kernel_rfl) hS1 ?_
        refine gSkip 27 rfl (by kernel_rfl) (by kernel_rfl) (by kernel_rfl) (fun _ _ _ h => h) (by kernel_rfl) hS1 ?_
        refine gSkip 28 rfl (by kernel_rfl) (by kernel_rfl) (by kernel_rfl) (fun _ _ _ h => h) (by kernel_rfl) hS1 ?_
        refine gSkip 29 rfl (by kernel_rfl) (by kernel_rfl) (by kernel_rfl) (fun _ _ _ h => h) (by kernel_rfl) hS1 ?_
        refine gSkip 30 rfl (by kernel_rfl) (by kernel_rfl) (by kernel_rfl) (fun _ _ _ h => h) (by kernel_rfl) hS1 ?_
        refine gSkip 31 rfl (by kernel_rfl) (by kernel_rfl) (by kernel_rfl) (fun _ _ _ h => h) (by kernel_rfl) hS1 ?_
        refine gSkip 32 rfl (by kernel_rfl) (by kernel_rfl) (by kernel_rfl) (fun _ _ _ h => h) (by kernel_rfl) hS1 ?_
        refine gSkip 33 rfl (by kernel_rfl) (by kernel_rfl) (by kernel_rfl) (fun _ _ _ h => h) (by kernel_rfl) hS1 ?_
        refine gSkip 34 rfl (by kernel_rfl) (by kernel_rfl) (by kernel_rfl) (fun _ _ _ h => h) (by kernel_rfl) hS1 ?_
        refine gTake 35 (v := ?_) rfl (by kernel_rfl) (by kernel_rfl) (by kernel_rfl) (fun _ _ _ h => h) (by kernel_rfl) ?_ hS1 ?_
        rotate_left
        · (intro W hW; clear hW; go_simp; try with_reducible rfl)
        refine wpAnyH_done (by kernel_rfl) ?_ _
        go_simp
        go_wp2
        go_ret
        exact ⟨ret_bool HF.out.symm, HBL.out.trans (hS1.2.2.2.mono HBL.out.size)⟩
      · by_cases han : a < (xs.length : Int)
        · have HDN := Lib.hid (show decide ((xs.length : Int) ≤ a) = false from decide_eq_false (by omega))
          by_cases k0 : k = 0
          · have HF := Lib.hid (show sGood xs.length ss k = true by rw [HGE.out, hd1, decide_eq_true han, decide_eq_true k0]; simp)
            have hki : ¬ (0 < (k : Int)) := by omega
            have hkn : ¬ (0 < k) := by omega
            clear k0
            go_wp2_with fail
            refine wp_region_held (S := fun w' => w'.cell? ⟨bd, off + k * 3, none⟩ = some (.string s) ∧ w'.cell? ⟨bd, off + k * 3 + 1, none⟩ = some (.int .i64 a) ∧ w'.cell? ⟨b, 1, none⟩ = some (.slice A xs.length cap) ∧ Below wo.heap.size wo w') (by kernel_rfl) ?_
            try (change wpAnyH _ _ _ _ _ _ _ _ (World.drew _))
            have hS0 := (show wo.drew.cell? ⟨bd, off + k * 3, none⟩ = some (.string s) ∧ wo.drew.cell? ⟨bd, off + k * 3 + 1, none⟩ = some (.int .i64 a) ∧ wo.drew.cell? ⟨b, 1, none⟩ = some (.slice A xs.length cap) ∧ Below wo.heap.size wo wo.drew from ⟨c0, c1, kA, Below.drew (Below.refl _ _)⟩)
            refine gTake 0 (v := ?_) rfl (by kernel_rfl) (by kernel_rfl) (by kernel_rfl) (fun _ _ _ h => h) (by kernel_rfl) ?_ hS0 ?_
            rotate_left
            · (intro W hW; clear hW; go_simp; try with_reducible rfl)
            refine gTake 1 (v := ?_) rfl (by kernel_rfl) (by kernel_rfl) (by kernel_rfl) (fun _ _ _ h => h) (by kernel_rfl) ?_ hS0 ?_
            rotate_left
            · (intro W hW; clear hW; go_simp; try with_reducible rfl)
            refine gTake 2 (v := ?_) rfl (by kernel_rfl) (by kernel_rfl) (by kernel_rfl) (fun _ _ _ h => h) (by kernel_rfl) ?_ hS0 ?_
            rotate_left
            · (intro W hW; clear hW; go_simp; try with_reducible rfl)
            refine gOne 3 rfl (by kernel_rfl) (by kernel_rfl) (fun K hK => ?_)
            go_simp
            go_at_call 76
            (with_reducible refine (l13One_below bd (off + k * 3) s a r _ hsz ((soAt_mk c0 c1 c2).below hS0.2.2.2 hbd)).mono ?_)
            rintro e wq0 ⟨rfl, hdq0⟩
            try go_simp
            have hS1 := (show wq0.cell? ⟨bd, off + k * 3, none⟩ = some (.string s) ∧ wq0.cell? ⟨bd, off + k * 3 + 1, none⟩ = some (.int .i64 a) ∧ wq0.cell? ⟨b, 1, none⟩ = some (.slice A xs.length cap) ∧ Below wo.heap.size wo wq0 from ⟨cellK hS0.1 hdq0, cellK hS0.2.1 hdq0, cellK hS0.2.2.1 hdq0, hS0.2.2.2.trans (hdq0.mono hS0.2.2.2.size)⟩)
            refine hK _ _ hS1 ?_
            clear hK K
            refine gTake 4 (v := ?_) rfl (by kernel_rfl) (by kernel_rfl) (by kernel_rfl) (fun _ _ _ h => h) (by kernel_rfl) ?_ hS1 ?_
            rotate_left
            · (intro W hW; clear hW; go_simp; try with_reducible rfl)
            refine gTake 5 (v := ?_) rfl (by kernel_rfl) (by kernel_rfl) (by kernel_rfl) (fun _ _ _ h => h) (by kernel_rfl) ?_ hS1 ?_
            rotate_left
            · (intro W hW; clear hW; go_simp; try with_reducible rfl)
            refine gTake 6 (v := ?_) rfl (by kernel_rfl) (by kernel_rfl) (by kernel_rfl) (fun _ _ _ h => h) (by kernel_rfl) ?_ hS1 ?_
            rotate_left
            · (intro W hW; clear hW; go_simp; try with_reducible rfl)
            refine gTake 7 (v := ?_) rfl (by kernel_rfl) (by kernel_rfl) (by kernel_rfl) (fun _ _ _ h => h) (by kernel_rfl) ?_ hS1 ?_
            rotate_left
            · (intro W hW; clear hW; go_simp; try with_reducible rfl)
            refine gTake 8 (v := ?_) rfl (by kernel_rfl) (by kernel_rfl) (by kernel_rfl) (fun _ _ _ h => h) (by kernel_rfl) ?_ hS1 ?_
            rotate_left
            · (intro W hW; clear hW; go_simp; try with_reducible rfl)
            refine gTake 9 (v := ?_) rfl (by kernel_rfl) (by kernel_rfl) (by kernel_rfl) (fun _ _ _ h => h) (by kernel_rfl) ?_ hS1 ?_
            rotate_left
            · (intro W hW; clear hW; go_simp; try with_reducible rfl)
            refine gTake 10 (v := ?_) rfl (by kernel_rfl) (by kernel_rfl) (by kernel_rfl) (fun _ _ _ h => h) (by kernel_rfl) ?_ hS1 ?_
            rotate_left
            · (intro W hW; have q0 := hW.1; have q1 := hW.2.1; have q2 := hW.2.2.1; clear hW; go_simp; try with_reducible rfl)
            refine gTake 11 (v := ?_) rfl (by kernel_rfl) (by kernel_rfl) (by kernel_rfl) (fun _ _ _ h => h) (by kernel_rfl) ?_ hS1 ?_
            rotate_left
            · (intro W hW; clear hW; go_simp; try with_reducible rfl)
            refine gTake 12 (v := ?_) rfl (by kernel_rfl) (by kernel_rfl) (by kernel_rfl) (fun _ _ _ h => h) (by kernel_rfl) ?_ hS1 ?_
            rotate_left
            · (intro W hW; clear hW; go_simp; try with_reducible rfl)
            refine gTake 13 (v := ?_) rfl (by kernel_rfl) (by kernel_rfl) (by kernel_rfl) (fun _ _ _ h => h) (by kernel_rfl) ?_ hS1 ?_
            rotate_left
            · (intro W hW; clear hW; go_simp; try with_reducible rfl)
            refine gTake 14 (v := ?_) rfl (by kernel_rfl) (by kernel_rfl) (by kernel_rfl) (fun _ _ _ h => h) (by kernel_rfl) ?_ hS1 ?_
            rotate_left
            · (intro W hW; have q0 := hW.1; have q1 := hW.2.1; have q2 := hW.2.2.1; clear hW; go_simp; try with_reducible rfl)
            refine gTake 15 (v := ?_) rfl (by kernel_rfl) (by kernel_rfl) (by kernel_rfl) (fun _ _ _ h => h) (by kernel_rfl) ?_ hS1 ?_
            rotate_left
            · (intro W hW; clear hW; go_simp; try with_reducible rfl)
            refine gTake 16 (v := ?_) rfl (by kernel_rfl) (by kernel_rfl) (by kernel_rfl) (fun _ _ _ h => h) (by kernel_rfl) ?_ hS1 ?_
            rotate_left
            · (intro W hW; clear hW; go_simp; (try rw [HDN.out]); try with_reducible rfl)
            refine gTake 17 (v := ?_) rfl (by kernel_rfl) (by kernel_rfl) (by kernel_rfl) (fun _ _ _ h => h) (by kernel_rfl) ?_ hS1 ?_
            rotate_left
            · (intro W hW; clear hW; go_simp; try with_reducible rfl)
            refine gTake 18 (v := ?_) rfl (by kernel_rfl) (by kernel_rfl) (by kernel_rfl) (fun _ _ _ h => h) (by kernel_rfl) ?_ hS1 ?_
            rotate_left
            · (intro W hW; clear hW; go_simp; try with_reducible rfl)
            refine gTake 19 (v := ?_) rfl (by kernel_rfl) (by kernel_rfl) (by kernel_rfl) (fun _ _ _ h => h) (by kernel_rfl) ?_ hS1 ?_
            rotate_left
            · (intro W hW; clear hW; go_simp; try with_reducible rfl)
            refine gTake 20 (v := ?_) rfl (by kernel_rfl) (by kernel_rfl) (by kernel_rfl) (fun _ _ _ h => h) (by kernel_rfl) ?_ hS1 ?_
            rotate_left
            · (intro W hW; clear hW; go_simp; try with_reducible rfl)
            refine gTake 21 (v := ?_) rfl (by kernel_rfl) (by kernel_rfl) (by kernel_rfl) (fun _ _ _ h => h) (by kernel_rfl) ?_ hS1 ?_
            rotate_left
            · (intro W hW; clear hW; go_simp; try with_reducible rfl)
            refine gSkip 22 rfl (by kernel_rfl) (by kernel_rfl) (by kernel_rfl) (fun _ _ _ h => h) (by kernel_rfl) hS1 ?_
            refine gSkip 23 rfl (by kernel_rfl) (by kernel_rfl) (by kernel_rfl) (fun _ _ _ h => h) (by kernel_rfl) hS1 ?_
            refine gSkip 24 rfl (by kernel_rfl) (by kernel_rfl) (by kernel_rfl) (fun _ _ _ h => h) (by kernel_rfl) hS1 ?_
            refine gSkip 25 rfl (by kernel_rfl) (by kernel_rfl) (by kernel_rfl) (fun _ _ _ h => h) (by kernel_rfl) hS1 ?_
            refine gSkip 26 rfl (by kernel_rfl) (by kernel_rfl) (by kernel_rfl) (fun _ _ _ h => h) (by kernel_rfl) hS1 ?_
            refine gSkip 27 rfl (by kernel_rfl) (by kernel_rfl) (by kernel_rfl) (fun _ _ _ h => h) (by kernel_rfl) hS1 ?_
            refine gSkip 28 rfl (by kernel_rfl) (by kernel_rfl) (by kernel_rfl) (fun _ _ _ h => h) (by kernel_rfl) hS1 ?_
            refine gSkip 29 rfl (by kernel_rfl) (by kernel_rfl) (by kernel_rfl) (fun _ _ _ h => h) (by kernel_rfl) hS1 ?_
            refine gSkip 30 rfl (by kernel_rfl) (by kernel_rfl) (by kernel_rfl) (fun _ _ _ h => h) (by kernel_rfl) hS1 ?_
            refine gSkip 31 rfl (by kernel_rfl) (by kernel_rfl) (by kernel_rfl) (fun _ _ _ h => h) (by kernel_rfl) hS1 ?_
            refine gSkip 32 rfl (by kernel_rfl) (by kernel_rfl) (by kernel_rfl) (fun _ _ _ h => h) (by kernel_rfl) hS1 ?_
            refine gSkip 33 rfl (by kernel_rfl) (by kernel_rfl) (by kernel_rfl) (fun _ _ _ h => h) (by kernel_rfl) hS1 ?_
            refine gTake 34 (v := ?_) rfl (by kernel_rfl) (by kernel_rfl) (by kernel_rfl) (fun _ _ _ h => h) (by kernel_rfl) ?_ hS1 ?_
            rotate_left
            · (intro W hW; clear hW; go_simp; try with_reducible rfl)
            refine gTake 35 (v := ?_) rfl (by kernel_rfl) (by kernel_rfl) (by kernel_rfl) (fun _ _ _ h => h) (by kernel_rfl) ?_ hS1 ?_
            rotate_left
            · (intro W hW; clear hW; go_simp; try with_reducible rfl)
            refine wpAnyH_done (by kernel_rfl) ?_ _
            go_simp
            go_wp2
            go_roundw
            case rel => exact ⟨k + 1, by omega, by go_num, Lib.hid (fun j hj => by
              rcases Nat.lt_or_ge j k with q | q
              · exact HG.out j q
              · obtain rfl : j = k := by omega
                exact HF.out), HBL.out.trans (hS1.2.2.2.mono HBL.out.size)⟩
            case measure => simp [intOf]; omega
          · skip
            obtain ⟨ps, hps, g0⟩ := HPV.out (by omega)
            have HGF := Lib.hid (show sGood xs.length ss k = ((soOk s a r && decide (a < (xs.length : Int))) && Op.bytesLess ps.toList s.toList) by rw [HGE.out, decide_eq_false k0, hps]; simp)
            have hki : (0 < (k : Int)) := by omega
            have hkn : 0 < k := by omega
            have hkj : (k : Int) - 1 = ((k - 1 : Nat) : Int) := by omega
            have hkl : k - 1 < ss.length := by omega
            clear hps k0
            generalize hj1 : k - 1 = j1 at *
            have HJ1 := Lib.hid hj1
            clear hj1
            have hkw : IntKind.i64.wrap ((k : Int) - 1) = (j1 : Int) := by rw [hkj]; exact IntWalk.i64_in _ (by omega)
            have HK := Lib.hid hkj
            clear hkj
            have HT := Lib.hid (less_totalP ps.toList s.toList)
            cases hls : Op.bytesLess ps.toList s.toList
            · have hq := HT.out
              rw [hls] at hq
              replace hq : (Op.bytesLess s.toList ps.toList || s.toList == ps.toList) = true := hq.symm
              have HF := Lib.hid (ssOk_bad (n := xs.length) hlt (by rw [HGF.out, hls]; simp))
              go_wp2_with fail
              refine wp_region_held (S := fun w' => w'.cell? ⟨bd, off + k * 3, none⟩ = some (.string s) ∧ w'.cell? ⟨bd, off + k * 3 + 1, none⟩ = some (.int .i64 a) ∧ w'.cell? ⟨b, 1, none⟩ = some (.slice A xs.length cap) ∧ w'.cell? ⟨bd, off + j1 * 3, none⟩ = some (.string ps) ∧ Below wo.heap.size wo w') (by kernel_rfl) ?_
              try (change wpAnyH _ _ _ _ _ _ _ _ (World.drew _))
              have hS0 := (show wo.drew.cell? ⟨bd, off + k * 3, none⟩ = some (.string s) ∧ wo.drew.cell? ⟨bd, off + k * 3 + 1, none⟩ = some (.int .i64 a) ∧ wo.drew.cell? ⟨b, 1, none⟩ = some (.slice A xs.length cap) ∧ wo.drew.cell? ⟨bd, off + j1 * 3, none⟩ = some (.string ps) ∧ Below wo.heap.size wo wo.drew from ⟨c0, c1, kA, g0, Below.drew (Below.refl _ _)⟩)
              refine gTake 0 (v := ?_) rfl (by kernel_rfl) (by kernel_rfl) (by kernel_rfl) (fun _ _ _ h => h) (by kernel_rfl) ?_ hS0 ?_
              rotate_left
              · (intro W hW; clear hW; go_simp; try with_reducible rfl)
              refine gTake 1 (v := ?_) rfl (by kernel_rfl) (by kernel_rfl) (by kernel_rfl) (fun _ _ _ h => h) (by kernel_rfl) ?_ hS0 ?_
              rotate_left
              · (intro W hW; clear hW; go_simp; try with_reducible rfl)
              refine gTake 2 (v := ?_) rfl (by kernel_rfl) (by kernel_rfl) (by kernel_rfl) (fun _ _ _ h => h) (by kernel_rfl) ?_ hS0 ?_
              rotate_left
              · (intro W hW; clear hW; go_simp; try with_reducible rfl)
              refine gOne 3 rfl (by kernel_rfl) (by kernel_rfl) (fun K hK => ?_)
              go_simp
              go_at_call 76
              (with_reducible refine (l13One_below bd (off + k * 3) s a r _ hsz ((soAt_mk c0 c1 c2).below hS0.2.2.2.2 hbd)).mono ?_)
              rintro e wq0 ⟨rfl, hdq0⟩
              try go_simp
              have hS1 := (show wq0.cell? ⟨bd, off + k * 3, none⟩ = some (.string s) ∧ wq0.cell? ⟨bd, off + k * 3 + 1, none⟩ = some (.int .i64 a) ∧ wq0.cell? ⟨b, 1, none⟩ = some (.slice A xs.length cap) ∧ wq0.cell? ⟨bd, off + j1 * 3, none⟩ = some (.string ps) ∧ Below wo.heap.size wo wq0 from ⟨cellK hS0.1 hdq0, cellK hS0.2.1 hdq0, cellK hS0.2.2.1 hdq0, cellK hS0.2.2.2.1 hdq0, hS0.2.2.2.2.trans (hdq0.mono hS0.2.2.2.2.size)⟩)
              refine hK _ _ hS1 ?_
              clear hK K
              refine gTake 4 (v := ?_) rfl (by kernel_rfl) (by kernel_rfl) (by kernel_rfl) (fun _ _ _ h => h) (by kernel_rfl) ?_ hS1 ?_
              rotate_left
              · (intro W hW; clear hW; go_simp; try with_reducible rfl)
              refine gTake 5 (v := ?_) rfl (by kernel_rfl) (by kernel_rfl) (by kernel_rfl) (fun _ _ _ h => h) (by kernel_rfl) ?_ hS1 ?_
              rotate_left
              · (intro W hW; clear hW; go_simp; try with_reducible rfl)
              refine gTake 6 (v := ?_) rfl (by kernel_rfl) (by kernel_rfl) (by kernel_rfl) (fun _ _ _ h => h) (by kernel_rfl) ?_ hS1 ?_
              rotate_left
              · (intro W hW; clear hW; go_simp; try with_reducible rfl)
              refine gTake 7 (v := ?_) rfl (by kernel_rfl) (by kernel_rfl) (by kernel_rfl) (fun _ _ _ h => h) (by kernel_rfl) ?_ hS1 ?_
              rotate_left
              · (intro W hW; clear hW; go_simp; try with_reducible rfl)
              refine gTake 8 (v := ?_) rfl (by kernel_rfl) (by kernel_rfl) (by kernel_rfl) (fun _ _ _ h => h) (by kernel_rfl) ?_ hS1 ?_
              rotate_left
              · (intro W hW; clear hW; go_simp; try with_reducible rfl)
              refine gTake 9 (v := ?_) rfl (by kernel_rfl) (by kernel_rfl) (by kernel_rfl) (fun _ _ _ h => h) (by kernel_rfl) ?_ hS1 ?_
              rotate_left
              · (intro W hW; clear hW; go_simp; try with_reducible rfl)
              refine gTake 10 (v := ?_) rfl (by kernel_rfl) (by kernel_rfl) (by kernel_rfl) (fun _ _ _ h => h) (by kernel_rfl) ?_ hS1 ?_
              rotate_left
              · (intro W hW; have q0 := hW.1; have q1 := hW.2.1; have q2 := hW.2.2.1; have q3 := hW.2.2.2.1; clear hW; go_simp; try with_reducible rfl)
              refine gTake 11 (v := ?_) rfl (by kernel_rfl) (by kernel_rfl) (by kernel_rfl) (fun _ _ _ h => h) (by kernel_rfl) ?_ hS1 ?_
              rotate_left
              · (intro W hW; clear hW; go_simp; try with_reducible rfl)
              refine gTake 12 (v := ?_) rfl (by kernel_rfl) (by kernel_rfl) (by kernel_rfl) (fun _ _ _ h => h) (by kernel_rfl) ?_ hS1 ?_
              rotate_left
              · (intro W hW; clear hW; go_simp; try with_reducible rfl)
              refine gTake 13 (v := ?_) rfl (by kernel_rfl) (by kernel_rfl) (by kernel_rfl) (fun _ _ _ h => h) (by kernel_rfl) ?_ hS1 ?_
              rotate_left
              · (intro W hW; clear hW; go_simp; try with_reducible rfl)
              refine gTake 14 (v := ?_) rfl (by kernel_rfl) (by kernel_rfl) (by kernel_rfl) (fun _ _ _ h => h) (by kernel_rfl) ?_ hS1 ?_
              rotate_left
              · (intro W hW; have q0 := hW.1; have q1 := hW.2.1; have q2 := hW.2.2.1; have q3 := hW.2.2.2.1; clear hW; go_simp; try with_reducible rfl)
              refine gTake 15 (v := ?_) rfl (by kernel_rfl) (by kernel_rfl) (by kernel_rfl) (fun _ _ _ h => h) (by kernel_rfl) ?_ hS1 ?_
              rotate_left
              · (intro W hW; clear hW; go_simp; try with_reducible rfl)
              refine gTake 16 (v := ?_) rfl (by kernel_rfl) (by kernel_rfl) (by kernel_rfl) (fun _ _ _ h => h) (by kernel_rfl) ?_ hS1 ?_
              rotate_left
              · (intro W hW; clear hW; go_simp; (try rw [HDN.out]); try with_reducible rfl)
              refine gTake 17 (v := ?_) rfl (by kernel_rfl) (by kernel_rfl) (by kernel_rfl) (fun _ _ _ h => h) (by kernel_rfl) ?_ hS1 ?_
              rotate_left
              · (intro W hW; clear hW; go_simp; try with_reducible rfl)
              refine gTake 18 (v := ?_) rfl (by kernel_rfl) (by kernel_rfl) (by kernel_rfl) (fun _ _ _ h => h) (by kernel_rfl) ?_ hS1 ?_
              rotate_left
              · (intro W hW; clear hW; go_simp; try with_reducible rfl)
              refine gTake 19 (v := ?_) rfl (by kernel_rfl) (by kernel_rfl) (by kernel_rfl) (fun _ _ _ h => h) (by kernel_rfl) ?_ hS1 ?_
              rotate_left
              · (intro W hW; clear hW; go_simp; try with_reducible rfl)
              refine gTake 20 (v := ?_) rfl (by kernel_rfl) (by kernel_rfl) (by kernel_rfl) (fun _ _ _ h => h) (by kernel_rfl) ?_ hS1 ?_
              rotate_left
              · (intro W hW; clear hW; go_simp; try with_reducible rfl)
              refine gTake 21 (v := ?_) rfl (by kernel_rfl) (by kernel_rfl) (by kernel_rfl) (fun _ _ _ h => h) (by kernel_rfl) ?_ hS1 ?_
              rotate_left
              · (intro W hW; clear hW; go_simp; try with_reducible rfl)
              refine gTake 22 (v := ?_) rfl (by kernel_rfl) (by kernel_rfl) (by kernel_rfl) (fun _ _ _ h => h) (by kernel_rfl) ?_ hS1 ?_
              rotate_left
              · (intro W hW; clear hW; go_simp; try with_reducible rfl)
              refine gTake 23 (v := ?_) rfl (by kernel_rfl) (by kernel_rfl) (by kernel_rfl) (fun _ _ _ h => h) (by kernel_rfl) ?_ hS1 ?_
              rotate_left
              · (intro W hW; clear hW; go_simp; try with_reducible rfl)
              refine gTake 24 (v := ?_) rfl (by kernel_rfl) (by kernel_rfl) (by kernel_rfl) (fun _ _ _ h => h) (by kernel_rfl) ?_ hS1 ?_
              rotate_left
              · (intro W hW; clear hW; go_simp; try with_reducible rfl)
              refine gTake 25 (v := ?_) rfl (by kernel_rfl) (by kernel_rfl) (by kernel_rfl) (fun _ _ _ h => h) (by kernel_rfl) ?_ hS1 ?_
              rotate_left
              · (intro W hW; clear hW; go_simp; try with_reducible rfl)
              refine gTake 26 (v := ?_) rfl (by kernel_rfl) (by kernel_rfl) (by kernel_rfl) (fun _ _ _ h => h) (by kernel_rfl) ?_ hS1 ?_
              rotate_left
              · (intro W hW; clear hW; go_simp; try with_reducible rfl)
              refine gTake 27 (v := ?_) rfl (by kernel_rfl) (by kernel_rfl) (by kernel_rfl) (fun _ _ _ h => h) (by kernel_rfl) ?_ hS1 ?_
              rotate_left
              · (intro W hW; have q0 := hW.1; have q1 := hW.2.1; have q2 := hW.2.2.1; have q3 := hW.2.2.2.1; clear hW; go_simp; try with_reducible rfl)
              refine gTake 28 (v := ?_) rfl (by kernel_rfl) (by kernel_rfl) (by kernel_rfl) (fun _ _ _ h => h) (by kernel_rfl) ?_ hS1 ?_
              rotate_left
              · (intro W hW; clear hW; go_simp; try with_reducible rfl)
              refine gTake 29 (v := ?_) rfl (by kernel_rfl) (by kernel_rfl) (by kernel_rfl) (fun _ _ _ h => h) (by kernel_rfl) ?_ hS1 ?_
              rotate_left
              · (intro W hW; clear hW; go_simp; try with_reducible rfl)
              refine gTake 30 (v := ?_) rfl (by kernel_rfl) (by kernel_rfl) (by kernel_rfl) (fun _ _ _ h => h) (by kernel_rfl) ?_ hS1 ?_
              rotate_left
              · (intro W hW; clear hW; go_simp; try with_reducible rfl)
              refine gTake 31 (v := ?_) rfl (by kernel_rfl) (by kernel_rfl) (by kernel_rfl) (fun _ _ _ h => h) (by kernel_rfl) ?_ hS1 ?_
              rotate_left
              · (intro W hW; clear hW; go_simp; try with_reducible rfl)
              refine gTake 32 (v := ?_) rfl (by kernel_rfl) (by kernel_rfl) (by kernel_rfl) (fun _ _ _ h => h) (by kernel_rfl) ?_ hS1 ?_
              rotate_left
              · (intro W hW; have q0 := hW.1; have q1 := hW.2.1; have q2 := hW.2.2.1; have q3 := hW.2.2.2.1; clear hW; go_simp; try with_reducible rfl)
              refine gTake 33 (v := ?_) rfl (by kernel_rfl) (by kernel_rfl) (by kernel_rfl) (fun _ _ _ h => h) (by kernel_rfl) ?_ hS1 ?_
              rotate_left
              · (intro W hW; clear hW; go_simp; try with_reducible rfl)
              refine gTake 34 (v := ?_) rfl (by kernel_rfl) (by kernel_rfl) (by kernel_rfl) (fun _ _ _ h => h) (by kernel_rfl) ?_ hS1 ?_
              rotate_left
              · (intro W hW; clear hW; go_simp; try with_reducible rfl)
              refine gTake 35 (v := ?_) rfl (by kernel_rfl) (by kernel_rfl) (by kernel_rfl) (fun _ _ _ h => h) (by kernel_rfl) ?_ hS1 ?_
              rotate_left
              · (intro W hW; clear hW; go_simp; try with_reducible rfl)
              refine wpAnyH_done (by kernel_rfl) ?_ _
              go_simp
              go_wp2
              go_ret
              exact ⟨ret_bool HF.out.symm, HBL.out.trans (hS1.2.2.2.2.mono HBL.out.size)⟩
            · have hq := HT.out
              rw [hls] at hq
              replace hq : (Op.bytesLess s.toList ps.toList || s.toList == ps.toList) = false := hq.symm
              have HF := Lib.hid (show sGood xs.length ss k = true by rw [HGF.out, hd1, decide_eq_true han, hls]; rfl)
              go_wp2_with fail
              refine wp_region_held (S := fun w' => w'.cell? ⟨bd, off + k * 3, none⟩ = some (.string s) ∧ w'.cell? ⟨bd, off + k * 3 + 1, none⟩ = some (.int .i64 a) ∧ w'.cell? ⟨b, 1, none⟩ = some (.slice A xs.length cap) ∧ w'.cell? ⟨bd, off + j1 * 3, none⟩ = some (.string ps) ∧ Below wo.heap.size wo w') (by kernel_rfl) ?_
              try (change wpAnyH _ _ _ _ _ _ _ _ (World.drew _))
              have hS0 := (show wo.drew.cell? ⟨bd, off + k * 3, none⟩ = some (.string s) ∧ wo.drew.cell? ⟨bd, off + k * 3 + 1, none⟩ = some (.int .i64 a) ∧ wo.drew.cell? ⟨b, 1, none⟩ = some (.slice A xs.length cap) ∧ wo.drew.cell? ⟨bd, off + j1 * 3, none⟩ = some (.string ps) ∧ Below wo.heap.size wo wo.drew from ⟨c0, c1, kA, g0, Below.drew (Below.refl _ _)⟩)
              refine gTake 0 (v := ?_) rfl (by kernel_rfl) (by kernel_rfl) (by kernel_rfl) (fun _ _ _ h => h) (by kernel_rfl) ?_ hS0 ?_
              rotate_left
              · (intro W hW; clear hW; go_simp; try with_reducible rfl)
              refine gTake 1 (v := ?_) rfl (by kernel_rfl) (by kernel_rfl) (by kernel_rfl) (fun _ _ _ h => h) (by kernel_rfl) ?_ hS0 ?_
              rotate_left
              · (intro W hW; clear hW; go_simp; try with_reducible rfl)
              refine gTake 2 (v := ?_) rfl (by kernel_rfl) (by kernel_rfl) (by kernel_rfl) (fun _ _ _ h => h) (by kernel_rfl) ?_ hS0 ?_
              rotate_left
              · (intro W hW; clear hW; go_simp; try with_reducible rfl)
              refine gOne 3 rfl (by kernel_rfl) (by kernel_rfl) (fun K hK => ?_)
              go_simp
              go_at_call 76
              (with_reducible refine (l13One_below bd (off + k * 3) s a r _ hsz ((soAt_mk c0 c1 c2).below hS0.2.2.2.2 hbd)).mono ?_)
              rintro e wq0 ⟨rfl, hdq0⟩
              try go_simp
              have hS1 := (show wq0.cell? ⟨bd, off + k * 3, none⟩ = some (.string s) ∧ wq0.cell? ⟨bd, off + k * 3 + 1, none⟩ = some (.int .i64 a) ∧ wq0.cell? ⟨b, 1, none⟩ = some (.slice A xs.length cap) ∧ wq0.cell? ⟨bd, off + j1 * 3, none⟩ = some (.string ps) ∧ Below wo.heap.size wo wq0 from ⟨cellK hS0.1 hdq0, cellK hS0.2.1 hdq0, cellK hS0.2.2.1 hdq0, cellK hS0.2.2.2.1 hdq0, hS0.2.2.2.2.trans (hdq0.mono hS0.2.2.2.2.size)⟩)
              refine hK _ _ hS1 ?_
              clear hK K
              refine gTake 4 (v := ?_) rfl (by kernel_rfl) (by kernel_rfl) (by kernel_rfl) (fun _ _ _ h => h) (by kernel_rfl) ?_ hS1 ?_
              rotate_left
              · (intro W hW; clear hW; go_simp; try with_reducible rfl)
              refine gTake 5 (v := ?_) rfl (by kernel_rfl) (by kernel_rfl) (by kernel_rfl) (fun _ _ _ h => h) (by kernel_rfl) ?_ hS1 ?_
              rotate_left
              · (intro W hW; clear hW; go_simp; try with_reducible rfl)
              refine gTake 6 (v := ?_) rfl (by kernel_rfl) (by kernel_rfl) (by kernel_rfl) (fun _ _ _ h => h) (by kernel_rfl) ?_ hS1 ?_
              rotate_left
              · (intro W hW; clear hW; go_simp; try with_reducible rfl)
              refine gTake 7 (v := ?_) rfl (by kernel_rfl) (by kernel_rfl) (by kernel_rfl) (fun _ _ _ h => h) (by kernel_rfl) ?_ hS1 ?_
              rotate_left
              · (intro W hW; clear hW; go_simp; try with_reducible rfl)
              refine gTake 8 (v := ?_) rfl (by kernel_rfl) (by kernel_rfl) (by kernel_rfl) (fun _ _ _ h => h) (by kernel_rfl) ?_ hS1 ?_
              rotate_left
              · (intro W hW; clear hW; go_simp; try with_reducible rfl)
              refine gTake 9 (v := ?_) rfl (by kernel_rfl) (by kernel_rfl) (by kernel_rfl) (fun _ _ _ h => h) (by kernel_rfl) ?_ hS1 ?_
              rotate_left
              · (intro W hW; clear hW; go_simp; try with_reducible rfl)
              refine gTake 10 (v := ?_) rfl (by kernel_rfl) (by kernel_rfl) (by kernel_rfl) (fun _ _ _ h => h) (by kernel_rfl) ?_ hS1 ?_
              rotate_left
              · (intro W hW; have q0 := hW.1; have q1 := hW.2.1; have q2 := hW.2.2.1; have q3 := hW.2.2.2.1; clear hW; go_simp; try with_reducible rfl)
              refine gTake 11 (v := ?_) rfl (by kernel_rfl) (by kernel_rfl) (by kernel_rfl) (fun _ _ _ h => h) (by kernel_rfl) ?_ hS1 ?_
              rotate_left
              · (intro W hW; clear hW; go_simp; try with_reducible rfl)
              refine gTake 12 (v := ?_) rfl (by kernel_rfl) (by kernel_rfl) (by kernel_rfl) (fun _ _ _ h => h) (by kernel_rfl) ?_ hS1 ?_
              rotate_left
              · (intro W hW; clear hW; go_simp; try with_reducible rfl)
              refine gTake 13 (v := ?_) rfl (by kernel_rfl) (by kernel_rfl) (by kernel_rfl) (fun _ _ _ h => h) (by kernel_rfl) ?_ hS1 ?_
              rotate_left
              · (intro W hW; clear hW; go_simp; try with_reducible rfl)
              refine gTake 14 (v := ?_) rfl (by kernel_rfl) (by kernel_rfl) (by kernel_rfl) (fun _ _ _ h => h) (by kernel_rfl) ?_ hS1 ?_
              rotate_left
              · (intro W hW; have q0 := hW.1; have q1 := hW.2.1; have q2 := hW.2.2.1; have q3 := hW.2.2.2.1; clear hW; go_simp; try with_reducible rfl)
              refine gTake 15 (v := ?_) rfl (by kernel_rfl) (by kernel_rfl) (by kernel_rfl) (fun _ _ _ h => h) (by kernel_rfl) ?_ hS1 ?_
              rotate_left
              · (intro W hW; clear hW; go_simp; try with_reducible rfl)
              refine gTake 16 (v := ?_) rfl (by kernel_rfl) (by kernel_rfl) (by kernel_rfl) (fun _ _ _ h => h) (by kernel_rfl) ?_ hS1 ?_
              rotate_left
              · (intro W hW; clear hW; go_simp; (try rw [HDN.out]); try with_reducible rfl)
              refine gTake 17 (v := ?_) rfl (by kernel_rfl) (by kernel_rfl) (by kernel_rfl) (fun _ _ _ h => h) (by kernel_rfl) ?_ hS1 ?_
              rotate_left
              · (intro W hW; clear hW; go_simp; try with_reducible rfl)
              refine gTake 18 (v := ?_) rfl (by kernel_rfl) (by kernel_rfl) (by kernel_rfl) (fun _ _ _ h => h) (by kernel_rfl) ?_ hS1 ?_
              rotate_left
              · (intro W hW; clear hW; go_simp; try with_reducible rfl)
              refine gTake 19 (v := ?_) rfl (by kernel_rfl) (by kernel_rfl) (by kernel_rfl) (fun _ _ _ h => h) (by kernel_rfl) ?_ hS1 ?_
              rotate_left
              · (intro W hW; clear hW; go_simp; try with_reducible rfl)
              refine gTake 20 (v := ?_) rfl (by kernel_rfl) (by kernel_rfl) (by kernel_rfl) (fun _ _ _ h => h) (by kernel_rfl) ?_ hS1 ?_
              rotate_left
              · (intro W hW; clear hW; go_simp; try with_reducible rfl)
              refine gTake 21 (v := ?_) rfl (by kernel_rfl) (by kernel_rfl) (by kernel_rfl) (fun _ _ _ h => h) (by kernel_rfl) ?_ hS1 ?_
              rotate_left
              · (intro W hW; clear hW; go_simp; try with_reducible rfl)
              refine gTake 22 (v := ?_) rfl (by kernel_rfl) (by kernel_rfl) (by kernel_rfl) (fun _ _ _ h => h) (by kernel_rfl) ?_ hS1 ?_
              rotate_left
              · (intro W hW; clear hW; go_simp; try with_reducible rfl)
              refine gTake 23 (v := ?_) rfl (by kernel_rfl) (by kernel_rfl) (by kernel_rfl) (fun _ _ _ h => h) (by kernel_rfl) ?_ hS1 ?_
              rotate_left
              · (intro W hW; clear hW; go_simp; try with_reducible rfl)
              refine gTake 24 (v := ?_) rfl (by kernel_rfl) (by kernel_rfl) (by kernel_rfl) (fun _ _ _ h => h) (by kernel_rfl) ?_ hS1 ?_
              rotate_left
              · (intro W hW; clear hW; go_simp; try with_reducible rfl)
              refine gTake 25 (v := ?_) rfl (by kernel_rfl) (by kernel_rfl) (by kernel_rfl) (fun _ _ _ h => h) (by kernel_rfl) ?_ hS1 ?_
              rotate_left
              · (intro W hW; clear hW; go_simp; try with_reducible rfl)
              refine gTake 26 (v := ?_) rfl (by kernel_rfl) (by kernel_rfl) (by kernel_rfl) (fun _ _ _ h => h) (by kernel_rfl) ?_ hS1 ?_
              rotate_left
              · (intro W hW; clear hW; go_simp; try with_reducible rfl)
              refine gTake 27 (v := ?_) rfl (by kernel_rfl) (by kernel_rfl) (by kernel_rfl) (fun _ _ _ h => h) (by kernel_rfl) ?_ hS1 ?_
              rotate_left
              · (intro W hW; have q0 := hW.1; have q1 := hW.2.1; have q2 := hW.2.2.1; have q3 := hW.2.2.2.1; clear hW; go_simp; try with_reducible rfl)
              refine gTake 28 (v := ?_) rfl (by kernel_rfl) (by kernel_rfl) (by kernel_rfl) (fun _ _ _ h => h) (by kernel_rfl) ?_ hS1 ?_
              rotate_left
              · (intro W hW; clear hW; go_simp; try with_reducible rfl)
              refine gTake 29 (v := ?_) rfl (by kernel_rfl) (by kernel_rfl) (by kernel_rfl) (fun _ _ _ h => h) (by kernel_rfl) ?_ hS1 ?_
              rotate_left
              · (intro W hW; clear hW; go_simp; try with_reducible rfl)
              refine gTake 30 (v := ?_) rfl (by kernel_rfl) (by kernel_rfl) (by kernel_rfl) (fun _ _ _ h => h) (by kernel_rfl) ?_ hS1 ?_
              rotate_left
              · (intro W hW; clear hW; go_simp; try with_reducible rfl)
              refine gTake 31 (v := ?_) rfl (by kernel_rfl) (by kernel_rfl) (by kernel_rfl) (fun _ _ _ h => h) (by kernel_rfl) ?_ hS1 ?_
              rotate_left
              · (intro W hW; clear hW; go_simp; try with_reducible rfl)
              refine gTake 32 (v := ?_) rfl (by kernel_rfl) (by kernel_rfl) (by kernel_rfl) (fun _ _ _ h => h) (by kernel_rfl) ?_ hS1 ?_
              rotate_left
              · (intro W hW; have q0 := hW.1; have q1 := hW.2.1; have q2 := hW.2.2.1; have q3 := hW.2.2.2.1; clear hW; go_simp; try with_reducible rfl)
              refine gTake 33 (v := ?_) rfl (by kernel_rfl) (by kernel_rfl) (by kernel_rfl) (fun _ _ _ h => h) (by kernel_rfl) ?_ hS1 ?_
              rotate_left
              · (intro W hW; clear hW; go_simp; try with_reducible rfl)
              refine gTake 34 (v := ?_) rfl (by kernel_rfl) (by kernel_rfl) (by kernel_rfl) (fun _ _ _ h => h) (by kernel_rfl) ?_ hS1 ?_
              rotate_left
              · (intro W hW; clear hW; go_simp; try with_reducible rfl)
              refine gTake 35 (v := ?_) rfl (by kernel_rfl) (by kernel_rfl) (by kernel_rfl) (fun _ _ _ h => h) (by kernel_rfl) ?_ hS1 ?_
              rotate_left
              · (intro W hW; clear hW; go_simp; try with_reducible rfl)
              refine wpAnyH_done (by kernel_rfl) ?_ _
              go_simp
              go_wp2
              go_roundw
              case rel => exact ⟨k + 1, by omega, by go_num, Lib.hid (fun j hj => by
                rcases Nat.lt_or_ge j k with q | q
                · exact HG.out j q
                · obtain rfl : j = k := by omega
                  exact HF.out), HBL.out.trans (hS1.2.2.2.2.mono HBL.out.size)⟩
              case measure => simp [intOf]; omega
        · have HDN := Lib.hid (show decide ((xs.length : Int) ≤ a) = true from decide_eq_true (by omega))
          have HF := Lib.hid (ssOk_bad (n := xs.length) hlt (by rw [HGE.out, decide_eq_false han]; simp))
          go_wp2_with fail
          refine wp_region_held (S := fun w' => w'.cell? ⟨bd, off + k * 3, none⟩ = some (.string s) ∧ w'.cell? ⟨bd, off + k * 3 + 1, none⟩ = some (.int .i64 a) ∧ w'.cell? ⟨b, 1, none⟩ = some (.slice A xs.length cap) ∧ Below wo.heap.size wo w') (by kernel_rfl) ?_
          try (change wpAnyH _ _ _ _ _ _ _ _ (World.drew _))
          have hS0 := (show wo.drew.cell? ⟨bd, off + k * 3, none⟩ = some (.string s) ∧ wo.drew.cell? ⟨bd, off + k * 3 + 1, none⟩ = some (.int .i64 a) ∧ wo.drew.cell? ⟨b, 1, none⟩ = some (.slice A xs.length cap) ∧ Below wo.heap.size wo wo.drew from ⟨c0, c1, kA, Below.drew (Below.refl _ _)⟩)
          refine gTake 0 (v := ?_) rfl (by kernel_rfl) (by kernel_rfl) (by kernel_rfl) (fun _ _ _ h => h) (by kernel_rfl) ?_ hS0 ?_
          rotate_left
          · (intro W hW; clear hW; go_simp; try with_reducible rfl)
          refine gTake 1 (v := ?_) rfl (by kernel_rfl) (by kernel_rfl) (by kernel_rfl) (fun _ _ _ h => h) (by kernel_rfl) ?_ hS0 ?_
          rotate_left
          · (intro W hW; clear hW; go_simp; try with_reducible rfl)
          refine gTake 2 (v := ?_) rfl (by kernel_rfl) (by kernel_rfl) (by kernel_rfl) (fun _ _ _ h => h) (by kernel_rfl) ?_ hS0 ?_
          rotate_left
          · (intro W hW; clear hW; go_simp; try with_reducible rfl)
          refine gOne 3 rfl (by kernel_rfl) (by kernel_rfl) (fun K hK => ?_)
          go_simp
          go_at_call 76
          (with_reducible refine (l13One_below bd (off + k * 3) s a r _ hsz ((soAt_mk c0 c1 c2).below hS0.2.2.2 hbd)).mono ?_)
          rintro e wq0 ⟨rfl, hdq0⟩
          try go_simp
          have hS1 := (show wq0.cell? ⟨bd, off + k * 3, none⟩ = some (.string s) ∧ wq0.cell? ⟨bd, off + k * 3 + 1, none⟩ = some (.int .i64 a) ∧ wq0.cell? ⟨b, 1, none⟩ = some (.slice A xs.length cap) ∧ Below wo.heap.size wo wq0 from ⟨cellK hS0.1 hdq0, cellK hS0.2.1 hdq0, cellK hS0.2.2.1 hdq0, hS0.2.2.2.trans (hdq0.mono hS0.2.2.2.size)⟩)
          refine hK _ _ hS1 ?_
          clear hK K
          refine gTake 4 (v := ?_) rfl (by kernel_rfl) (by kernel_rfl) (by kernel_rfl) (fun _ _ _ h => h) (by kernel_rfl) ?_ hS1 ?_
          rotate_left
          · (intro W hW; clear hW; go_simp; try with_reducible rfl)
          refine gTake 5 (v := ?_) rfl (by kernel_rfl) (by kernel_rfl) (by kernel_rfl) (fun _ _ _ h => h) (by kernel_rfl) ?_ hS1 ?_
          rotate_left
          · (intro W hW; clear hW; go_simp; try with_reducible rfl)
          refine gTake 6 (v := ?_) rfl (by kernel_rfl) (by kernel_rfl) (by kernel_rfl) (fun _ _ _ h => h) (by kernel_rfl) ?_ hS1 ?_
          rotate_left
          · (intro W hW; clear hW; go_simp; try with_reducible rfl)
          refine gTake 7 (v := ?_) rfl (by kernel_rfl) (by kernel_rfl) (by kernel_rfl) (fun _ _ _ h => h) (by kernel_rfl) ?_ hS1 ?_
          rotate_left
          · (intro W hW; clear hW; go_simp; try with_reducible rfl)
          refine gTake 8 (v := ?_) rfl (by kernel_rfl) (by kernel_rfl) (by kernel_rfl) (fun _ _ _ h => h) (by kernel_rfl) ?_ hS1 ?_
          rotate_left
          · (intro W hW; clear hW; go_simp; try with_reducible rfl)
          refine gTake 9 (v := ?_) rfl (by kernel_rfl) (by kernel_rfl) (by kernel_rfl) (fun _ _ _ h => h) (by kernel_rfl) ?_ hS1 ?_
          rotate_left
          · (intro W hW; clear hW; go_simp; try with_reducible rfl)
          refine gTake 10 (v := ?_) rfl (by kernel_rfl) (by kernel_rfl) (by kernel_rfl) (fun _ _ _ h => h) (by kernel_rfl) ?_ hS1 ?_
          rotate_left
          · (intro W hW; have q0 := hW.1; have q1 := hW.2.1; have q2 := hW.2.2.1; clear hW; go_simp; try with_reducible rfl)
          refine gTake 11 (v := ?_) rfl (by kernel_rfl) (by kernel_rfl) (by kernel_rfl) (fun _ _ _ h => h) (by kernel_rfl) ?_ hS1 ?_
          rotate_left
          · (intro W hW; clear hW; go_simp; try with_reducible rfl)
          refine gTake 12 (v := ?_) rfl (by kernel_rfl) (by kernel_rfl) (by kernel_rfl) (fun _ _ _ h => h) (by kernel_rfl) ?_ hS1 ?_
          rotate_left
          · (intro W hW; clear hW; go_simp; try with_reducible rfl)
          refine gTake 13 (v := ?_) rfl (by kernel_rfl) (by kernel_rfl) (by kernel_rfl) (fun _ _ _ h => h) (by kernel_rfl) ?_ hS1 ?_
          rotate_left
          · (intro W hW; clear hW; go_simp; try with_reducible rfl)
          refine gTake 14 (v := ?_) rfl (by kernel_rfl) (by kernel_rfl) (by kernel_rfl) (fun _ _ _ h => h) (by kernel_rfl) ?_ hS1 ?_
          rotate_left
          · (intro W hW; have q0 := hW.1; have q1 := hW.2.1; have q2 := hW.2.2.1; clear hW; go_simp; try with_reducible rfl)
          refine gTake 15 (v := ?_) rfl (by kernel_rfl) (by kernel_rfl) (by kernel_rfl) (fun _ _ _ h => h) (by kernel_rfl) ?_ hS1 ?_
          rotate_left
          · (intro W hW; clear hW; go_simp; try with_reducible rfl)
          refine gTake 16 (v := ?_) rfl (by kernel_rfl) (by kernel_rfl) (by kernel_rfl) (fun _ _ _ h => h) (by kernel_rfl) ?_ hS1 ?_
          rotate_left
          · (intro W hW; clear hW; go_simp; (try rw [HDN.out]); try with_reducible rfl)
          refine gTake 17 (v := ?_) rfl (by kernel_rfl) (by kernel_rfl) (by kernel_rfl) (fun _ _ _ h => h) (by kernel_rfl) ?_ hS1 ?_
          rotate_left
          · (intro W hW; clear hW; go_simp; try with_reducible rfl)
          refine gTake 18 (v := ?_) rfl (by kernel_rfl) (by kernel_rfl) (by kernel_rfl) (fun _ _ _ h => h) (by kernel_rfl) ?_ hS1 ?_
          rotate_left
          · (intro W hW; clear hW; go_simp; try with_reducible rfl)
          refine gSkip 19 rfl (by kernel_rfl) (by kernel_rfl) (by kernel_rfl) (fun _ _ _ h => h) (by kernel_rfl) hS1 ?_
          refine gSkip 20 rfl (by kernel_rfl) (by kernel_rfl) (by kernel_rfl) (fun _ _ _ h => h) (by kernel_rfl) hS1 ?_
          refine gSkip 21 rfl (by kernel_rfl) (by kernel_rfl) (by kernel_rfl) (fun _ _ _ h => h) (by kernel_rfl) hS1 ?_
          refine gSkip 22 rfl (by kernel_rfl) (by kernel_rfl) (by kernel_rfl) (fun _ _ _ h => h) (by kernel_rfl) hS1 ?_
          refine gSkip 23 rfl (by kernel_rfl) (by kernel_rfl) (by kernel_rfl) (fun _ _ _ h => h) (by kernel_rfl) hS1 ?_
          refine gSkip 24 rfl (by kernel_rfl) (by kernel_rfl) (by kernel_rfl) (fun _ _ _ h => h) (by kernel_rfl) hS1 ?_
          refine gSkip 25 rfl (by kernel_rfl) (by kernel_rfl) (by kernel_rfl) (fun _ _ _ h => h) (by kernel_rfl) hS1 ?_
          refine gSkip 26 rfl (by kernel_rfl) (by kernel_rfl) (by kernel_rfl) (fun _ _ _ h => h) (by kernel_rfl) hS1 ?_
          refine gSkip 27 rfl (by kernel_rfl) (by kernel_rfl) (by kernel_rfl) (fun _ _ _ h => h) (by kernel_rfl) hS1 ?_
          refine gSkip 28 rfl (by kernel_rfl) (by kernel_rfl) (by kernel_rfl) (fun _ _ _ h => h) (by kernel_rfl) hS1 ?_
          refine gSkip 29 rfl (by kernel_rfl) (by kernel_rfl) (by kernel_rfl) (fun _ _ _ h => h) (by kernel_rfl) hS1 ?_
          refine gSkip 30 rfl (by kernel_rfl) (by kernel_rfl) (by kernel_rfl) (fun _ _ _ h => h) (by kernel_rfl) hS1 ?_
          refine gSkip 31 rfl (by kernel_rfl) (by kernel_rfl) (by kernel_rfl) (fun _ _ _ h => h) (by kernel_rfl) hS1 ?_
          refine gSkip 32 rfl (by kernel_rfl) (by kernel_rfl) (by kernel_rfl) (fun _ _ _ h => h) (by kernel_rfl) hS1 ?_
          refine gSkip 33 rfl (by kernel_rfl) (by kernel_rfl) (by kernel_rfl) (fun _ _ _ h => h) (by kernel_rfl) hS1 ?_
          refine gSkip 34 rfl (by kernel_rfl) (by kernel_rfl) (by kernel_rfl) (fun _ _ _ h => h) (by kernel_rfl) hS1 ?_
          refine gTake 35 (v := ?_) rfl (by kernel_rfl) (by kernel_rfl) (by kernel_rfl) (fun _ _ _ h => h) (by kernel_rfl) ?_ hS1 ?_
          rotate_left
          · (intro W hW; clear hW; go_simp; try with_reducible rfl)
          refine wpAnyH_done (by kernel_rfl) ?_ _
          go_simp
          go_wp2
          go_ret
          exact ⟨ret_bool HF.out.symm, HBL.out.trans (hS1.2.2.2.mono HBL.out.size)⟩
    · obtain rfl : k = ss.length := by omega
      by_cases h8 : ss.length ≤ 8
      · have HF := Lib.hid (ssOk_iff.2 ⟨fun j hj => HG.out j hj, h8⟩)
        have t8 : (ss.length : Int) ≤ 8 := by omega
        go_wp2
        go_ret
        exact ⟨ret_bool HF.out.symm, hbel⟩
      · have HF := Lib.hid (show ssOk xs.length ss = false by rw [← Bool.not_eq_true, ssOk_iff]; exact fun hh => h8 hh.2)
        have t8 : ¬ ((ss.length : Int) ≤ 8) := by omega
        go_wp2
        go_ret
        exact ⟨ret_bool HF.out.symm, hbel⟩
theorem sValidSources_any (J : Int) (A : Option Addr) (cap : Nat) (xs : List Aw) (D : Option Addr) (dcap : Nat) (ss : List So) (w : World) (hr : AwR w A xs) (hs : ∀ a ∈ xs, a.s.size ≤ maxLen) (hl : xs.length ≤ 1048576)
    (hd : SoR w D ss) (hds : ∀ d ∈ ss, d.s.size ≤ maxLen) (hdl : ss.length ≤ 1048576) :
    Calls Try.prog 11 #[.agg #[.int .i64 J, .slice A xs.length cap], .slice D ss.length dcap] w fun e w' => e = .returned (.bool (svOk J xs ss)) ∧ Below w.heap.size w w' := by
  have HB := Lib.hid (below_box w (.cells #[.int .i64 J, .slice A xs.length cap] 31))
  have HM := Lib.hid (l04Ok_any w.heap.size J A cap xs (w.alloc (.cells #[.int .i64 J, .slice A xs.length cap] 31)) (by simp) (by simp) (hr.below HB.out) hs hl)
  have HD := Lib.hid hd
  have HDS := Lib.hid hds
  clear hr hs hd hds
  cases hok : mineOk J xs
  · have HF := Lib.hid (show svOk J xs ss = false by unfold svOk; rw [hok]; rfl)
    go_enter Try.func11, Try.ntmps11
    go_wp2_with fail
    (with_reducible refine (HM.out).mono ?_)
    rintro e w1 ⟨rfl, n, rfl⟩
    rw [hok]
    go_wp2
    go_ret
    exact ⟨ret_bool HF.out.symm, below_drewN' HB.out n⟩
  · have HF := Lib.hid (show svOk J xs ss = ssOk xs.length ss by unfold svOk; rw [hok]; rfl)
    go_enter Try.func11, Try.ntmps11
    go_wp2_with fail
    (with_reducible refine (HM.out).mono ?_)
    rintro e w1 ⟨rfl, n, hw1⟩
    have HB1 := Lib.hid (show Below w.heap.size w w1 from hw1 ▸ below_drewN' HB.out n)
    have HA := Lib.hid (show w1.cell? ⟨w.heap.size, 1, none⟩ = some (.slice A xs.length cap) by rw [hw1]; show (w.alloc (.cells #[.int .i64 J, .slice A xs.length cap] 31)).cell? _ = _; simp)
    clear hw1
    rw [hok]
    go_wp2_with fail
    (with_reducible refine (l13List_any w.heap.size A cap xs D dcap ss w1 HA.out hl (HD.out.below HB1.out) HDS.out hdl).mono ?_)
    rintro e w2 ⟨rfl, hd2⟩
    go_wp2
    go_ret
    exact ⟨ret_bool HF.out.symm, HB1.out.trans (hd2.mono HB1.out.size)⟩
set_option maxHeartbeats 4000000 in
set_option maxRecDepth 100000 in
theorem iValidSources_any (J : Int) (A : Option Addr) (cap : Nat) (xs : List Aw) (D : Option Addr) (dcap : Nat) (ss : List So) (w : World) (hr : AwR w A xs) (hs : ∀ a ∈ xs, a.s.size ≤ maxLen) (hl : xs.length ≤ 1048576)
    (hd : SoR w D ss) (hds : ∀ d ∈ ss, d.s.size ≤ maxLen) (hdl : ss.length ≤ 1048576) :
    Calls Try.prog 14 #[.agg #[.int .i64 J, .slice A xs.length cap], .slice D ss.length dcap] w fun e w' => e = .returned (.bool (svOk J xs ss)) ∧ Below w.heap.size w w' := by
  have HB0 := Lib.hid (below_box w (.cells #[.int .i64 J, .slice A xs.length cap] 31))
  have HM := Lib.hid (iValidMine_any J A cap xs (w.alloc (.cells #[.int .i64 J, .slice A xs.length cap] 31)) (hr.below HB0.out) hs hl)
  have HD := Lib.hid hd
  have HDS := Lib.hid hds
  clear hr hs hd hds
  cases hok : mineOk J xs
  · have HF := Lib.hid (show svOk J xs ss = false by unfold svOk; rw [hok]; rfl)
    go_enter Try.func14, Try.ntmps14
    go_wp2_with fail
    (with_reducible refine (HM.out).mono ?_)
    rintro e w1 ⟨rfl, hd1⟩
    rw [hok]
    go_wp2
    go_ret
    exact ⟨ret_bool HF.out.symm, HB0.out.trans (hd1.mono HB0.out.size)⟩
  · have HV := Lib.hid (show svOk J xs ss = ssOk xs.length ss by unfold svOk; rw [hok]; rfl)
    by_cases h8 : ss.length ≤ 8
    · have t8 : ¬ ((8 : Int) < (ss.length : Int)) := by omega
      go_enter Try.func14, Try.ntmps14
      go_wp2_with fail
      (with_reducible refine (HM.out).mono ?_)
      rintro e w1 ⟨rfl, hd1⟩
      rw [hok]
      have HBX := Lib.hid (show Below w.heap.size w w1 from HB0.out.trans (hd1.mono HB0.out.size))
      have HKK := Lib.hid (fun (W : World) (h : Below w1.heap.size w1 W) => show W.cell? ⟨w.heap.size, 1, none⟩ = some (.slice A xs.length cap) from cellK ((hd1.cell (by simp)).trans (by simp)) h)
      have hzw : w.heap.size < w1.heap.size := Nat.lt_of_lt_of_le (by simp) hd1.size
      clear hd1
      go_wp2
      go_loopw [17] (fun i wr => ∃ k : Nat, k ≤ ss.length ∧ i = .int .i64 k ∧ Hid (∀ j, j < k → sGood xs.length ss j = true) ∧ Hid (Below w1.heap.size w1 wr)) (fun i wr => ss.length - (intOf i).toNat)
      case atStart => exact ⟨0, by omega, rfl, Lib.hid (fun j hj => absurd hj (by omega)), Lib.hid (Below.refl _ _)⟩
      case round =>
        obtain ⟨k, hk, rfl, HG, hbel0⟩ := hrel
        obtain ⟨wo, rfl⟩ : ∃ wo : World, wo = wr := ⟨_, rfl⟩
        have hbel := HBX.out.trans (hbel0.out.mono HBX.out.size)
        have HBL := Lib.hid hbel
        have hzo := hbel0.out.size
        by_cases hlt : k < ss.length
        · have kA : wo.cell? ⟨w.heap.size, 1, none⟩ = some (.slice A xs.length cap) := HKK.out wo hbel0.out
          obtain ⟨bd, off, rfl, hrg⟩ := (HD.out.below HBL.out) k hlt
          obtain ⟨c0, c1, c2⟩ := so_lay hrg
          have hsz := HDS.out ss[k] (List.getElem_mem hlt)
          have HPV := Lib.hid (show 0 < k → ∃ ps : ByteArray, (soG ss (k - 1)).s = ps ∧ wo.cell? ⟨bd, off + (k - 1) * 3, none⟩ = some (.string ps) from fun h => by
            obtain ⟨b', off', e, hr'⟩ := (HD.out.below HBL.out) (k - 1) (by omega)
            injection e with e
            injection e with e1 e2
            subst e1
            subst e2
            exact ⟨_, rfl, by rw [soG_lt (show k - 1 < ss.length by omega)]; exact (so_lay hr').1⟩)
          have HGD := Lib.hid (show sGood xs.length ss k = (((ss[k]).ok && decide ((ss[k]).a < (xs.length : Int))) && (decide (k = 0) || Op.bytesLess (soG ss (k - 1)).s.toList (ss[k]).s.toList)) by unfold sGood; rw [soG_lt hlt])
          clear hrg
          generalize ss[k] = d at *
          obtain ⟨s, a, r⟩ := d
          dsimp only at c0 c1 c2 hsz
          have HGE := Lib.hid (show sGood xs.length ss k = ((soOk s a r && decide (a < (xs.length : Int))) && (decide (k = 0) || Op.bytesLess (soG ss (k - 1)).s.toList s.toList)) from HGD.out)
          clear HGD
          have hbd : bd < wo.heap.size := World.block_lt_of_cell? _ _ c0
          clear hbel
          cases hd1 : soOk s a r
          · have HF := Lib.hid (HV.out.trans (ssOk_bad (n := xs.length) hlt (by rw [HGE.out, hd1]; simp)))
            go_wp2_with fail
            have e0 : (wo.alloc (.cells #[.string s, .int .i64 a, .int .i64 r] 67)).cell? ⟨wo.heap.size, 0, none⟩ = some (.string s) := by simp
            have e1 : (wo.alloc (.cells #[.string s, .int .i64 a, .int .i64 r] 67)).cell? ⟨wo.heap.size, 1, none⟩ = some (.int .i64 a) := by simp
            have e2 : (wo.alloc (.cells #[.string s, .int .i64 a, .int .i64 r] 67)).cell? ⟨wo.heap.size, 2, none⟩ = some (.int .i64 r) := by simp
            have kA := cellK kA (below_box wo (.cells #[.string s, .int .i64 a, .int .i64 r] 67))
            refine wp_region_held (S := fun w' => w'.cell? ⟨wo.heap.size, 0, none⟩ = some (.string s) ∧ w'.cell? ⟨wo.heap.size, 1, none⟩ = some (.int .i64 a) ∧ w'.cell? ⟨wo.heap.size, 2, none⟩ = some (.int .i64 r) ∧ w'.cell? ⟨w.heap.size, 1, none⟩ = some (.slice A xs.length cap) ∧ Below (wo.alloc (.cells #[.string s, .int .i64 a, .int .i64 r] 67)).heap.size (wo.alloc (.cells #[.string s, .int .i64 a, .int .i64 r] 67)) w') (by kernel_rfl) ?_
            try (change wpAnyH _ _ _ _ _ _ _ _ (World.drew _))
            have hS0 := (show (wo.alloc (.cells #[.string s, .int .i64 a, .int .i64 r] 67)).drew.cell? ⟨wo.heap.size, 0, none⟩ = some (.string s) ∧ (wo.alloc (.cells #[.string s, .int .i64 a, .int .i64 r] 67)).drew.cell? ⟨wo.heap.size, 1, none⟩ = some (.int .i64 a) ∧ (wo.alloc (.cells #[.string s, .int .i64 a, .int .i64 r] 67)).drew.cell? ⟨wo.heap.size, 2, none⟩ = some (.int .i64 r) ∧ (wo.alloc (.cells #[.string s, .int .i64 a, .int .i64 r] 67)).drew.cell? ⟨w.heap.size, 1, none⟩ = some (.slice A xs.length cap) ∧ Below (wo.alloc (.cells #[.string s, .int .i64 a, .int .i64 r] 67)).heap.size (wo.alloc (.cells #[.string s, .int .i64 a, .int .i64 r] 67)) (wo.alloc (.cells #[.string s, .int .i64 a, .int .i64 r] 67)).drew from ⟨e0, e1, e2, kA, Below.drew (Below.refl _ _)⟩)
            refine gTake 0 (v := ?_) rfl (by kernel_rfl) (by kernel_rfl) (by kernel_rfl) (fun _ _ _ h => h) (by kernel_rfl) ?_ hS0 ?_
            rotate_left
            · (intro W hW; have q0 := hW.1; have q1 := hW.2.1; have q2 := hW.2.2.1; have q3 := hW.2.2.2.1; clear hW; go_simp; try with_reducible rfl)
            refine gOne 1 rfl (by kernel_rfl) (by kernel_rfl) (fun K hK => ?_)
            go_simp
            go_at_call 45
            (with_reducible refine (soValid_any s a r _ hsz).mono ?_)
            rintro e wq0 ⟨rfl, hdq0⟩
            try go_simp
            have hS1 := (show wq0.cell? ⟨wo.heap.size, 0, none⟩ = some (.string s) ∧ wq0.cell? ⟨wo.heap.size, 1, none⟩ = some (.int .i64 a) ∧ wq0.cell? ⟨wo.heap.size, 2, none⟩ = some (.int .i64 r) ∧ wq0.cell? ⟨w.heap.size, 1, none⟩ = some (.slice A xs.length cap) ∧ Below (wo.alloc (.cells #[.string s, .int .i64 a, .int .i64 r] 67)).heap.size (wo.alloc (.cells #[.string s, .int .i64 a, .int .i64 r] 67)) wq0 from ⟨cellK hS0.1 hdq0, cellK hS0.2.1 hdq0, cellK hS0.2.2.1 hdq0, cellK hS0.2.2.2.1 hdq0, hS0.2.2.2.2.trans (hdq0.mono hS0.2.2.2.2.size)⟩)
            refine hK _ _ hS1 ?_
            clear hK K
            refine gTake 2 (v := ?_) rfl (by kernel_rfl) (by kernel_rfl) (by kernel_rfl) (fun _ _ _ h => h) (by kernel_rfl) ?_ hS1 ?_
            rotate_left
            · (intro W hW; clear hW; go_simp; try with_reducible rfl)
            refine gTake 3 (v := ?_) rfl (by kernel_rfl) (by kernel_rfl) (by kernel_rfl) (fun _ _ _ h => h) (by kernel_rfl) ?_ hS1 ?_
            rotate_left
            · (intro W hW; clear hW; go_simp; try with_reducible rfl)
            refine gSkip 4 rfl (by kernel_rfl) (by kernel_rfl) (by kernel_rfl) (fun _ _ _ h => h) (by kernel_rfl) hS1 ?_
            refine gSkip 5 rfl (by kernel_rfl) (by kernel_rfl) (by kernel_rfl) (fun _ _ _ h => h) (by kernel_rfl) hS1 ?_
            refine gSkip 6 rfl (by kernel_rfl) (by kernel_rfl) (by kernel_rfl) (fun _ _ _ h => h) (by kernel_rfl) hS1 ?_
            refine gSkip 7 rfl (by kernel_rfl) (by kernel_rfl) (by kernel_rfl) (fun _ _ _ h => h) (by kernel_rfl) hS1 ?_
            refine gSkip 8 rfl (by kernel_rfl) (by kernel_rfl) (by kernel_rfl) (fun _ _ _ h => h) (by kernel_rfl) hS1 ?_
            refine gSkip 9 rfl (by kernel_rfl) (by kernel_rfl) (by kernel_rfl) (fun _ _ _ h => h) (by kernel_rfl) hS1 ?_
            refine gTake 10 (v := ?_) rfl (by kernel_rfl) (by kernel_rfl) (by kernel_rfl) (fun _ _ _ h => h) (by kernel_rfl) ?_ hS1 ?_
            rotate_left
            · (intro W hW; clear hW; go_simp; try with_reducible rfl)
            refine gTake 11 (v := ?_) rfl (by kernel_rfl) (by kernel_rfl) (by kernel_rfl) (fun _ _ _ h => h) (by kernel_rfl) ?_ hS1 ?_
            rotate_left
            · (intro W hW; clear hW; go_simp; try with_reducible rfl)
            refine gSkip 12 rfl (by kernel_rfl) (by kernel_rfl) (by kernel_rfl) (fun _ _ _ h => h) (by kernel_rfl) hS1 ?_
            refine gSkip 13 rfl (by kernel_rfl) (by kernel_rfl) (by kernel_rfl) (fun _ _ _ h => h) (by kernel_rfl) hS1 ?_
            refine gSkip 14 rfl (by kernel_rfl) (by kernel_rfl) (by kernel_rfl) (fun _ _ _ h => h) (by kernel_rfl) hS1 ?_
            refine gSkip 15 rfl (by kernel_rfl) (by kernel_rfl) (by kernel_rfl) (fun _ _ _ h => h) (by kernel_rfl) hS1 ?_
            refine gSkip 16 rfl (by kernel_rfl) (by kernel_rfl) (by kernel_rfl) (fun _ _ _ h => h) (by kernel_rfl) hS1 ?_
            refine gSkip 17 rfl (by kernel_rfl) (by kernel_rfl) (by kernel_rfl) (fun _ _ _ h => h) (by kernel_rfl) hS1 ?_
            refine gSkip 18 rfl (by kernel_rfl) (by kernel_rfl) (by kernel_rfl) (fun _ _ _ h => h) (by kernel_rfl) hS1 ?_
            refine gSkip 19 rfl (by kernel_rfl) (by kernel_rfl) (by kernel_rfl) (fun _ _ _ h => h) (by kernel_rfl) hS1 ?_
            refine gSkip 20 rfl (by kernel_rfl) (by kernel_rfl) (by kernel_rfl) (fun _ _ _ h => h) (by kernel_rfl) hS1 ?_
            refine gSkip 21 rfl (by kernel_rfl) (by kernel_rfl) (by kernel_rfl) (fun _ _ _ h => h) (by kernel_rfl) hS1 ?_
            refine gSkip 22 rfl (by kernel_rfl) (by kernel_rfl) (by kernel_rfl) (fun _ _ _ h => h) (by kernel_rfl) hS1 ?_
            refine gSkip 23 rfl (by kernel_rfl) (by kernel_rfl) (by kernel_rfl) (fun _ _ _ h => h) (by kernel_rfl) hS1 ?_
            refine gSkip 24 rfl (by kernel_rfl) (by kernel_rfl) (by kernel_rfl) (fun _ _ _ h => h) (by kernel_rfl) hS1 ?_
            refine gTake 25 (v := ?_) rfl (by kernel_rfl) (by kernel_rfl) (by kernel_rfl) (fun _ _ _ h => h) (by kernel_rfl) ?_ hS1 ?_
            rotate_left
            · (intro W hW; clear hW; go_simp; try with_reducible rfl)
            refine wpAnyH_done (by kernel_rfl) ?_ _
            go_simp
            go_wp2
            go_ret
            exact ⟨ret_bool HF.out.symm, HBX.out.trans ((hbel0.out.trans (((below_box wo (.cells #[.string s, .int .i64 a, .int .i64 r] 67)).trans (hS1.2.2.2.2.mono (by simp))).mono hbel0.out.size)).mono HBX.out.size)⟩
          · by_cases han : a < (xs.length : Int)
            · have HDN := Lib.hid (show decide ((xs.length : Int) ≤ a) = false from decide_eq_false (by omega))
              by_cases k0 : k = 0
              · have HF := Lib.hid (show sGood xs.length ss k = true by rw [HGE.out, hd1, decide_eq_true han, decide_eq_true k0]; simp)
                have hki : ¬ (0 < (k : Int)) := by omega
                have hkn : ¬ (0 < k) := by omega
                clear k0
                go_wp2_with fail
                have e0 : (wo.alloc (.cells #[.string s, .int .i64 a, .int .i64 r] 67)).cell? ⟨wo.heap.size, 0, none⟩ = some (.string s) := by simp
                have e1 : (wo.alloc (.cells #[.string s, .int .i64 a, .int .i64 r] 67)).cell? ⟨wo.heap.size, 1, none⟩ = some (.int .i64 a) := by simp
                have e2 : (wo.alloc (.cells #[.string s, .int .i64 a, .int .i64 r] 67)).cell? ⟨wo.heap.size, 2, none⟩ = some (.int .i64 r) := by simp
                have kA := cellK kA (below_box wo (.cells #[.string s, .int .i64 a, .int .i64 r] 67))
                refine wp_region_held (S := fun w' => w'.cell? ⟨wo.heap.size, 0, none⟩ = some (.string s) ∧ w'.cell? ⟨wo.heap.size, 1, none⟩ = some (.int .i64 a) ∧ w'.cell? ⟨wo.heap.size, 2, none⟩ = some (.int .i64 r) ∧ w'.cell? ⟨w.heap.size, 1, none⟩ = some (.slice A xs.length cap) ∧ Below (wo.alloc (.cells #[.string s, .int .i64 a, .int .i64 r] 67)).heap.size (wo.alloc (.cells #[.string s, .int .i64 a, .int .i64 r] 67)) w') (by kernel_rfl) ?_
                try (change wpAnyH _ _ _ _ _ _ _ _ (World.drew _))
                have hS0 := (show (wo.alloc (.cells #[.string s, .int .i64 a, .int .i64 r] 67)).drew.cell? ⟨wo.heap.size, 0, none⟩ = some (.string s) ∧ (wo.alloc (.cells #[.string s, .int .i64 a, .int .i64 r] 67)).drew.cell? ⟨wo.heap.size, 1, none⟩ = some (.int .i64 a) ∧ (wo.alloc (.cells #[.string s, .int .i64 a, .int .i64 r] 67)).drew.cell? ⟨wo.heap.size, 2, none⟩ = some (.int .i64 r) ∧ (wo.alloc (.cells #[.string s, .int .i64 a, .int .i64 r] 67)).drew.cell? ⟨w.heap.size, 1, none⟩ = some (.slice A xs.length cap) ∧ Below (wo.alloc (.cells #[.string s, .int .i64 a, .int .i64 r] 67)).heap.size (wo.alloc (.cells #[.string s, .int .i64 a, .int .i64 r] 67)) (wo.alloc (.cells #[.string s, .int .i64 a, .int .i64 r] 67)).drew from ⟨e0, e1, e2, kA, Below.drew (Below.refl _ _)⟩)
                refine gTake 0 (v := ?_) rfl (by kernel_rfl) (by kernel_rfl) (by kernel_rfl) (fun _ _ _ h => h) (by kernel_rfl) ?_ hS0 ?_
                rotate_left
                · (intro W hW; have q0 := hW.1; have q1 := hW.2.1; have q2 := hW.2.2.1; have q3 := hW.2.2.2.1; clear hW; go_simp; try with_reducible rfl)
                refine gOne 1 rfl (by kernel_rfl) (by kernel_rfl) (fun K hK => ?_)
                go_simp
                go_at_call 45
                (with_reducible refine (soValid_any s a r _ hsz).mono ?_)
                rintro e wq0 ⟨rfl, hdq0⟩
                try go_simp
                have hS1 := (show wq0.cell? ⟨wo.heap.size, 0, none⟩ = some (.string s) ∧ wq0.cell? ⟨wo.heap.size, 1, none⟩ = some (.int .i64 a) ∧ wq0.cell? ⟨wo.heap.size, 2, none⟩ = some (.int .i64 r) ∧ wq0.cell? ⟨w.heap.size, 1, none⟩ = some (.slice A xs.length cap) ∧ Below (wo.alloc (.cells #[.string s, .int .i64 a, .int .i64 r] 67)).heap.size (wo.alloc (.cells #[.string s, .int .i64 a, .int .i64 r] 67)) wq0 from ⟨cellK hS0.1 hdq0, cellK hS0.2.1 hdq0, cellK hS0.2.2.1 hdq0, cellK hS0.2.2.2.1 hdq0, hS0.2.2.2.2.trans (hdq0.mono hS0.2.2.2.2.size)⟩)
                refine hK _ _ hS1 ?_
                clear hK K
                refine gTake 2 (v := ?_) rfl (by kernel_rfl) (by kernel_rfl) (by kernel_rfl) (fun _ _ _ h => h) (by kernel_rfl) ?_ hS1 ?_
                rotate_left
                · (intro W hW; clear hW; go_simp; try with_reducible rfl)
                refine gTake 3 (v := ?_) rfl (by kernel_rfl) (by kernel_rfl) (by kernel_rfl) (fun _ _ _ h => h) (by kernel_rfl) ?_ hS1 ?_
                rotate_left
                · (intro W hW; clear hW; go_simp; try with_reducible rfl)
                refine gTake 4 (v := ?_) rfl (by kernel_rfl) (by kernel_rfl) (by kernel_rfl) (fun _ _ _ h => h) (by kernel_rfl) ?_ hS1 ?_
                rotate_left
                · (intro W hW; clear hW; go_simp; try with_reducible rfl)
                refine gTake 5 (v := ?_) rfl (by kernel_rfl) (by kernel_rfl) (by kernel_rfl) (fun _ _ _ h => h) (by kernel_rfl) ?_ hS1 ?_
                rotate_left
                · (intro W hW; have q0 := hW.1; have q1 := hW.2.1; have q2 := hW.2.2.1; have q3 := hW.2.2.2.1; clear hW; go_simp; try with_reducible rfl)
                refine gTake 6 (v := ?_) rfl (by kernel_rfl) (by kernel_rfl) (by kernel_rfl) (fun _ _ _ h => h) (by kernel_rfl) ?_ hS1 ?_
                rotate_left
                · (intro W hW; clear hW; go_simp; try with_reducible rfl)
                refine gTake 7 (v := ?_) rfl (by kernel_rfl) (by kernel_rfl) (by kernel_rfl) (fun _ _ _ h => h) (by kernel_rfl) ?_ hS1 ?_
                rotate_left
                · (intro W hW; have q0 := hW.1; have q1 := hW.2.1; have q2 := hW.2.2.1; have q3 := hW.2.2.2.1; clear hW; go_simp; try with_reducible rfl)
                refine gTake 8 (v := ?_) rfl (by kernel_rfl) (by kernel_rfl) (by kernel_rfl) (fun _ _ _ h => h) (by kernel_rfl) ?_ hS1 ?_
                rotate_left
                · (intro W hW; clear hW; go_simp; try with_reducible rfl)
                refine gTake 9 (v := ?_) rfl (by kernel_rfl) (by kernel_rfl) (by kernel_rfl) (fun _ _ _ h => h) (by kernel_rfl) ?_ hS1 ?_
                rotate_left
                · (intro W hW; clear hW; go_simp; (try rw [HDN.out]); try with_reducible rfl)
                refine gTake 10 (v := ?_) rfl (by kernel_rfl) (by kernel_rfl) (by kernel_rfl) (fun _ _ _ h => h) (by kernel_rfl) ?_ hS1 ?_
                rotate_left
                · (intro W hW; clear hW; go_simp; try with_reducible rfl)
                refine gTake 11 (v := ?_) rfl (by kernel_rfl) (by kernel_rfl) (by kernel_rfl) (fun _ _ _ h => h) (by kernel_rfl) ?_ hS1 ?_
                rotate_left
                · (intro W hW; clear hW; go_simp; try with_reducible rfl)
                refine gTake 12 (v := ?_) rfl (by kernel_rfl) (by kernel_rfl) (by kernel_rfl) (fun _ _ _ h => h) (by kernel_rfl) ?_ hS1 ?_
                rotate_left
                · (intro W hW; clear hW; go_simp; try with_reducible rfl)
                refine gTake 13 (v := ?_) rfl (by kernel_rfl) (by kernel_rfl) (by kernel_rfl) (fun _ _ _ h => h) (by kernel_rfl) ?_ hS1 ?_
                rotate_left
                · (intro W hW; clear hW; go_simp; try with_reducible rfl)
                refine gTake 14 (v := ?_) rfl (by kernel_rfl) (by kernel_rfl) (by kernel_rfl) (fun _ _ _ h => h) (by kernel_rfl) ?_ hS1 ?_
                rotate_left
                · (intro W hW; clear hW; go_simp; try with_reducible rfl)
                refine gSkip 15 rfl (by kernel_rfl) (by kernel_rfl) (by kernel_rfl) (fun _ _ _ h => h) (by kernel_rfl) hS1 ?_
                refine gSkip 16 rfl (by kernel_rfl) (by kernel_rfl) (by kernel_rfl) (fun _ _ _ h => h) (by kernel_rfl) hS1 ?_
                refine gSkip 17 rfl (by kernel_rfl) (by kernel_rfl) (by kernel_rfl) (fun _ _ _ h => h) (by kernel_rfl) hS1 ?_
                refine gSkip 18 rfl (by kernel_rfl) (by kernel_rfl) (by kernel_rfl) (fun _ _ _ h => h) (by kernel_rfl) hS1 ?_
                refine gSkip 19 rfl (by kernel_rfl) (by kernel_rfl) (by kernel_rfl) (fun _ _ _ h => h) (by kernel_rfl) hS1 ?_
                refine gSkip 20 rfl (by kernel_rfl) (by kernel_rfl) (by kernel_rfl) (fun _ _ _ h => h) (by kernel_rfl) hS1 ?_
                refine gSkip 21 rfl (by kernel_rfl) (by kernel_rfl) (by kernel_rfl) (fun _ _ _ h => h) (by kernel_rfl) hS1 ?_
                refine gSkip 22 rfl (by kernel_rfl) (by kernel_rfl) (by kernel_rfl) (fun _ _ _ h => h) (by kernel_rfl) hS1 ?_
                refine gSkip 23 rfl (by kernel_rfl) (by kernel_rfl) (by kernel_rfl) (fun _ _ _ h => h) (by kernel_rfl) hS1 ?_
                refine gTake 24 (v := ?_) rfl (by kernel_rfl) (by kernel_rfl) (by kernel_rfl) (fun _ _ _ h => h) (by kernel_rfl) ?_ hS1 ?_
                rotate_left
                · (intro W hW; clear hW; go_simp; try with_reducible rfl)
                refine gTake 25 (v := ?_) rfl (by kernel_rfl) (by kernel_rfl) (by kernel_rfl) (fun _ _ _ h => h) (by kernel_rfl) ?_ hS1 ?_
                rotate_left
                · (intro W hW; clear hW; go_simp; try with_reducible rfl)
                refine wpAnyH_done (by kernel_rfl) ?_ _
                go_simp
                go_wp2
                go_roundw
                case rel => exact ⟨k + 1, by omega, by go_num, Lib.hid (fun j hj => by
                  rcases Nat.lt_or_ge j k with q | q
                  · exact HG.out j q
                  · obtain rfl : j = k := by omega
                    exact HF.out), hbel0.out.trans (((below_box wo (.cells #[.string s, .int .i64 a, .int .i64 r] 67)).trans (hS1.2.2.2.2.mono (by simp))).mono hbel0.out.size)⟩
                case measure => simp [intOf]; omega
              · skip
                obtain ⟨ps, hps, g0⟩ := HPV.out (by omega)
                have HGF := Lib.hid (show sGood xs.length ss k = ((soOk s a r && decide (a < (xs.length : Int))) && Op.bytesLess ps.toList s.toList) by rw [HGE.out, decide_eq_false k0, hps]; simp)
                have hki : (0 < (k : Int)) := by omega
                have hkn : 0 < k := by omega
                have hkj : (k : Int) - 1 = ((k - 1 : Nat) : Int) := by omega
                have hkl : k - 1 < ss.length := by omega
                clear hps k0
                generalize hj1 : k - 1 = j1 at *
                have HJ1 := Lib.hid hj1
                clear hj1
                have hkw : IntKind.i64.wrap ((k : Int) - 1) = (j1 : Int) := by rw [hkj]; exact IntWalk.i64_in _ (by omega)
                have HK := Lib.hid hkj
                clear hkj
                have HT := Lib.hid (less_totalP ps.toList s.toList)
                cases hls : Op.bytesLess ps.toList s.toList
                · have hq := HT.out
                  rw [hls] at hq
                  replace hq : (Op.bytesLess s.toList ps.toList || s.toList == ps.toList) = true := hq.symm
                  have HF := Lib.hid (HV.out.trans (ssOk_bad (n := xs.length) hlt (by rw [HGF.out, hls]; simp)))
                  go_wp2_with fail
                  have e0 : (wo.alloc (.cells #[.string s, .int .i64 a, .int .i64 r] 67)).cell? ⟨wo.heap.size, 0, none⟩ = some (.string s) := by simp
                  have e1 : (wo.alloc (.cells #[.string s, .int .i64 a, .int .i64 r] 67)).cell? ⟨wo.heap.size, 1, none⟩ = some (.int .i64 a) := by simp
                  have e2 : (wo.alloc (.cells #[.string s, .int .i64 a, .int .i64 r] 67)).cell? ⟨wo.heap.size, 2, none⟩ = some (.int .i64 r) := by simp
                  have kA := cellK kA (below_box wo (.cells #[.string s, .int .i64 a, .int .i64 r] 67))
                  have g0 := cellK g0 (below_box wo (.cells #[.string s, .int .i64 a, .int .i64 r] 67))
                  refine wp_region_held (S := fun w' => w'.cell? ⟨wo.heap.size, 0, none⟩ = some (.string s) ∧ w'.cell? ⟨wo.heap.size, 1, none⟩ = some (.int .i64 a) ∧ w'.cell? ⟨wo.heap.size, 2, none⟩ = some (.int .i64 r) ∧ w'.cell? ⟨w.heap.size, 1, none⟩ = some (.slice A xs.length cap) ∧ w'.cell? ⟨bd, off + j1 * 3, none⟩ = some (.string ps) ∧ Below (wo.alloc (.cells #[.string s, .int .i64 a, .int .i64 r] 67)).heap.size (wo.alloc (.cells #[.string s, .int .i64 a, .int .i64 r] 67)) w') (by kernel_rfl) ?_
                  try (change wpAnyH _ _ _ _ _ _ _ _ (World.drew _))
                  have hS0 := (show (wo.alloc (.cells #[.string s, .int .i64 a, .int .i64 r] 67)).drew.cell? ⟨wo.heap.size, 0, none⟩ = some (.string s) ∧ (wo.alloc (.cells #[.string s, .int .i64 a, .int .i64 r] 67)).drew.cell? ⟨wo.heap.size, 1, none⟩ = some (.int .i64 a) ∧ (wo.alloc (.cells #[.string s, .int .i64 a, .int .i64 r] 67)).drew.cell? ⟨wo.heap.size, 2, none⟩ = some (.int .i64 r) ∧ (wo.alloc (.cells #[.string s, .int .i64 a, .int .i64 r] 67)).drew.cell? ⟨w.heap.size, 1, none⟩ = some (.slice A xs.length cap) ∧ (wo.alloc (.cells #[.string s, .int .i64 a, .int .i64 r] 67)).drew.cell? ⟨bd, off + j1 * 3, none⟩ = some (.string ps) ∧ Below (wo.alloc (.cells #[.string s, .int .i64 a, .int .i64 r] 67)).heap.size (wo.alloc (.cells #[.string s, .int .i64 a, .int .i64 r] 67)) (wo.alloc (.cells #[.string s, .int .i64 a, .int .i64 r] 67)).drew from ⟨e0, e1, e2, kA, g0, Below.drew (Below.refl _ _)⟩)
                  refine gTake 0 (v := ?_) rfl (by kernel_rfl) (by kernel_rfl) (by kernel_rfl) (fun _ _ _ h => h) (by kernel_rfl) ?_ hS0 ?_
                  rotate_left
                  · (intro W hW; have q0 := hW.1; have q1 := hW.2.1; have q2 := hW.2.2.1; have q3 := hW.2.2.2.1; have q4 := hW.2.2.2.2.1; clear hW; go_simp; try with_reducible rfl)
                  refine gOne 1 rfl (by kernel_rfl) (by kernel_rfl) (fun K hK => ?_)
                  go_simp
                  go_at_call 45
                  (with_reducible refine (soValid_any s a r _ hsz).mono ?_)
                  rintro e wq0 ⟨rfl, hdq0⟩
                  try go_simp
                  have hS1 := (show wq0.cell? ⟨wo.heap.size, 0, none⟩ = some (.string s) ∧ wq0.cell? ⟨wo.heap.size, 1, none⟩ = some (.int .i64 a) ∧ wq0.cell? ⟨wo.heap.size, 2, none⟩ = some (.int .i64 r) ∧ wq0.cell? ⟨w.heap.size, 1, none⟩ = some (.slice A xs.length cap) ∧ wq0.cell? ⟨bd, off + j1 * 3, none⟩ = some (.string ps) ∧ Below (wo.alloc (.cells #[.string s, .int .i64 a, .int .i64 r] 67)).heap.size (wo.alloc (.cells #[.string s, .int .i64 a, .int .i64 r] 67)) wq0 from ⟨cellK hS0.1 hdq0, cellK hS0.2.1 hdq0, cellK hS0.2.2.1 hdq0, cellK hS0.2.2.2.1 hdq0, cellK hS0.2.2.2.2.1 hdq0, hS0.2.2.2.2.2.trans (hdq0.mono hS0.2.2.2.2.2.size)⟩)
                  refine hK _ _ hS1 ?_
                  clear hK K
                  refine gTake 2 (v := ?_) rfl (by kernel_rfl) (by kernel_rfl) (by kernel_rfl) (fun _ _ _ h => h) (by kernel_rfl) ?_ hS1 ?_
                  rotate_left
                  · (intro W hW; clear hW; go_simp; try with_reducible rfl)
                  refine gTake 3 (v := ?_) rfl (by kernel_rfl) (by kernel_rfl) (by kernel_rfl) (fun _ _ _ h => h) (by kernel_rfl) ?_ hS1 ?_
                  rotate_left
                  · (intro W hW; clear hW; go_simp; try with_reducible rfl)
                  refine gTake 4 (v := ?_) rfl (by kernel_rfl) (by kernel_rfl) (by kernel_rfl) (fun _ _ _ h => h) (by kernel_rfl) ?_ hS1 ?_
                  rotate_left
                  · (intro W hW; clear hW; go_simp; try with_reducible rfl)
                  refine gTake 5 (v := ?_) rfl (by kernel_rfl) (by kernel_rfl) (by kernel_rfl) (fun _ _ _ h => h) (by kernel_rfl) ?_ hS1 ?_
                  rotate_left
                  · (intro W hW; have q0 := hW.1; have q1 := hW.2.1; have q2 := hW.2.2.1; have q3 := hW.2.2.2.1; have q4 := hW.2.2.2.2.1; clear hW; go_simp; try with_reducible rfl)
                  refine gTake 6 (v := ?_) rfl (by kernel_rfl) (by kernel_rfl) (by kernel_rfl) (fun _ _ _ h => h) (by kernel_rfl) ?_ hS1 ?_
                  rotate_left
                  · (intro W hW; clear hW; go_simp; try with_reducible rfl)
                  refine gTake 7 (v := ?_) rfl (by kernel_rfl) (by kernel_rfl) (by kernel_rfl) (fun _ _ _ h => h) (by kernel_rfl) ?_ hS1 ?_
                  rotate_left
                  · (intro W hW; have q0 := hW.1; have q1 := hW.2.1; have q2 := hW.2.2.1; have q3 := hW.2.2.2.1; have q4 := hW.2.2.2.2.1; clear hW; go_simp; try with_reducible rfl)
                  refine gTake 8 (v := ?_) rfl (by kernel_rfl) (by kernel_rfl) (by kernel_rfl) (fun _ _ _ h => h) (by kernel_rfl) ?_ hS1 ?_
                  rotate_left
                  · (intro W hW; clear hW; go_simp; try with_reducible rfl)
                  refine gTake 9 (v := ?_) rfl (by kernel_rfl) (by kernel_rfl) (by kernel_rfl) (fun _ _ _ h => h) (by kernel_rfl) ?_ hS1 ?_
                  rotate_left
                  · (intro W hW; clear hW; go_simp; (try rw [HDN.out]); try with_reducible rfl)
                  refine gTake 10 (v := ?_) rfl (by kernel_rfl) (by kernel_rfl) (by kernel_rfl) (fun _ _ _ h => h) (by kernel_rfl) ?_ hS1 ?_
                  rotate_left
                  · (intro W hW; clear hW; go_simp; try with_reducible rfl)
                  refine gTake 11 (v := ?_) rfl (by kernel_rfl) (by kernel_rfl) (by kernel_rfl) (fun _ _ _ h => h) (by kernel_rfl) ?_ hS1 ?_
                  rotate_left
                  · (intro W hW; clear hW; go_simp; try with_reducible rfl)
                  refine gTake 12 (v := ?_) rfl (by kernel_rfl) (by kernel_rfl) (by kernel_rfl) (fun _ _ _ h => h) (by kernel_rfl) ?_ hS1 ?_
                  rotate_left
                  · (intro W hW; clear hW; go_simp; try with_reducible rfl)
                  refine gTake 13 (v := ?_) rfl (by kernel_rfl) (by kernel_rfl) (by kernel_rfl) (fun _ _ _ h => h) (by kernel_rfl) ?_ hS1 ?_
                  rotate_left
                  · (intro W hW; clear hW; go_simp; try with_reducible rfl)
                  refine gTake 14 (v := ?_) rfl (by kernel_rfl) (by kernel_rfl) (by kernel_rfl) (fun _ _ _ h => h) (by kernel_rfl) ?_ hS1 ?_
                  rotate_left
                  · (intro W hW; clear hW; go_simp; try with_reducible rfl)
                  refine gTake 15 (v := ?_) rfl (by kernel_rfl) (by kernel_rfl) (by kernel_rfl) (fun _ _ _ h => h) (by kernel_rfl) ?_ hS1 ?_
                  rotate_left
                  · (intro W hW; clear hW; go_simp; try with_reducible rfl)
                  refine gTake 16 (v := ?_) rfl (by kernel_rfl) (by kernel_rfl) (by kernel_rfl) (fun _ _ _ h => h) (by kernel_rfl) ?_ hS1 ?_
                  rotate_left
                  · (intro W hW; have q0 := hW.1; have q1 := hW.2.1; have q2 := hW.2.2.1; have q3 := hW.2.2.2.1; have q4 := hW.2.2.2.2.1; clear hW; go_simp; try with_reducible rfl)
                  refine gTake 17 (v := ?_) rfl (by kernel_rfl) (by kernel_rfl) (by kernel_rfl) (fun _ _ _ h => h) (by kernel_rfl) ?_ hS1 ?_
                  rotate_left
                  · (intro W hW; clear hW; go_simp; try with_reducible rfl)
                  refine gTake 18 (v := ?_) rfl (by kernel_rfl) (by kernel_rfl) (by kernel_rfl) (fun _ _ _ h => h) (by kernel_rfl) ?_ hS1 ?_
                  rotate_left
                  · (intro W hW; clear hW; go_simp; try with_reducible rfl)
                  refine gTake 19 (v := ?_) rfl (by kernel_rfl) (by kernel_rfl) (by kernel_rfl) (fun _ _ _ h => h) (by kernel_rfl) ?_ hS1 ?_
                  rotate_left
                  · (intro W hW; clear hW; go_simp; try with_reducible rfl)
                  refine gTake 20 (v := ?_) rfl (by kernel_rfl) (by kernel_rfl) (by kernel_rfl) (fun _ _ _ h => h) (by kernel_rfl) ?_ hS1 ?_
                  rotate_left
                  · (intro W hW; clear hW; go_simp; try with_reducible rfl)
                  refine gTake 21 (v := ?_) rfl (by kernel_rfl) (by kernel_rfl) (by kernel_rfl) (fun _ _ _ h => h) (by kernel_rfl) ?_ hS1 ?_
                  rotate_left
                  · (intro W hW; clear hW; go_simp; try with_reducible rfl)
                  refine gTake 22 (v := ?_) rfl (by kernel_rfl) (by kernel_rfl) (by kernel_rfl) (fun _ _ _ h => h) (by kernel_rfl) ?_ hS1 ?_
                  rotate_left
                  · (intro W hW; have q0 := hW.1; have q1 := hW.2.1; have q2 := hW.2.2.1; have q3 := hW.2.2.2.1; have q4 := hW.2.2.2.2.1; clear hW; go_simp; try with_reducible rfl)
                  refine gTake 23 (v := ?_) rfl (by kernel_rfl) (by kernel_rfl) (by kernel_rfl) (fun _ _ _ h => h) (by kernel_rfl) ?_ hS1 ?_
                  rotate_left
                  · (intro W hW; clear hW; go_simp; try with_reducible rfl)
                  refine gTake 24 (v := ?_) rfl (by kernel_rfl) (by kernel_rfl) (by kernel_rfl) (fun _ _ _ h => h) (by kernel_rfl) ?_ hS1 ?_
                  rotate_left
                  · (intro W hW; clear hW; go_simp; try with_reducible rfl)
                  refine gTake 25 (v := ?_) rfl (by kernel_rfl) (by kernel_rfl) (by kernel_rfl) (fun _ _ _ h => h) (by kernel_rfl) ?_ hS1 ?_
                  rotate_left
                  · (intro W hW; clear hW; go_simp; try with_reducible rfl)
                  refine wpAnyH_done (by kernel_rfl) ?_ _
                  go_simp
                  go_wp2
                  go_ret
                  exact ⟨ret_bool HF.out.symm, HBX.out.trans ((hbel0.out.trans (((below_box wo (.cells #[.string s, .int .i64 a, .int .i64 r] 67)).trans (hS1.2.2.2.2.2.mono (by simp))).mono hbel0.out.size)).mono HBX.out.size)⟩
                · have hq := HT.out
                  rw [hls] at hq
                  replace hq : (Op.bytesLess s.toList ps.toList || s.toList == ps.toList) = false := hq.symm
                  have HF := Lib.hid (show sGood xs.length ss k = true by rw [HGF.out, hd1, decide_eq_true han, hls]; rfl)
                  go_wp2_with fail
                  have e0 : (wo.alloc (.cells #[.string s, .int .i64 a, .int .i64 r] 67)).cell? ⟨wo.heap.size, 0, none⟩ = some (.string s) := by simp
                  have e1 : (wo.alloc (.cells #[.string s, .int .i64 a, .int .i64 r] 67)).cell? ⟨wo.heap.size, 1, none⟩ = some (.int .i64 a) := by simp
                  have e2 : (wo.alloc (.cells #[.string s, .int .i64 a, .int .i64 r] 67)).cell? ⟨wo.heap.size, 2, none⟩ = some (.int .i64 r) := by simp
                  have kA := cellK kA (below_box wo (.cells #[.string s, .int .i64 a, .int .i64 r] 67))
                  have g0 := cellK g0 (below_box wo (.cells #[.string s, .int .i64 a, .int .i64 r] 67))
                  refine wp_region_held (S := fun w' => w'.cell? ⟨wo.heap.size, 0, none⟩ = some (.string s) ∧ w'.cell? ⟨wo.heap.size, 1, none⟩ = some (.int .i64 a) ∧ w'.cell? ⟨wo.heap.size, 2, none⟩ = some (.int .i64 r) ∧ w'.cell? ⟨w.heap.size, 1, none⟩ = some (.slice A xs.length cap) ∧ w'.cell? ⟨bd, off + j1 * 3, none⟩ = some (.string ps) ∧ Below (wo.alloc (.cells #[.string s, .int .i64 a, .int .i64 r] 67)).heap.size (wo.alloc (.cells #[.string s, .int .i64 a, .int .i64 r] 67)) w') (by kernel_rfl) ?_
                  try (change wpAnyH _ _ _ _ _ _ _ _ (World.drew _))
                  have hS0 := (show (wo.alloc (.cells #[.string s, .int .i64 a, .int .i64 r] 67)).drew.cell? ⟨wo.heap.size, 0, none⟩ = some (.string s) ∧ (wo.alloc (.cells #[.string s, .int .i64 a, .int .i64 r] 67)).drew.cell? ⟨wo.heap.size, 1, none⟩ = some (.int .i64 a) ∧ (wo.alloc (.cells #[.string s, .int .i64 a, .int .i64 r] 67)).drew.cell? ⟨wo.heap.size, 2, none⟩ = some (.int .i64 r) ∧ (wo.alloc (.cells #[.string s, .int .i64 a, .int .i64 r] 67)).drew.cell? ⟨w.heap.size, 1, none⟩ = some (.slice A xs.length cap) ∧ (wo.alloc (.cells #[.string s, .int .i64 a, .int .i64 r] 67)).drew.cell? ⟨bd, off + j1 * 3, none⟩ = some (.string ps) ∧ Below (wo.alloc (.cells #[.string s, .int .i64 a, .int .i64 r] 67)).heap.size (wo.alloc (.cells #[.string s, .int .i64 a, .int .i64 r] 67)) (wo.alloc (.cells #[.string s, .int .i64 a, .int .i64 r] 67)).drew from ⟨e0, e1, e2, kA, g0, Below.drew (Below.refl _ _)⟩)
                  refine gTake 0 (v := ?_) rfl (by kernel_rfl) (by kernel_rfl) (by kernel_rfl) (fun _ _ _ h => h) (by kernel_rfl) ?_ hS0 ?_
                  rotate_left
                  · (intro W hW; have q0 := hW.1; have q1 := hW.2.1; have q2 := hW.2.2.1; have q3 := hW.2.2.2.1; have q4 := hW.2.2.2.2.1; clear hW; go_simp; try with_reducible rfl)
                  refine gOne 1 rfl (by kernel_rfl) (by kernel_rfl) (fun K hK => ?_)
                  go_simp
                  go_at_call 45
                  (with_reducible refine (soValid_any s a r _ hsz).mono ?_)
                  rintro e wq0 ⟨rfl, hdq0⟩
                  try go_simp
                  have hS1 := (show wq0.cell? ⟨wo.heap.size, 0, none⟩ = some (.string s) ∧ wq0.cell? ⟨wo.heap.size, 1, none⟩ = some (.int .i64 a) ∧ wq0.cell? ⟨wo.heap.size, 2, none⟩ = some (.int .i64 r) ∧ wq0.cell? ⟨w.heap.size, 1, none⟩ = some (.slice A xs.length cap) ∧ wq0.cell? ⟨bd, off + j1 * 3, none⟩ = some (.string ps) ∧ Below (wo.alloc (.cells #[.string s, .int .i64 a, .int .i64 r] 67)).heap.size (wo.alloc (.cells #[.string s, .int .i64 a, .int .i64 r] 67)) wq0 from ⟨cellK hS0.1 hdq0, cellK hS0.2.1 hdq0, cellK hS0.2.2.1 hdq0, cellK hS0.2.2.2.1 hdq0, cellK hS0.2.2.2.2.1 hdq0, hS0.2.2.2.2.2.trans (hdq0.mono hS0.2.2.2.2.2.size)⟩)
                  refine hK _ _ hS1 ?_
                  clear hK K
                  refine gTake 2 (v := ?_) rfl (by kernel_rfl) (by kernel_rfl) (by kernel_rfl) (fun _ _ _ h => h) (by kernel_rfl) ?_ hS1 ?_
                  rotate_left
                  · (intro W hW; clear hW; go_simp; try with_reducible rfl)
                  refine gTake 3 (v := ?_) rfl (by kernel_rfl) (by kernel_rfl) (by kernel_rfl) (fun _ _ _ h => h) (by kernel_rfl) ?_ hS1 ?_
                  rotate_left
                  · (intro W hW; clear hW; go_simp; try with_reducible rfl)
                  refine gTake 4 (v := ?_) rfl (by kernel_rfl) (by kernel_rfl) (by kernel_rfl) (fun _ _ _ h => h) (by kernel_rfl) ?_ hS1 ?_
                  rotate_left
                  · (intro W hW; clear hW; go_simp; try with_reducible rfl)
                  refine gTake 5 (v := ?_) rfl (by kernel_rfl) (by kernel_rfl) (by kernel_rfl) (fun _ _ _ h => h) (by kernel_rfl) ?_ hS1 ?_
                  rotate_left
                  · (intro W hW; have q0 := hW.1; have q1 := hW.2.1; have q2 := hW.2.2.1; have q3 := hW.2.2.2.1; have q4 := hW.2.2.2.2.1; clear hW; go_simp; try with_reducible rfl)
                  refine gTake 6 (v := ?_) rfl (by kernel_rfl) (by kernel_rfl) (by kernel_rfl) (fun _ _ _ h => h) (by kernel_rfl) ?_ hS1 ?_
                  rotate_left
                  · (intro W hW; clear hW; go_simp; try with_reducible rfl)
                  refine gTake 7 (v := ?_) rfl (by kernel_rfl) (by kernel_rfl) (by kernel_rfl) (fun _ _ _ h => h) (by kernel_rfl) ?_ hS1 ?_
                  rotate_left
                  · (intro W hW; have q0 := hW.1; have q1 := hW.2.1; have q2 := hW.2.2.1; have q3 := hW.2.2.2.1; have q4 := hW.2.2.2.2.1; clear hW; go_simp; try with_reducible rfl)
                  refine gTake 8 (v := ?_) rfl (by kernel_rfl) (by kernel_rfl) (by kernel_rfl) (fun _ _ _ h => h) (by kernel_rfl) ?_ hS1 ?_
                  rotate_left
                  · (intro W hW; clear hW; go_simp; try with_reducible rfl)
                  refine gTake 9 (v := ?_) rfl (by kernel_rfl) (by kernel_rfl) (by kernel_rfl) (fun _ _ _ h => h) (by kernel_rfl) ?_ hS1 ?_
                  rotate_left
                  · (intro W hW; clear hW; go_simp; (try rw [HDN.out]); try with_reducible rfl)
                  refine gTake 10 (v := ?_) rfl (by kernel_rfl) (by kernel_rfl) (by kernel_rfl) (fun _ _ _ h => h) (by kernel_rfl) ?_ hS1 ?_
                  rotate_left
                  · (intro W hW; clear hW; go_simp; try with_reducible rfl)
                  refine gTake 11 (v := ?_) rfl (by kernel_rfl) (by kernel_rfl) (by kernel_rfl) (fun _ _ _ h => h) (by kernel_rfl) ?_ hS1 ?_
                  rotate_left
                  · (intro W hW; clear hW; go_simp; try with_reducible rfl)
                  refine gTake 12 (v := ?_) rfl (by kernel_rfl) (by kernel_rfl) (by kernel_rfl) (fun _ _ _ h => h) (by kernel_rfl) ?_ hS1 ?_
                  rotate_left
                  · (intro W hW; clear hW; go_simp; try with_reducible rfl)
                  refine gTake 13 (v := ?_) rfl (by kernel_rfl) (by kernel_rfl) (by kernel_rfl) (fun _ _ _ h => h) (by kernel_rfl) ?_ hS1 ?_
                  rotate_left
                  · (intro W hW; clear hW; go_simp; try with_reducible rfl)
                  refine gTake 14 (v := ?_) rfl (by kernel_rfl) (by kernel_rfl) (by kernel_rfl) (fun _ _ _ h => h) (by kernel_rfl) ?_ hS1 ?_
                  rotate_left
                  · (intro W hW; clear hW; go_simp; try with_reducible rfl)
                  refine gTake 15 (v := ?_) rfl (by kernel_rfl) (by kernel_rfl) (by kernel_rfl) (fun _ _ _ h => h) (by kernel_rfl) ?_ hS1 ?_
                  rotate_left
                  · (intro W hW; clear hW; go_simp; try with_reducible rfl)
                  refine gTake 16 (v := ?_) rfl (by kernel_rfl) (by kernel_rfl) (by kernel_rfl) (fun _ _ _ h => h) (by kernel_rfl) ?_ hS1 ?_
                  rotate_left
                  · (intro W hW; have q0 := hW.1; have q1 := hW.2.1; have q2 := hW.2.2.1; have q3 := hW.2.2.2.1; have q4 := hW.2.2.2.2.1; clear hW; go_simp; try with_reducible rfl)
                  refine gTake 17 (v := ?_) rfl (by kernel_rfl) (by kernel_rfl) (by kernel_rfl) (fun _ _ _ h => h) (by kernel_rfl) ?_ hS1 ?_
                  rotate_left
                  · (intro W hW; clear hW; go_simp; try with_reducible rfl)
                  refine gTake 18 (v := ?_) rfl (by kernel_rfl) (by kernel_rfl) (by kernel_rfl) (fun _ _ _ h => h) (by kernel_rfl) ?_ hS1 ?_
                  rotate_left
                  · (intro W hW; clear hW; go_simp; try with_reducible rfl)
                  refine gTake 19 (v := ?_) rfl (by kernel_rfl) (by kernel_rfl) (by kernel_rfl) (fun _ _ _ h => h) (by kernel_rfl) ?_ hS1 ?_
                  rotate_left
                  · (intro W hW; clear hW; go_simp; try with_reducible rfl)
                  refine gTake 20 (v := ?_) rfl (by kernel_rfl) (by kernel_rfl) (by kernel_rfl) (fun _ _ _ h => h) (by kernel_rfl) ?_ hS1 ?_
                  rotate_left
                  · (intro W hW; clear hW; go_simp; try with_reducible rfl)
                  refine gTake 21 (v := ?_) rfl (by kernel_rfl) (by kernel_rfl) (by kernel_rfl) (fun _ _ _ h => h) (by kernel_rfl) ?_ hS1 ?_
                  rotate_left
                  · (intro W hW; clear hW; go_simp; try with_reducible rfl)
                  refine gTake 22 (v := ?_) rfl (by kernel_rfl) (by kernel_rfl) (by kernel_rfl) (fun _ _ _ h => h) (by kernel_rfl) ?_ hS1 ?_
                  rotate_left
                  · (intro W hW; have q0 := hW.1; have q1 := hW.2.1; have q2 := hW.2.2.1; have q3 := hW.2.2.2.1; have q4 := hW.2.2.2.2.1; clear hW; go_simp; try with_reducible rfl)
                  refine gTake 23 (v := ?_) rfl (by kernel_rfl) (by kernel_rfl) (by kernel_rfl) (fun _ _ _ h => h) (by kernel_rfl) ?_ hS1 ?_
                  rotate_left
                  · (intro W hW; clear hW; go_simp; try with_reducible rfl)
                  refine gTake 24 (v := ?_) rfl (by kernel_rfl) (by kernel_rfl) (by kernel_rfl) (fun _ _ _ h => h) (by kernel_rfl) ?_ hS1 ?_
                  rotate_left
                  · (intro W hW; clear hW; go_simp; try with_reducible rfl)
                  refine gTake 25 (v := ?_) rfl (by kernel_rfl) (by kernel_rfl) (by kernel_rfl) (fun _ _ _ h => h) (by kernel_rfl) ?_ hS1 ?_
                  rotate_left
                  · (intro W hW; clear hW; go_simp; try with_reducible rfl)
                  refine wpAnyH_done (by kernel_rfl) ?_ _
                  go_simp
                  go_wp2
                  go_roundw
                  case rel => exact ⟨k + 1, by omega, by go_num, Lib.hid (fun j hj => by
                    rcases Nat.lt_or_ge j k with q | q
                    · exact HG.out j q
                    · obtain rfl : j = k := by omega
                      exact HF.out), hbel0.out.trans (((below_box wo (.cells #[.string s, .int .i64 a, .int .i64 r] 67)).trans (hS1.2.2.2.2.2.mono (by simp))).mono hbel0.out.size)⟩
                  case measure => simp [intOf]; omega
            · have HDN := Lib.hid (show decide ((xs.length : Int) ≤ a) = true from decide_eq_true (by omega))
              have HF := Lib.hid (HV.out.trans (ssOk_bad (n := xs.length) hlt (by rw [HGE.out, decide_eq_false han]; simp)))
              go_wp2_with fail
              have e0 : (wo.alloc (.cells #[.string s, .int .i64 a, .int .i64 r] 67)).cell? ⟨wo.heap.size, 0, none⟩ = some (.string s) := by simp
              have e1 : (wo.alloc (.cells #[.string s, .int .i64 a, .int .i64 r] 67)).cell? ⟨wo.heap.size, 1, none⟩ = some (.int .i64 a) := by simp
              have e2 : (wo.alloc (.cells #[.string s, .int .i64 a, .int .i64 r] 67)).cell? ⟨wo.heap.size, 2, none⟩ = some (.int .i64 r) := by simp
              have kA := cellK kA (below_box wo (.cells #[.string s, .int .i64 a, .int .i64 r] 67))
              refine wp_region_held (S := fun w' => w'.cell? ⟨wo.heap.size, 0, none⟩ = some (.string s) ∧ w'.cell? ⟨wo.heap.size, 1, none⟩ = some (.int .i64 a) ∧ w'.cell? ⟨wo.heap.size, 2, none⟩ = some (.int .i64 r) ∧ w'.cell? ⟨w.heap.size, 1, none⟩ = some (.slice A xs.length cap) ∧ Below (wo.alloc (.cells #[.string s, .int .i64 a, .int .i64 r] 67)).heap.size (wo.alloc (.cells #[.string s, .int .i64 a, .int .i64 r] 67)) w') (by kernel_rfl) ?_
              try (change wpAnyH _ _ _ _ _ _ _ _ (World.drew _))
              have hS0 := (show (wo.alloc (.cells #[.string s, .int .i64 a, .int .i64 r] 67)).drew.cell? ⟨wo.heap.size, 0, none⟩ = some (.string s) ∧ (wo.alloc (.cells #[.string s, .int .i64 a, .int .i64 r] 67)).drew.cell? ⟨wo.heap.size, 1, none⟩ = some (.int .i64 a) ∧ (wo.alloc (.cells #[.string s, .int .i64 a, .int .i64 r] 67)).drew.cell? ⟨wo.heap.size, 2, none⟩ = some (.int .i64 r) ∧ (wo.alloc (.cells #[.string s, .int .i64 a, .int .i64 r] 67)).drew.cell? ⟨w.heap.size, 1, none⟩ = some (.slice A xs.length cap) ∧ Below (wo.alloc (.cells #[.string s, .int .i64 a, .int .i64 r] 67)).heap.size (wo.alloc (.cells #[.string s, .int .i64 a, .int .i64 r] 67)) (wo.alloc (.cells #[.string s, .int .i64 a, .int .i64 r] 67)).drew from ⟨e0, e1, e2, kA, Below.drew (Below.refl _ _)⟩)
              refine gTake 0 (v := ?_) rfl (by kernel_rfl) (by kernel_rfl) (by kernel_rfl) (fun _ _ _ h => h) (by kernel_rfl) ?_ hS0 ?_
              rotate_left
              · (intro W hW; have q0 := hW.1; have q1 := hW.2.1; have q2 := hW.2.2.1; have q3 := hW.2.2.2.1; clear hW; go_simp; try with_reducible rfl)
              refine gOne 1 rfl (by kernel_rfl) (by kernel_rfl) (fun K hK => ?_)
              go_simp
              go_at_call 45
              (with_reducible refine (soValid_any s a r _ hsz).mono ?_)
              rintro e wq0 ⟨rfl, hdq0⟩
              try go_simp
              have hS1 := (show wq0.cell? ⟨wo.heap.size, 0, none⟩ = some (.string s) ∧ wq0.cell? ⟨wo.heap.size, 1, none⟩ = some (.int .i64 a) ∧ wq0.cell? ⟨wo.heap.size, 2, none⟩ = some (.int .i64 r) ∧ wq0.cell? ⟨w.heap.size, 1, none⟩ = some (.slice A xs.length cap) ∧ Below (wo.alloc (.cells #[.string s, .int .i64 a, .int .i64 r] 67)).heap.size (wo.alloc (.cells #[.string s, .int .i64 a, .int .i64 r] 67)) wq0 from ⟨cellK hS0.1 hdq0, cellK hS0.2.1 hdq0, cellK hS0.2.2.1 hdq0, cellK hS0.2.2.2.1 hdq0, hS0.2.2.2.2.trans (hdq0.mono hS0.2.2.2.2.size)⟩)
              refine hK _ _ hS1 ?_
              clear hK K
              refine gTake 2 (v := ?_) rfl (by kernel_rfl) (by kernel_rfl) (by kernel_rfl) (fun _ _ _ h => h) (by kernel_rfl) ?_ hS1 ?_
              rotate_left
              · (intro W hW; clear hW; go_simp; try with_reducible rfl)
              refine gTake 3 (v := ?_) rfl (by kernel_rfl) (by kernel_rfl) (by kernel_rfl) (fun _ _ _ h => h) (by kernel_rfl) ?_ hS1 ?_
              rotate_left
              · (intro W hW; clear hW; go_simp; try with_reducible rfl)
              refine gTake 4 (v := ?_) rfl (by kernel_rfl) (by kernel_rfl) (by kernel_rfl) (fun _ _ _ h => h) (by kernel_rfl) ?_ hS1 ?_
              rotate_left
              · (intro W hW; clear hW; go_simp; try with_reducible rfl)
              refine gTake 5 (v := ?_) rfl (by kernel_rfl) (by kernel_rfl) (by kernel_rfl) (fun _ _ _ h => h) (by kernel_rfl) ?_ hS1 ?_
              rotate_left
              · (intro W hW; have q0 := hW.1; have q1 := hW.2.1; have q2 := hW.2.2.1; have q3 := hW.2.2.2.1; clear hW; go_simp; try with_reducible rfl)
              refine gTake 6 (v := ?_) rfl (by kernel_rfl) (by kernel_rfl) (by kernel_rfl) (fun _ _ _ h => h) (by kernel_rfl) ?_ hS1 ?_
              rotate_left
              · (intro W hW; clear hW; go_simp; try with_reducible rfl)
              refine gTake 7 (v := ?_) rfl (by kernel_rfl) (by kernel_rfl) (by kernel_rfl) (fun _ _ _ h => h) (by kernel_rfl) ?_ hS1 ?_
              rotate_left
              · (intro W hW; have q0 := hW.1; have q1 := hW.2.1; have q2 := hW.2.2.1; have q3 := hW.2.2.2.1; clear hW; go_simp; try with_reducible rfl)
              refine gTake 8 (v := ?_) rfl (by kernel_rfl) (by kernel_rfl) (by kernel_rfl) (fun _ _ _ h => h) (by kernel_rfl) ?_ hS1 ?_
              rotate_left
              · (intro W hW; clear hW; go_simp; try with_reducible rfl)
              refine gTake 9 (v := ?_) rfl (by kernel_rfl) (by kernel_rfl) (by kernel_rfl) (fun _ _ _ h => h) (by kernel_rfl) ?_ hS1 ?_
              rotate_left
              · (intro W hW; clear hW; go_simp; (try rw [HDN.out]); try with_reducible rfl)
              refine gTake 10 (v := ?_) rfl (by kernel_rfl) (by kernel_rfl) (by kernel_rfl) (fun _ _ _ h => h) (by kernel_rfl) ?_ hS1 ?_
              rotate_left
              · (intro W hW; clear hW; go_simp; try with_reducible rfl)
              refine gTake 11 (v := ?_) rfl (by kernel_rfl) (by kernel_rfl) (by kernel_rfl) (fun _ _ _ h => h) (by kernel_rfl) ?_ hS1 ?_
              rotate_left
              · (intro W hW; clear hW; go_simp; try with_reducible rfl)
              refine gSkip 12 rfl (by kernel_rfl) (by kernel_rfl) (by kernel_rfl) (fun _ _ _ h => h) (by kernel_rfl) hS1 ?_
              refine gSkip 13 rfl (by kernel_rfl) (by kernel_rfl) (by kernel_rfl) (fun _ _ _ h => h) (by kernel_rfl) hS1 ?_
              refine gSkip 14 rfl (by kernel_rfl) (by kernel_rfl) (by kernel_rfl) (fun _ _ _ h => h) (by kernel_rfl) hS1 ?_
              refine gSkip 15 rfl (by kernel_rfl) (by kernel_rfl) (by kernel_rfl) (fun _ _ _ h => h) (by kernel_rfl) hS1 ?_
              refine gSkip 16 rfl (by kernel_rfl) (by kernel_rfl) (by kernel_rfl) (fun _ _ _ h => h) (by kernel_rfl) hS1 ?_
              refine gSkip 17 rfl (by kernel_rfl) (by kernel_rfl) (by kernel_rfl) (fun _ _ _ h => h) (by kernel_rfl) hS1 ?_
              refine gSkip 18 rfl (by kernel_rfl) (by kernel_rfl) (by kernel_rfl) (fun _ _ _ h => h) (by kernel_rfl) hS1 ?_
              refine gSkip 19 rfl (by kernel_rfl) (by kernel_rfl) (by kernel_rfl) (fun _ _ _ h => h) (by kernel_rfl) hS1 ?_
              refine gSkip 20 rfl (by kernel_rfl) (by kernel_rfl) (by kernel_rfl) (fun _ _ _ h => h) (by kernel_rfl) hS1 ?_
              refine gSkip 21 rfl (by kernel_rfl) (by kernel_rfl) (by kernel_rfl) (fun _ _ _ h => h) (by kernel_rfl) hS1 ?_
              refine gSkip 22 rfl (by kernel_rfl) (by kernel_rfl) (by kernel_rfl) (fun _ _ _ h => h) (by kernel_rfl) hS1 ?_
              refine gSkip 23 rfl (by kernel_rfl) (by kernel_rfl) (by kernel_rfl) (fun _ _ _ h => h) (by kernel_rfl) hS1 ?_
              refine gSkip 24 rfl (by kernel_rfl) (by kernel_rfl) (by kernel_rfl) (fun _ _ _ h => h) (by kernel_rfl) hS1 ?_
              refine gTake 25 (v := ?_) rfl (by kernel_rfl) (by kernel_rfl) (by kernel_rfl) (fun _ _ _ h => h) (by kernel_rfl) ?_ hS1 ?_
              rotate_left
              · (intro W hW; clear hW; go_simp; try with_reducible rfl)
              refine wpAnyH_done (by kernel_rfl) ?_ _
              go_simp
              go_wp2
              go_ret
              exact ⟨ret_bool HF.out.symm, HBX.out.trans ((hbel0.out.trans (((below_box wo (.cells #[.string s, .int .i64 a, .int .i64 r] 67)).trans (hS1.2.2.2.2.mono (by simp))).mono hbel0.out.size)).mono HBX.out.size)⟩
        · obtain rfl : k = ss.length := by omega
          have HF := Lib.hid (show svOk J xs ss = true by rw [HV.out]; exact ssOk_iff.2 ⟨fun j hj => HG.out j hj, h8⟩)
          go_wp2
          go_ret
          exact ⟨ret_bool HF.out.symm, hbel⟩
    · have HF := Lib.hid (show svOk J xs ss = false by rw [HV.out, ← Bool.not_eq_true, ssOk_iff]; exact fun hh => h8 hh.2)
      have t8 : (8 : Int) < (ss.length : Int) := by omega
      go_enter Try.func14, Try.ntmps14
      go_wp2_with fail
      (with_reducible refine (HM.out).mono ?_)
      rintro e w1 ⟨rfl, hd1⟩
      rw [hok]
      go_wp2
      go_ret
      exact ⟨ret_bool HF.out.symm, HB0.out.trans (hd1.mono HB0.out.size)⟩
end Go.Proofs.Ythbofhlfggkolaa
