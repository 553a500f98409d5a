/-
  Contracts of the texts of air that are read: the model's and the program's. Conditions: those that each theorem states.
-/
import Derived.Test.YtkbgfajkcdjjiabDoorNh
import Derived.Test.YtkbgfajkcdjjiabDoorNg
import Derived.Test.YtkbgfajkcdjjiabDoorCa
import Derived.Test.YtkbgfajkcdjjiabDoorRg
import Derived.Laws.StructEq
namespace Go.Proofs.YtkbgfajkcdjjiabDoor
open Go.RowKit
set_option linter.unusedVariables false
set_option linter.unusedSimpArgs false

/-- Whether a text is that of air, and its three numbers (0 if it is not). -/
def airRd (d : List UInt8) : Bool := listB d && ((listV d).length == 3 && airOk ((listV d).getD 0 0) ((listV d).getD 1 0) ((listV d).getD 2 0))
def airV (d : List UInt8) (i : Nat) : Int := if airRd d then (listV d).getD i 0 else 0
theorem air_cases (d : List UInt8) : (airRd d = false ∧ (∀ i, airV d i = 0) ∧ (listB d = false ∨ (listB d = true ∧ (listV d).length ≠ 3) ∨ ∃ t p h, listB d = true ∧ listV d = [t, p, h] ∧ airOk t p h = false)) ∨ (∃ t p h, listB d = true ∧ listV d = [t, p, h] ∧ airOk t p h = true ∧ airRd d = true ∧ airV d 0 = t ∧ airV d 1 = p ∧ airV d 2 = h) := by
  have no : airRd d = false → ∀ i, airV d i = 0 := fun h i => by simp [airV, h]
  cases hb : listB d
  · have h : airRd d = false := by simp [airRd, hb]
    exact .inl ⟨h, no h, .inl rfl⟩
  · by_cases hl : (listV d).length = 3
    · obtain ⟨t, p, h, hx⟩ : ∃ t p h, listV d = [t, p, h] := by
        match listV d, hl with
        | [t, p, h], _ => exact ⟨t, p, h, rfl⟩
      cases ho : airOk t p h
      · have h : airRd d = false := by simp [airRd, hb, hx, ho]
        exact .inl ⟨h, no h, .inr (.inr ⟨_, _, _, rfl, hx, ho⟩)⟩
      · have h : airRd d = true := by simp [airRd, hb, hx, ho]
        exact .inr ⟨_, _, _, rfl, hx, ho, h, by simp [airV, h, hx], by simp [airV, h, hx], by simp [airV, h, hx]⟩
    · have h : airRd d = false := by simp [airRd, hb, hl]
      exact .inl ⟨h, no h, .inr (.inl ⟨rfl, hl⟩)⟩
theorem airV_zero {d : List UInt8} (h : airRd d = true) : 50000 ≤ airV d 1 := by
  rcases air_cases d with ⟨h', _⟩ | ⟨t, p, z, _, _, ho, _, _, h1, _⟩
  · rw [h] at h'; cases h'
  · rw [h1]; exact (airOk_iff.1 ho).1.2.1
theorem viaS {A B C : Prop} (hK : A → B → C) (hs : A) (h : A → B) : C := hK hs (h hs)
theorem keepC {w w' : World} {g : Nat} {t p h : Int} (hS : w.cell? ⟨g, 0, none⟩ = some (.int .i64 t) ∧ w.cell? ⟨g, 1, none⟩ = some (.int .i64 p) ∧ w.cell? ⟨g, 2, none⟩ = some (.int .i64 h)) (hb : Below w.heap.size w w') : w'.cell? ⟨g, 0, none⟩ = some (.int .i64 t) ∧ w'.cell? ⟨g, 1, none⟩ = some (.int .i64 p) ∧ w'.cell? ⟨g, 2, none⟩ = some (.int .i64 h) :=
  ⟨cellK hS.1 hb, cellK hS.2.1 hb, cellK hS.2.2 hb⟩
theorem alc3 {X : World} {b : Nat} {x y z : Value} {t : TypeId} (h : X.heap.size = b) : (X.alloc (.cells #[x, y, z] t)).cell? ⟨b, 0, none⟩ = some x ∧ (X.alloc (.cells #[x, y, z] t)).cell? ⟨b, 1, none⟩ = some y ∧ (X.alloc (.cells #[x, y, z] t)).cell? ⟨b, 2, none⟩ = some z := by
  subst h
  exact ⟨by simp, by simp, by simp⟩
theorem air_same {t p h t' p' h' : Int} {b b' : Bool} (e0 : t = t') (e1 : p = p') (e2 : h = h') (e3 : b = b') : Ending.returned (.tuple #[.agg #[.int .i64 t, .int .i64 p, .int .i64 h], .bool b]) = .returned (.tuple #[.agg #[.int .i64 t', .int .i64 p', .int .i64 h'], .bool b']) := by subst e0 e1 e2 e3; rfl
theorem air_same1 {t p h t' p' h' : Int} (e0 : t = t') (e1 : p = p') (e2 : h = h') : Ending.returned (.agg #[.int .i64 t, .int .i64 p, .int .i64 h]) = .returned (.agg #[.int .i64 t', .int .i64 p', .int .i64 h']) := by subst e0 e1 e2; rfl
set_option maxHeartbeats 1000000 in
theorem sL02Read_any (s : ByteArray) (w : World) (hs : s.size ≤ 1048576) : Calls Tryd.prog 57 #[.string s] w fun e w' => e = .returned (.tuple #[.agg #[.int .i64 (airV s.data.toList 0), .int .i64 (airV s.data.toList 1), .int .i64 (airV s.data.toList 2)], .bool (airRd s.data.toList)]) ∧ Below w.heap.size w w' := by
  have HS := Lib.hid (fun W => sReadList_any s W hs)
  clear hs
  have hxl := listV_len s.data.toList
  rcases air_cases s.data.toList with ⟨hr, hv, hcs⟩ | ⟨t, p, h, hb, hx, hok, hr, h0, h1, h2⟩
  · have HZ := Lib.hid (And.intro hv hr)
    clear hv hr
    rcases hcs with hb | ⟨hb, hl⟩ | ⟨t, p, h, hb, hx, hok⟩
    · rw [hb] at HS
      generalize listV s.data.toList = xs at *
      go_enter Tryd.func57, Tryd.ntmps57
      go_wp2_with fail
      refine (HS.out _).mono ?_
      rintro e w1 ⟨v1, rfl, ho, hb⟩
      have HB := Lib.hid (show Below w.heap.size w w1 from (below_box _ _).trans (hb.mono (by simp)))
      obtain ⟨hc, hf⟩ := bcell hb
      have hz : w.heap.size < w1.heap.size := Nat.lt_of_lt_of_le (by simp) hb.size
      clear ho hb
      go_wp2
      refine bodyPost_ret (v := .tuple #[.agg #[.int .i64 0, .int .i64 0, .int .i64 0], .bool false]) (by simp [results, Tryd.results57, go_sem, hc]) rfl ⟨air_same (HZ.out.1 0).symm (HZ.out.1 1).symm (HZ.out.1 2).symm HZ.out.2.symm, ?_⟩
      exact (by repeat (first | (with_reducible exact HB.out) | (with_reducible refine below_drewN' ?_ _) | (with_reducible refine Below.drew ?_) | (with_reducible refine Below.alloc ?_ (by simp <;> omega) _) | (with_reducible refine Below.setCell ?_ (by simp) _)))
    · rw [hb] at HS
      generalize listV s.data.toList = xs at *
      have t1 : ((xs.length : Int) != 3) = true := by simp; omega
      go_enter Tryd.func57, Tryd.ntmps57
      go_wp2_with fail
      refine (HS.out _).mono ?_
      rintro e w1 ⟨v1, rfl, ho, hb⟩
      have HB := Lib.hid (show Below w.heap.size w w1 from (below_box _ _).trans (hb.mono (by simp)))
      obtain ⟨hc, hf⟩ := bcell hb
      have hz : w.heap.size < w1.heap.size := Nat.lt_of_lt_of_le (by simp) hb.size
      obtain ⟨g, cap, rfl⟩ := OwnI.form (show OwnI w1 _ v1 xs from ho)
      clear ho hb
      go_wp2
      refine bodyPost_ret (v := .tuple #[.agg #[.int .i64 0, .int .i64 0, .int .i64 0], .bool false]) (by simp [results, Tryd.results57, go_sem, hc]) rfl ⟨air_same (HZ.out.1 0).symm (HZ.out.1 1).symm (HZ.out.1 2).symm HZ.out.2.symm, ?_⟩
      exact (by repeat (first | (with_reducible exact HB.out) | (with_reducible refine below_drewN' ?_ _) | (with_reducible refine Below.drew ?_) | (with_reducible refine Below.alloc ?_ (by simp <;> omega) _) | (with_reducible refine Below.setCell ?_ (by simp) _)))
    · rw [hb, hx] at HS
      clear hxl hx hb
      go_enter Tryd.func57, Tryd.ntmps57
      go_wp2_with fail
      refine (HS.out _).mono ?_
      rintro e w1 ⟨v1, rfl, ho, hb⟩
      have HB := Lib.hid (show Below w.heap.size w w1 from (below_box _ _).trans (hb.mono (by simp)))
      obtain ⟨hc, hf⟩ := bcell hb
      have hz : w.heap.size < w1.heap.size := Nat.lt_of_lt_of_le (by simp) hb.size
      obtain ⟨g, cap, rfl, hg, hgl⟩ := ho.form (by simp)
      have c0 : w1.cell? ⟨g, 0, none⟩ = some (.int .i64 t) := by rw [ho.cellAt 0 (by simp)]; rfl
      have c1 : w1.cell? ⟨g, 1, none⟩ = some (.int .i64 p) := by rw [ho.cellAt 1 (by simp)]; rfl
      have c2 : w1.cell? ⟨g, 2, none⟩ = some (.int .i64 h) := by rw [ho.cellAt 2 (by simp)]; rfl
      clear ho hb
      go_wp2_with fail
      have hne : ¬ (w1.heap.size = g) := by omega
      have hne2 : ¬ (g = w1.heap.size) := by omega
      have hn1 : ¬ (w.heap.size = w1.heap.size) := by omega
      have hn2 : ¬ (w1.heap.size = w.heap.size) := by omega
      have hn3 : ¬ (w.heap.size = w1.heap.size + 1) := by omega
      have hn4 : ¬ (w1.heap.size + 1 = w.heap.size) := by omega
      have hz2 : w.heap.size < w1.heap.size + 1 := by omega
      have hc0 : (w1.drew.cell? ⟨g, 0, none⟩ = some (.int .i64 t) ∧ w1.drew.cell? ⟨g, 1, none⟩ = some (.int .i64 p) ∧ w1.drew.cell? ⟨g, 2, none⟩ = some (.int .i64 h)) := ⟨c0, c1, c2⟩
      refine wp_region_held (S := fun w' => w'.cell? ⟨g, 0, none⟩ = some (.int .i64 t) ∧ w'.cell? ⟨g, 1, none⟩ = some (.int .i64 p) ∧ w'.cell? ⟨g, 2, none⟩ = some (.int .i64 h)) (by kernel_rfl) ?_
      try (change wpAnyH _ _ _ _ _ _ _ _ (World.drew _))
      have hS0 := hc0
      refine gTake 0 (v := ?_) rfl (by kernel_rfl) (by kernel_rfl) (by kernel_rfl) (fun _ _ _ h => h) (by kernel_rfl) ?_ hS0 ?_
      rotate_left
      · (intro W hW; clear hW; go_simp; try with_reducible rfl)
      refine gTake 1 (v := ?_) rfl (by kernel_rfl) (by kernel_rfl) (by kernel_rfl) (fun _ _ _ h => h) (by kernel_rfl) ?_ hS0 ?_
      rotate_left
      · (intro W hW; clear hW; go_simp; try with_reducible rfl)
      refine gTake 2 (v := ?_) rfl (by kernel_rfl) (by kernel_rfl) (by kernel_rfl) (fun _ _ _ h => h) (by kernel_rfl) ?_ hS0 ?_
      rotate_left
      · (intro W hW; have q0 := hW.1; have q1 := hW.2.1; have q2 := hW.2.2; clear hW; go_simp; try with_reducible rfl)
      refine gTake 3 (v := ?_) rfl (by kernel_rfl) (by kernel_rfl) (by kernel_rfl) (fun _ _ _ h => h) (by kernel_rfl) ?_ hS0 ?_
      rotate_left
      · (intro W hW; clear hW; go_simp; try with_reducible rfl)
      refine gTake 4 (v := ?_) rfl (by kernel_rfl) (by kernel_rfl) (by kernel_rfl) (fun _ _ _ h => h) (by kernel_rfl) ?_ hS0 ?_
      rotate_left
      · (intro W hW; clear hW; go_simp; try with_reducible rfl)
      refine gTake 5 (v := ?_) rfl (by kernel_rfl) (by kernel_rfl) (by kernel_rfl) (fun _ _ _ h => h) (by kernel_rfl) ?_ hS0 ?_
      rotate_left
      · (intro W hW; have q0 := hW.1; have q1 := hW.2.1; have q2 := hW.2.2; clear hW; go_simp; try with_reducible rfl)
      refine gTake 6 (v := ?_) rfl (by kernel_rfl) (by kernel_rfl) (by kernel_rfl) (fun _ _ _ h => h) (by kernel_rfl) ?_ hS0 ?_
      rotate_left
      · (intro W hW; clear hW; go_simp; try with_reducible rfl)
      refine gTake 7 (v := ?_) rfl (by kernel_rfl) (by kernel_rfl) (by kernel_rfl) (fun _ _ _ h => h) (by kernel_rfl) ?_ hS0 ?_
      rotate_left
      · (intro W hW; clear hW; go_simp; try with_reducible rfl)
      refine gTake 8 (v := ?_) rfl (by kernel_rfl) (by kernel_rfl) (by kernel_rfl) (fun _ _ _ h => h) (by kernel_rfl) ?_ hS0 ?_
      rotate_left
      · (intro W hW; have q0 := hW.1; have q1 := hW.2.1; have q2 := hW.2.2; clear hW; go_simp; try with_reducible rfl)
      refine gTake 9 (v := ?_) rfl (by kernel_rfl) (by kernel_rfl) (by kernel_rfl) (fun _ _ _ h => h) (by kernel_rfl) ?_ hS0 ?_
      rotate_left
      · (intro W hW; clear hW; go_simp; try with_reducible rfl)
      refine gOne 10 rfl (by kernel_rfl) (by kernel_rfl) (fun K hK => ?_)
      go_simp
      skip
      have hS1 := keepC hS0 (below_box w1.drew (.cells #[.int .i64 0, .int .i64 0, .int .i64 0] 48))
      refine hK _ _ hS1 ?_
      clear hK K
      refine gOne 11 rfl (by kernel_rfl) (by kernel_rfl) (fun K hK => ?_)
      go_simp
      skip
      refine viaS (hK _ _) ?_ (fun hS2 => ?_)
      · exact ⟨by simp; exact cellK c0 (below_box _ _), by simp; exact cellK c1 (below_box _ _), by simp; exact cellK c2 (below_box _ _)⟩
      clear hK K
      refine wpAnyH_done (by kernel_rfl) ?_ _
      go_simp
      go_wp2_with fail
      (with_reducible refine (l02Ok_any w1.heap.size t p h _ (by simp) (by simp) (by simp)).mono ?_)
      rintro e w2 ⟨rfl, rfl⟩
      rw [hok]
      go_wp2
      refine bodyPost_ret (v := .tuple #[.agg #[.int .i64 0, .int .i64 0, .int .i64 0], .bool false]) (by simp [results, Tryd.results57, go_sem, hc, hn1, hn2, hn3, hn4, hz, hz2]) rfl ⟨air_same (HZ.out.1 0).symm (HZ.out.1 1).symm (HZ.out.1 2).symm HZ.out.2.symm, ?_⟩
      exact (by repeat (first | (with_reducible exact HB.out) | (with_reducible refine below_drewN' ?_ _) | (with_reducible refine Below.drew ?_) | (with_reducible refine Below.alloc ?_ (by simp <;> omega) _) | (with_reducible refine Below.setCell ?_ (by simp) _)))
  · have HZ := Lib.hid (And.intro (And.intro h0 (And.intro h1 h2)) hr)
    rw [hb, hx] at HS
    clear hxl hx hb h0 h1 h2 hr
    go_enter Tryd.func57, Tryd.ntmps57
    go_wp2_with fail
    refine (HS.out _).mono ?_
    rintro e w1 ⟨v1, rfl, ho, hb⟩
    have HB := Lib.hid (show Below w.heap.size w w1 from (below_box _ _).trans (hb.mono (by simp)))
    obtain ⟨hc, hf⟩ := bcell hb
    have hz : w.heap.size < w1.heap.size := Nat.lt_of_lt_of_le (by simp) hb.size
    obtain ⟨g, cap, rfl, hg, hgl⟩ := ho.form (by simp)
    have c0 : w1.cell? ⟨g, 0, none⟩ = some (.int .i64 t) := by rw [ho.cellAt 0 (by simp)]; rfl
    have c1 : w1.cell? ⟨g, 1, none⟩ = some (.int .i64 p) := by rw [ho.cellAt 1 (by simp)]; rfl
    have c2 : w1.cell? ⟨g, 2, none⟩ = some (.int .i64 h) := by rw [ho.cellAt 2 (by simp)]; rfl
    clear ho hb
    go_wp2_with fail
    have hne : ¬ (w1.heap.size = g) := by omega
    have hne2 : ¬ (g = w1.heap.size) := by omega
    have hn1 : ¬ (w.heap.size = w1.heap.size) := by omega
    have hn2 : ¬ (w1.heap.size = w.heap.size) := by omega
    have hn3 : ¬ (w.heap.size = w1.heap.size + 1) := by omega
    have hn4 : ¬ (w1.heap.size + 1 = w.heap.size) := by omega
    have hz2 : w.heap.size < w1.heap.size + 1 := by omega
    have hc0 : (w1.drew.cell? ⟨g, 0, none⟩ = some (.int .i64 t) ∧ w1.drew.cell? ⟨g, 1, none⟩ = some (.int .i64 p) ∧ w1.drew.cell? ⟨g, 2, none⟩ = some (.int .i64 h)) := ⟨c0, c1, c2⟩
    refine wp_region_held (S := fun w' => w'.cell? ⟨g, 0, none⟩ = some (.int .i64 t) ∧ w'.cell? ⟨g, 1, none⟩ = some (.int .i64 p) ∧ w'.cell? ⟨g, 2, none⟩ = some (.int .i64 h)) (by kernel_rfl) ?_
    try (change wpAnyH _ _ _ _ _ _ _ _ (World.drew _))
    have hS0 := hc0
    refine gTake 0 (v := ?_) rfl (by kernel_rfl) (by kernel_rfl) (by kernel_rfl) (fun _ _ _ h => h) (by kernel_rfl) ?_ hS0 ?_
    rotate_left
    · (intro W hW; clear hW; go_simp; try with_reducible rfl)
    refine gTake 1 (v := ?_) rfl (by kernel_rfl) (by kernel_rfl) (by kernel_rfl) (fun _ _ _ h => h) (by kernel_rfl) ?_ hS0 ?_
    rotate_left
    · (intro W hW; clear hW; go_simp; try with_reducible rfl)
    refine gTake 2 (v := ?_) rfl (by kernel_rfl) (by kernel_rfl) (by kernel_rfl) (fun _ _ _ h => h) (by kernel_rfl) ?_ hS0 ?_
    rotate_left
    · (intro W hW; have q0 := hW.1; have q1 := hW.2.1; have q2 := hW.2.2; clear hW; go_simp; try with_reducible rfl)
    refine gTake 3 (v := ?_) rfl (by kernel_rfl) (by kernel_rfl) (by kernel_rfl) (fun _ _ _ h => h) (by kernel_rfl) ?_ hS0 ?_
    rotate_left
    · (intro W hW; clear hW; go_simp; try with_reducible rfl)
    refine gTake 4 (v := ?_) rfl (by kernel_rfl) (by kernel_rfl) (by kernel_rfl) (fun _ _ _ h => h) (by kernel_rfl) ?_ hS0 ?_
    rotate_left
    · (intro W hW; clear hW; go_simp; try with_reducible rfl)
    refine gTake 5 (v := ?_) rfl (by kernel_rfl) (by kernel_rfl) (by kernel_rfl) (fun _ _ _ h => h) (by kernel_rfl) ?_ hS0 ?_
    rotate_left
    · (intro W hW; have q0 := hW.1; have q1 := hW.2.1; have q2 := hW.2.2; clear hW; go_simp; try with_reducible rfl)
    refine gTake 6 (v := ?_) rfl (by kernel_rfl) (by kernel_rfl) (by kernel_rfl) (fun _ _ _ h => h) (by kernel_rfl) ?_ hS0 ?_
    rotate_left
    · (intro W hW; clear hW; go_simp; try with_reducible rfl)
    refine gTake 7 (v := ?_) rfl (by kernel_rfl) (by kernel_rfl) (by kernel_rfl) (fun _ _ _ h => h) (by kernel_rfl) ?_ hS0 ?_
    rotate_left
    · (intro W hW; clear hW; go_simp; try with_reducible rfl)
    refine gTake 8 (v := ?_) rfl (by kernel_rfl) (by kernel_rfl) (by kernel_rfl) (fun _ _ _ h => h) (by kernel_rfl) ?_ hS0 ?_
    rotate_left
    · (intro W hW; have q0 := hW.1; have q1 := hW.2.1; have q2 := hW.2.2; clear hW; go_simp; try with_reducible rfl)
    refine gTake 9 (v := ?_) rfl (by kernel_rfl) (by kernel_rfl) (by kernel_rfl) (fun _ _ _ h => h) (by kernel_rfl) ?_ hS0 ?_
    rotate_left
    · (intro W hW; clear hW; go_simp; try with_reducible rfl)
    refine gOne 10 rfl (by kernel_rfl) (by kernel_rfl) (fun K hK => ?_)
    go_simp
    skip
    have hS1 := keepC hS0 (below_box w1.drew (.cells #[.int .i64 0, .int .i64 0, .int .i64 0] 48))
    refine hK _ _ hS1 ?_
    clear hK K
    refine gOne 11 rfl (by kernel_rfl) (by kernel_rfl) (fun K hK => ?_)
    go_simp
    skip
    refine viaS (hK _ _) ?_ (fun hS2 => ?_)
    · exact ⟨by simp; exact cellK c0 (below_box _ _), by simp; exact cellK c1 (below_box _ _), by simp; exact cellK c2 (below_box _ _)⟩
    clear hK K
    refine wpAnyH_done (by kernel_rfl) ?_ _
    go_simp
    go_wp2_with fail
    (with_reducible refine (l02Ok_any w1.heap.size t p h _ (by simp) (by simp) (by simp)).mono ?_)
    rintro e w2 ⟨rfl, rfl⟩
    rw [hok]
    go_wp2
    refine bodyPost_ret (v := .tuple #[.agg #[.int .i64 t, .int .i64 p, .int .i64 h], .bool true]) (by simp [results, Tryd.results57, go_sem, hc, hn1, hn2, hn3, hn4, hz, hz2]) rfl ⟨air_same HZ.out.1.1.symm HZ.out.1.2.1.symm HZ.out.1.2.2.symm HZ.out.2.symm, ?_⟩
    exact (by repeat (first | (with_reducible exact HB.out) | (with_reducible refine below_drewN' ?_ _) | (with_reducible refine Below.drew ?_) | (with_reducible refine Below.alloc ?_ (by simp <;> omega) _) | (with_reducible refine Below.setCell ?_ (by simp) _)))
set_option maxHeartbeats 1000000 in
theorem airIn_any (s : ByteArray) (w : World) (hs : s.size ≤ 1048576) (hP : Pow w) (hE : ErrV w) (hM : MaxV w) : Calls Tryd.prog 58 #[.string s] w fun e w' => e = .returned (.agg #[.int .i64 (airV s.data.toList 0), .int .i64 (airV s.data.toList 1), .int .i64 (airV s.data.toList 2)]) ∧ Below w.heap.size w w' := by
  have HI := Lib.hid (fun W (h : Below w.heap.size w W) => iReadList_any s W hs (hP.below h) (hE.below h) (hM.below h))
  clear hs hP hE hM
  have hxl := listV_len s.data.toList
  rcases air_cases s.data.toList with ⟨hr, hv, hcs⟩ | ⟨t, p, h, hb, hx, hok, hr, h0, h1, h2⟩
  · have HZ := Lib.hid (And.intro hv hr)
    clear hv hr
    rcases hcs with hb | ⟨hb, hl⟩ | ⟨t, p, h, hb, hx, hok⟩
    · rw [hb] at HI
      generalize listV s.data.toList = xs at *
      go_enter Tryd.func58, Tryd.ntmps58
      go_wp2_with fail
      refine (HI.out _ (below_box _ _)).mono ?_
      rintro e w1 ⟨v1, rfl, ho, hb⟩
      have HB := Lib.hid (show Below w.heap.size w w1 from (below_box _ _).trans (hb.mono (by simp)))
      obtain ⟨hc, hf⟩ := bcell hb
      have hz : w.heap.size < w1.heap.size := Nat.lt_of_lt_of_le (by simp) hb.size
      clear ho hb
      go_wp2
      refine bodyPost_ret (v := .agg #[.int .i64 0, .int .i64 0, .int .i64 0]) (by simp [results, Tryd.results58, go_sem, hc]) rfl ⟨air_same1 (HZ.out.1 0).symm (HZ.out.1 1).symm (HZ.out.1 2).symm, ?_⟩
      exact (by repeat (first | (with_reducible exact HB.out) | (with_reducible refine below_drewN' ?_ _) | (with_reducible refine Below.drew ?_) | (with_reducible refine Below.alloc ?_ (by simp <;> omega) _) | (with_reducible refine Below.setCell ?_ (by simp) _)))
    · rw [hb] at HI
      generalize listV s.data.toList = xs at *
      have t1 : ((xs.length : Int) != 3) = true := by simp; omega
      go_enter Tryd.func58, Tryd.ntmps58
      go_wp2_with fail
      refine (HI.out _ (below_box _ _)).mono ?_
      rintro e w1 ⟨v1, rfl, ho, hb⟩
      have HB := Lib.hid (show Below w.heap.size w w1 from (below_box _ _).trans (hb.mono (by simp)))
      obtain ⟨hc, hf⟩ := bcell hb
      have hz : w.heap.size < w1.heap.size := Nat.lt_of_lt_of_le (by simp) hb.size
      obtain ⟨g, cap, rfl⟩ := OwnI.form (show OwnI w1 _ v1 xs from ho)
      clear ho hb
      go_wp2
      refine bodyPost_ret (v := .agg #[.int .i64 0, .int .i64 0, .int .i64 0]) (by simp [results, Tryd.results58, go_sem, hc]) rfl ⟨air_same1 (HZ.out.1 0).symm (HZ.out.1 1).symm (HZ.out.1 2).symm, ?_⟩
      exact (by repeat (first | (with_reducible exact HB.out) | (with_reducible refine below_drewN' ?_ _) | (with_reducible refine Below.drew ?_) | (with_reducible refine Below.alloc ?_ (by simp <;> omega) _) | (with_reducible refine Below.setCell ?_ (by simp) _)))
    · rw [hb, hx] at HI
      clear hxl hx hb
      go_enter Tryd.func58, Tryd.ntmps58
      go_wp2_with fail
      refine (HI.out _ (below_box _ _)).mono ?_
      rintro e w1 ⟨v1, rfl, ho, hb⟩
      have HB := Lib.hid (show Below w.heap.size w w1 from (below_box _ _).trans (hb.mono (by simp)))
      obtain ⟨hc, hf⟩ := bcell hb
      have hz : w.heap.size < w1.heap.size := Nat.lt_of_lt_of_le (by simp) hb.size
      obtain ⟨g, cap, rfl, hg, hgl⟩ := ho.form (by simp)
      have c0 : w1.cell? ⟨g, 0, none⟩ = some (.int .i64 t) := by rw [ho.cellAt 0 (by simp)]; rfl
      have c1 : w1.cell? ⟨g, 1, none⟩ = some (.int .i64 p) := by rw [ho.cellAt 1 (by simp)]; rfl
      have c2 : w1.cell? ⟨g, 2, none⟩ = some (.int .i64 h) := by rw [ho.cellAt 2 (by simp)]; rfl
      clear ho hb
      go_wp2_with fail
      have hne : ¬ (w1.heap.size = g) := by omega
      have hne2 : ¬ (g = w1.heap.size) := by omega
      have hn1 : ¬ (w.heap.size = w1.heap.size) := by omega
      have hn2 : ¬ (w1.heap.size = w.heap.size) := by omega
      have hn3 : ¬ (w.heap.size = w1.heap.size + 1) := by omega
      have hn4 : ¬ (w1.heap.size + 1 = w.heap.size) := by omega
      have hz2 : w.heap.size < w1.heap.size + 1 := by omega
      have hc0 : (w1.drew.cell? ⟨g, 0, none⟩ = some (.int .i64 t) ∧ w1.drew.cell? ⟨g, 1, none⟩ = some (.int .i64 p) ∧ w1.drew.cell? ⟨g, 2, none⟩ = some (.int .i64 h)) := ⟨c0, c1, c2⟩
      refine wp_region_held (S := fun w' => w'.cell? ⟨g, 0, none⟩ = some (.int .i64 t) ∧ w'.cell? ⟨g, 1, none⟩ = some (.int .i64 p) ∧ w'.cell? ⟨g, 2, none⟩ = some (.int .i64 h)) (by kernel_rfl) ?_
      try (change wpAnyH _ _ _ _ _ _ _ _ (World.drew _))
      have hS0 := hc0
      refine gTake 0 (v := ?_) rfl (by kernel_rfl) (by kernel_rfl) (by kernel_rfl) (fun _ _ _ h => h) (by kernel_rfl) ?_ hS0 ?_
      rotate_left
      · (intro W hW; clear hW; go_simp; try with_reducible rfl)
      refine gTake 1 (v := ?_) rfl (by kernel_rfl) (by kernel_rfl) (by kernel_rfl) (fun _ _ _ h => h) (by kernel_rfl) ?_ hS0 ?_
      rotate_left
      · (intro W hW; clear hW; go_simp; try with_reducible rfl)
      refine gTake 2 (v := ?_) rfl (by kernel_rfl) (by kernel_rfl) (by kernel_rfl) (fun _ _ _ h => h) (by kernel_rfl) ?_ hS0 ?_
      rotate_left
      · (intro W hW; have q0 := hW.1; have q1 := hW.2.1; have q2 := hW.2.2; clear hW; go_simp; try with_reducible rfl)
      refine gTake 3 (v := ?_) rfl (by kernel_rfl) (by kernel_rfl) (by kernel_rfl) (fun _ _ _ h => h) (by kernel_rfl) ?_ hS0 ?_
      rotate_left
      · (intro W hW; clear hW; go_simp; try with_reducible rfl)
      refine gTake 4 (v := ?_) rfl (by kernel_rfl) (by kernel_rfl) (by kernel_rfl) (fun _ _ _ h => h) (by kernel_rfl) ?_ hS0 ?_
      rotate_left
      · (intro W hW; clear hW; go_simp; try with_reducible rfl)
      refine gTake 5 (v := ?_) rfl (by kernel_rfl) (by kernel_rfl) (by kernel_rfl) (fun _ _ _ h => h) (by kernel_rfl) ?_ hS0 ?_
      rotate_left
      · (intro W hW; have q0 := hW.1; have q1 := hW.2.1; have q2 := hW.2.2; clear hW; go_simp; try with_reducible rfl)
      refine gTake 6 (v := ?_) rfl (by kernel_rfl) (by kernel_rfl) (by kernel_rfl) (fun _ _ _ h => h) (by kernel_rfl) ?_ hS0 ?_
      rotate_left
      · (intro W hW; clear hW; go_simp; try with_reducible rfl)
      refine gTake 7 (v := ?_) rfl (by kernel_rfl) (by kernel_rfl) (by kernel_rfl) (fun _ _ _ h => h) (by kernel_rfl) ?_ hS0 ?_
      rotate_left
      · (intro W hW; clear hW; go_simp; try with_reducible rfl)
      refine gTake 8 (v := ?_) rfl (by kernel_rfl) (by kernel_rfl) (by kernel_rfl) (fun _ _ _ h => h) (by kernel_rfl) ?_ hS0 ?_
      rotate_left
      · (intro W hW; have q0 := hW.1; have q1 := hW.2.1; have q2 := hW.2.2; clear hW; go_simp; try with_reducible rfl)
      refine gTake 9 (v := ?_) rfl (by kernel_rfl) (by kernel_rfl) (by kernel_rfl) (fun _ _ _ h => h) (by kernel_rfl) ?_ hS0 ?_
      rotate_left
      · (intro W hW; clear hW; go_simp; try with_reducible rfl)
      refine gOne 10 rfl (by kernel_rfl) (by kernel_rfl) (fun K hK => ?_)
      go_simp
      skip
      have hS1 := keepC hS0 (below_box w1.drew (.cells #[.int .i64 0, .int .i64 0, .int .i64 0] 48))
      refine hK _ _ hS1 ?_
      clear hK K
      refine gOne 11 rfl (by kernel_rfl) (by kernel_rfl) (fun K hK => ?_)
      go_simp
      skip
      refine viaS (hK _ _) ?_ (fun hS2 => ?_)
      · exact ⟨by simp; exact cellK c0 (below_box _ _), by simp; exact cellK c1 (below_box _ _), by simp; exact cellK c2 (below_box _ _)⟩
      clear hK K
      refine wpAnyH_done (by kernel_rfl) ?_ _
      go_simp
      go_wp2_with fail
      (with_reducible refine (iValidAir_any t p h _).mono ?_)
      rintro e w2 ⟨rfl, rfl⟩
      rw [hok]
      go_wp2
      refine bodyPost_ret (v := .agg #[.int .i64 0, .int .i64 0, .int .i64 0]) (by simp [results, Tryd.results58, go_sem, hc, hn1, hn2, hn3, hn4, hz, hz2]) rfl ⟨air_same1 (HZ.out.1 0).symm (HZ.out.1 1).symm (HZ.out.1 2).symm, ?_⟩
      exact (by repeat (first | (with_reducible exact HB.out) | (with_reducible refine below_drewN' ?_ _) | (with_reducible refine Below.drew ?_) | (with_reducible refine Below.alloc ?_ (by simp <;> omega) _) | (with_reducible refine Below.setCell ?_ (by simp) _)))
  · have HZ := Lib.hid (And.intro (And.intro h0 (And.intro h1 h2)) hr)
    rw [hb, hx] at HI
    clear hxl hx hb h0 h1 h2 hr
    go_enter Tryd.func58, Tryd.ntmps58
    go_wp2_with fail
    refine (HI.out _ (below_box _ _)).mono ?_
    rintro e w1 ⟨v1, rfl, ho, hb⟩
    have HB := Lib.hid (show Below w.heap.size w w1 from (below_box _ _).trans (hb.mono (by simp)))
    obtain ⟨hc, hf⟩ := bcell hb
    have hz : w.heap.size < w1.heap.size := Nat.lt_of_lt_of_le (by simp) hb.size
    obtain ⟨g, cap, rfl, hg, hgl⟩ := ho.form (by simp)
    have c0 : w1.cell? ⟨g, 0, none⟩ = some (.int .i64 t) := by rw [ho.cellAt 0 (by simp)]; rfl
    have c1 : w1.cell? ⟨g, 1, none⟩ = some (.int .i64 p) := by rw [ho.cellAt 1 (by simp)]; rfl
    have c2 : w1.cell? ⟨g, 2, none⟩ = some (.int .i64 h) := by rw [ho.cellAt 2 (by simp)]; rfl
    clear ho hb
    go_wp2_with fail
    have hne : ¬ (w1.heap.size = g) := by omega
    have hne2 : ¬ (g = w1.heap.size) := by omega
    have hn1 : ¬ (w.heap.size = w1.heap.size) := by omega
    have hn2 : ¬ (w1.heap.size = w.heap.size) := by omega
    have hn3 : ¬ (w.heap.size = w1.heap.size + 1) := by omega
    have hn4 : ¬ (w1.heap.size + 1 = w.heap.size) := by omega
    have hz2 : w.heap.size < w1.heap.size + 1 := by omega
    have hc0 : (w1.drew.cell? ⟨g, 0, none⟩ = some (.int .i64 t) ∧ w1.drew.cell? ⟨g, 1, none⟩ = some (.int .i64 p) ∧ w1.drew.cell? ⟨g, 2, none⟩ = some (.int .i64 h)) := ⟨c0, c1, c2⟩
    refine wp_region_held (S := fun w' => w'.cell? ⟨g, 0, none⟩ = some (.int .i64 t) ∧ w'.cell? ⟨g, 1, none⟩ = some (.int .i64 p) ∧ w'.cell? ⟨g, 2, none⟩ = some (.int .i64 h)) (by kernel_rfl) ?_
    try (change wpAnyH _ _ _ _ _ _ _ _ (World.drew _))
    have hS0 := hc0
    refine gTake 0 (v := ?_) rfl (by kernel_rfl) (by kernel_rfl) (by kernel_rfl) (fun _ _ _ h => h) (by kernel_rfl) ?_ hS0 ?_
    rotate_left
    · (intro W hW; clear hW; go_simp; try with_reducible rfl)
    refine gTake 1 (v := ?_) rfl (by kernel_rfl) (by kernel_rfl) (by kernel_rfl) (fun _ _ _ h => h) (by kernel_rfl) ?_ hS0 ?_
    rotate_left
    · (intro W hW; clear hW; go_simp; try with_reducible rfl)
    refine gTake 2 (v := ?_) rfl (by kernel_rfl) (by kernel_rfl) (by kernel_rfl) (fun _ _ _ h => h) (by kernel_rfl) ?_ hS0 ?_
    rotate_left
    · (intro W hW; have q0 := hW.1; have q1 := hW.2.1; have q2 := hW.2.2; clear hW; go_simp; try with_reducible rfl)
    refine gTake 3 (v := ?_) rfl (by kernel_rfl) (by kernel_rfl) (by kernel_rfl) (fun _ _ _ h => h) (by kernel_rfl) ?_ hS0 ?_
    rotate_left
    · (intro W hW; clear hW; go_simp; try with_reducible rfl)
    refine gTake 4 (v := ?_) rfl (by kernel_rfl) (by kernel_rfl) (by kernel_rfl) (fun _ _ _ h => h) (by kernel_rfl) ?_ hS0 ?_
    rotate_left
    · (intro W hW; clear hW; go_simp; try with_reducible rfl)
    refine gTake 5 (v := ?_) rfl (by kernel_rfl) (by kernel_rfl) (by kernel_rfl) (fun _ _ _ h => h) (by kernel_rfl) ?_ hS0 ?_
    rotate_left
    · (intro W hW; have q0 := hW.1; have q1 := hW.2.1; have q2 := hW.2.2; clear hW; go_simp; try with_reducible rfl)
    refine gTake 6 (v := ?_) rfl (by kernel_rfl) (by kernel_rfl) (by kernel_rfl) (fun _ _ _ h => h) (by kernel_rfl) ?_ hS0 ?_
    rotate_left
    · (intro W hW; clear hW; go_simp; try with_reducible rfl)
    refine gTake 7 (v := ?_) rfl (by kernel_rfl) (by kernel_rfl) (by kernel_rfl) (fun _ _ _ h => h) (by kernel_rfl) ?_ hS0 ?_
    rotate_left
    · (intro W hW; clear hW; go_simp; try with_reducible rfl)
    refine gTake 8 (v := ?_) rfl (by kernel_rfl) (by kernel_rfl) (by kernel_rfl) (fun _ _ _ h => h) (by kernel_rfl) ?_ hS0 ?_
    rotate_left
    · (intro W hW; have q0 := hW.1; have q1 := hW.2.1; have q2 := hW.2.2; clear hW; go_simp; try with_reducible rfl)
    refine gTake 9 (v := ?_) rfl (by kernel_rfl) (by kernel_rfl) (by kernel_rfl) (fun _ _ _ h => h) (by kernel_rfl) ?_ hS0 ?_
    rotate_left
    · (intro W hW; clear hW; go_simp; try with_reducible rfl)
    refine gOne 10 rfl (by kernel_rfl) (by kernel_rfl) (fun K hK => ?_)
    go_simp
    skip
    have hS1 := keepC hS0 (below_box w1.drew (.cells #[.int .i64 0, .int .i64 0, .int .i64 0] 48))
    refine hK _ _ hS1 ?_
    clear hK K
    refine gOne 11 rfl (by kernel_rfl) (by kernel_rfl) (fun K hK => ?_)
    go_simp
    skip
    refine viaS (hK _ _) ?_ (fun hS2 => ?_)
    · exact ⟨by simp; exact cellK c0 (below_box _ _), by simp; exact cellK c1 (below_box _ _), by simp; exact cellK c2 (below_box _ _)⟩
    clear hK K
    refine wpAnyH_done (by kernel_rfl) ?_ _
    go_simp
    go_wp2_with fail
    (with_reducible refine (iValidAir_any t p h _).mono ?_)
    rintro e w2 ⟨rfl, rfl⟩
    rw [hok]
    go_wp2
    refine bodyPost_ret (v := .agg #[.int .i64 t, .int .i64 p, .int .i64 h]) (by simp [results, Tryd.results58, go_sem, hc, hn1, hn2, hn3, hn4, hz, hz2]) rfl ⟨air_same1 HZ.out.1.1.symm HZ.out.1.2.1.symm HZ.out.1.2.2.symm, ?_⟩
    exact (by repeat (first | (with_reducible exact HB.out) | (with_reducible refine below_drewN' ?_ _) | (with_reducible refine Below.drew ?_) | (with_reducible refine Below.alloc ?_ (by simp <;> omega) _) | (with_reducible refine Below.setCell ?_ (by simp) _)))
end Go.Proofs.YtkbgfajkcdjjiabDoor
