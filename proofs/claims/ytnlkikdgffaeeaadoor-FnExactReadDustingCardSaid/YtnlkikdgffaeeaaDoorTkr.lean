/-
  Contracts of ReadDusting; the model's and the program's; the laws' comparison of a Dusting with itself. Conditions: those that each theorem states.
-/
import Derived.Test.YtnlkikdgffaeeaaDoorNf
import Derived.Test.YtnlkikdgffaeeaaDoorNg
import Derived.Test.YtnlkikdgffaeeaaDoorRg
import Derived.Test.YtnlkikdgffaeeaaDoorQe
import Derived.Test.YtnlkikdgffaeeaaDoorNh
namespace Go.Proofs.YtnlkikdgffaeeaaDoor
open Go.RowKit
set_option linter.unusedVariables false
set_option linter.unusedSimpArgs false

/-- Whether a text is that of a Dusting, and its numbers (0 if it is not). -/
def tdRd (d : List UInt8) : Bool := listB d && ((listV d).length == 4 && tkOk ((listV d).getD 0 0) ((listV d).getD 1 0) ((listV d).getD 2 0) ((listV d).getD 3 0))
def tdV (d : List UInt8) (i : Nat) : Int := if tdRd d then (listV d).getD i 0 else 0
theorem td_cases (x : List UInt8) : (tdRd x = false ∧ (∀ i, tdV x i = 0) ∧ (listB x = false ∨ (listB x = true ∧ (listV x).length ≠ 4) ∨ ∃ aw fr un du, listB x = true ∧ listV x = [aw, fr, un, du] ∧ tkOk aw fr un du = false)) ∨
    (∃ aw fr un du, listB x = true ∧ listV x = [aw, fr, un, du] ∧ tkOk aw fr un du = true ∧ tdRd x = true ∧ tdV x 0 = aw ∧ tdV x 1 = fr ∧ tdV x 2 = un ∧ tdV x 3 = du) := by
  have no : tdRd x = false → ∀ i, tdV x i = 0 := fun h i => by simp [tdV, h]
  cases hb : listB x
  · have h : tdRd x = false := by simp [tdRd, hb]
    exact .inl ⟨h, no h, .inl rfl⟩
  · by_cases hl : (listV x).length = 4
    · obtain ⟨aw, fr, un, du, hx⟩ : ∃ aw fr un du, listV x = [aw, fr, un, du] := by
        match listV x, hl with
        | [aw, fr, un, du], _ => exact ⟨aw, fr, un, du, rfl⟩
      cases ho : tkOk aw fr un du
      · have h : tdRd x = false := by simp [tdRd, hb, hx, ho]
        exact .inl ⟨h, no h, .inr (.inr ⟨_, _, _, _, rfl, hx, ho⟩)⟩
      · have h : tdRd x = true := by simp [tdRd, hb, hx, ho]
        exact .inr ⟨_, _, _, _, rfl, hx, ho, h, by simp [tdV, h, hx], by simp [tdV, h, hx], by simp [tdV, h, hx], by simp [tdV, h, hx]⟩
    · have h : tdRd x = false := by simp [tdRd, hb, hl]
      exact .inl ⟨h, no h, .inr (.inl ⟨rfl, hl⟩)⟩
theorem td_same {aw fr un du aw' fr' un' du' : Int} {b b' : Bool} (e0 : aw = aw') (e1 : fr = fr') (e2 : un = un') (e3 : du = du') (k : b = b') : Ending.returned (.tuple #[.agg #[.int .i64 aw, .int .i64 fr, .int .i64 un, .int .i64 du], .bool b]) = .returned (.tuple #[.agg #[.int .i64 aw', .int .i64 fr', .int .i64 un', .int .i64 du'], .bool b']) := by subst e0 e1 e2 e3 k; rfl
theorem tdkeep {w w' : World} {g : Nat} {aw fr un du : Int} (hS : w.cell? ⟨g, 0, none⟩ = some (.int .i64 aw) ∧ w.cell? ⟨g, 1, none⟩ = some (.int .i64 fr) ∧ w.cell? ⟨g, 2, none⟩ = some (.int .i64 un) ∧ w.cell? ⟨g, 3, none⟩ = some (.int .i64 du)) (hb : Below w.heap.size w w') : w'.cell? ⟨g, 0, none⟩ = some (.int .i64 aw) ∧ w'.cell? ⟨g, 1, none⟩ = some (.int .i64 fr) ∧ w'.cell? ⟨g, 2, none⟩ = some (.int .i64 un) ∧ w'.cell? ⟨g, 3, none⟩ = some (.int .i64 du) :=
  ⟨cellK hS.1 hb, cellK hS.2.1 hb, cellK hS.2.2.1 hb, cellK hS.2.2.2 hb⟩
set_option maxHeartbeats 2000000 in
theorem l14Read_any (s : ByteArray) (w : World) (hs : s.size ≤ 1048576) : Calls Tryd.prog 15 #[.string s] w fun e w' => e = .returned (.tuple #[.agg #[.int .i64 (tdV s.data.toList 0), .int .i64 (tdV s.data.toList 1), .int .i64 (tdV s.data.toList 2), .int .i64 (tdV s.data.toList 3)], .bool (tdRd s.data.toList)]) ∧ Below w.heap.size w w' := by
  have HS := Lib.hid (fun W => sReadList_any s W hs)
  rcases td_cases s.data.toList with ⟨hr, hv, hcs⟩ | ⟨aw, fr, un, du, hb, hx, hok, hr, h0, h1, h2, h3⟩
  · have HZ := Lib.hid (And.intro hv hr)
    clear hv hr
    rcases hcs with hbn | ⟨hbn, hl⟩ | ⟨aw, fr, un, du, hbn, hx, hok⟩
    · rw [hbn] at HS
      have hxl := listV_len s.data.toList
      generalize listV s.data.toList = xs at *
      go_enter Tryd.func15, Tryd.ntmps15
      go_wp2_with fail
      refine (HS.out _).mono ?_
      rintro e w1 ⟨v1, rfl, ho, hb⟩
      have HB := Lib.hid (show Below w.heap.size w w1 from (below_box _ _).trans (hb.mono (by simp)))
      obtain ⟨hcq, hfq⟩ := bcell hb
      have hc : ∀ b o, b < w.heap.size + 1 → w1.cell? ⟨b, o, none⟩ = (w.alloc (.cells #[.int .i64 0, .int .i64 0, .int .i64 0, .int .i64 0] 25)).cell? ⟨b, o, none⟩ := fun b o h => hcq b o (by simpa using h)
      have hf : ∀ b o, b < w.heap.size + 1 → w1.frozen? ⟨b, o, none⟩ = (w.alloc (.cells #[.int .i64 0, .int .i64 0, .int .i64 0, .int .i64 0] 25)).frozen? ⟨b, o, none⟩ := fun b o h => hfq b o (by simpa using h)
      have hz : w.heap.size < w1.heap.size := Nat.lt_of_lt_of_le (by simp) hb.size
      clear hcq hfq
      obtain ⟨g, cap, rfl⟩ := OwnI.form (show OwnI w1 _ v1 xs from ho)
      clear ho hb
      go_wp2
      refine bodyPost_ret (v := .tuple #[.agg #[.int .i64 0, .int .i64 0, .int .i64 0, .int .i64 0], .bool false]) (by simp [results, Tryd.results15, go_sem, hc]) rfl ⟨td_same (HZ.out.1 0).symm (HZ.out.1 1).symm (HZ.out.1 2).symm (HZ.out.1 3).symm HZ.out.2.symm, ?_⟩
      exact (by repeat (first | (with_reducible exact HB.out) | (with_reducible refine below_drewN' ?_ _) | (with_reducible refine Below.drew ?_) | (with_reducible refine Below.alloc ?_ (by first | omega | (simp <;> omega)) _) | (with_reducible refine Below.setCell ?_ (by simp) _)))
    · rw [hbn] at HS
      have hxl := listV_len s.data.toList
      generalize listV s.data.toList = xs at *
      have t1 : ((xs.length : Int) != 4) = true := by simp; omega
      go_enter Tryd.func15, Tryd.ntmps15
      go_wp2_with fail
      refine (HS.out _).mono ?_
      rintro e w1 ⟨v1, rfl, ho, hb⟩
      have HB := Lib.hid (show Below w.heap.size w w1 from (below_box _ _).trans (hb.mono (by simp)))
      obtain ⟨hcq, hfq⟩ := bcell hb
      have hc : ∀ b o, b < w.heap.size + 1 → w1.cell? ⟨b, o, none⟩ = (w.alloc (.cells #[.int .i64 0, .int .i64 0, .int .i64 0, .int .i64 0] 25)).cell? ⟨b, o, none⟩ := fun b o h => hcq b o (by simpa using h)
      have hf : ∀ b o, b < w.heap.size + 1 → w1.frozen? ⟨b, o, none⟩ = (w.alloc (.cells #[.int .i64 0, .int .i64 0, .int .i64 0, .int .i64 0] 25)).frozen? ⟨b, o, none⟩ := fun b o h => hfq b o (by simpa using h)
      have hz : w.heap.size < w1.heap.size := Nat.lt_of_lt_of_le (by simp) hb.size
      clear hcq hfq
      obtain ⟨g, cap, rfl⟩ := OwnI.form (show OwnI w1 _ v1 xs from ho)
      clear ho hb
      go_wp2
      refine bodyPost_ret (v := .tuple #[.agg #[.int .i64 0, .int .i64 0, .int .i64 0, .int .i64 0], .bool false]) (by simp [results, Tryd.results15, go_sem, hc]) rfl ⟨td_same (HZ.out.1 0).symm (HZ.out.1 1).symm (HZ.out.1 2).symm (HZ.out.1 3).symm HZ.out.2.symm, ?_⟩
      exact (by repeat (first | (with_reducible exact HB.out) | (with_reducible refine below_drewN' ?_ _) | (with_reducible refine Below.drew ?_) | (with_reducible refine Below.alloc ?_ (by first | omega | (simp <;> omega)) _) | (with_reducible refine Below.setCell ?_ (by simp) _)))
    · rw [hbn, hx] at HS
      clear hx
      go_enter Tryd.func15, Tryd.ntmps15
      go_wp2_with fail
      refine (HS.out _).mono ?_
      rintro e w1 ⟨v1, rfl, ho, hb⟩
      have HB := Lib.hid (show Below w.heap.size w w1 from (below_box _ _).trans (hb.mono (by simp)))
      obtain ⟨hcq, hfq⟩ := bcell hb
      have hc : ∀ b o, b < w.heap.size + 1 → w1.cell? ⟨b, o, none⟩ = (w.alloc (.cells #[.int .i64 0, .int .i64 0, .int .i64 0, .int .i64 0] 25)).cell? ⟨b, o, none⟩ := fun b o h => hcq b o (by simpa using h)
      have hf : ∀ b o, b < w.heap.size + 1 → w1.frozen? ⟨b, o, none⟩ = (w.alloc (.cells #[.int .i64 0, .int .i64 0, .int .i64 0, .int .i64 0] 25)).frozen? ⟨b, o, none⟩ := fun b o h => hfq b o (by simpa using h)
      have hz : w.heap.size < w1.heap.size := Nat.lt_of_lt_of_le (by simp) hb.size
      clear hcq hfq
      obtain ⟨g, cap, rfl, hg, hgl⟩ := ho.form (by simp)
      have c0 : w1.cell? ⟨g, 0, none⟩ = some (.int .i64 aw) := by rw [ho.cellAt 0 (by simp)]; rfl
      have c1 : w1.cell? ⟨g, 1, none⟩ = some (.int .i64 fr) := by rw [ho.cellAt 1 (by simp)]; rfl
      have c2 : w1.cell? ⟨g, 2, none⟩ = some (.int .i64 un) := by rw [ho.cellAt 2 (by simp)]; rfl
      have c3 : w1.cell? ⟨g, 3, none⟩ = some (.int .i64 du) := by rw [ho.cellAt 3 (by simp)]; rfl
      clear ho hb
      go_wp2_with fail
      have hne : ¬ (w1.heap.size = g) := by omega
      have hne2 : ¬ (g = w1.heap.size) := by omega
      have hn1 : ¬ (w.heap.size = w1.heap.size) := by omega
      have hn2 : ¬ (w1.heap.size = w.heap.size) := by omega
      have hn3 : ¬ (w.heap.size = w1.heap.size + 1) := by omega
      have hn4 : ¬ (w1.heap.size + 1 = w.heap.size) := by omega
      have hz2 : w.heap.size < w1.heap.size + 1 := by omega
      have hc0 : (w1.drew.cell? ⟨g, 0, none⟩ = some (.int .i64 aw) ∧ w1.drew.cell? ⟨g, 1, none⟩ = some (.int .i64 fr) ∧ w1.drew.cell? ⟨g, 2, none⟩ = some (.int .i64 un) ∧ w1.drew.cell? ⟨g, 3, none⟩ = some (.int .i64 du)) := ⟨c0, c1, c2, c3⟩
      refine wp_region_held (S := fun w' => w'.cell? ⟨g, 0, none⟩ = some (.int .i64 aw) ∧ w'.cell? ⟨g, 1, none⟩ = some (.int .i64 fr) ∧ w'.cell? ⟨g, 2, none⟩ = some (.int .i64 un) ∧ w'.cell? ⟨g, 3, none⟩ = some (.int .i64 du)) (by kernel_rfl) ?_
      try (change wpAnyH _ _ _ _ _ _ _ _ (World.drew _))
      have hS0 := hc0
      refine gTake 0 (v := ?_) rfl (by kernel_rfl) (by kernel_rfl) (by kernel_rfl) (fun _ _ _ h => h) (by kernel_rfl) ?_ hS0 ?_
      rotate_left
      · (intro W hW; clear hW; go_simp; try with_reducible rfl)
      refine gTake 1 (v := ?_) rfl (by kernel_rfl) (by kernel_rfl) (by kernel_rfl) (fun _ _ _ h => h) (by kernel_rfl) ?_ hS0 ?_
      rotate_left
      · (intro W hW; clear hW; go_simp; try with_reducible rfl)
      refine gTake 2 (v := ?_) rfl (by kernel_rfl) (by kernel_rfl) (by kernel_rfl) (fun _ _ _ h => h) (by kernel_rfl) ?_ hS0 ?_
      rotate_left
      · (intro W hW; have q0 := hW.1; have q1 := hW.2.1; have q2 := hW.2.2.1; have q3 := hW.2.2.2; clear hW; go_simp; try with_reducible rfl)
      refine gTake 3 (v := ?_) rfl (by kernel_rfl) (by kernel_rfl) (by kernel_rfl) (fun _ _ _ h => h) (by kernel_rfl) ?_ hS0 ?_
      rotate_left
      · (intro W hW; clear hW; go_simp; try with_reducible rfl)
      refine gTake 4 (v := ?_) rfl (by kernel_rfl) (by kernel_rfl) (by kernel_rfl) (fun _ _ _ h => h) (by kernel_rfl) ?_ hS0 ?_
      rotate_left
      · (intro W hW; clear hW; go_simp; try with_reducible rfl)
      refine gTake 5 (v := ?_) rfl (by kernel_rfl) (by kernel_rfl) (by kernel_rfl) (fun _ _ _ h => h) (by kernel_rfl) ?_ hS0 ?_
      rotate_left
      · (intro W hW; have q0 := hW.1; have q1 := hW.2.1; have q2 := hW.2.2.1; have q3 := hW.2.2.2; clear hW; go_simp; try with_reducible rfl)
      refine gTake 6 (v := ?_) rfl (by kernel_rfl) (by kernel_rfl) (by kernel_rfl) (fun _ _ _ h => h) (by kernel_rfl) ?_ hS0 ?_
      rotate_left
      · (intro W hW; clear hW; go_simp; try with_reducible rfl)
      refine gTake 7 (v := ?_) rfl (by kernel_rfl) (by kernel_rfl) (by kernel_rfl) (fun _ _ _ h => h) (by kernel_rfl) ?_ hS0 ?_
      rotate_left
      · (intro W hW; clear hW; go_simp; try with_reducible rfl)
      refine gTake 8 (v := ?_) rfl (by kernel_rfl) (by kernel_rfl) (by kernel_rfl) (fun _ _ _ h => h) (by kernel_rfl) ?_ hS0 ?_
      rotate_left
      · (intro W hW; have q0 := hW.1; have q1 := hW.2.1; have q2 := hW.2.2.1; have q3 := hW.2.2.2; clear hW; go_simp; try with_reducible rfl)
      refine gTake 9 (v := ?_) rfl (by kernel_rfl) (by kernel_rfl) (by kernel_rfl) (fun _ _ _ h => h) (by kernel_rfl) ?_ hS0 ?_
      rotate_left
      · (intro W hW; clear hW; go_simp; try with_reducible rfl)
      refine gTake 10 (v := ?_) rfl (by kernel_rfl) (by kernel_rfl) (by kernel_rfl) (fun _ _ _ h => h) (by kernel_rfl) ?_ hS0 ?_
      rotate_left
      · (intro W hW; clear hW; go_simp; try with_reducible rfl)
      refine gTake 11 (v := ?_) rfl (by kernel_rfl) (by kernel_rfl) (by kernel_rfl) (fun _ _ _ h => h) (by kernel_rfl) ?_ hS0 ?_
      rotate_left
      · (intro W hW; have q0 := hW.1; have q1 := hW.2.1; have q2 := hW.2.2.1; have q3 := hW.2.2.2; clear hW; go_simp; try with_reducible rfl)
      refine gTake 12 (v := ?_) rfl (by kernel_rfl) (by kernel_rfl) (by kernel_rfl) (fun _ _ _ h => h) (by kernel_rfl) ?_ hS0 ?_
      rotate_left
      · (intro W hW; clear hW; go_simp; try with_reducible rfl)
      refine gOne 13 rfl (by kernel_rfl) (by kernel_rfl) (fun K hK => ?_)
      go_simp
      skip
      have hS1 := (tdkeep hS0 (below_box w1.drew (.cells #[.int .i64 0, .int .i64 0, .int .i64 0, .int .i64 0] 25)))
      refine hK _ _ hS1 ?_
      clear hK K
      refine gOne 14 rfl (by kernel_rfl) (by kernel_rfl) (fun K hK => ?_)
      go_simp
      skip
      refine viaS (hK _ _) ?_ (fun hS2 => ?_)
      · exact ⟨by simp; exact cellK c0 (below_box _ _), by simp; exact cellK c1 (below_box _ _), by simp; exact cellK c2 (below_box _ _), by simp; exact cellK c3 (below_box _ _)⟩
      clear hK K
      refine wpAnyH_done (by kernel_rfl) ?_ _
      go_simp
      go_wp2_with fail
      (with_reducible refine (l14One_below w1.heap.size 0 aw fr un du _ (by unfold TkAt; simp)).mono ?_)
      rintro e w2 ⟨rfl, hd2⟩
      obtain ⟨hc2, hf2⟩ := bcell hd2
      have HB1 := HB
      have HB := Lib.hid (show Below w.heap.size w w2 from Below.trans (by repeat (first | (with_reducible exact HB.out) | (with_reducible refine below_drewN' ?_ _) | (with_reducible refine Below.drew ?_) | (with_reducible refine Below.alloc ?_ (by first | omega | (simp <;> omega)) _) | (with_reducible refine Below.setCell ?_ (by simp) _))) (hd2.mono (by simp <;> omega)))
      have hz3 : w.heap.size < w2.heap.size := Nat.lt_of_lt_of_le (by simp <;> omega) hd2.size
      clear hd2
      rw [hok]
      go_wp2
      refine bodyPost_ret (v := .tuple #[.agg #[.int .i64 0, .int .i64 0, .int .i64 0, .int .i64 0], .bool false]) (by simp [results, Tryd.results15, go_sem, hc, hc2, hz3, hn1, hn2, hn3, hn4, hz, hz2]) rfl ⟨td_same (HZ.out.1 0).symm (HZ.out.1 1).symm (HZ.out.1 2).symm (HZ.out.1 3).symm HZ.out.2.symm, ?_⟩
      exact (by repeat (first | (with_reducible exact HB.out) | (with_reducible refine below_drewN' ?_ _) | (with_reducible refine Below.drew ?_) | (with_reducible refine Below.alloc ?_ (by first | omega | (simp <;> omega)) _) | (with_reducible refine Below.setCell ?_ (by simp) _)))
  · have HZ := Lib.hid (And.intro hr (And.intro h0 (And.intro h1 (And.intro h2 h3))))
    rw [hb, hx] at HS
    clear hx h0 h1 h2 h3 hr hb
    go_enter Tryd.func15, Tryd.ntmps15
    go_wp2_with fail
    refine (HS.out _).mono ?_
    rintro e w1 ⟨v1, rfl, ho, hb⟩
    have HB := Lib.hid (show Below w.heap.size w w1 from (below_box _ _).trans (hb.mono (by simp)))
    obtain ⟨hcq, hfq⟩ := bcell hb
    have hc : ∀ b o, b < w.heap.size + 1 → w1.cell? ⟨b, o, none⟩ = (w.alloc (.cells #[.int .i64 0, .int .i64 0, .int .i64 0, .int .i64 0] 25)).cell? ⟨b, o, none⟩ := fun b o h => hcq b o (by simpa using h)
    have hf : ∀ b o, b < w.heap.size + 1 → w1.frozen? ⟨b, o, none⟩ = (w.alloc (.cells #[.int .i64 0, .int .i64 0, .int .i64 0, .int .i64 0] 25)).frozen? ⟨b, o, none⟩ := fun b o h => hfq b o (by simpa using h)
    have hz : w.heap.size < w1.heap.size := Nat.lt_of_lt_of_le (by simp) hb.size
    clear hcq hfq
    obtain ⟨g, cap, rfl, hg, hgl⟩ := ho.form (by simp)
    have c0 : w1.cell? ⟨g, 0, none⟩ = some (.int .i64 aw) := by rw [ho.cellAt 0 (by simp)]; rfl
    have c1 : w1.cell? ⟨g, 1, none⟩ = some (.int .i64 fr) := by rw [ho.cellAt 1 (by simp)]; rfl
    have c2 : w1.cell? ⟨g, 2, none⟩ = some (.int .i64 un) := by rw [ho.cellAt 2 (by simp)]; rfl
    have c3 : w1.cell? ⟨g, 3, none⟩ = some (.int .i64 du) := by rw [ho.cellAt 3 (by simp)]; rfl
    clear ho hb
    go_wp2_with fail
    have hne : ¬ (w1.heap.size = g) := by omega
    have hne2 : ¬ (g = w1.heap.size) := by omega
    have hn1 : ¬ (w.heap.size = w1.heap.size) := by omega
    have hn2 : ¬ (w1.heap.size = w.heap.size) := by omega
    have hn3 : ¬ (w.heap.size = w1.heap.size + 1) := by omega
    have hn4 : ¬ (w1.heap.size + 1 = w.heap.size) := by omega
    have hz2 : w.heap.size < w1.heap.size + 1 := by omega
    have hc0 : (w1.drew.cell? ⟨g, 0, none⟩ = some (.int .i64 aw) ∧ w1.drew.cell? ⟨g, 1, none⟩ = some (.int .i64 fr) ∧ w1.drew.cell? ⟨g, 2, none⟩ = some (.int .i64 un) ∧ w1.drew.cell? ⟨g, 3, none⟩ = some (.int .i64 du)) := ⟨c0, c1, c2, c3⟩
    refine wp_region_held (S := fun w' => w'.cell? ⟨g, 0, none⟩ = some (.int .i64 aw) ∧ w'.cell? ⟨g, 1, none⟩ = some (.int .i64 fr) ∧ w'.cell? ⟨g, 2, none⟩ = some (.int .i64 un) ∧ w'.cell? ⟨g, 3, none⟩ = some (.int .i64 du)) (by kernel_rfl) ?_
    try (change wpAnyH _ _ _ _ _ _ _ _ (World.drew _))
    have hS0 := hc0
    refine gTake 0 (v := ?_) rfl (by kernel_rfl) (by kernel_rfl) (by kernel_rfl) (fun _ _ _ h => h) (by kernel_rfl) ?_ hS0 ?_
    rotate_left
    · (intro W hW; clear hW; go_simp; try with_reducible rfl)
    refine gTake 1 (v := ?_) rfl (by kernel_rfl) (by kernel_rfl) (by kernel_rfl) (fun _ _ _ h => h) (by kernel_rfl) ?_ hS0 ?_
    rotate_left
    · (intro W hW; clear hW; go_simp; try with_reducible rfl)
    refine gTake 2 (v := ?_) rfl (by kernel_rfl) (by kernel_rfl) (by kernel_rfl) (fun _ _ _ h => h) (by kernel_rfl) ?_ hS0 ?_
    rotate_left
    · (intro W hW; have q0 := hW.1; have q1 := hW.2.1; have q2 := hW.2.2.1; have q3 := hW.2.2.2; clear hW; go_simp; try with_reducible rfl)
    refine gTake 3 (v := ?_) rfl (by kernel_rfl) (by kernel_rfl) (by kernel_rfl) (fun _ _ _ h => h) (by kernel_rfl) ?_ hS0 ?_
    rotate_left
    · (intro W hW; clear hW; go_simp; try with_reducible rfl)
    refine gTake 4 (v := ?_) rfl (by kernel_rfl) (by kernel_rfl) (by kernel_rfl) (fun _ _ _ h => h) (by kernel_rfl) ?_ hS0 ?_
    rotate_left
    · (intro W hW; clear hW; go_simp; try with_reducible rfl)
    refine gTake 5 (v := ?_) rfl (by kernel_rfl) (by kernel_rfl) (by kernel_rfl) (fun _ _ _ h => h) (by kernel_rfl) ?_ hS0 ?_
    rotate_left
    · (intro W hW; have q0 := hW.1; have q1 := hW.2.1; have q2 := hW.2.2.1; have q3 := hW.2.2.2; clear hW; go_simp; try with_reducible rfl)
    refine gTake 6 (v := ?_) rfl (by kernel_rfl) (by kernel_rfl) (by kernel_rfl) (fun _ _ _ h => h) (by kernel_rfl) ?_ hS0 ?_
    rotate_left
    · (intro W hW; clear hW; go_simp; try with_reducible rfl)
    refine gTake 7 (v := ?_) rfl (by kernel_rfl) (by kernel_rfl) (by kernel_rfl) (fun _ _ _ h => h) (by kernel_rfl) ?_ hS0 ?_
    rotate_left
    · (intro W hW; clear hW; go_simp; try with_reducible rfl)
    refine gTake 8 (v := ?_) rfl (by kernel_rfl) (by kernel_rfl) (by kernel_rfl) (fun _ _ _ h => h) (by kernel_rfl) ?_ hS0 ?_
    rotate_left
    · (intro W hW; have q0 := hW.1; have q1 := hW.2.1; have q2 := hW.2.2.1; have q3 := hW.2.2.2; clear hW; go_simp; try with_reducible rfl)
    refine gTake 9 (v := ?_) rfl (by kernel_rfl) (by kernel_rfl) (by kernel_rfl) (fun _ _ _ h => h) (by kernel_rfl) ?_ hS0 ?_
    rotate_left
    · (intro W hW; clear hW; go_simp; try with_reducible rfl)
    refine gTake 10 (v := ?_) rfl (by kernel_rfl) (by kernel_rfl) (by kernel_rfl) (fun _ _ _ h => h) (by kernel_rfl) ?_ hS0 ?_
    rotate_left
    · (intro W hW; clear hW; go_simp; try with_reducible rfl)
    refine gTake 11 (v := ?_) rfl (by kernel_rfl) (by kernel_rfl) (by kernel_rfl) (fun _ _ _ h => h) (by kernel_rfl) ?_ hS0 ?_
    rotate_left
    · (intro W hW; have q0 := hW.1; have q1 := hW.2.1; have q2 := hW.2.2.1; have q3 := hW.2.2.2; clear hW; go_simp; try with_reducible rfl)
    refine gTake 12 (v := ?_) rfl (by kernel_rfl) (by kernel_rfl) (by kernel_rfl) (fun _ _ _ h => h) (by kernel_rfl) ?_ hS0 ?_
    rotate_left
    · (intro W hW; clear hW; go_simp; try with_reducible rfl)
    refine gOne 13 rfl (by kernel_rfl) (by kernel_rfl) (fun K hK => ?_)
    go_simp
    skip
    have hS1 := (tdkeep hS0 (below_box w1.drew (.cells #[.int .i64 0, .int .i64 0, .int .i64 0, .int .i64 0] 25)))
    refine hK _ _ hS1 ?_
    clear hK K
    refine gOne 14 rfl (by kernel_rfl) (by kernel_rfl) (fun K hK => ?_)
    go_simp
    skip
    refine viaS (hK _ _) ?_ (fun hS2 => ?_)
    · exact ⟨by simp; exact cellK c0 (below_box _ _), by simp; exact cellK c1 (below_box _ _), by simp; exact cellK c2 (below_box _ _), by simp; exact cellK c3 (below_box _ _)⟩
    clear hK K
    refine wpAnyH_done (by kernel_rfl) ?_ _
    go_simp
    go_wp2_with fail
    (with_reducible refine (l14One_below w1.heap.size 0 aw fr un du _ (by unfold TkAt; simp)).mono ?_)
    rintro e w2 ⟨rfl, hd2⟩
    obtain ⟨hc2, hf2⟩ := bcell hd2
    have HB1 := HB
    have HB := Lib.hid (show Below w.heap.size w w2 from Below.trans (by repeat (first | (with_reducible exact HB.out) | (with_reducible refine below_drewN' ?_ _) | (with_reducible refine Below.drew ?_) | (with_reducible refine Below.alloc ?_ (by first | omega | (simp <;> omega)) _) | (with_reducible refine Below.setCell ?_ (by simp) _))) (hd2.mono (by simp <;> omega)))
    have hz3 : w.heap.size < w2.heap.size := Nat.lt_of_lt_of_le (by simp <;> omega) hd2.size
    clear hd2
    rw [hok]
    go_wp2
    refine bodyPost_ret (v := .tuple #[.agg #[.int .i64 aw, .int .i64 fr, .int .i64 un, .int .i64 du], .bool true]) (by simp [results, Tryd.results15, go_sem, hc, hc2, hz3, hn1, hn2, hn3, hn4, hz, hz2]) rfl ⟨td_same HZ.out.2.1.symm HZ.out.2.2.1.symm HZ.out.2.2.2.1.symm HZ.out.2.2.2.2.symm HZ.out.1.symm, ?_⟩
    exact (by repeat (first | (with_reducible exact HB.out) | (with_reducible refine below_drewN' ?_ _) | (with_reducible refine Below.drew ?_) | (with_reducible refine Below.alloc ?_ (by first | omega | (simp <;> omega)) _) | (with_reducible refine Below.setCell ?_ (by simp) _)))
theorem sReadDusting_any (s : ByteArray) (w : World) (hs : s.size ≤ 1048576) : Calls Tryd.prog 8 #[.string s] w fun e w' => e = .returned (.tuple #[.agg #[.int .i64 (tdV s.data.toList 0), .int .i64 (tdV s.data.toList 1), .int .i64 (tdV s.data.toList 2), .int .i64 (tdV s.data.toList 3)], .bool (tdRd s.data.toList)]) ∧ Below w.heap.size w w' := by
  have HS := Lib.hid (fun W => l14Read_any s W hs)
  generalize tdRd s.data.toList = r at *
  generalize tdV s.data.toList = u at *
  go_enter Tryd.func8, Tryd.ntmps8
  go_wp2_with fail
  (with_reducible refine (HS.out _).mono ?_)
  rintro e w1 ⟨rfl, hb⟩
  have HB := Lib.hid (show Below w.heap.size w w1 from (below_box _ _).trans (hb.mono (by simp)))
  obtain ⟨hc, hf⟩ := bcell hb
  have hz : w.heap.size < w1.heap.size := Nat.lt_of_lt_of_le (by simp) hb.size
  clear hb
  go_wp2
  refine bodyPost_ret (v := .tuple #[.agg #[.int .i64 (u 0), .int .i64 (u 1), .int .i64 (u 2), .int .i64 (u 3)], .bool r]) (by simp [results, Tryd.results8, go_sem, hc]) rfl ⟨rfl, ?_⟩
  exact (by repeat (first | (with_reducible exact HB.out) | (with_reducible refine below_drewN' ?_ _) | (with_reducible refine Below.drew ?_) | (with_reducible refine Below.alloc ?_ (by first | omega | (simp <;> omega)) _) | (with_reducible refine Below.setCell ?_ (by simp) _)))
theorem own_cap4 {w : World} {B e : Nat} {a : Option Addr} {n m cap : Nat} {xs : List Value} (h : w.ownsRow B e 1 (.slice a m cap) n xs) (hn : n = 4) : 4 ≤ cap := by
  rcases h.2 with ⟨hh, h0⟩ | ⟨g', cap', cur, hh, _, _, hle, _⟩
  · injection hh with _ _ h3; omega
  · injection hh with _ _ h3; omega
set_option maxHeartbeats 1000000 in
theorem dustingOf_any (g cap : Nat) (aw fr un du : Int) (w : World) (h : w.cell? ⟨g, 0, none⟩ = some (.int .i64 aw) ∧ w.cell? ⟨g, 1, none⟩ = some (.int .i64 fr) ∧ w.cell? ⟨g, 2, none⟩ = some (.int .i64 un) ∧ w.cell? ⟨g, 3, none⟩ = some (.int .i64 du)) (hcap : 4 ≤ cap) :
    Calls Tryd.prog 17 #[.slice (some ⟨g, 0, none⟩) 4 cap] w fun e w' => e = .returned (.agg #[.int .i64 aw, .int .i64 fr, .int .i64 un, .int .i64 du]) ∧ Below w.heap.size w w' := by
  have hg : g < w.heap.size := World.block_lt_of_cell? _ _ h.1
  have hk := tdkeep h (below_box w (.cells #[.int .i64 0, .int .i64 0, .int .i64 0, .int .i64 0] 25))
  have hk2 := tdkeep h (below_box w (.cells #[.int .i64 aw, .int .i64 fr, .int .i64 un, .int .i64 du] 25))
  obtain ⟨k0, k1, k2, k3⟩ := hk
  have hne : ¬ (w.heap.size = g) := by omega
  have hne2 : ¬ (g = w.heap.size) := by omega
  go_enter Tryd.func17, Tryd.ntmps17
  go_wp2_with fail
  refine wp_region_held (S := fun w' => w'.cell? ⟨g, 0, none⟩ = some (.int .i64 aw) ∧ w'.cell? ⟨g, 1, none⟩ = some (.int .i64 fr) ∧ w'.cell? ⟨g, 2, none⟩ = some (.int .i64 un) ∧ w'.cell? ⟨g, 3, none⟩ = some (.int .i64 du)) (by kernel_rfl) ?_
  try (change wpAnyH _ _ _ _ _ _ _ _ (World.drew _))
  have hS0 := (show (w.alloc (.cells #[.int .i64 0, .int .i64 0, .int .i64 0, .int .i64 0] 25)).drew.cell? ⟨g, 0, none⟩ = some (.int .i64 aw) ∧ (w.alloc (.cells #[.int .i64 0, .int .i64 0, .int .i64 0, .int .i64 0] 25)).drew.cell? ⟨g, 1, none⟩ = some (.int .i64 fr) ∧ (w.alloc (.cells #[.int .i64 0, .int .i64 0, .int .i64 0, .int .i64 0] 25)).drew.cell? ⟨g, 2, none⟩ = some (.int .i64 un) ∧ (w.alloc (.cells #[.int .i64 0, .int .i64 0, .int .i64 0, .int .i64 0] 25)).drew.cell? ⟨g, 3, none⟩ = some (.int .i64 du) from ⟨k0, k1, k2, k3⟩)
  refine gTake 0 (v := ?_) rfl (by kernel_rfl) (by kernel_rfl) (by kernel_rfl) (fun _ _ _ h => h) (by kernel_rfl) ?_ hS0 ?_
  rotate_left
  · (intro W hW; clear hW; go_simp; try with_reducible rfl)
  refine gTake 1 (v := ?_) rfl (by kernel_rfl) (by kernel_rfl) (by kernel_rfl) (fun _ _ _ h => h) (by kernel_rfl) ?_ hS0 ?_
  rotate_left
  · (intro W hW; clear hW; go_simp; try with_reducible rfl)
  refine gTake 2 (v := ?_) rfl (by kernel_rfl) (by kernel_rfl) (by kernel_rfl) (fun _ _ _ h => h) (by kernel_rfl) ?_ hS0 ?_
  rotate_left
  · (intro W hW; have q0 := hW.1; have q1 := hW.2.1; have q2 := hW.2.2.1; have q3 := hW.2.2.2; clear hW; go_simp; try with_reducible rfl)
  refine gTake 3 (v := ?_) rfl (by kernel_rfl) (by kernel_rfl) (by kernel_rfl) (fun _ _ _ h => h) (by kernel_rfl) ?_ hS0 ?_
  rotate_left
  · (intro W hW; clear hW; go_simp; try with_reducible rfl)
  refine gTake 4 (v := ?_) rfl (by kernel_rfl) (by kernel_rfl) (by kernel_rfl) (fun _ _ _ h => h) (by kernel_rfl) ?_ hS0 ?_
  rotate_left
  · (intro W hW; clear hW; go_simp; try with_reducible rfl)
  refine gTake 5 (v := ?_) rfl (by kernel_rfl) (by kernel_rfl) (by kernel_rfl) (fun _ _ _ h => h) (by kernel_rfl) ?_ hS0 ?_
  rotate_left
  · (intro W hW; have q0 := hW.1; have q1 := hW.2.1; have q2 := hW.2.2.1; have q3 := hW.2.2.2; clear hW; go_simp; try with_reducible rfl)
  refine gTake 6 (v := ?_) rfl (by kernel_rfl) (by kernel_rfl) (by kernel_rfl) (fun _ _ _ h => h) (by kernel_rfl) ?_ hS0 ?_
  rotate_left
  · (intro W hW; clear hW; go_simp; try with_reducible rfl)
  refine gTake 7 (v := ?_) rfl (by kernel_rfl) (by kernel_rfl) (by kernel_rfl) (fun _ _ _ h => h) (by kernel_rfl) ?_ hS0 ?_
  rotate_left
  · (intro W hW; clear hW; go_simp; try with_reducible rfl)
  refine gTake 8 (v := ?_) rfl (by kernel_rfl) (by kernel_rfl) (by kernel_rfl) (fun _ _ _ h => h) (by kernel_rfl) ?_ hS0 ?_
  rotate_left
  · (intro W hW; have q0 := hW.1; have q1 := hW.2.1; have q2 := hW.2.2.1; have q3 := hW.2.2.2; clear hW; go_simp; try with_reducible rfl)
  refine gTake 9 (v := ?_) rfl (by kernel_rfl) (by kernel_rfl) (by kernel_rfl) (fun _ _ _ h => h) (by kernel_rfl) ?_ hS0 ?_
  rotate_left
  · (intro W hW; clear hW; go_simp; try with_reducible rfl)
  refine gTake 10 (v := ?_) rfl (by kernel_rfl) (by kernel_rfl) (by kernel_rfl) (fun _ _ _ h => h) (by kernel_rfl) ?_ hS0 ?_
  rotate_left
  · (intro W hW; clear hW; go_simp; try with_reducible rfl)
  refine gTake 11 (v := ?_) rfl (by kernel_rfl) (by kernel_rfl) (by kernel_rfl) (fun _ _ _ h => h) (by kernel_rfl) ?_ hS0 ?_
  rotate_left
  · (intro W hW; have q0 := hW.1; have q1 := hW.2.1; have q2 := hW.2.2.1; have q3 := hW.2.2.2; clear hW; go_simp; try with_reducible rfl)
  refine gTake 12 (v := ?_) rfl (by kernel_rfl) (by kernel_rfl) (by kernel_rfl) (fun _ _ _ h => h) (by kernel_rfl) ?_ hS0 ?_
  rotate_left
  · (intro W hW; clear hW; go_simp; try with_reducible rfl)
  refine gOne 13 rfl (by kernel_rfl) (by kernel_rfl) (fun K hK => ?_)
  go_simp
  skip
  refine viaS (hK _ _) ?_ (fun hS1 => ?_)
  · exact ⟨by first | (simp [hne, hne2]; exact k0) | (simp [hne, hne2, k0]; done) | exact k0 | exact hk2.1, by first | (simp [hne, hne2]; exact k1) | (simp [hne, hne2, k1]; done) | exact k1 | exact hk2.2.1, by first | (simp [hne, hne2]; exact k2) | (simp [hne, hne2, k2]; done) | exact k2 | exact hk2.2.2.1, by first | (simp [hne, hne2]; exact k3) | (simp [hne, hne2, k3]; done) | exact k3 | exact hk2.2.2.2⟩
  clear hK K
  refine wpAnyH_done (by kernel_rfl) ?_ _
  go_simp
  go_wp2
  refine bodyPost_ret (v := .agg #[.int .i64 aw, .int .i64 fr, .int .i64 un, .int .i64 du]) (by simp [results, Tryd.results17, go_sem]) rfl ⟨rfl, ?_⟩
  exact (by repeat (first | exact Below.refl _ _ | refine below_drewN' ?_ _ | refine Below.drew ?_ | refine Below.alloc ?_ (by simp <;> omega) _ | refine Below.setCell ?_ (by simp) _))
set_option maxHeartbeats 2000000 in
theorem readNumbersDusting_any (s : ByteArray) (w : World) (hs : s.size ≤ 1048576) (hP : Pow w) (hE : ErrV w) (hM : MaxV w) :
    Calls Tryd.prog 16 #[.string s, .int .i64 4, .func (.func 17) #[] #[], .func (.func 13) #[] #[]] w fun e w' => e = .returned (.tuple #[.agg #[.int .i64 (tdV s.data.toList 0), .int .i64 (tdV s.data.toList 1), .int .i64 (tdV s.data.toList 2), .int .i64 (tdV s.data.toList 3)], .bool (tdRd s.data.toList)]) ∧ Below w.heap.size w w' := by
  have HS := Lib.hid (fun W (h : Below w.heap.size w W) => iReadList_any s W hs (hP.below h) (hE.below h) (hM.below h))
  clear hP hE hM
  rcases td_cases s.data.toList with ⟨hr, hv, hcs⟩ | ⟨aw, fr, un, du, hb, hx, hok, hr, h0, h1, h2, h3⟩
  · have HZ := Lib.hid (And.intro hv hr)
    clear hv hr
    rcases hcs with hbn | ⟨hbn, hl⟩ | ⟨aw, fr, un, du, hbn, hx, hok⟩
    · rw [hbn] at HS
      generalize listV s.data.toList = xs at *
      go_enter Tryd.func16, Tryd.ntmps16
      go_wp2_with fail
      refine (HS.out _ ((below_box w (.cells #[.int .i64 0, .int .i64 0, .int .i64 0, .int .i64 0] 25)).alloc (by simp) (.cells #[.int .i64 0, .int .i64 0, .int .i64 0, .int .i64 0] 25))).mono ?_
      rintro e w2 ⟨v1, rfl, ho, hbb⟩
      obtain ⟨hc, hf⟩ := bcell hbb
      have hz : w.heap.size + 1 < w2.heap.size := Nat.lt_of_lt_of_le (by simp) hbb.size
      have HB := Lib.hid (show Below w.heap.size w w2 from ((below_box w (.cells #[.int .i64 0, .int .i64 0, .int .i64 0, .int .i64 0] 25)).alloc (by simp) (.cells #[.int .i64 0, .int .i64 0, .int .i64 0, .int .i64 0] 25)).trans (hbb.mono (by simp <;> omega)))
      clear ho hbb
      go_wp2
      have m0 : (w2.cell? ⟨w.heap.size, 0, none⟩).isSome = true := by rw [hc _ _ (by simp <;> omega)]; simp
      have m1 : (w2.cell? ⟨w.heap.size, 1, none⟩).isSome = true := by rw [hc _ _ (by simp <;> omega)]; simp
      have m2 : (w2.cell? ⟨w.heap.size, 2, none⟩).isSome = true := by rw [hc _ _ (by simp <;> omega)]; simp
      have m3 : (w2.cell? ⟨w.heap.size, 3, none⟩).isSome = true := by rw [hc _ _ (by simp <;> omega)]; simp
      refine bodyPost_ret (v := .tuple #[.agg #[.int .i64 0, .int .i64 0, .int .i64 0, .int .i64 0], .bool false]) (by simp [results, Tryd.results16, go_sem, World.cell?_setCell_other, World.cell?_setCell_same', hc, m0, m1, m2, m3]) rfl ⟨td_same (HZ.out.1 0).symm (HZ.out.1 1).symm (HZ.out.1 2).symm (HZ.out.1 3).symm HZ.out.2.symm, ?_⟩
      exact (by repeat (first | (with_reducible exact HB.out) | (with_reducible refine below_drewN' ?_ _) | (with_reducible refine Below.drew ?_) | (with_reducible refine Below.alloc ?_ (by first | omega | (simp <;> omega)) _) | (with_reducible refine Below.setCell ?_ (by simp) _)))
    · rw [hbn] at HS
      have hxl := listV_len s.data.toList
      generalize listV s.data.toList = xs at *
      have t1 : ((xs.length : Int) != 4) = true := by simp; omega
      go_enter Tryd.func16, Tryd.ntmps16
      go_wp2_with fail
      refine (HS.out _ ((below_box w (.cells #[.int .i64 0, .int .i64 0, .int .i64 0, .int .i64 0] 25)).alloc (by simp) (.cells #[.int .i64 0, .int .i64 0, .int .i64 0, .int .i64 0] 25))).mono ?_
      rintro e w2 ⟨v1, rfl, ho, hbb⟩
      obtain ⟨hc, hf⟩ := bcell hbb
      have hz : w.heap.size + 1 < w2.heap.size := Nat.lt_of_lt_of_le (by simp) hbb.size
      have HB := Lib.hid (show Below w.heap.size w w2 from ((below_box w (.cells #[.int .i64 0, .int .i64 0, .int .i64 0, .int .i64 0] 25)).alloc (by simp) (.cells #[.int .i64 0, .int .i64 0, .int .i64 0, .int .i64 0] 25)).trans (hbb.mono (by simp <;> omega)))
      obtain ⟨g, cap, rfl⟩ := OwnI.form (show OwnI w2 _ v1 xs from ho)
      clear ho hbb
      go_wp2
      have m0 : (w2.cell? ⟨w.heap.size, 0, none⟩).isSome = true := by rw [hc _ _ (by simp <;> omega)]; simp
      have m1 : (w2.cell? ⟨w.heap.size, 1, none⟩).isSome = true := by rw [hc _ _ (by simp <;> omega)]; simp
      have m2 : (w2.cell? ⟨w.heap.size, 2, none⟩).isSome = true := by rw [hc _ _ (by simp <;> omega)]; simp
      have m3 : (w2.cell? ⟨w.heap.size, 3, none⟩).isSome = true := by rw [hc _ _ (by simp <;> omega)]; simp
      refine bodyPost_ret (v := .tuple #[.agg #[.int .i64 0, .int .i64 0, .int .i64 0, .int .i64 0], .bool false]) (by simp [results, Tryd.results16, go_sem, World.cell?_setCell_other, World.cell?_setCell_same', hc, m0, m1, m2, m3]) rfl ⟨td_same (HZ.out.1 0).symm (HZ.out.1 1).symm (HZ.out.1 2).symm (HZ.out.1 3).symm HZ.out.2.symm, ?_⟩
      exact (by repeat (first | (with_reducible exact HB.out) | (with_reducible refine below_drewN' ?_ _) | (with_reducible refine Below.drew ?_) | (with_reducible refine Below.alloc ?_ (by first | omega | (simp <;> omega)) _) | (with_reducible refine Below.setCell ?_ (by simp) _)))
    · rw [hbn, hx] at HS
      clear hx
      go_enter Tryd.func16, Tryd.ntmps16
      go_wp2_with fail
      refine (HS.out _ ((below_box w (.cells #[.int .i64 0, .int .i64 0, .int .i64 0, .int .i64 0] 25)).alloc (by simp) (.cells #[.int .i64 0, .int .i64 0, .int .i64 0, .int .i64 0] 25))).mono ?_
      rintro e w2 ⟨v1, rfl, ho, hbb⟩
      obtain ⟨hc, hf⟩ := bcell hbb
      have hz : w.heap.size + 1 < w2.heap.size := Nat.lt_of_lt_of_le (by simp) hbb.size
      have HB := Lib.hid (show Below w.heap.size w w2 from ((below_box w (.cells #[.int .i64 0, .int .i64 0, .int .i64 0, .int .i64 0] 25)).alloc (by simp) (.cells #[.int .i64 0, .int .i64 0, .int .i64 0, .int .i64 0] 25)).trans (hbb.mono (by simp <;> omega)))
      obtain ⟨g, cap, rfl, hg, hgl⟩ := ho.form (by simp)
      have c0 : w2.cell? ⟨g, 0, none⟩ = some (.int .i64 aw) := by rw [ho.cellAt 0 (by simp)]; rfl
      have c1 : w2.cell? ⟨g, 1, none⟩ = some (.int .i64 fr) := by rw [ho.cellAt 1 (by simp)]; rfl
      have c2 : w2.cell? ⟨g, 2, none⟩ = some (.int .i64 un) := by rw [ho.cellAt 2 (by simp)]; rfl
      have c3 : w2.cell? ⟨g, 3, none⟩ = some (.int .i64 du) := by rw [ho.cellAt 3 (by simp)]; rfl
      have hcap : 4 ≤ cap := own_cap4 ho rfl
      have HCC := Lib.hid (show w2.cell? ⟨g, 0, none⟩ = some (.int .i64 aw) ∧ w2.cell? ⟨g, 1, none⟩ = some (.int .i64 fr) ∧ w2.cell? ⟨g, 2, none⟩ = some (.int .i64 un) ∧ w2.cell? ⟨g, 3, none⟩ = some (.int .i64 du) from ⟨c0, c1, c2, c3⟩)
      clear ho hgl hg hbb c0 c1 c2 c3
      go_wp2_with fail
      (with_reducible refine (dustingOf_any g cap aw fr un du w2 HCC.out hcap).mono ?_)
      rintro e w3 ⟨rfl, hb3⟩
      have HB3 := Lib.hid (HB.out.trans (hb3.mono HB.out.size))
      obtain ⟨hc3, hf3⟩ := bcell hb3
      have hz3 : w.heap.size + 1 < w3.heap.size := Nat.lt_of_lt_of_le hz hb3.size
      clear hb3
      go_wp2_with fail
      (with_reducible refine (iValidDusting_any aw fr un du _).mono ?_)
      rintro e w4 ⟨rfl, hb4⟩
      obtain ⟨hc4, hf4⟩ := bcell hb4
      have hz4 : w.heap.size + 1 < w4.heap.size := Nat.lt_of_lt_of_le (by simp <;> omega) hb4.size
      have hz5 : w3.heap.size < w4.heap.size := Nat.lt_of_lt_of_le (by simp) hb4.size
      have HB := Lib.hid (show Below w.heap.size w w4 from (HB3.out.alloc HB3.out.size _).trans (hb4.mono (by simp <;> omega)))
      have hn1 : ¬ (w.heap.size = w3.heap.size) := by omega
      have hn2 : ¬ (w3.heap.size = w.heap.size) := by omega
      have hn3 : ¬ (w.heap.size + 1 = w3.heap.size) := by omega
      have hn4 : ¬ (w3.heap.size = w.heap.size + 1) := by omega
      have hy1 : w.heap.size < w2.heap.size := by omega
      have hy3 : w.heap.size < w3.heap.size := by omega
      have hy4 : w.heap.size < w4.heap.size := by omega
      have hy6 : w.heap.size < w3.heap.size + 1 := by omega
      have hy7 : w.heap.size + 1 < w3.heap.size + 1 := by omega
      clear hb4
      rw [hok]
      go_wp2
      have m0 : (w4.cell? ⟨w.heap.size, 0, none⟩).isSome = true := by rw [hc4 _ _ (by simp <;> omega), World.cell?_alloc_past _ _ _ (by first | omega | (simp <;> omega)), hc3 _ _ (by omega), hc _ _ (by simp <;> omega)]; simp
      have m1 : (w4.cell? ⟨w.heap.size, 1, none⟩).isSome = true := by rw [hc4 _ _ (by simp <;> omega), World.cell?_alloc_past _ _ _ (by first | omega | (simp <;> omega)), hc3 _ _ (by omega), hc _ _ (by simp <;> omega)]; simp
      have m2 : (w4.cell? ⟨w.heap.size, 2, none⟩).isSome = true := by rw [hc4 _ _ (by simp <;> omega), World.cell?_alloc_past _ _ _ (by first | omega | (simp <;> omega)), hc3 _ _ (by omega), hc _ _ (by simp <;> omega)]; simp
      have m3 : (w4.cell? ⟨w.heap.size, 3, none⟩).isSome = true := by rw [hc4 _ _ (by simp <;> omega), World.cell?_alloc_past _ _ _ (by first | omega | (simp <;> omega)), hc3 _ _ (by omega), hc _ _ (by simp <;> omega)]; simp
      refine bodyPost_ret (v := .tuple #[.agg #[.int .i64 0, .int .i64 0, .int .i64 0, .int .i64 0], .bool false]) (by simp [results, Tryd.results16, go_sem, World.cell?_setCell_other, World.cell?_setCell_same', m0, m1, m2, m3]) rfl ⟨td_same (HZ.out.1 0).symm (HZ.out.1 1).symm (HZ.out.1 2).symm (HZ.out.1 3).symm HZ.out.2.symm, ?_⟩
      exact (by repeat (first | (with_reducible exact HB.out) | (with_reducible refine below_drewN' ?_ _) | (with_reducible refine Below.drew ?_) | (with_reducible refine Below.alloc ?_ (by first | omega | (simp <;> omega)) _) | (with_reducible refine Below.setCell ?_ (by simp) _)))
  · have HZ := Lib.hid (And.intro hr (And.intro h0 (And.intro h1 (And.intro h2 h3))))
    rw [hb, hx] at HS
    clear hx h0 h1 h2 h3 hr hb
    go_enter Tryd.func16, Tryd.ntmps16
    go_wp2_with fail
    refine (HS.out _ ((below_box w (.cells #[.int .i64 0, .int .i64 0, .int .i64 0, .int .i64 0] 25)).alloc (by simp) (.cells #[.int .i64 0, .int .i64 0, .int .i64 0, .int .i64 0] 25))).mono ?_
    rintro e w2 ⟨v1, rfl, ho, hbb⟩
    obtain ⟨hc, hf⟩ := bcell hbb
    have hz : w.heap.size + 1 < w2.heap.size := Nat.lt_of_lt_of_le (by simp) hbb.size
    have HB := Lib.hid (show Below w.heap.size w w2 from ((below_box w (.cells #[.int .i64 0, .int .i64 0, .int .i64 0, .int .i64 0] 25)).alloc (by simp) (.cells #[.int .i64 0, .int .i64 0, .int .i64 0, .int .i64 0] 25)).trans (hbb.mono (by simp <;> omega)))
    obtain ⟨g, cap, rfl, hg, hgl⟩ := ho.form (by simp)
    have c0 : w2.cell? ⟨g, 0, none⟩ = some (.int .i64 aw) := by rw [ho.cellAt 0 (by simp)]; rfl
    have c1 : w2.cell? ⟨g, 1, none⟩ = some (.int .i64 fr) := by rw [ho.cellAt 1 (by simp)]; rfl
    have c2 : w2.cell? ⟨g, 2, none⟩ = some (.int .i64 un) := by rw [ho.cellAt 2 (by simp)]; rfl
    have c3 : w2.cell? ⟨g, 3, none⟩ = some (.int .i64 du) := by rw [ho.cellAt 3 (by simp)]; rfl
    have hcap : 4 ≤ cap := own_cap4 ho rfl
    have HCC := Lib.hid (show w2.cell? ⟨g, 0, none⟩ = some (.int .i64 aw) ∧ w2.cell? ⟨g, 1, none⟩ = some (.int .i64 fr) ∧ w2.cell? ⟨g, 2, none⟩ = some (.int .i64 un) ∧ w2.cell? ⟨g, 3, none⟩ = some (.int .i64 du) from ⟨c0, c1, c2, c3⟩)
    clear ho hgl hg hbb c0 c1 c2 c3
    go_wp2_with fail
    (with_reducible refine (dustingOf_any g cap aw fr un du w2 HCC.out hcap).mono ?_)
    rintro e w3 ⟨rfl, hb3⟩
    have HB3 := Lib.hid (HB.out.trans (hb3.mono HB.out.size))
    obtain ⟨hc3, hf3⟩ := bcell hb3
    have hz3 : w.heap.size + 1 < w3.heap.size := Nat.lt_of_lt_of_le hz hb3.size
    clear hb3
    go_wp2_with fail
    (with_reducible refine (iValidDusting_any aw fr un du _).mono ?_)
    rintro e w4 ⟨rfl, hb4⟩
    obtain ⟨hc4, hf4⟩ := bcell hb4
    have hz4 : w.heap.size + 1 < w4.heap.size := Nat.lt_of_lt_of_le (by simp <;> omega) hb4.size
    have hz5 : w3.heap.size < w4.heap.size := Nat.lt_of_lt_of_le (by simp) hb4.size
    have HB := Lib.hid (show Below w.heap.size w w4 from (HB3.out.alloc HB3.out.size _).trans (hb4.mono (by simp <;> omega)))
    have hn1 : ¬ (w.heap.size = w3.heap.size) := by omega
    have hn2 : ¬ (w3.heap.size = w.heap.size) := by omega
    have hn3 : ¬ (w.heap.size + 1 = w3.heap.size) := by omega
    have hn4 : ¬ (w3.heap.size = w.heap.size + 1) := by omega
    have hy1 : w.heap.size < w2.heap.size := by omega
    have hy3 : w.heap.size < w3.heap.size := by omega
    have hy4 : w.heap.size < w4.heap.size := by omega
    have hy6 : w.heap.size < w3.heap.size + 1 := by omega
    have hy7 : w.heap.size + 1 < w3.heap.size + 1 := by omega
    clear hb4
    rw [hok]
    go_wp2
    have m0 : (w4.cell? ⟨w.heap.size, 0, none⟩).isSome = true := by rw [hc4 _ _ (by simp <;> omega), World.cell?_alloc_past _ _ _ (by first | omega | (simp <;> omega)), hc3 _ _ (by omega), hc _ _ (by simp <;> omega)]; simp
    have m1 : (w4.cell? ⟨w.heap.size, 1, none⟩).isSome = true := by rw [hc4 _ _ (by simp <;> omega), World.cell?_alloc_past _ _ _ (by first | omega | (simp <;> omega)), hc3 _ _ (by omega), hc _ _ (by simp <;> omega)]; simp
    have m2 : (w4.cell? ⟨w.heap.size, 2, none⟩).isSome = true := by rw [hc4 _ _ (by simp <;> omega), World.cell?_alloc_past _ _ _ (by first | omega | (simp <;> omega)), hc3 _ _ (by omega), hc _ _ (by simp <;> omega)]; simp
    have m3 : (w4.cell? ⟨w.heap.size, 3, none⟩).isSome = true := by rw [hc4 _ _ (by simp <;> omega), World.cell?_alloc_past _ _ _ (by first | omega | (simp <;> omega)), hc3 _ _ (by omega), hc _ _ (by simp <;> omega)]; simp
    refine bodyPost_ret (v := .tuple #[.agg #[.int .i64 aw, .int .i64 fr, .int .i64 un, .int .i64 du], .bool true]) (by simp [results, Tryd.results16, go_sem, World.cell?_setCell_other, World.cell?_setCell_same', m0, m1, m2, m3]) rfl ⟨td_same HZ.out.2.1.symm HZ.out.2.2.1.symm HZ.out.2.2.2.1.symm HZ.out.2.2.2.2.symm HZ.out.1.symm, ?_⟩
    exact (by repeat (first | (with_reducible exact HB.out) | (with_reducible refine below_drewN' ?_ _) | (with_reducible refine Below.drew ?_) | (with_reducible refine Below.alloc ?_ (by first | omega | (simp <;> omega)) _) | (with_reducible refine Below.setCell ?_ (by simp) _)))
set_option maxHeartbeats 1000000 in
theorem iReadDusting_any (s : ByteArray) (w : World) (hs : s.size ≤ 1048576) (hP : Pow w) (hE : ErrV w) (hM : MaxV w) : Calls Tryd.prog 9 #[.string s] w fun e w' => e = .returned (.tuple #[.agg #[.int .i64 (tdV s.data.toList 0), .int .i64 (tdV s.data.toList 1), .int .i64 (tdV s.data.toList 2), .int .i64 (tdV s.data.toList 3)], .bool (tdRd s.data.toList)]) ∧ Below w.heap.size w w' := by
  have HS := Lib.hid (fun W (h : Below w.heap.size w W) => readNumbersDusting_any s W hs (hP.below h) (hE.below h) (hM.below h))
  clear hs hP hE hM
  generalize tdRd s.data.toList = r at *
  generalize tdV s.data.toList = u at *
  go_enter Tryd.func9, Tryd.ntmps9
  go_wp2_with fail
  (with_reducible refine (HS.out _ (below_box _ _)).mono ?_)
  rintro e w1 ⟨rfl, hb⟩
  have HB := Lib.hid (show Below w.heap.size w w1 from (below_box _ _).trans (hb.mono (by simp)))
  obtain ⟨hc, hf⟩ := bcell hb
  have hz : w.heap.size < w1.heap.size := Nat.lt_of_lt_of_le (by simp) hb.size
  clear hb
  go_wp2
  refine bodyPost_ret (v := .tuple #[.agg #[.int .i64 (u 0), .int .i64 (u 1), .int .i64 (u 2), .int .i64 (u 3)], .bool r]) (by simp [results, Tryd.results9, go_sem, hc]) rfl ⟨rfl, ?_⟩
  exact (by repeat (first | (with_reducible exact HB.out) | (with_reducible refine below_drewN' ?_ _) | (with_reducible refine Below.drew ?_) | (with_reducible refine Below.alloc ?_ (by first | omega | (simp <;> omega)) _) | (with_reducible refine Below.setCell ?_ (by simp) _)))
theorem eqDusting_same (aw fr un du : Int) (w : World) :
    Calls Tryd.prog 10 #[.agg #[.int .i64 aw, .int .i64 fr, .int .i64 un, .int .i64 du], .agg #[.int .i64 aw, .int .i64 fr, .int .i64 un, .int .i64 du]] w fun e w' => e = .returned (.bool true) ∧ Below w.heap.size w w' := by
  go_enter Tryd.func10, Tryd.ntmps10
  go_wp2
  go_ret
  exact ⟨rfl, (by repeat (first | (with_reducible exact Below.refl _ _) | (with_reducible refine below_drewN' ?_ _) | (with_reducible refine Below.alloc ?_ (by simp <;> omega) _) | (with_reducible refine Below.setCell ?_ (by simp) _)))⟩
end Go.Proofs.YtnlkikdgffaeeaaDoor
