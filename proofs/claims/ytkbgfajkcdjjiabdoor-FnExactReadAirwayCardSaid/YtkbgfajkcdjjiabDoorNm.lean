/-
  Contracts of the texts of airways that are read: the model's and the program's. Conditions: those that each theorem states.
-/
import Derived.Test.YtkbgfajkcdjjiabDoorNl
import Derived.Test.YtkbgfajkcdjjiabDoorNk
import Derived.Test.YtkbgfajkcdjjiabDoorShE
namespace Go.Proofs.YtkbgfajkcdjjiabDoor
open Go.RowKit
set_option linter.unusedVariables false
set_option linter.unusedSimpArgs false

theorem keep6 {w w' : World} {g : Nat} {f t l se fr sh : Int} (hS : w.cell? ⟨g, 0, none⟩ = some (.int .i64 f) ∧ w.cell? ⟨g, 1, none⟩ = some (.int .i64 t) ∧ w.cell? ⟨g, 2, none⟩ = some (.int .i64 l) ∧ w.cell? ⟨g, 3, none⟩ = some (.int .i64 se) ∧ w.cell? ⟨g, 4, none⟩ = some (.int .i64 fr) ∧ w.cell? ⟨g, 5, none⟩ = some (.int .i64 sh)) (hb : Below w.heap.size w w') : w'.cell? ⟨g, 0, none⟩ = some (.int .i64 f) ∧ w'.cell? ⟨g, 1, none⟩ = some (.int .i64 t) ∧ w'.cell? ⟨g, 2, none⟩ = some (.int .i64 l) ∧ w'.cell? ⟨g, 3, none⟩ = some (.int .i64 se) ∧ w'.cell? ⟨g, 4, none⟩ = some (.int .i64 fr) ∧ w'.cell? ⟨g, 5, none⟩ = some (.int .i64 sh) :=
  ⟨cellK hS.1 hb, cellK hS.2.1 hb, cellK hS.2.2.1 hb, cellK hS.2.2.2.1 hb, cellK hS.2.2.2.2.1 hb, cellK hS.2.2.2.2.2 hb⟩
theorem keep7 {w w' : World} {g gs : Nat} {v : Value} {f t l se fr sh : Int} (hS : w.cell? ⟨gs, 0, none⟩ = some v ∧ w.cell? ⟨g, 0, none⟩ = some (.int .i64 f) ∧ w.cell? ⟨g, 1, none⟩ = some (.int .i64 t) ∧ w.cell? ⟨g, 2, none⟩ = some (.int .i64 l) ∧ w.cell? ⟨g, 3, none⟩ = some (.int .i64 se) ∧ w.cell? ⟨g, 4, none⟩ = some (.int .i64 fr) ∧ w.cell? ⟨g, 5, none⟩ = some (.int .i64 sh)) (hb : Below w.heap.size w w') : w'.cell? ⟨gs, 0, none⟩ = some v ∧ w'.cell? ⟨g, 0, none⟩ = some (.int .i64 f) ∧ w'.cell? ⟨g, 1, none⟩ = some (.int .i64 t) ∧ w'.cell? ⟨g, 2, none⟩ = some (.int .i64 l) ∧ w'.cell? ⟨g, 3, none⟩ = some (.int .i64 se) ∧ w'.cell? ⟨g, 4, none⟩ = some (.int .i64 fr) ∧ w'.cell? ⟨g, 5, none⟩ = some (.int .i64 sh) := ⟨cellK hS.1 hb, keep6 hS.2 hb⟩
theorem cutA_max (s : ByteArray) (hs : s.size ≤ 1048576) : (cutA s.data.toList).size ≤ maxLen := by
  have h1 := cutA_size s.data.toList
  have e : s.data.toList.length = s.size := by simp
  simp only [maxLen]
  omega
theorem cut_call (s : ByteArray) (w : World) (hs : s.size ≤ 1048576) (hM : MaxV w) : Calls Tryd.prog 80 #[.string s, .string ⟨#[32]⟩] w fun e w' => ∃ y b, e = .returned (.tuple #[.string (cutA s.data.toList), .string y, .bool b]) ∧ (y.data.toList = cutN s.data.toList ∧ y.size ≤ 1048576) ∧ Below w.heap.size w w' := by
  obtain ⟨m, hm⟩ := hM
  refine (Tryd.strings_Cut s ⟨#[32]⟩ m w (by omega) hm).mono ?_
  rintro e w' ⟨rfl, n, rfl⟩
  have hl := (cut_len s.data.toList).2
  have hsz : s.data.toList.length = s.size := by simp
  exact ⟨⟨(Lib.cut s.data.toList [32]).2.1.toArray⟩, _, rfl, ⟨rfl, by simp only [ByteArray.size, List.size_toArray]; omega⟩, below_dN (Below.refl _ _) n⟩
set_option maxHeartbeats 2000000 in
theorem sL03Read_any (s : ByteArray) (w : World) (hs : s.size ≤ 1048576) : Calls Tryd.prog 59 #[.string s] w fun e w' => e = .returned (.tuple #[.agg #[.string (awS s.data.toList), .int .i64 (awV s.data.toList 0), .int .i64 (awV s.data.toList 1), .int .i64 (awV s.data.toList 2), .int .i64 (awV s.data.toList 3), .int .i64 (awV s.data.toList 4), .int .i64 (awV s.data.toList 5)], .bool (awRd s.data.toList)]) ∧ Below w.heap.size w w' := by
  have HC := Lib.hid (fun W => l01Split_any s 32 W hs)
  have HS := Lib.hid (fun (y : ByteArray) W (hy : y.data.toList = cutN s.data.toList) (hys : y.size ≤ 1048576) => hy ▸ sReadList_any y W hys)
  have HZs := Lib.hid (cutA_max s hs)
  rcases aw_cases s.data.toList with ⟨hr, hS, hv, hcs⟩ | ⟨f, t, l, se, fr, sh, hb, hx, hok, hr, hS, h0, h1, h2, h3, h4, h5⟩
  · have HZ := Lib.hid (And.intro hS (And.intro hv hr))
    clear hS hv hr
    rcases hcs with hbn | ⟨hbn, hl⟩ | ⟨f, t, l, se, fr, sh, hbn, hx, hok⟩
    · rw [hbn] at HS
      have hxl := listV_len (cutN s.data.toList)
      generalize listV (cutN s.data.toList) = xs at *
      go_enter Tryd.func59, Tryd.ntmps59
      go_wp2_with fail
      refine (HC.out _).mono ?_
      rintro e wp ⟨v, ps, rfl, hps, hown, hbp⟩
      have HBP := Lib.hid (show Below w.heap.size w wp from (below_box _ _).trans (hbp.mono (by simp)))
      obtain ⟨hcp, hfp⟩ := bcell hbp
      have hz0 : w.heap.size < wp.heap.size := Nat.lt_of_lt_of_le (by simp) hbp.size
      rcases pieces2 hps with ⟨hl2, hb2⟩ | ⟨y, rfl, hy⟩
      · have hc := hcp
        obtain ⟨A, cap, rfl⟩ : ∃ A cap, v = .slice A ps.length cap := by
          rcases hown.2 with ⟨rfl, h0⟩ | ⟨g, cap, cur, rfl, hr⟩
          · exact ⟨none, 0, by rw [h0]⟩
          · exact ⟨_, cap, rfl⟩
        have t0 : ((ps.length : Int) != 2) = true := by simp; omega
        have HB := HBP
        clear hown hbp hps
        go_wp2
        refine bodyPost_ret (v := .tuple #[.agg #[.string ⟨#[]⟩, .int .i64 0, .int .i64 0, .int .i64 0, .int .i64 0, .int .i64 0, .int .i64 0], .bool false]) (by simp [results, Tryd.results59, go_sem, hc]) rfl ⟨aw_same HZ.out.1.symm (HZ.out.2.1 0).symm (HZ.out.2.1 1).symm (HZ.out.2.1 2).symm (HZ.out.2.1 3).symm (HZ.out.2.1 4).symm (HZ.out.2.1 5).symm HZ.out.2.2.symm, ?_⟩
        exact (by repeat (first | (with_reducible exact HB.out) | (with_reducible refine below_drewN' ?_ _) | (with_reducible refine Below.drew ?_) | (with_reducible refine Below.alloc ?_ (by first | omega | (simp <;> omega)) _) | (with_reducible refine Below.setCell ?_ (by simp) _)))
      · skip
        obtain ⟨gs, caps, rfl, hgs, hgsl⟩ := hown.form (by simp)
        have d0 : wp.cell? ⟨gs, 0, none⟩ = some (.string (cutA s.data.toList)) := by rw [hown.cellAt 0 (by simp)]; rfl
        have d1 : wp.cell? ⟨gs, 1, none⟩ = some (.string y) := by rw [hown.cellAt 1 (by simp)]; rfl
        have hys : y.size ≤ 1048576 := by
          have h1 := (cut_len s.data.toList).2
          have h2 : y.data.toList.length = y.size := by simp
          have h3 : s.data.toList.length = s.size := by simp
          rw [hy, cutN] at h2
          omega
        clear hown hbp hps
        go_wp2_with fail
        refine (HS.out y _ hy hys).mono ?_
        rintro e w1 ⟨v1, rfl, ho, hb⟩
        have HB := Lib.hid (show Below w.heap.size w w1 from HBP.out.trans (hb.mono HBP.out.size))
        obtain ⟨hcq, hfq⟩ := bcell hb
        have hc : ∀ b o, b < w.heap.size + 1 → w1.cell? ⟨b, o, none⟩ = (w.alloc (.cells #[.string ⟨#[]⟩, .int .i64 0, .int .i64 0, .int .i64 0, .int .i64 0, .int .i64 0, .int .i64 0] 53)).cell? ⟨b, o, none⟩ := fun b o h => (hcq b o (by omega)).trans (hcp b o (by simpa using h))
        have hf : ∀ b o, b < w.heap.size + 1 → w1.frozen? ⟨b, o, none⟩ = (w.alloc (.cells #[.string ⟨#[]⟩, .int .i64 0, .int .i64 0, .int .i64 0, .int .i64 0, .int .i64 0, .int .i64 0] 53)).frozen? ⟨b, o, none⟩ := fun b o h => (hfq b o (by omega)).trans (hfp b o (by simpa using h))
        have cs : w1.cell? ⟨gs, 0, none⟩ = some (.string (cutA s.data.toList)) := (hcq gs 0 hgsl).trans d0
        have hz : w.heap.size < w1.heap.size := Nat.lt_of_lt_of_le hz0 hb.size
        have hgsl1 : gs < w1.heap.size := Nat.lt_of_lt_of_le hgsl hb.size
        have hgs0 : w.heap.size < gs := by have := hgs; simp at this; omega
        clear hcq hfq hcp hfp d0 d1
        obtain ⟨g, cap, rfl⟩ := OwnI.form (show OwnI w1 _ v1 xs from ho)
        clear ho hb
        go_wp2
        refine bodyPost_ret (v := .tuple #[.agg #[.string ⟨#[]⟩, .int .i64 0, .int .i64 0, .int .i64 0, .int .i64 0, .int .i64 0, .int .i64 0], .bool false]) (by simp [results, Tryd.results59, go_sem, hc]) rfl ⟨aw_same HZ.out.1.symm (HZ.out.2.1 0).symm (HZ.out.2.1 1).symm (HZ.out.2.1 2).symm (HZ.out.2.1 3).symm (HZ.out.2.1 4).symm (HZ.out.2.1 5).symm HZ.out.2.2.symm, ?_⟩
        exact (by repeat (first | (with_reducible exact HB.out) | (with_reducible refine below_drewN' ?_ _) | (with_reducible refine Below.drew ?_) | (with_reducible refine Below.alloc ?_ (by first | omega | (simp <;> omega)) _) | (with_reducible refine Below.setCell ?_ (by simp) _)))
    · rw [hbn] at HS
      have hxl := listV_len (cutN s.data.toList)
      generalize listV (cutN s.data.toList) = xs at *
      have t1 : ((xs.length : Int) != 6) = true := by simp; omega
      go_enter Tryd.func59, Tryd.ntmps59
      go_wp2_with fail
      refine (HC.out _).mono ?_
      rintro e wp ⟨v, ps, rfl, hps, hown, hbp⟩
      have HBP := Lib.hid (show Below w.heap.size w wp from (below_box _ _).trans (hbp.mono (by simp)))
      obtain ⟨hcp, hfp⟩ := bcell hbp
      have hz0 : w.heap.size < wp.heap.size := Nat.lt_of_lt_of_le (by simp) hbp.size
      rcases pieces2 hps with ⟨hl2, hb2⟩ | ⟨y, rfl, hy⟩
      · have hc := hcp
        obtain ⟨A, cap, rfl⟩ : ∃ A cap, v = .slice A ps.length cap := by
          rcases hown.2 with ⟨rfl, h0⟩ | ⟨g, cap, cur, rfl, hr⟩
          · exact ⟨none, 0, by rw [h0]⟩
          · exact ⟨_, cap, rfl⟩
        have t0 : ((ps.length : Int) != 2) = true := by simp; omega
        have HB := HBP
        clear hown hbp hps
        go_wp2
        refine bodyPost_ret (v := .tuple #[.agg #[.string ⟨#[]⟩, .int .i64 0, .int .i64 0, .int .i64 0, .int .i64 0, .int .i64 0, .int .i64 0], .bool false]) (by simp [results, Tryd.results59, go_sem, hc]) rfl ⟨aw_same HZ.out.1.symm (HZ.out.2.1 0).symm (HZ.out.2.1 1).symm (HZ.out.2.1 2).symm (HZ.out.2.1 3).symm (HZ.out.2.1 4).symm (HZ.out.2.1 5).symm HZ.out.2.2.symm, ?_⟩
        exact (by repeat (first | (with_reducible exact HB.out) | (with_reducible refine below_drewN' ?_ _) | (with_reducible refine Below.drew ?_) | (with_reducible refine Below.alloc ?_ (by first | omega | (simp <;> omega)) _) | (with_reducible refine Below.setCell ?_ (by simp) _)))
      · skip
        obtain ⟨gs, caps, rfl, hgs, hgsl⟩ := hown.form (by simp)
        have d0 : wp.cell? ⟨gs, 0, none⟩ = some (.string (cutA s.data.toList)) := by rw [hown.cellAt 0 (by simp)]; rfl
        have d1 : wp.cell? ⟨gs, 1, none⟩ = some (.string y) := by rw [hown.cellAt 1 (by simp)]; rfl
        have hys : y.size ≤ 1048576 := by
          have h1 := (cut_len s.data.toList).2
          have h2 : y.data.toList.length = y.size := by simp
          have h3 : s.data.toList.length = s.size := by simp
          rw [hy, cutN] at h2
          omega
        clear hown hbp hps
        go_wp2_with fail
        refine (HS.out y _ hy hys).mono ?_
        rintro e w1 ⟨v1, rfl, ho, hb⟩
        have HB := Lib.hid (show Below w.heap.size w w1 from HBP.out.trans (hb.mono HBP.out.size))
        obtain ⟨hcq, hfq⟩ := bcell hb
        have hc : ∀ b o, b < w.heap.size + 1 → w1.cell? ⟨b, o, none⟩ = (w.alloc (.cells #[.string ⟨#[]⟩, .int .i64 0, .int .i64 0, .int .i64 0, .int .i64 0, .int .i64 0, .int .i64 0] 53)).cell? ⟨b, o, none⟩ := fun b o h => (hcq b o (by omega)).trans (hcp b o (by simpa using h))
        have hf : ∀ b o, b < w.heap.size + 1 → w1.frozen? ⟨b, o, none⟩ = (w.alloc (.cells #[.string ⟨#[]⟩, .int .i64 0, .int .i64 0, .int .i64 0, .int .i64 0, .int .i64 0, .int .i64 0] 53)).frozen? ⟨b, o, none⟩ := fun b o h => (hfq b o (by omega)).trans (hfp b o (by simpa using h))
        have cs : w1.cell? ⟨gs, 0, none⟩ = some (.string (cutA s.data.toList)) := (hcq gs 0 hgsl).trans d0
        have hz : w.heap.size < w1.heap.size := Nat.lt_of_lt_of_le hz0 hb.size
        have hgsl1 : gs < w1.heap.size := Nat.lt_of_lt_of_le hgsl hb.size
        have hgs0 : w.heap.size < gs := by have := hgs; simp at this; omega
        clear hcq hfq hcp hfp d0 d1
        obtain ⟨g, cap, rfl⟩ := OwnI.form (show OwnI w1 _ v1 xs from ho)
        clear ho hb
        go_wp2
        refine bodyPost_ret (v := .tuple #[.agg #[.string ⟨#[]⟩, .int .i64 0, .int .i64 0, .int .i64 0, .int .i64 0, .int .i64 0, .int .i64 0], .bool false]) (by simp [results, Tryd.results59, go_sem, hc]) rfl ⟨aw_same HZ.out.1.symm (HZ.out.2.1 0).symm (HZ.out.2.1 1).symm (HZ.out.2.1 2).symm (HZ.out.2.1 3).symm (HZ.out.2.1 4).symm (HZ.out.2.1 5).symm HZ.out.2.2.symm, ?_⟩
        exact (by repeat (first | (with_reducible exact HB.out) | (with_reducible refine below_drewN' ?_ _) | (with_reducible refine Below.drew ?_) | (with_reducible refine Below.alloc ?_ (by first | omega | (simp <;> omega)) _) | (with_reducible refine Below.setCell ?_ (by simp) _)))
    · rw [hbn, hx] at HS
      clear hx
      go_enter Tryd.func59, Tryd.ntmps59
      go_wp2_with fail
      refine (HC.out _).mono ?_
      rintro e wp ⟨v, ps, rfl, hps, hown, hbp⟩
      have HBP := Lib.hid (show Below w.heap.size w wp from (below_box _ _).trans (hbp.mono (by simp)))
      obtain ⟨hcp, hfp⟩ := bcell hbp
      have hz0 : w.heap.size < wp.heap.size := Nat.lt_of_lt_of_le (by simp) hbp.size
      rcases pieces2 hps with ⟨hl2, hb2⟩ | ⟨y, rfl, hy⟩
      · have hc := hcp
        obtain ⟨A, cap, rfl⟩ : ∃ A cap, v = .slice A ps.length cap := by
          rcases hown.2 with ⟨rfl, h0⟩ | ⟨g, cap, cur, rfl, hr⟩
          · exact ⟨none, 0, by rw [h0]⟩
          · exact ⟨_, cap, rfl⟩
        have t0 : ((ps.length : Int) != 2) = true := by simp; omega
        have HB := HBP
        clear hown hbp hps
        go_wp2
        refine bodyPost_ret (v := .tuple #[.agg #[.string ⟨#[]⟩, .int .i64 0, .int .i64 0, .int .i64 0, .int .i64 0, .int .i64 0, .int .i64 0], .bool false]) (by simp [results, Tryd.results59, go_sem, hc]) rfl ⟨aw_same HZ.out.1.symm (HZ.out.2.1 0).symm (HZ.out.2.1 1).symm (HZ.out.2.1 2).symm (HZ.out.2.1 3).symm (HZ.out.2.1 4).symm (HZ.out.2.1 5).symm HZ.out.2.2.symm, ?_⟩
        exact (by repeat (first | (with_reducible exact HB.out) | (with_reducible refine below_drewN' ?_ _) | (with_reducible refine Below.drew ?_) | (with_reducible refine Below.alloc ?_ (by first | omega | (simp <;> omega)) _) | (with_reducible refine Below.setCell ?_ (by simp) _)))
      · skip
        obtain ⟨gs, caps, rfl, hgs, hgsl⟩ := hown.form (by simp)
        have d0 : wp.cell? ⟨gs, 0, none⟩ = some (.string (cutA s.data.toList)) := by rw [hown.cellAt 0 (by simp)]; rfl
        have d1 : wp.cell? ⟨gs, 1, none⟩ = some (.string y) := by rw [hown.cellAt 1 (by simp)]; rfl
        have hys : y.size ≤ 1048576 := by
          have h1 := (cut_len s.data.toList).2
          have h2 : y.data.toList.length = y.size := by simp
          have h3 : s.data.toList.length = s.size := by simp
          rw [hy, cutN] at h2
          omega
        clear hown hbp hps
        go_wp2_with fail
        refine (HS.out y _ hy hys).mono ?_
        rintro e w1 ⟨v1, rfl, ho, hb⟩
        have HB := Lib.hid (show Below w.heap.size w w1 from HBP.out.trans (hb.mono HBP.out.size))
        obtain ⟨hcq, hfq⟩ := bcell hb
        have hc : ∀ b o, b < w.heap.size + 1 → w1.cell? ⟨b, o, none⟩ = (w.alloc (.cells #[.string ⟨#[]⟩, .int .i64 0, .int .i64 0, .int .i64 0, .int .i64 0, .int .i64 0, .int .i64 0] 53)).cell? ⟨b, o, none⟩ := fun b o h => (hcq b o (by omega)).trans (hcp b o (by simpa using h))
        have hf : ∀ b o, b < w.heap.size + 1 → w1.frozen? ⟨b, o, none⟩ = (w.alloc (.cells #[.string ⟨#[]⟩, .int .i64 0, .int .i64 0, .int .i64 0, .int .i64 0, .int .i64 0, .int .i64 0] 53)).frozen? ⟨b, o, none⟩ := fun b o h => (hfq b o (by omega)).trans (hfp b o (by simpa using h))
        have cs : w1.cell? ⟨gs, 0, none⟩ = some (.string (cutA s.data.toList)) := (hcq gs 0 hgsl).trans d0
        have hz : w.heap.size < w1.heap.size := Nat.lt_of_lt_of_le hz0 hb.size
        have hgsl1 : gs < w1.heap.size := Nat.lt_of_lt_of_le hgsl hb.size
        have hgs0 : w.heap.size < gs := by have := hgs; simp at this; omega
        clear hcq hfq hcp hfp d0 d1
        obtain ⟨g, cap, rfl, hg, hgl⟩ := ho.form (by simp)
        have c0 : w1.cell? ⟨g, 0, none⟩ = some (.int .i64 f) := by rw [ho.cellAt 0 (by simp)]; rfl
        have c1 : w1.cell? ⟨g, 1, none⟩ = some (.int .i64 t) := by rw [ho.cellAt 1 (by simp)]; rfl
        have c2 : w1.cell? ⟨g, 2, none⟩ = some (.int .i64 l) := by rw [ho.cellAt 2 (by simp)]; rfl
        have c3 : w1.cell? ⟨g, 3, none⟩ = some (.int .i64 se) := by rw [ho.cellAt 3 (by simp)]; rfl
        have c4 : w1.cell? ⟨g, 4, none⟩ = some (.int .i64 fr) := by rw [ho.cellAt 4 (by simp)]; rfl
        have c5 : w1.cell? ⟨g, 5, none⟩ = some (.int .i64 sh) := by rw [ho.cellAt 5 (by simp)]; rfl
        clear ho hb
        go_wp2_with fail
        have hne : ¬ (w1.heap.size = g) := by omega
        have hne2 : ¬ (g = w1.heap.size) := by omega
        have hn1 : ¬ (w.heap.size = w1.heap.size) := by omega
        have hn2 : ¬ (w1.heap.size = w.heap.size) := by omega
        have hn3 : ¬ (w.heap.size = w1.heap.size + 1) := by omega
        have hn4 : ¬ (w1.heap.size + 1 = w.heap.size) := by omega
        have hz2 : w.heap.size < w1.heap.size + 1 := by omega
        have hc0 : (w1.drew.cell? ⟨gs, 0, none⟩ = some (.string (cutA s.data.toList)) ∧ w1.drew.cell? ⟨g, 0, none⟩ = some (.int .i64 f) ∧ w1.drew.cell? ⟨g, 1, none⟩ = some (.int .i64 t) ∧ w1.drew.cell? ⟨g, 2, none⟩ = some (.int .i64 l) ∧ w1.drew.cell? ⟨g, 3, none⟩ = some (.int .i64 se) ∧ w1.drew.cell? ⟨g, 4, none⟩ = some (.int .i64 fr) ∧ w1.drew.cell? ⟨g, 5, none⟩ = some (.int .i64 sh)) := ⟨cs, c0, c1, c2, c3, c4, c5⟩
        refine wp_region_held (S := fun w' => w'.cell? ⟨gs, 0, none⟩ = some (.string (cutA s.data.toList)) ∧ w'.cell? ⟨g, 0, none⟩ = some (.int .i64 f) ∧ w'.cell? ⟨g, 1, none⟩ = some (.int .i64 t) ∧ w'.cell? ⟨g, 2, none⟩ = some (.int .i64 l) ∧ w'.cell? ⟨g, 3, none⟩ = some (.int .i64 se) ∧ w'.cell? ⟨g, 4, none⟩ = some (.int .i64 fr) ∧ w'.cell? ⟨g, 5, none⟩ = some (.int .i64 sh)) (by kernel_rfl) ?_
        try (change wpAnyH _ _ _ _ _ _ _ _ (World.drew _))
        have hS0 := hc0
        refine gTake 0 (v := ?_) rfl (by kernel_rfl) (by kernel_rfl) (by kernel_rfl) (fun _ _ _ h => h) (by kernel_rfl) ?_ hS0 ?_
        rotate_left
        · (intro W hW; clear hW; go_simp; try with_reducible rfl)
        refine gTake 1 (v := ?_) rfl (by kernel_rfl) (by kernel_rfl) (by kernel_rfl) (fun _ _ _ h => h) (by kernel_rfl) ?_ hS0 ?_
        rotate_left
        · (intro W hW; clear hW; go_simp; try with_reducible rfl)
        refine gTake 2 (v := ?_) rfl (by kernel_rfl) (by kernel_rfl) (by kernel_rfl) (fun _ _ _ h => h) (by kernel_rfl) ?_ hS0 ?_
        rotate_left
        · (intro W hW; have q0 := hW.1; have q1 := hW.2.1; have q2 := hW.2.2.1; have q3 := hW.2.2.2.1; have q4 := hW.2.2.2.2.1; have q5 := hW.2.2.2.2.2.1; have q6 := hW.2.2.2.2.2.2; clear hW; go_simp; try with_reducible rfl)
        refine gTake 3 (v := ?_) rfl (by kernel_rfl) (by kernel_rfl) (by kernel_rfl) (fun _ _ _ h => h) (by kernel_rfl) ?_ hS0 ?_
        rotate_left
        · (intro W hW; clear hW; go_simp; try with_reducible rfl)
        refine gTake 4 (v := ?_) rfl (by kernel_rfl) (by kernel_rfl) (by kernel_rfl) (fun _ _ _ h => h) (by kernel_rfl) ?_ hS0 ?_
        rotate_left
        · (intro W hW; clear hW; go_simp; try with_reducible rfl)
        refine gTake 5 (v := ?_) rfl (by kernel_rfl) (by kernel_rfl) (by kernel_rfl) (fun _ _ _ h => h) (by kernel_rfl) ?_ hS0 ?_
        rotate_left
        · (intro W hW; have q0 := hW.1; have q1 := hW.2.1; have q2 := hW.2.2.1; have q3 := hW.2.2.2.1; have q4 := hW.2.2.2.2.1; have q5 := hW.2.2.2.2.2.1; have q6 := hW.2.2.2.2.2.2; clear hW; go_simp; try with_reducible rfl)
        refine gTake 6 (v := ?_) rfl (by kernel_rfl) (by kernel_rfl) (by kernel_rfl) (fun _ _ _ h => h) (by kernel_rfl) ?_ hS0 ?_
        rotate_left
        · (intro W hW; clear hW; go_simp; try with_reducible rfl)
        refine gTake 7 (v := ?_) rfl (by kernel_rfl) (by kernel_rfl) (by kernel_rfl) (fun _ _ _ h => h) (by kernel_rfl) ?_ hS0 ?_
        rotate_left
        · (intro W hW; clear hW; go_simp; try with_reducible rfl)
        refine gTake 8 (v := ?_) rfl (by kernel_rfl) (by kernel_rfl) (by kernel_rfl) (fun _ _ _ h => h) (by kernel_rfl) ?_ hS0 ?_
        rotate_left
        · (intro W hW; have q0 := hW.1; have q1 := hW.2.1; have q2 := hW.2.2.1; have q3 := hW.2.2.2.1; have q4 := hW.2.2.2.2.1; have q5 := hW.2.2.2.2.2.1; have q6 := hW.2.2.2.2.2.2; clear hW; go_simp; try with_reducible rfl)
        refine gTake 9 (v := ?_) rfl (by kernel_rfl) (by kernel_rfl) (by kernel_rfl) (fun _ _ _ h => h) (by kernel_rfl) ?_ hS0 ?_
        rotate_left
        · (intro W hW; clear hW; go_simp; try with_reducible rfl)
        refine gTake 10 (v := ?_) rfl (by kernel_rfl) (by kernel_rfl) (by kernel_rfl) (fun _ _ _ h => h) (by kernel_rfl) ?_ hS0 ?_
        rotate_left
        · (intro W hW; clear hW; go_simp; try with_reducible rfl)
        refine gTake 11 (v := ?_) rfl (by kernel_rfl) (by kernel_rfl) (by kernel_rfl) (fun _ _ _ h => h) (by kernel_rfl) ?_ hS0 ?_
        rotate_left
        · (intro W hW; have q0 := hW.1; have q1 := hW.2.1; have q2 := hW.2.2.1; have q3 := hW.2.2.2.1; have q4 := hW.2.2.2.2.1; have q5 := hW.2.2.2.2.2.1; have q6 := hW.2.2.2.2.2.2; clear hW; go_simp; try with_reducible rfl)
        refine gTake 12 (v := ?_) rfl (by kernel_rfl) (by kernel_rfl) (by kernel_rfl) (fun _ _ _ h => h) (by kernel_rfl) ?_ hS0 ?_
        rotate_left
        · (intro W hW; clear hW; go_simp; try with_reducible rfl)
        refine gTake 13 (v := ?_) rfl (by kernel_rfl) (by kernel_rfl) (by kernel_rfl) (fun _ _ _ h => h) (by kernel_rfl) ?_ hS0 ?_
        rotate_left
        · (intro W hW; clear hW; go_simp; try with_reducible rfl)
        refine gTake 14 (v := ?_) rfl (by kernel_rfl) (by kernel_rfl) (by kernel_rfl) (fun _ _ _ h => h) (by kernel_rfl) ?_ hS0 ?_
        rotate_left
        · (intro W hW; have q0 := hW.1; have q1 := hW.2.1; have q2 := hW.2.2.1; have q3 := hW.2.2.2.1; have q4 := hW.2.2.2.2.1; have q5 := hW.2.2.2.2.2.1; have q6 := hW.2.2.2.2.2.2; clear hW; go_simp; try with_reducible rfl)
        refine gTake 15 (v := ?_) rfl (by kernel_rfl) (by kernel_rfl) (by kernel_rfl) (fun _ _ _ h => h) (by kernel_rfl) ?_ hS0 ?_
        rotate_left
        · (intro W hW; clear hW; go_simp; try with_reducible rfl)
        refine gTake 16 (v := ?_) rfl (by kernel_rfl) (by kernel_rfl) (by kernel_rfl) (fun _ _ _ h => h) (by kernel_rfl) ?_ hS0 ?_
        rotate_left
        · (intro W hW; clear hW; go_simp; try with_reducible rfl)
        refine gTake 17 (v := ?_) rfl (by kernel_rfl) (by kernel_rfl) (by kernel_rfl) (fun _ _ _ h => h) (by kernel_rfl) ?_ hS0 ?_
        rotate_left
        · (intro W hW; have q0 := hW.1; have q1 := hW.2.1; have q2 := hW.2.2.1; have q3 := hW.2.2.2.1; have q4 := hW.2.2.2.2.1; have q5 := hW.2.2.2.2.2.1; have q6 := hW.2.2.2.2.2.2; clear hW; go_simp; try with_reducible rfl)
        refine gTake 18 (v := ?_) rfl (by kernel_rfl) (by kernel_rfl) (by kernel_rfl) (fun _ _ _ h => h) (by kernel_rfl) ?_ hS0 ?_
        rotate_left
        · (intro W hW; clear hW; go_simp; try with_reducible rfl)
        refine gTake 19 (v := ?_) rfl (by kernel_rfl) (by kernel_rfl) (by kernel_rfl) (fun _ _ _ h => h) (by kernel_rfl) ?_ hS0 ?_
        rotate_left
        · (intro W hW; clear hW; go_simp; try with_reducible rfl)
        refine gTake 20 (v := ?_) rfl (by kernel_rfl) (by kernel_rfl) (by kernel_rfl) (fun _ _ _ h => h) (by kernel_rfl) ?_ hS0 ?_
        rotate_left
        · (intro W hW; have q0 := hW.1; have q1 := hW.2.1; have q2 := hW.2.2.1; have q3 := hW.2.2.2.1; have q4 := hW.2.2.2.2.1; have q5 := hW.2.2.2.2.2.1; have q6 := hW.2.2.2.2.2.2; clear hW; go_simp; try with_reducible rfl)
        refine gTake 21 (v := ?_) rfl (by kernel_rfl) (by kernel_rfl) (by kernel_rfl) (fun _ _ _ h => h) (by kernel_rfl) ?_ hS0 ?_
        rotate_left
        · (intro W hW; clear hW; go_simp; try with_reducible rfl)
        refine gOne 22 rfl (by kernel_rfl) (by kernel_rfl) (fun K hK => ?_)
        go_simp
        skip
        have hS1 := (keep7 hS0 (below_box w1.drew (.cells #[.string ⟨#[]⟩, .int .i64 0, .int .i64 0, .int .i64 0, .int .i64 0, .int .i64 0, .int .i64 0] 53)))
        refine hK _ _ hS1 ?_
        clear hK K
        refine gOne 23 rfl (by kernel_rfl) (by kernel_rfl) (fun K hK => ?_)
        go_simp
        skip
        refine viaS (hK _ _) ?_ (fun hS2 => ?_)
        · exact ⟨by simp; exact cellK cs (below_box _ _), by simp; exact cellK c0 (below_box _ _), by simp; exact cellK c1 (below_box _ _), by simp; exact cellK c2 (below_box _ _), by simp; exact cellK c3 (below_box _ _), by simp; exact cellK c4 (below_box _ _), by simp; exact cellK c5 (below_box _ _)⟩
        clear hK K
        refine wpAnyH_done (by kernel_rfl) ?_ _
        go_simp
        go_wp2_with fail
        (with_reducible refine (l03Ok_any w1.heap.size (cutA s.data.toList) f t l se fr sh _ HZs.out (by unfold AwAt; simp)).mono ?_)
        rintro e w2 ⟨rfl, n, rfl⟩
        rw [hok]
        go_wp2
        refine bodyPost_ret (v := .tuple #[.agg #[.string ⟨#[]⟩, .int .i64 0, .int .i64 0, .int .i64 0, .int .i64 0, .int .i64 0, .int .i64 0], .bool false]) (by simp [results, Tryd.results59, go_sem, hc, hn1, hn2, hn3, hn4, hz, hz2]) rfl ⟨aw_same HZ.out.1.symm (HZ.out.2.1 0).symm (HZ.out.2.1 1).symm (HZ.out.2.1 2).symm (HZ.out.2.1 3).symm (HZ.out.2.1 4).symm (HZ.out.2.1 5).symm HZ.out.2.2.symm, ?_⟩
        exact (by repeat (first | (with_reducible exact HB.out) | (with_reducible refine below_drewN' ?_ _) | (with_reducible refine Below.drew ?_) | (with_reducible refine Below.alloc ?_ (by first | omega | (simp <;> omega)) _) | (with_reducible refine Below.setCell ?_ (by simp) _)))
  · have HZ := Lib.hid (And.intro hS (And.intro hr (And.intro h0 (And.intro h1 (And.intro h2 (And.intro h3 (And.intro h4 h5)))))))
    rw [hb, hx] at HS
    have HBt := Lib.hid hb
    clear hx hS h0 h1 h2 h3 h4 h5 hr hb
    go_enter Tryd.func59, Tryd.ntmps59
    go_wp2_with fail
    refine (HC.out _).mono ?_
    rintro e wp ⟨v, ps, rfl, hps, hown, hbp⟩
    have HBP := Lib.hid (show Below w.heap.size w wp from (below_box _ _).trans (hbp.mono (by simp)))
    obtain ⟨hcp, hfp⟩ := bcell hbp
    have hz0 : w.heap.size < wp.heap.size := Nat.lt_of_lt_of_le (by simp) hbp.size
    rcases pieces2 hps with ⟨hl2, hb2⟩ | ⟨y, rfl, hy⟩
    · have := HBt.out
      rw [hb2] at this
      cases this
    · skip
      obtain ⟨gs, caps, rfl, hgs, hgsl⟩ := hown.form (by simp)
      have d0 : wp.cell? ⟨gs, 0, none⟩ = some (.string (cutA s.data.toList)) := by rw [hown.cellAt 0 (by simp)]; rfl
      have d1 : wp.cell? ⟨gs, 1, none⟩ = some (.string y) := by rw [hown.cellAt 1 (by simp)]; rfl
      have hys : y.size ≤ 1048576 := by
        have h1 := (cut_len s.data.toList).2
        have h2 : y.data.toList.length = y.size := by simp
        have h3 : s.data.toList.length = s.size := by simp
        rw [hy, cutN] at h2
        omega
      clear hown hbp hps
      go_wp2_with fail
      refine (HS.out y _ hy hys).mono ?_
      rintro e w1 ⟨v1, rfl, ho, hb⟩
      have HB := Lib.hid (show Below w.heap.size w w1 from HBP.out.trans (hb.mono HBP.out.size))
      obtain ⟨hcq, hfq⟩ := bcell hb
      have hc : ∀ b o, b < w.heap.size + 1 → w1.cell? ⟨b, o, none⟩ = (w.alloc (.cells #[.string ⟨#[]⟩, .int .i64 0, .int .i64 0, .int .i64 0, .int .i64 0, .int .i64 0, .int .i64 0] 53)).cell? ⟨b, o, none⟩ := fun b o h => (hcq b o (by omega)).trans (hcp b o (by simpa using h))
      have hf : ∀ b o, b < w.heap.size + 1 → w1.frozen? ⟨b, o, none⟩ = (w.alloc (.cells #[.string ⟨#[]⟩, .int .i64 0, .int .i64 0, .int .i64 0, .int .i64 0, .int .i64 0, .int .i64 0] 53)).frozen? ⟨b, o, none⟩ := fun b o h => (hfq b o (by omega)).trans (hfp b o (by simpa using h))
      have cs : w1.cell? ⟨gs, 0, none⟩ = some (.string (cutA s.data.toList)) := (hcq gs 0 hgsl).trans d0
      have hz : w.heap.size < w1.heap.size := Nat.lt_of_lt_of_le hz0 hb.size
      have hgsl1 : gs < w1.heap.size := Nat.lt_of_lt_of_le hgsl hb.size
      have hgs0 : w.heap.size < gs := by have := hgs; simp at this; omega
      clear hcq hfq hcp hfp d0 d1
      obtain ⟨g, cap, rfl, hg, hgl⟩ := ho.form (by simp)
      have c0 : w1.cell? ⟨g, 0, none⟩ = some (.int .i64 f) := by rw [ho.cellAt 0 (by simp)]; rfl
      have c1 : w1.cell? ⟨g, 1, none⟩ = some (.int .i64 t) := by rw [ho.cellAt 1 (by simp)]; rfl
      have c2 : w1.cell? ⟨g, 2, none⟩ = some (.int .i64 l) := by rw [ho.cellAt 2 (by simp)]; rfl
      have c3 : w1.cell? ⟨g, 3, none⟩ = some (.int .i64 se) := by rw [ho.cellAt 3 (by simp)]; rfl
      have c4 : w1.cell? ⟨g, 4, none⟩ = some (.int .i64 fr) := by rw [ho.cellAt 4 (by simp)]; rfl
      have c5 : w1.cell? ⟨g, 5, none⟩ = some (.int .i64 sh) := by rw [ho.cellAt 5 (by simp)]; rfl
      clear ho hb
      go_wp2_with fail
      have hne : ¬ (w1.heap.size = g) := by omega
      have hne2 : ¬ (g = w1.heap.size) := by omega
      have hn1 : ¬ (w.heap.size = w1.heap.size) := by omega
      have hn2 : ¬ (w1.heap.size = w.heap.size) := by omega
      have hn3 : ¬ (w.heap.size = w1.heap.size + 1) := by omega
      have hn4 : ¬ (w1.heap.size + 1 = w.heap.size) := by omega
      have hz2 : w.heap.size < w1.heap.size + 1 := by omega
      have hc0 : (w1.drew.cell? ⟨gs, 0, none⟩ = some (.string (cutA s.data.toList)) ∧ w1.drew.cell? ⟨g, 0, none⟩ = some (.int .i64 f) ∧ w1.drew.cell? ⟨g, 1, none⟩ = some (.int .i64 t) ∧ w1.drew.cell? ⟨g, 2, none⟩ = some (.int .i64 l) ∧ w1.drew.cell? ⟨g, 3, none⟩ = some (.int .i64 se) ∧ w1.drew.cell? ⟨g, 4, none⟩ = some (.int .i64 fr) ∧ w1.drew.cell? ⟨g, 5, none⟩ = some (.int .i64 sh)) := ⟨cs, c0, c1, c2, c3, c4, c5⟩
      refine wp_region_held (S := fun w' => w'.cell? ⟨gs, 0, none⟩ = some (.string (cutA s.data.toList)) ∧ w'.cell? ⟨g, 0, none⟩ = some (.int .i64 f) ∧ w'.cell? ⟨g, 1, none⟩ = some (.int .i64 t) ∧ w'.cell? ⟨g, 2, none⟩ = some (.int .i64 l) ∧ w'.cell? ⟨g, 3, none⟩ = some (.int .i64 se) ∧ w'.cell? ⟨g, 4, none⟩ = some (.int .i64 fr) ∧ w'.cell? ⟨g, 5, none⟩ = some (.int .i64 sh)) (by kernel_rfl) ?_
      try (change wpAnyH _ _ _ _ _ _ _ _ (World.drew _))
      have hS0 := hc0
      refine gTake 0 (v := ?_) rfl (by kernel_rfl) (by kernel_rfl) (by kernel_rfl) (fun _ _ _ h => h) (by kernel_rfl) ?_ hS0 ?_
      rotate_left
      · (intro W hW; clear hW; go_simp; try with_reducible rfl)
      refine gTake 1 (v := ?_) rfl (by kernel_rfl) (by kernel_rfl) (by kernel_rfl) (fun _ _ _ h => h) (by kernel_rfl) ?_ hS0 ?_
      rotate_left
      · (intro W hW; clear hW; go_simp; try with_reducible rfl)
      refine gTake 2 (v := ?_) rfl (by kernel_rfl) (by kernel_rfl) (by kernel_rfl) (fun _ _ _ h => h) (by kernel_rfl) ?_ hS0 ?_
      rotate_left
      · (intro W hW; have q0 := hW.1; have q1 := hW.2.1; have q2 := hW.2.2.1; have q3 := hW.2.2.2.1; have q4 := hW.2.2.2.2.1; have q5 := hW.2.2.2.2.2.1; have q6 := hW.2.2.2.2.2.2; clear hW; go_simp; try with_reducible rfl)
      refine gTake 3 (v := ?_) rfl (by kernel_rfl) (by kernel_rfl) (by kernel_rfl) (fun _ _ _ h => h) (by kernel_rfl) ?_ hS0 ?_
      rotate_left
      · (intro W hW; clear hW; go_simp; try with_reducible rfl)
      refine gTake 4 (v := ?_) rfl (by kernel_rfl) (by kernel_rfl) (by kernel_rfl) (fun _ _ _ h => h) (by kernel_rfl) ?_ hS0 ?_
      rotate_left
      · (intro W hW; clear hW; go_simp; try with_reducible rfl)
      refine gTake 5 (v := ?_) rfl (by kernel_rfl) (by kernel_rfl) (by kernel_rfl) (fun _ _ _ h => h) (by kernel_rfl) ?_ hS0 ?_
      rotate_left
      · (intro W hW; have q0 := hW.1; have q1 := hW.2.1; have q2 := hW.2.2.1; have q3 := hW.2.2.2.1; have q4 := hW.2.2.2.2.1; have q5 := hW.2.2.2.2.2.1; have q6 := hW.2.2.2.2.2.2; clear hW; go_simp; try with_reducible rfl)
      refine gTake 6 (v := ?_) rfl (by kernel_rfl) (by kernel_rfl) (by kernel_rfl) (fun _ _ _ h => h) (by kernel_rfl) ?_ hS0 ?_
      rotate_left
      · (intro W hW; clear hW; go_simp; try with_reducible rfl)
      refine gTake 7 (v := ?_) rfl (by kernel_rfl) (by kernel_rfl) (by kernel_rfl) (fun _ _ _ h => h) (by kernel_rfl) ?_ hS0 ?_
      rotate_left
      · (intro W hW; clear hW; go_simp; try with_reducible rfl)
      refine gTake 8 (v := ?_) rfl (by kernel_rfl) (by kernel_rfl) (by kernel_rfl) (fun _ _ _ h => h) (by kernel_rfl) ?_ hS0 ?_
      rotate_left
      · (intro W hW; have q0 := hW.1; have q1 := hW.2.1; have q2 := hW.2.2.1; have q3 := hW.2.2.2.1; have q4 := hW.2.2.2.2.1; have q5 := hW.2.2.2.2.2.1; have q6 := hW.2.2.2.2.2.2; clear hW; go_simp; try with_reducible rfl)
      refine gTake 9 (v := ?_) rfl (by kernel_rfl) (by kernel_rfl) (by kernel_rfl) (fun _ _ _ h => h) (by kernel_rfl) ?_ hS0 ?_
      rotate_left
      · (intro W hW; clear hW; go_simp; try with_reducible rfl)
      refine gTake 10 (v := ?_) rfl (by kernel_rfl) (by kernel_rfl) (by kernel_rfl) (fun _ _ _ h => h) (by kernel_rfl) ?_ hS0 ?_
      rotate_left
      · (intro W hW; clear hW; go_simp; try with_reducible rfl)
      refine gTake 11 (v := ?_) rfl (by kernel_rfl) (by kernel_rfl) (by kernel_rfl) (fun _ _ _ h => h) (by kernel_rfl) ?_ hS0 ?_
      rotate_left
      · (intro W hW; have q0 := hW.1; have q1 := hW.2.1; have q2 := hW.2.2.1; have q3 := hW.2.2.2.1; have q4 := hW.2.2.2.2.1; have q5 := hW.2.2.2.2.2.1; have q6 := hW.2.2.2.2.2.2; clear hW; go_simp; try with_reducible rfl)
      refine gTake 12 (v := ?_) rfl (by kernel_rfl) (by kernel_rfl) (by kernel_rfl) (fun _ _ _ h => h) (by kernel_rfl) ?_ hS0 ?_
      rotate_left
      · (intro W hW; clear hW; go_simp; try with_reducible rfl)
      refine gTake 13 (v := ?_) rfl (by kernel_rfl) (by kernel_rfl) (by kernel_rfl) (fun _ _ _ h => h) (by kernel_rfl) ?_ hS0 ?_
      rotate_left
      · (intro W hW; clear hW; go_simp; try with_reducible rfl)
      refine gTake 14 (v := ?_) rfl (by kernel_rfl) (by kernel_rfl) (by kernel_rfl) (fun _ _ _ h => h) (by kernel_rfl) ?_ hS0 ?_
      rotate_left
      · (intro W hW; have q0 := hW.1; have q1 := hW.2.1; have q2 := hW.2.2.1; have q3 := hW.2.2.2.1; have q4 := hW.2.2.2.2.1; have q5 := hW.2.2.2.2.2.1; have q6 := hW.2.2.2.2.2.2; clear hW; go_simp; try with_reducible rfl)
      refine gTake 15 (v := ?_) rfl (by kernel_rfl) (by kernel_rfl) (by kernel_rfl) (fun _ _ _ h => h) (by kernel_rfl) ?_ hS0 ?_
      rotate_left
      · (intro W hW; clear hW; go_simp; try with_reducible rfl)
      refine gTake 16 (v := ?_) rfl (by kernel_rfl) (by kernel_rfl) (by kernel_rfl) (fun _ _ _ h => h) (by kernel_rfl) ?_ hS0 ?_
      rotate_left
      · (intro W hW; clear hW; go_simp; try with_reducible rfl)
      refine gTake 17 (v := ?_) rfl (by kernel_rfl) (by kernel_rfl) (by kernel_rfl) (fun _ _ _ h => h) (by kernel_rfl) ?_ hS0 ?_
      rotate_left
      · (intro W hW; have q0 := hW.1; have q1 := hW.2.1; have q2 := hW.2.2.1; have q3 := hW.2.2.2.1; have q4 := hW.2.2.2.2.1; have q5 := hW.2.2.2.2.2.1; have q6 := hW.2.2.2.2.2.2; clear hW; go_simp; try with_reducible rfl)
      refine gTake 18 (v := ?_) rfl (by kernel_rfl) (by kernel_rfl) (by kernel_rfl) (fun _ _ _ h => h) (by kernel_rfl) ?_ hS0 ?_
      rotate_left
      · (intro W hW; clear hW; go_simp; try with_reducible rfl)
      refine gTake 19 (v := ?_) rfl (by kernel_rfl) (by kernel_rfl) (by kernel_rfl) (fun _ _ _ h => h) (by kernel_rfl) ?_ hS0 ?_
      rotate_left
      · (intro W hW; clear hW; go_simp; try with_reducible rfl)
      refine gTake 20 (v := ?_) rfl (by kernel_rfl) (by kernel_rfl) (by kernel_rfl) (fun _ _ _ h => h) (by kernel_rfl) ?_ hS0 ?_
      rotate_left
      · (intro W hW; have q0 := hW.1; have q1 := hW.2.1; have q2 := hW.2.2.1; have q3 := hW.2.2.2.1; have q4 := hW.2.2.2.2.1; have q5 := hW.2.2.2.2.2.1; have q6 := hW.2.2.2.2.2.2; clear hW; go_simp; try with_reducible rfl)
      refine gTake 21 (v := ?_) rfl (by kernel_rfl) (by kernel_rfl) (by kernel_rfl) (fun _ _ _ h => h) (by kernel_rfl) ?_ hS0 ?_
      rotate_left
      · (intro W hW; clear hW; go_simp; try with_reducible rfl)
      refine gOne 22 rfl (by kernel_rfl) (by kernel_rfl) (fun K hK => ?_)
      go_simp
      skip
      have hS1 := (keep7 hS0 (below_box w1.drew (.cells #[.string ⟨#[]⟩, .int .i64 0, .int .i64 0, .int .i64 0, .int .i64 0, .int .i64 0, .int .i64 0] 53)))
      refine hK _ _ hS1 ?_
      clear hK K
      refine gOne 23 rfl (by kernel_rfl) (by kernel_rfl) (fun K hK => ?_)
      go_simp
      skip
      refine viaS (hK _ _) ?_ (fun hS2 => ?_)
      · exact ⟨by simp; exact cellK cs (below_box _ _), by simp; exact cellK c0 (below_box _ _), by simp; exact cellK c1 (below_box _ _), by simp; exact cellK c2 (below_box _ _), by simp; exact cellK c3 (below_box _ _), by simp; exact cellK c4 (below_box _ _), by simp; exact cellK c5 (below_box _ _)⟩
      clear hK K
      refine wpAnyH_done (by kernel_rfl) ?_ _
      go_simp
      go_wp2_with fail
      (with_reducible refine (l03Ok_any w1.heap.size (cutA s.data.toList) f t l se fr sh _ HZs.out (by unfold AwAt; simp)).mono ?_)
      rintro e w2 ⟨rfl, n, rfl⟩
      rw [hok]
      go_wp2
      refine bodyPost_ret (v := .tuple #[.agg #[.string (cutA s.data.toList), .int .i64 f, .int .i64 t, .int .i64 l, .int .i64 se, .int .i64 fr, .int .i64 sh], .bool true]) (by simp [results, Tryd.results59, go_sem, hc, hn1, hn2, hn3, hn4, hz, hz2]) rfl ⟨aw_same HZ.out.1.symm HZ.out.2.2.1.symm HZ.out.2.2.2.1.symm HZ.out.2.2.2.2.1.symm HZ.out.2.2.2.2.2.1.symm HZ.out.2.2.2.2.2.2.1.symm HZ.out.2.2.2.2.2.2.2.symm HZ.out.2.1.symm, ?_⟩
      exact (by repeat (first | (with_reducible exact HB.out) | (with_reducible refine below_drewN' ?_ _) | (with_reducible refine Below.drew ?_) | (with_reducible refine Below.alloc ?_ (by first | omega | (simp <;> omega)) _) | (with_reducible refine Below.setCell ?_ (by simp) _)))
set_option maxHeartbeats 2000000 in
theorem airwayIn_any (s : ByteArray) (w : World) (hs : s.size ≤ 1048576) (hP : Pow w) (hE : ErrV w) (hM : MaxV w) : Calls Tryd.prog 60 #[.string s] w fun e w' => e = .returned (.agg #[.string (awS s.data.toList), .int .i64 (awV s.data.toList 0), .int .i64 (awV s.data.toList 1), .int .i64 (awV s.data.toList 2), .int .i64 (awV s.data.toList 3), .int .i64 (awV s.data.toList 4), .int .i64 (awV s.data.toList 5)]) ∧ Below w.heap.size w w' := by
  have HC := Lib.hid (fun W (h : Below w.heap.size w W) => cut_call s W hs (hM.below h))
  have HS := Lib.hid (fun (y : ByteArray) W (hy : y.data.toList = cutN s.data.toList) (hys : y.size ≤ 1048576) (h : Below w.heap.size w W) => hy ▸ iReadList_any y W hys (hP.below h) (hE.below h) (hM.below h))
  have HZs := Lib.hid (cutA_max s hs)
  clear hs hP hE hM
  rcases aw_cases s.data.toList with ⟨hr, hS, hv, hcs⟩ | ⟨f, t, l, se, fr, sh, hb, hx, hok, hr, hS, h0, h1, h2, h3, h4, h5⟩
  · have HZ := Lib.hid (And.intro hS (And.intro hv hr))
    clear hS hv hr
    rcases hcs with hbn | ⟨hbn, hl⟩ | ⟨f, t, l, se, fr, sh, hbn, hx, hok⟩
    · rw [hbn] at HS
      have hxl := listV_len (cutN s.data.toList)
      generalize listV (cutN s.data.toList) = xs at *
      go_enter Tryd.func60, Tryd.ntmps60
      go_wp2_with fail
      refine (HC.out _ (below_box _ _)).mono ?_
      rintro e wp ⟨y, b0, rfl, ⟨hy, hys⟩, hbp⟩
      have HBC := Lib.hid (show Below w.heap.size w wp from (below_box _ _).trans (hbp.mono (by simp)))
      obtain ⟨hcp, hfp⟩ := bcell hbp
      have hz0 : w.heap.size < wp.heap.size := Nat.lt_of_lt_of_le (by simp) hbp.size
      clear hbp
      go_wp2_with fail
      refine (HS.out y _ hy hys HBC.out).mono ?_
      rintro e w1 ⟨v1, rfl, ho, hb⟩
      have HB := Lib.hid (show Below w.heap.size w w1 from HBC.out.trans (hb.mono HBC.out.size))
      obtain ⟨hcq, hfq⟩ := bcell hb
      have hc : ∀ b o, b < w.heap.size + 1 → w1.cell? ⟨b, o, none⟩ = (w.alloc (.cells #[.string ⟨#[]⟩, .int .i64 0, .int .i64 0, .int .i64 0, .int .i64 0, .int .i64 0, .int .i64 0] 53)).cell? ⟨b, o, none⟩ := fun b o h => (hcq b o (by omega)).trans (hcp b o (by simpa using h))
      have hf : ∀ b o, b < w.heap.size + 1 → w1.frozen? ⟨b, o, none⟩ = (w.alloc (.cells #[.string ⟨#[]⟩, .int .i64 0, .int .i64 0, .int .i64 0, .int .i64 0, .int .i64 0, .int .i64 0] 53)).frozen? ⟨b, o, none⟩ := fun b o h => (hfq b o (by omega)).trans (hfp b o (by simpa using h))
      have hz : w.heap.size < w1.heap.size := Nat.lt_of_lt_of_le hz0 hb.size
      clear hcq hfq hcp hfp
      obtain ⟨g, cap, rfl⟩ := OwnI.form (show OwnI w1 _ v1 xs from ho)
      clear ho hb
      go_wp2
      refine bodyPost_ret (v := .agg #[.string ⟨#[]⟩, .int .i64 0, .int .i64 0, .int .i64 0, .int .i64 0, .int .i64 0, .int .i64 0]) (by simp [results, Tryd.results60, go_sem, hc]) rfl ⟨aw_same1 HZ.out.1.symm (HZ.out.2.1 0).symm (HZ.out.2.1 1).symm (HZ.out.2.1 2).symm (HZ.out.2.1 3).symm (HZ.out.2.1 4).symm (HZ.out.2.1 5).symm, ?_⟩
      exact (by repeat (first | (with_reducible exact HB.out) | (with_reducible refine below_drewN' ?_ _) | (with_reducible refine Below.drew ?_) | (with_reducible refine Below.alloc ?_ (by first | omega | (simp <;> omega)) _) | (with_reducible refine Below.setCell ?_ (by simp) _)))
    · rw [hbn] at HS
      have hxl := listV_len (cutN s.data.toList)
      generalize listV (cutN s.data.toList) = xs at *
      have t1 : ((xs.length : Int) != 6) = true := by simp; omega
      go_enter Tryd.func60, Tryd.ntmps60
      go_wp2_with fail
      refine (HC.out _ (below_box _ _)).mono ?_
      rintro e wp ⟨y, b0, rfl, ⟨hy, hys⟩, hbp⟩
      have HBC := Lib.hid (show Below w.heap.size w wp from (below_box _ _).trans (hbp.mono (by simp)))
      obtain ⟨hcp, hfp⟩ := bcell hbp
      have hz0 : w.heap.size < wp.heap.size := Nat.lt_of_lt_of_le (by simp) hbp.size
      clear hbp
      go_wp2_with fail
      refine (HS.out y _ hy hys HBC.out).mono ?_
      rintro e w1 ⟨v1, rfl, ho, hb⟩
      have HB := Lib.hid (show Below w.heap.size w w1 from HBC.out.trans (hb.mono HBC.out.size))
      obtain ⟨hcq, hfq⟩ := bcell hb
      have hc : ∀ b o, b < w.heap.size + 1 → w1.cell? ⟨b, o, none⟩ = (w.alloc (.cells #[.string ⟨#[]⟩, .int .i64 0, .int .i64 0, .int .i64 0, .int .i64 0, .int .i64 0, .int .i64 0] 53)).cell? ⟨b, o, none⟩ := fun b o h => (hcq b o (by omega)).trans (hcp b o (by simpa using h))
      have hf : ∀ b o, b < w.heap.size + 1 → w1.frozen? ⟨b, o, none⟩ = (w.alloc (.cells #[.string ⟨#[]⟩, .int .i64 0, .int .i64 0, .int .i64 0, .int .i64 0, .int .i64 0, .int .i64 0] 53)).frozen? ⟨b, o, none⟩ := fun b o h => (hfq b o (by omega)).trans (hfp b o (by simpa using h))
      have hz : w.heap.size < w1.heap.size := Nat.lt_of_lt_of_le hz0 hb.size
      clear hcq hfq hcp hfp
      obtain ⟨g, cap, rfl⟩ := OwnI.form (show OwnI w1 _ v1 xs from ho)
      clear ho hb
      go_wp2
      refine bodyPost_ret (v := .agg #[.string ⟨#[]⟩, .int .i64 0, .int .i64 0, .int .i64 0, .int .i64 0, .int .i64 0, .int .i64 0]) (by simp [results, Tryd.results60, go_sem, hc]) rfl ⟨aw_same1 HZ.out.1.symm (HZ.out.2.1 0).symm (HZ.out.2.1 1).symm (HZ.out.2.1 2).symm (HZ.out.2.1 3).symm (HZ.out.2.1 4).symm (HZ.out.2.1 5).symm, ?_⟩
      exact (by repeat (first | (with_reducible exact HB.out) | (with_reducible refine below_drewN' ?_ _) | (with_reducible refine Below.drew ?_) | (with_reducible refine Below.alloc ?_ (by first | omega | (simp <;> omega)) _) | (with_reducible refine Below.setCell ?_ (by simp) _)))
    · rw [hbn, hx] at HS
      clear hx
      go_enter Tryd.func60, Tryd.ntmps60
      go_wp2_with fail
      refine (HC.out _ (below_box _ _)).mono ?_
      rintro e wp ⟨y, b0, rfl, ⟨hy, hys⟩, hbp⟩
      have HBC := Lib.hid (show Below w.heap.size w wp from (below_box _ _).trans (hbp.mono (by simp)))
      obtain ⟨hcp, hfp⟩ := bcell hbp
      have hz0 : w.heap.size < wp.heap.size := Nat.lt_of_lt_of_le (by simp) hbp.size
      clear hbp
      go_wp2_with fail
      refine (HS.out y _ hy hys HBC.out).mono ?_
      rintro e w1 ⟨v1, rfl, ho, hb⟩
      have HB := Lib.hid (show Below w.heap.size w w1 from HBC.out.trans (hb.mono HBC.out.size))
      obtain ⟨hcq, hfq⟩ := bcell hb
      have hc : ∀ b o, b < w.heap.size + 1 → w1.cell? ⟨b, o, none⟩ = (w.alloc (.cells #[.string ⟨#[]⟩, .int .i64 0, .int .i64 0, .int .i64 0, .int .i64 0, .int .i64 0, .int .i64 0] 53)).cell? ⟨b, o, none⟩ := fun b o h => (hcq b o (by omega)).trans (hcp b o (by simpa using h))
      have hf : ∀ b o, b < w.heap.size + 1 → w1.frozen? ⟨b, o, none⟩ = (w.alloc (.cells #[.string ⟨#[]⟩, .int .i64 0, .int .i64 0, .int .i64 0, .int .i64 0, .int .i64 0, .int .i64 0] 53)).frozen? ⟨b, o, none⟩ := fun b o h => (hfq b o (by omega)).trans (hfp b o (by simpa using h))
      have hz : w.heap.size < w1.heap.size := Nat.lt_of_lt_of_le hz0 hb.size
      clear hcq hfq hcp hfp
      obtain ⟨g, cap, rfl, hg, hgl⟩ := ho.form (by simp)
      have c0 : w1.cell? ⟨g, 0, none⟩ = some (.int .i64 f) := by rw [ho.cellAt 0 (by simp)]; rfl
      have c1 : w1.cell? ⟨g, 1, none⟩ = some (.int .i64 t) := by rw [ho.cellAt 1 (by simp)]; rfl
      have c2 : w1.cell? ⟨g, 2, none⟩ = some (.int .i64 l) := by rw [ho.cellAt 2 (by simp)]; rfl
      have c3 : w1.cell? ⟨g, 3, none⟩ = some (.int .i64 se) := by rw [ho.cellAt 3 (by simp)]; rfl
      have c4 : w1.cell? ⟨g, 4, none⟩ = some (.int .i64 fr) := by rw [ho.cellAt 4 (by simp)]; rfl
      have c5 : w1.cell? ⟨g, 5, none⟩ = some (.int .i64 sh) := by rw [ho.cellAt 5 (by simp)]; rfl
      clear ho hb
      go_wp2_with fail
      have hne : ¬ (w1.heap.size = g) := by omega
      have hne2 : ¬ (g = w1.heap.size) := by omega
      have hn1 : ¬ (w.heap.size = w1.heap.size) := by omega
      have hn2 : ¬ (w1.heap.size = w.heap.size) := by omega
      have hn3 : ¬ (w.heap.size = w1.heap.size + 1) := by omega
      have hn4 : ¬ (w1.heap.size + 1 = w.heap.size) := by omega
      have hz2 : w.heap.size < w1.heap.size + 1 := by omega
      have hc0 : (w1.drew.cell? ⟨g, 0, none⟩ = some (.int .i64 f) ∧ w1.drew.cell? ⟨g, 1, none⟩ = some (.int .i64 t) ∧ w1.drew.cell? ⟨g, 2, none⟩ = some (.int .i64 l) ∧ w1.drew.cell? ⟨g, 3, none⟩ = some (.int .i64 se) ∧ w1.drew.cell? ⟨g, 4, none⟩ = some (.int .i64 fr) ∧ w1.drew.cell? ⟨g, 5, none⟩ = some (.int .i64 sh)) := ⟨c0, c1, c2, c3, c4, c5⟩
      refine wp_region_held (S := fun w' => w'.cell? ⟨g, 0, none⟩ = some (.int .i64 f) ∧ w'.cell? ⟨g, 1, none⟩ = some (.int .i64 t) ∧ w'.cell? ⟨g, 2, none⟩ = some (.int .i64 l) ∧ w'.cell? ⟨g, 3, none⟩ = some (.int .i64 se) ∧ w'.cell? ⟨g, 4, none⟩ = some (.int .i64 fr) ∧ w'.cell? ⟨g, 5, none⟩ = some (.int .i64 sh)) (by kernel_rfl) ?_
      try (change wpAnyH _ _ _ _ _ _ _ _ (World.drew _))
      have hS0 := hc0
      refine gTake 0 (v := ?_) rfl (by kernel_rfl) (by kernel_rfl) (by kernel_rfl) (fun _ _ _ h => h) (by kernel_rfl) ?_ hS0 ?_
      rotate_left
      · (intro W hW; clear hW; go_simp; try with_reducible rfl)
      refine gTake 1 (v := ?_) rfl (by kernel_rfl) (by kernel_rfl) (by kernel_rfl) (fun _ _ _ h => h) (by kernel_rfl) ?_ hS0 ?_
      rotate_left
      · (intro W hW; clear hW; go_simp; try with_reducible rfl)
      refine gTake 2 (v := ?_) rfl (by kernel_rfl) (by kernel_rfl) (by kernel_rfl) (fun _ _ _ h => h) (by kernel_rfl) ?_ hS0 ?_
      rotate_left
      · (intro W hW; clear hW; go_simp; try with_reducible rfl)
      refine gTake 3 (v := ?_) rfl (by kernel_rfl) (by kernel_rfl) (by kernel_rfl) (fun _ _ _ h => h) (by kernel_rfl) ?_ hS0 ?_
      rotate_left
      · (intro W hW; have q0 := hW.1; have q1 := hW.2.1; have q2 := hW.2.2.1; have q3 := hW.2.2.2.1; have q4 := hW.2.2.2.2.1; have q5 := hW.2.2.2.2.2; clear hW; go_simp; try with_reducible rfl)
      refine gTake 4 (v := ?_) rfl (by kernel_rfl) (by kernel_rfl) (by kernel_rfl) (fun _ _ _ h => h) (by kernel_rfl) ?_ hS0 ?_
      rotate_left
      · (intro W hW; clear hW; go_simp; try with_reducible rfl)
      refine gTake 5 (v := ?_) rfl (by kernel_rfl) (by kernel_rfl) (by kernel_rfl) (fun _ _ _ h => h) (by kernel_rfl) ?_ hS0 ?_
      rotate_left
      · (intro W hW; clear hW; go_simp; try with_reducible rfl)
      refine gTake 6 (v := ?_) rfl (by kernel_rfl) (by kernel_rfl) (by kernel_rfl) (fun _ _ _ h => h) (by kernel_rfl) ?_ hS0 ?_
      rotate_left
      · (intro W hW; have q0 := hW.1; have q1 := hW.2.1; have q2 := hW.2.2.1; have q3 := hW.2.2.2.1; have q4 := hW.2.2.2.2.1; have q5 := hW.2.2.2.2.2; clear hW; go_simp; try with_reducible rfl)
      refine gTake 7 (v := ?_) rfl (by kernel_rfl) (by kernel_rfl) (by kernel_rfl) (fun _ _ _ h => h) (by kernel_rfl) ?_ hS0 ?_
      rotate_left
      · (intro W hW; clear hW; go_simp; try with_reducible rfl)
      refine gTake 8 (v := ?_) rfl (by kernel_rfl) (by kernel_rfl) (by kernel_rfl) (fun _ _ _ h => h) (by kernel_rfl) ?_ hS0 ?_
      rotate_left
      · (intro W hW; clear hW; go_simp; try with_reducible rfl)
      refine gTake 9 (v := ?_) rfl (by kernel_rfl) (by kernel_rfl) (by kernel_rfl) (fun _ _ _ h => h) (by kernel_rfl) ?_ hS0 ?_
      rotate_left
      · (intro W hW; have q0 := hW.1; have q1 := hW.2.1; have q2 := hW.2.2.1; have q3 := hW.2.2.2.1; have q4 := hW.2.2.2.2.1; have q5 := hW.2.2.2.2.2; clear hW; go_simp; try with_reducible rfl)
      refine gTake 10 (v := ?_) rfl (by kernel_rfl) (by kernel_rfl) (by kernel_rfl) (fun _ _ _ h => h) (by kernel_rfl) ?_ hS0 ?_
      rotate_left
      · (intro W hW; clear hW; go_simp; try with_reducible rfl)
      refine gTake 11 (v := ?_) rfl (by kernel_rfl) (by kernel_rfl) (by kernel_rfl) (fun _ _ _ h => h) (by kernel_rfl) ?_ hS0 ?_
      rotate_left
      · (intro W hW; clear hW; go_simp; try with_reducible rfl)
      refine gTake 12 (v := ?_) rfl (by kernel_rfl) (by kernel_rfl) (by kernel_rfl) (fun _ _ _ h => h) (by kernel_rfl) ?_ hS0 ?_
      rotate_left
      · (intro W hW; have q0 := hW.1; have q1 := hW.2.1; have q2 := hW.2.2.1; have q3 := hW.2.2.2.1; have q4 := hW.2.2.2.2.1; have q5 := hW.2.2.2.2.2; clear hW; go_simp; try with_reducible rfl)
      refine gTake 13 (v := ?_) rfl (by kernel_rfl) (by kernel_rfl) (by kernel_rfl) (fun _ _ _ h => h) (by kernel_rfl) ?_ hS0 ?_
      rotate_left
      · (intro W hW; clear hW; go_simp; try with_reducible rfl)
      refine gTake 14 (v := ?_) rfl (by kernel_rfl) (by kernel_rfl) (by kernel_rfl) (fun _ _ _ h => h) (by kernel_rfl) ?_ hS0 ?_
      rotate_left
      · (intro W hW; clear hW; go_simp; try with_reducible rfl)
      refine gTake 15 (v := ?_) rfl (by kernel_rfl) (by kernel_rfl) (by kernel_rfl) (fun _ _ _ h => h) (by kernel_rfl) ?_ hS0 ?_
      rotate_left
      · (intro W hW; have q0 := hW.1; have q1 := hW.2.1; have q2 := hW.2.2.1; have q3 := hW.2.2.2.1; have q4 := hW.2.2.2.2.1; have q5 := hW.2.2.2.2.2; clear hW; go_simp; try with_reducible rfl)
      refine gTake 16 (v := ?_) rfl (by kernel_rfl) (by kernel_rfl) (by kernel_rfl) (fun _ _ _ h => h) (by kernel_rfl) ?_ hS0 ?_
      rotate_left
      · (intro W hW; clear hW; go_simp; try with_reducible rfl)
      refine gTake 17 (v := ?_) rfl (by kernel_rfl) (by kernel_rfl) (by kernel_rfl) (fun _ _ _ h => h) (by kernel_rfl) ?_ hS0 ?_
      rotate_left
      · (intro W hW; clear hW; go_simp; try with_reducible rfl)
      refine gTake 18 (v := ?_) rfl (by kernel_rfl) (by kernel_rfl) (by kernel_rfl) (fun _ _ _ h => h) (by kernel_rfl) ?_ hS0 ?_
      rotate_left
      · (intro W hW; have q0 := hW.1; have q1 := hW.2.1; have q2 := hW.2.2.1; have q3 := hW.2.2.2.1; have q4 := hW.2.2.2.2.1; have q5 := hW.2.2.2.2.2; clear hW; go_simp; try with_reducible rfl)
      refine gTake 19 (v := ?_) rfl (by kernel_rfl) (by kernel_rfl) (by kernel_rfl) (fun _ _ _ h => h) (by kernel_rfl) ?_ hS0 ?_
      rotate_left
      · (intro W hW; clear hW; go_simp; try with_reducible rfl)
      refine gOne 20 rfl (by kernel_rfl) (by kernel_rfl) (fun K hK => ?_)
      go_simp
      skip
      have hS1 := (keep6 hS0 (below_box w1.drew (.cells #[.string ⟨#[]⟩, .int .i64 0, .int .i64 0, .int .i64 0, .int .i64 0, .int .i64 0, .int .i64 0] 53)))
      refine hK _ _ hS1 ?_
      clear hK K
      refine gOne 21 rfl (by kernel_rfl) (by kernel_rfl) (fun K hK => ?_)
      go_simp
      skip
      refine viaS (hK _ _) ?_ (fun hS2 => ?_)
      · exact ⟨by simp; exact cellK c0 (below_box _ _), by simp; exact cellK c1 (below_box _ _), by simp; exact cellK c2 (below_box _ _), by simp; exact cellK c3 (below_box _ _), by simp; exact cellK c4 (below_box _ _), by simp; exact cellK c5 (below_box _ _)⟩
      clear hK K
      refine wpAnyH_done (by kernel_rfl) ?_ _
      go_simp
      go_wp2_with fail
      (with_reducible refine (iValidAirway_any (cutA s.data.toList) f t l se fr sh _ HZs.out).mono ?_)
      rintro e w2 ⟨rfl, hd2⟩
      obtain ⟨hc2, hf2⟩ := bcell hd2
      have HB1 := HB
      have HB := Lib.hid (show Below w.heap.size w w2 from Below.trans (by repeat (first | (with_reducible exact HB.out) | (with_reducible refine below_drewN' ?_ _) | (with_reducible refine Below.drew ?_) | (with_reducible refine Below.alloc ?_ (by first | omega | (simp <;> omega)) _) | (with_reducible refine Below.setCell ?_ (by simp) _))) (hd2.mono (by simp <;> omega)))
      have hz3 : w.heap.size < w2.heap.size := Nat.lt_of_lt_of_le (by simp <;> omega) hd2.size
      clear hd2
      rw [hok]
      go_wp2
      refine bodyPost_ret (v := .agg #[.string ⟨#[]⟩, .int .i64 0, .int .i64 0, .int .i64 0, .int .i64 0, .int .i64 0, .int .i64 0]) (by simp [results, Tryd.results60, go_sem, hc, hn1, hn2, hn3, hn4, hz, hz2, hc2]) rfl ⟨aw_same1 HZ.out.1.symm (HZ.out.2.1 0).symm (HZ.out.2.1 1).symm (HZ.out.2.1 2).symm (HZ.out.2.1 3).symm (HZ.out.2.1 4).symm (HZ.out.2.1 5).symm, ?_⟩
      exact (by repeat (first | (with_reducible exact HB.out) | (with_reducible refine below_drewN' ?_ _) | (with_reducible refine Below.drew ?_) | (with_reducible refine Below.alloc ?_ (by first | omega | (simp <;> omega)) _) | (with_reducible refine Below.setCell ?_ (by simp) _)))
  · have HZ := Lib.hid (And.intro hS (And.intro hr (And.intro h0 (And.intro h1 (And.intro h2 (And.intro h3 (And.intro h4 h5)))))))
    rw [hb, hx] at HS
    have HBt := Lib.hid hb
    clear hx hS h0 h1 h2 h3 h4 h5 hr hb
    go_enter Tryd.func60, Tryd.ntmps60
    go_wp2_with fail
    refine (HC.out _ (below_box _ _)).mono ?_
    rintro e wp ⟨y, b0, rfl, ⟨hy, hys⟩, hbp⟩
    have HBC := Lib.hid (show Below w.heap.size w wp from (below_box _ _).trans (hbp.mono (by simp)))
    obtain ⟨hcp, hfp⟩ := bcell hbp
    have hz0 : w.heap.size < wp.heap.size := Nat.lt_of_lt_of_le (by simp) hbp.size
    clear hbp
    go_wp2_with fail
    refine (HS.out y _ hy hys HBC.out).mono ?_
    rintro e w1 ⟨v1, rfl, ho, hb⟩
    have HB := Lib.hid (show Below w.heap.size w w1 from HBC.out.trans (hb.mono HBC.out.size))
    obtain ⟨hcq, hfq⟩ := bcell hb
    have hc : ∀ b o, b < w.heap.size + 1 → w1.cell? ⟨b, o, none⟩ = (w.alloc (.cells #[.string ⟨#[]⟩, .int .i64 0, .int .i64 0, .int .i64 0, .int .i64 0, .int .i64 0, .int .i64 0] 53)).cell? ⟨b, o, none⟩ := fun b o h => (hcq b o (by omega)).trans (hcp b o (by simpa using h))
    have hf : ∀ b o, b < w.heap.size + 1 → w1.frozen? ⟨b, o, none⟩ = (w.alloc (.cells #[.string ⟨#[]⟩, .int .i64 0, .int .i64 0, .int .i64 0, .int .i64 0, .int .i64 0, .int .i64 0] 53)).frozen? ⟨b, o, none⟩ := fun b o h => (hfq b o (by omega)).trans (hfp b o (by simpa using h))
    have hz : w.heap.size < w1.heap.size := Nat.lt_of_lt_of_le hz0 hb.size
    clear hcq hfq hcp hfp
    obtain ⟨g, cap, rfl, hg, hgl⟩ := ho.form (by simp)
    have c0 : w1.cell? ⟨g, 0, none⟩ = some (.int .i64 f) := by rw [ho.cellAt 0 (by simp)]; rfl
    have c1 : w1.cell? ⟨g, 1, none⟩ = some (.int .i64 t) := by rw [ho.cellAt 1 (by simp)]; rfl
    have c2 : w1.cell? ⟨g, 2, none⟩ = some (.int .i64 l) := by rw [ho.cellAt 2 (by simp)]; rfl
    have c3 : w1.cell? ⟨g, 3, none⟩ = some (.int .i64 se) := by rw [ho.cellAt 3 (by simp)]; rfl
    have c4 : w1.cell? ⟨g, 4, none⟩ = some (.int .i64 fr) := by rw [ho.cellAt 4 (by simp)]; rfl
    have c5 : w1.cell? ⟨g, 5, none⟩ = some (.int .i64 sh) := by rw [ho.cellAt 5 (by simp)]; rfl
    clear ho hb
    go_wp2_with fail
    have hne : ¬ (w1.heap.size = g) := by omega
    have hne2 : ¬ (g = w1.heap.size) := by omega
    have hn1 : ¬ (w.heap.size = w1.heap.size) := by omega
    have hn2 : ¬ (w1.heap.size = w.heap.size) := by omega
    have hn3 : ¬ (w.heap.size = w1.heap.size + 1) := by omega
    have hn4 : ¬ (w1.heap.size + 1 = w.heap.size) := by omega
    have hz2 : w.heap.size < w1.heap.size + 1 := by omega
    have hc0 : (w1.drew.cell? ⟨g, 0, none⟩ = some (.int .i64 f) ∧ w1.drew.cell? ⟨g, 1, none⟩ = some (.int .i64 t) ∧ w1.drew.cell? ⟨g, 2, none⟩ = some (.int .i64 l) ∧ w1.drew.cell? ⟨g, 3, none⟩ = some (.int .i64 se) ∧ w1.drew.cell? ⟨g, 4, none⟩ = some (.int .i64 fr) ∧ w1.drew.cell? ⟨g, 5, none⟩ = some (.int .i64 sh)) := ⟨c0, c1, c2, c3, c4, c5⟩
    refine wp_region_held (S := fun w' => w'.cell? ⟨g, 0, none⟩ = some (.int .i64 f) ∧ w'.cell? ⟨g, 1, none⟩ = some (.int .i64 t) ∧ w'.cell? ⟨g, 2, none⟩ = some (.int .i64 l) ∧ w'.cell? ⟨g, 3, none⟩ = some (.int .i64 se) ∧ w'.cell? ⟨g, 4, none⟩ = some (.int .i64 fr) ∧ w'.cell? ⟨g, 5, none⟩ = some (.int .i64 sh)) (by kernel_rfl) ?_
    try (change wpAnyH _ _ _ _ _ _ _ _ (World.drew _))
    have hS0 := hc0
    refine gTake 0 (v := ?_) rfl (by kernel_rfl) (by kernel_rfl) (by kernel_rfl) (fun _ _ _ h => h) (by kernel_rfl) ?_ hS0 ?_
    rotate_left
    · (intro W hW; clear hW; go_simp; try with_reducible rfl)
    refine gTake 1 (v := ?_) rfl (by kernel_rfl) (by kernel_rfl) (by kernel_rfl) (fun _ _ _ h => h) (by kernel_rfl) ?_ hS0 ?_
    rotate_left
    · (intro W hW; clear hW; go_simp; try with_reducible rfl)
    refine gTake 2 (v := ?_) rfl (by kernel_rfl) (by kernel_rfl) (by kernel_rfl) (fun _ _ _ h => h) (by kernel_rfl) ?_ hS0 ?_
    rotate_left
    · (intro W hW; clear hW; go_simp; try with_reducible rfl)
    refine gTake 3 (v := ?_) rfl (by kernel_rfl) (by kernel_rfl) (by kernel_rfl) (fun _ _ _ h => h) (by kernel_rfl) ?_ hS0 ?_
    rotate_left
    · (intro W hW; have q0 := hW.1; have q1 := hW.2.1; have q2 := hW.2.2.1; have q3 := hW.2.2.2.1; have q4 := hW.2.2.2.2.1; have q5 := hW.2.2.2.2.2; clear hW; go_simp; try with_reducible rfl)
    refine gTake 4 (v := ?_) rfl (by kernel_rfl) (by kernel_rfl) (by kernel_rfl) (fun _ _ _ h => h) (by kernel_rfl) ?_ hS0 ?_
    rotate_left
    · (intro W hW; clear hW; go_simp; try with_reducible rfl)
    refine gTake 5 (v := ?_) rfl (by kernel_rfl) (by kernel_rfl) (by kernel_rfl) (fun _ _ _ h => h) (by kernel_rfl) ?_ hS0 ?_
    rotate_left
    · (intro W hW; clear hW; go_simp; try with_reducible rfl)
    refine gTake 6 (v := ?_) rfl (by kernel_rfl) (by kernel_rfl) (by kernel_rfl) (fun _ _ _ h => h) (by kernel_rfl) ?_ hS0 ?_
    rotate_left
    · (intro W hW; have q0 := hW.1; have q1 := hW.2.1; have q2 := hW.2.2.1; have q3 := hW.2.2.2.1; have q4 := hW.2.2.2.2.1; have q5 := hW.2.2.2.2.2; clear hW; go_simp; try with_reducible rfl)
    refine gTake 7 (v := ?_) rfl (by kernel_rfl) (by kernel_rfl) (by kernel_rfl) (fun _ _ _ h => h) (by kernel_rfl) ?_ hS0 ?_
    rotate_left
    · (intro W hW; clear hW; go_simp; try with_reducible rfl)
    refine gTake 8 (v := ?_) rfl (by kernel_rfl) (by kernel_rfl) (by kernel_rfl) (fun _ _ _ h => h) (by kernel_rfl) ?_ hS0 ?_
    rotate_left
    · (intro W hW; clear hW; go_simp; try with_reducible rfl)
    refine gTake 9 (v := ?_) rfl (by kernel_rfl) (by kernel_rfl) (by kernel_rfl) (fun _ _ _ h => h) (by kernel_rfl) ?_ hS0 ?_
    rotate_left
    · (intro W hW; have q0 := hW.1; have q1 := hW.2.1; have q2 := hW.2.2.1; have q3 := hW.2.2.2.1; have q4 := hW.2.2.2.2.1; have q5 := hW.2.2.2.2.2; clear hW; go_simp; try with_reducible rfl)
    refine gTake 10 (v := ?_) rfl (by kernel_rfl) (by kernel_rfl) (by kernel_rfl) (fun _ _ _ h => h) (by kernel_rfl) ?_ hS0 ?_
    rotate_left
    · (intro W hW; clear hW; go_simp; try with_reducible rfl)
    refine gTake 11 (v := ?_) rfl (by kernel_rfl) (by kernel_rfl) (by kernel_rfl) (fun _ _ _ h => h) (by kernel_rfl) ?_ hS0 ?_
    rotate_left
    · (intro W hW; clear hW; go_simp; try with_reducible rfl)
    refine gTake 12 (v := ?_) rfl (by kernel_rfl) (by kernel_rfl) (by kernel_rfl) (fun _ _ _ h => h) (by kernel_rfl) ?_ hS0 ?_
    rotate_left
    · (intro W hW; have q0 := hW.1; have q1 := hW.2.1; have q2 := hW.2.2.1; have q3 := hW.2.2.2.1; have q4 := hW.2.2.2.2.1; have q5 := hW.2.2.2.2.2; clear hW; go_simp; try with_reducible rfl)
    refine gTake 13 (v := ?_) rfl (by kernel_rfl) (by kernel_rfl) (by kernel_rfl) (fun _ _ _ h => h) (by kernel_rfl) ?_ hS0 ?_
    rotate_left
    · (intro W hW; clear hW; go_simp; try with_reducible rfl)
    refine gTake 14 (v := ?_) rfl (by kernel_rfl) (by kernel_rfl) (by kernel_rfl) (fun _ _ _ h => h) (by kernel_rfl) ?_ hS0 ?_
    rotate_left
    · (intro W hW; clear hW; go_simp; try with_reducible rfl)
    refine gTake 15 (v := ?_) rfl (by kernel_rfl) (by kernel_rfl) (by kernel_rfl) (fun _ _ _ h => h) (by kernel_rfl) ?_ hS0 ?_
    rotate_left
    · (intro W hW; have q0 := hW.1; have q1 := hW.2.1; have q2 := hW.2.2.1; have q3 := hW.2.2.2.1; have q4 := hW.2.2.2.2.1; have q5 := hW.2.2.2.2.2; clear hW; go_simp; try with_reducible rfl)
    refine gTake 16 (v := ?_) rfl (by kernel_rfl) (by kernel_rfl) (by kernel_rfl) (fun _ _ _ h => h) (by kernel_rfl) ?_ hS0 ?_
    rotate_left
    · (intro W hW; clear hW; go_simp; try with_reducible rfl)
    refine gTake 17 (v := ?_) rfl (by kernel_rfl) (by kernel_rfl) (by kernel_rfl) (fun _ _ _ h => h) (by kernel_rfl) ?_ hS0 ?_
    rotate_left
    · (intro W hW; clear hW; go_simp; try with_reducible rfl)
    refine gTake 18 (v := ?_) rfl (by kernel_rfl) (by kernel_rfl) (by kernel_rfl) (fun _ _ _ h => h) (by kernel_rfl) ?_ hS0 ?_
    rotate_left
    · (intro W hW; have q0 := hW.1; have q1 := hW.2.1; have q2 := hW.2.2.1; have q3 := hW.2.2.2.1; have q4 := hW.2.2.2.2.1; have q5 := hW.2.2.2.2.2; clear hW; go_simp; try with_reducible rfl)
    refine gTake 19 (v := ?_) rfl (by kernel_rfl) (by kernel_rfl) (by kernel_rfl) (fun _ _ _ h => h) (by kernel_rfl) ?_ hS0 ?_
    rotate_left
    · (intro W hW; clear hW; go_simp; try with_reducible rfl)
    refine gOne 20 rfl (by kernel_rfl) (by kernel_rfl) (fun K hK => ?_)
    go_simp
    skip
    have hS1 := (keep6 hS0 (below_box w1.drew (.cells #[.string ⟨#[]⟩, .int .i64 0, .int .i64 0, .int .i64 0, .int .i64 0, .int .i64 0, .int .i64 0] 53)))
    refine hK _ _ hS1 ?_
    clear hK K
    refine gOne 21 rfl (by kernel_rfl) (by kernel_rfl) (fun K hK => ?_)
    go_simp
    skip
    refine viaS (hK _ _) ?_ (fun hS2 => ?_)
    · exact ⟨by simp; exact cellK c0 (below_box _ _), by simp; exact cellK c1 (below_box _ _), by simp; exact cellK c2 (below_box _ _), by simp; exact cellK c3 (below_box _ _), by simp; exact cellK c4 (below_box _ _), by simp; exact cellK c5 (below_box _ _)⟩
    clear hK K
    refine wpAnyH_done (by kernel_rfl) ?_ _
    go_simp
    go_wp2_with fail
    (with_reducible refine (iValidAirway_any (cutA s.data.toList) f t l se fr sh _ HZs.out).mono ?_)
    rintro e w2 ⟨rfl, hd2⟩
    obtain ⟨hc2, hf2⟩ := bcell hd2
    have HB1 := HB
    have HB := Lib.hid (show Below w.heap.size w w2 from Below.trans (by repeat (first | (with_reducible exact HB.out) | (with_reducible refine below_drewN' ?_ _) | (with_reducible refine Below.drew ?_) | (with_reducible refine Below.alloc ?_ (by first | omega | (simp <;> omega)) _) | (with_reducible refine Below.setCell ?_ (by simp) _))) (hd2.mono (by simp <;> omega)))
    have hz3 : w.heap.size < w2.heap.size := Nat.lt_of_lt_of_le (by simp <;> omega) hd2.size
    clear hd2
    rw [hok]
    go_wp2
    refine bodyPost_ret (v := .agg #[.string (cutA s.data.toList), .int .i64 f, .int .i64 t, .int .i64 l, .int .i64 se, .int .i64 fr, .int .i64 sh]) (by simp [results, Tryd.results60, go_sem, hc, hn1, hn2, hn3, hn4, hz, hz2, hc2]) rfl ⟨aw_same1 HZ.out.1.symm HZ.out.2.2.1.symm HZ.out.2.2.2.1.symm HZ.out.2.2.2.2.1.symm HZ.out.2.2.2.2.2.1.symm HZ.out.2.2.2.2.2.2.1.symm HZ.out.2.2.2.2.2.2.2.symm, ?_⟩
    exact (by repeat (first | (with_reducible exact HB.out) | (with_reducible refine below_drewN' ?_ _) | (with_reducible refine Below.drew ?_) | (with_reducible refine Below.alloc ?_ (by first | omega | (simp <;> omega)) _) | (with_reducible refine Below.setCell ?_ (by simp) _)))
end Go.Proofs.YtkbgfajkcdjjiabDoor
