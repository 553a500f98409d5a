/-
  Texts of a Source that are read: plain mathematics, and the model's contract. Conditions: those that each theorem states.
-/
import Derived.Test.YthbofhlfggkolaaDoorNl
import Derived.Test.YthbofhlfggkolaaDoorNf
import Derived.Test.YthbofhlfggkolaaDoorRg
import Derived.Test.YthbofhlfggkolaaDoorPe
import Derived.Test.YthbofhlfggkolaaDoorNh
namespace Go.Proofs.YthbofhlfggkolaaDoor
open Go.RowKit
set_option linter.unusedVariables false
set_option linter.unusedSimpArgs false

/-- Whether a text is that of a Source, and its name and its numbers (empty, 0 if it is not). -/
def gtRd (d : List UInt8) : Bool := listB (cutN d) && ((listV (cutN d)).length == 2 && soOk (cutA d) ((listV (cutN d)).getD 0 0) ((listV (cutN d)).getD 1 0))
def gtS (d : List UInt8) : ByteArray := if gtRd d then cutA d else ⟨#[]⟩
def gtV (d : List UInt8) (i : Nat) : Int := if gtRd d then (listV (cutN d)).getD i 0 else 0
theorem gt_cases (x : List UInt8) : (gtRd x = false ∧ gtS x = ⟨#[]⟩ ∧ (∀ i, gtV x i = 0) ∧ (listB (cutN x) = false ∨ (listB (cutN x) = true ∧ (listV (cutN x)).length ≠ 2) ∨ ∃ a r, listB (cutN x) = true ∧ listV (cutN x) = [a, r] ∧ soOk (cutA x) a r = false ∧ ∀ y ∈ [a, r], -1000000000000 ≤ y ∧ y ≤ 1000000000000)) ∨
    (∃ a r, listB (cutN x) = true ∧ listV (cutN x) = [a, r] ∧ soOk (cutA x) a r = true ∧ (∀ y ∈ [a, r], -1000000000000 ≤ y ∧ y ≤ 1000000000000) ∧ gtRd x = true ∧ gtS x = cutA x ∧ gtV x 0 = a ∧ gtV x 1 = r) := by
  have no : gtRd x = false → gtS x = ⟨#[]⟩ ∧ ∀ i, gtV x i = 0 := fun h => ⟨by simp [gtS, h], fun i => by simp [gtV, h]⟩
  have bd := listV_bd (l := cutN x)
  cases hb : listB (cutN x)
  · have h : gtRd x = false := by simp [gtRd, hb]
    exact .inl ⟨h, (no h).1, (no h).2, .inl rfl⟩
  · by_cases hl : (listV (cutN x)).length = 2
    · obtain ⟨a, r, hx⟩ : ∃ a r, listV (cutN x) = [a, r] := by
        match listV (cutN x), hl with
        | [a, r], _ => exact ⟨a, r, rfl⟩
      rw [hx] at bd
      cases ho : soOk (cutA x) a r
      · have h : gtRd x = false := by simp [gtRd, hb, hx, ho]
        exact .inl ⟨h, (no h).1, (no h).2, .inr (.inr ⟨_, _, rfl, hx, ho, bd⟩)⟩
      · have h : gtRd x = true := by simp [gtRd, hb, hx, ho]
        exact .inr ⟨_, _, rfl, hx, ho, bd, h, by simp [gtS, h], by simp [gtV, h, hx], by simp [gtV, h, hx]⟩
    · have h : gtRd x = false := by simp [gtRd, hb, hl]
      exact .inl ⟨h, (no h).1, (no h).2, .inr (.inl ⟨rfl, hl⟩)⟩
theorem gt_same {s s' : ByteArray} {a r a' r' : Int} {b b' : Bool} (e : s = s') (e0 : a = a') (e1 : r = r') (k : b = b') : Ending.returned (.tuple #[.agg #[.string s, .int .i64 a, .int .i64 r], .bool b]) = .returned (.tuple #[.agg #[.string s', .int .i64 a', .int .i64 r'], .bool b']) := by subst e e0 e1 k; rfl
theorem gt_same1 {s s' : ByteArray} {a r a' r' : Int} (e : s = s') (e0 : a = a') (e1 : r = r') : Ending.returned (.agg #[.string s, .int .i64 a, .int .i64 r]) = .returned (.agg #[.string s', .int .i64 a', .int .i64 r']) := by subst e e0 e1; rfl
theorem gtkeep {w w' : World} {g : Nat} {a r : Int} (hS : w.cell? ⟨g, 0, none⟩ = some (.int .i64 a) ∧ w.cell? ⟨g, 1, none⟩ = some (.int .i64 r)) (hb : Below w.heap.size w w') : w'.cell? ⟨g, 0, none⟩ = some (.int .i64 a) ∧ w'.cell? ⟨g, 1, none⟩ = some (.int .i64 r) :=
  ⟨cellK hS.1 hb, cellK hS.2 hb⟩
theorem gtkeepS {w w' : World} {g gs : Nat} {v : Value} {a r : Int} (hS : w.cell? ⟨gs, 0, none⟩ = some v ∧ w.cell? ⟨g, 0, none⟩ = some (.int .i64 a) ∧ w.cell? ⟨g, 1, none⟩ = some (.int .i64 r)) (hb : Below w.heap.size w w') : w'.cell? ⟨gs, 0, none⟩ = some v ∧ w'.cell? ⟨g, 0, none⟩ = some (.int .i64 a) ∧ w'.cell? ⟨g, 1, none⟩ = some (.int .i64 r) := ⟨cellK hS.1 hb, gtkeep hS.2 hb⟩
theorem cutA_max (s : ByteArray) (hs : s.size ≤ 1048576) : (cutA s.data.toList).size ≤ maxLen := by
  have h1 := cutA_size s.data.toList
  have e : s.data.toList.length = s.size := by simp
  simp only [maxLen]
  omega
set_option maxHeartbeats 2000000 in
theorem sReadSource_any (s : ByteArray) (w : World) (hs : s.size ≤ 1048576) : Calls Tryd.prog 12 #[.string s] w fun e w' => e = .returned (.tuple #[.agg #[.string (gtS s.data.toList), .int .i64 (gtV s.data.toList 0), .int .i64 (gtV s.data.toList 1)], .bool (gtRd s.data.toList)]) ∧ Below w.heap.size w w' := by
  have HC := Lib.hid (fun W => l01Split_any s 32 W hs)
  have HS := Lib.hid (fun (y : ByteArray) W (hy : y.data.toList = cutN s.data.toList) (hys : y.size ≤ 1048576) => hy ▸ sReadList_any y W hys)
  have HZs := Lib.hid (cutA_max s hs)
  rcases gt_cases s.data.toList with ⟨hr, hS, hv, hcs⟩ | ⟨a, r, hb, hx, hok, hbd, hr, hS, h0, h1⟩
  · have HZ := Lib.hid (And.intro hS (And.intro hv hr))
    clear hS hv hr
    rcases hcs with hbn | ⟨hbn, hl⟩ | ⟨a, r, hbn, hx, hok, hbd⟩
    · rw [hbn] at HS
      have hxl := listV_len (cutN s.data.toList)
      generalize listV (cutN s.data.toList) = xs at *
      go_enter Tryd.func12, Tryd.ntmps12
      go_wp2_with fail
      refine (HC.out _).mono ?_
      rintro e wp ⟨v, ps, rfl, hps, hown, hbp⟩
      have HBP := Lib.hid (show Below w.heap.size w wp from (below_box _ _).trans (hbp.mono (by simp)))
      obtain ⟨hcp, hfp⟩ := bcell hbp
      have hz0 : w.heap.size < wp.heap.size := Nat.lt_of_lt_of_le (by simp) hbp.size
      rcases pieces2 hps with ⟨hl2, hb2⟩ | ⟨y, rfl, hy⟩
      · have hc := hcp
        obtain ⟨A, cap, rfl⟩ : ∃ A cap, v = .slice A ps.length cap := by
          rcases hown.2 with ⟨rfl, h0⟩ | ⟨g, cap, cur, rfl, hr⟩
          · exact ⟨none, 0, by rw [h0]⟩
          · exact ⟨_, cap, rfl⟩
        have t0 : ((ps.length : Int) != 2) = true := by simp; omega
        have HB := HBP
        clear hown hbp hps
        go_wp2
        refine bodyPost_ret (v := .tuple #[.agg #[.string ⟨#[]⟩, .int .i64 0, .int .i64 0], .bool false]) (by simp [results, Tryd.results12, go_sem, hc]) rfl ⟨gt_same HZ.out.1.symm (HZ.out.2.1 0).symm (HZ.out.2.1 1).symm HZ.out.2.2.symm, ?_⟩
        exact (by repeat (first | (with_reducible exact HB.out) | (with_reducible refine below_drewN' ?_ _) | (with_reducible refine Below.drew ?_) | (with_reducible refine Below.alloc ?_ (by first | omega | (simp <;> omega)) _) | (with_reducible refine Below.setCell ?_ (by simp) _)))
      · skip
        obtain ⟨gs, caps, rfl, hgs, hgsl⟩ := hown.form (by simp)
        have d0 : wp.cell? ⟨gs, 0, none⟩ = some (.string (cutA s.data.toList)) := by rw [hown.cellAt 0 (by simp)]; rfl
        have d1 : wp.cell? ⟨gs, 1, none⟩ = some (.string y) := by rw [hown.cellAt 1 (by simp)]; rfl
        have hys : y.size ≤ 1048576 := by
          have h1 := (cut_len s.data.toList).2
          have h2 : y.data.toList.length = y.size := by simp
          have h3 : s.data.toList.length = s.size := by simp
          rw [hy, cutN] at h2
          omega
        clear hown hbp hps
        go_wp2_with fail
        refine (HS.out y _ hy hys).mono ?_
        rintro e w1 ⟨v1, rfl, ho, hb⟩
        have HB := Lib.hid (show Below w.heap.size w w1 from HBP.out.trans (hb.mono HBP.out.size))
        obtain ⟨hcq, hfq⟩ := bcell hb
        have hc : ∀ b o, b < w.heap.size + 1 → w1.cell? ⟨b, o, none⟩ = (w.alloc (.cells #[.string ⟨#[]⟩, .int .i64 0, .int .i64 0] 26)).cell? ⟨b, o, none⟩ := fun b o h => (hcq b o (by omega)).trans (hcp b o (by simpa using h))
        have hf : ∀ b o, b < w.heap.size + 1 → w1.frozen? ⟨b, o, none⟩ = (w.alloc (.cells #[.string ⟨#[]⟩, .int .i64 0, .int .i64 0] 26)).frozen? ⟨b, o, none⟩ := fun b o h => (hfq b o (by omega)).trans (hfp b o (by simpa using h))
        have cs : w1.cell? ⟨gs, 0, none⟩ = some (.string (cutA s.data.toList)) := (hcq gs 0 hgsl).trans d0
        have hz : w.heap.size < w1.heap.size := Nat.lt_of_lt_of_le hz0 hb.size
        have hgsl1 : gs < w1.heap.size := Nat.lt_of_lt_of_le hgsl hb.size
        have hgs0 : w.heap.size < gs := by have := hgs; simp at this; omega
        clear hcq hfq hcp hfp d0 d1
        obtain ⟨g, cap, rfl⟩ := OwnI.form (show OwnI w1 _ v1 xs from ho)
        clear ho hb
        go_wp2
        refine bodyPost_ret (v := .tuple #[.agg #[.string ⟨#[]⟩, .int .i64 0, .int .i64 0], .bool false]) (by simp [results, Tryd.results12, go_sem, hc]) rfl ⟨gt_same HZ.out.1.symm (HZ.out.2.1 0).symm (HZ.out.2.1 1).symm HZ.out.2.2.symm, ?_⟩
        exact (by repeat (first | (with_reducible exact HB.out) | (with_reducible refine below_drewN' ?_ _) | (with_reducible refine Below.drew ?_) | (with_reducible refine Below.alloc ?_ (by first | omega | (simp <;> omega)) _) | (with_reducible refine Below.setCell ?_ (by simp) _)))
    · rw [hbn] at HS
      have hxl := listV_len (cutN s.data.toList)
      generalize listV (cutN s.data.toList) = xs at *
      have t1 : ((xs.length : Int) != 2) = true := by simp; omega
      go_enter Tryd.func12, Tryd.ntmps12
      go_wp2_with fail
      refine (HC.out _).mono ?_
      rintro e wp ⟨v, ps, rfl, hps, hown, hbp⟩
      have HBP := Lib.hid (show Below w.heap.size w wp from (below_box _ _).trans (hbp.mono (by simp)))
      obtain ⟨hcp, hfp⟩ := bcell hbp
      have hz0 : w.heap.size < wp.heap.size := Nat.lt_of_lt_of_le (by simp) hbp.size
      rcases pieces2 hps with ⟨hl2, hb2⟩ | ⟨y, rfl, hy⟩
      · have hc := hcp
        obtain ⟨A, cap, rfl⟩ : ∃ A cap, v = .slice A ps.length cap := by
          rcases hown.2 with ⟨rfl, h0⟩ | ⟨g, cap, cur, rfl, hr⟩
          · exact ⟨none, 0, by rw [h0]⟩
          · exact ⟨_, cap, rfl⟩
        have t0 : ((ps.length : Int) != 2) = true := by simp; omega
        have HB := HBP
        clear hown hbp hps
        go_wp2
        refine bodyPost_ret (v := .tuple #[.agg #[.string ⟨#[]⟩, .int .i64 0, .int .i64 0], .bool false]) (by simp [results, Tryd.results12, go_sem, hc]) rfl ⟨gt_same HZ.out.1.symm (HZ.out.2.1 0).symm (HZ.out.2.1 1).symm HZ.out.2.2.symm, ?_⟩
        exact (by repeat (first | (with_reducible exact HB.out) | (with_reducible refine below_drewN' ?_ _) | (with_reducible refine Below.drew ?_) | (with_reducible refine Below.alloc ?_ (by first | omega | (simp <;> omega)) _) | (with_reducible refine Below.setCell ?_ (by simp) _)))
      · skip
        obtain ⟨gs, caps, rfl, hgs, hgsl⟩ := hown.form (by simp)
        have d0 : wp.cell? ⟨gs, 0, none⟩ = some (.string (cutA s.data.toList)) := by rw [hown.cellAt 0 (by simp)]; rfl
        have d1 : wp.cell? ⟨gs, 1, none⟩ = some (.string y) := by rw [hown.cellAt 1 (by simp)]; rfl
        have hys : y.size ≤ 1048576 := by
          have h1 := (cut_len s.data.toList).2
          have h2 : y.data.toList.length = y.size := by simp
          have h3 : s.data.toList.length = s.size := by simp
          rw [hy, cutN] at h2
          omega
        clear hown hbp hps
        go_wp2_with fail
        refine (HS.out y _ hy hys).mono ?_
        rintro e w1 ⟨v1, rfl, ho, hb⟩
        have HB := Lib.hid (show Below w.heap.size w w1 from HBP.out.trans (hb.mono HBP.out.size))
        obtain ⟨hcq, hfq⟩ := bcell hb
        have hc : ∀ b o, b < w.heap.size + 1 → w1.cell? ⟨b, o, none⟩ = (w.alloc (.cells #[.string ⟨#[]⟩, .int .i64 0, .int .i64 0] 26)).cell? ⟨b, o, none⟩ := fun b o h => (hcq b o (by omega)).trans (hcp b o (by simpa using h))
        have hf : ∀ b o, b < w.heap.size + 1 → w1.frozen? ⟨b, o, none⟩ = (w.alloc (.cells #[.string ⟨#[]⟩, .int .i64 0, .int .i64 0] 26)).frozen? ⟨b, o, none⟩ := fun b o h => (hfq b o (by omega)).trans (hfp b o (by simpa using h))
        have cs : w1.cell? ⟨gs, 0, none⟩ = some (.string (cutA s.data.toList)) := (hcq gs 0 hgsl).trans d0
        have hz : w.heap.size < w1.heap.size := Nat.lt_of_lt_of_le hz0 hb.size
        have hgsl1 : gs < w1.heap.size := Nat.lt_of_lt_of_le hgsl hb.size
        have hgs0 : w.heap.size < gs := by have := hgs; simp at this; omega
        clear hcq hfq hcp hfp d0 d1
        obtain ⟨g, cap, rfl⟩ := OwnI.form (show OwnI w1 _ v1 xs from ho)
        clear ho hb
        go_wp2
        refine bodyPost_ret (v := .tuple #[.agg #[.string ⟨#[]⟩, .int .i64 0, .int .i64 0], .bool false]) (by simp [results, Tryd.results12, go_sem, hc]) rfl ⟨gt_same HZ.out.1.symm (HZ.out.2.1 0).symm (HZ.out.2.1 1).symm HZ.out.2.2.symm, ?_⟩
        exact (by repeat (first | (with_reducible exact HB.out) | (with_reducible refine below_drewN' ?_ _) | (with_reducible refine Below.drew ?_) | (with_reducible refine Below.alloc ?_ (by first | omega | (simp <;> omega)) _) | (with_reducible refine Below.setCell ?_ (by simp) _)))
    · rw [hbn, hx] at HS
      skip
      clear hx hbd
      go_enter Tryd.func12, Tryd.ntmps12
      go_wp2_with fail
      refine (HC.out _).mono ?_
      rintro e wp ⟨v, ps, rfl, hps, hown, hbp⟩
      have HBP := Lib.hid (show Below w.heap.size w wp from (below_box _ _).trans (hbp.mono (by simp)))
      obtain ⟨hcp, hfp⟩ := bcell hbp
      have hz0 : w.heap.size < wp.heap.size := Nat.lt_of_lt_of_le (by simp) hbp.size
      rcases pieces2 hps with ⟨hl2, hb2⟩ | ⟨y, rfl, hy⟩
      · have hc := hcp
        obtain ⟨A, cap, rfl⟩ : ∃ A cap, v = .slice A ps.length cap := by
          rcases hown.2 with ⟨rfl, h0⟩ | ⟨g, cap, cur, rfl, hr⟩
          · exact ⟨none, 0, by rw [h0]⟩
          · exact ⟨_, cap, rfl⟩
        have t0 : ((ps.length : Int) != 2) = true := by simp; omega
        have HB := HBP
        clear hown hbp hps
        go_wp2
        refine bodyPost_ret (v := .tuple #[.agg #[.string ⟨#[]⟩, .int .i64 0, .int .i64 0], .bool false]) (by simp [results, Tryd.results12, go_sem, hc]) rfl ⟨gt_same HZ.out.1.symm (HZ.out.2.1 0).symm (HZ.out.2.1 1).symm HZ.out.2.2.symm, ?_⟩
        exact (by repeat (first | (with_reducible exact HB.out) | (with_reducible refine below_drewN' ?_ _) | (with_reducible refine Below.drew ?_) | (with_reducible refine Below.alloc ?_ (by first | omega | (simp <;> omega)) _) | (with_reducible refine Below.setCell ?_ (by simp) _)))
      · skip
        obtain ⟨gs, caps, rfl, hgs, hgsl⟩ := hown.form (by simp)
        have d0 : wp.cell? ⟨gs, 0, none⟩ = some (.string (cutA s.data.toList)) := by rw [hown.cellAt 0 (by simp)]; rfl
        have d1 : wp.cell? ⟨gs, 1, none⟩ = some (.string y) := by rw [hown.cellAt 1 (by simp)]; rfl
        have hys : y.size ≤ 1048576 := by
          have h1 := (cut_len s.data.toList).2
          have h2 : y.data.toList.length = y.size := by simp
          have h3 : s.data.toList.length = s.size := by simp
          rw [hy, cutN] at h2
          omega
        clear hown hbp hps
        go_wp2_with fail
        refine (HS.out y _ hy hys).mono ?_
        rintro e w1 ⟨v1, rfl, ho, hb⟩
        have HB := Lib.hid (show Below w.heap.size w w1 from HBP.out.trans (hb.mono HBP.out.size))
        obtain ⟨hcq, hfq⟩ := bcell hb
        have hc : ∀ b o, b < w.heap.size + 1 → w1.cell? ⟨b, o, none⟩ = (w.alloc (.cells #[.string ⟨#[]⟩, .int .i64 0, .int .i64 0] 26)).cell? ⟨b, o, none⟩ := fun b o h => (hcq b o (by omega)).trans (hcp b o (by simpa using h))
        have hf : ∀ b o, b < w.heap.size + 1 → w1.frozen? ⟨b, o, none⟩ = (w.alloc (.cells #[.string ⟨#[]⟩, .int .i64 0, .int .i64 0] 26)).frozen? ⟨b, o, none⟩ := fun b o h => (hfq b o (by omega)).trans (hfp b o (by simpa using h))
        have cs : w1.cell? ⟨gs, 0, none⟩ = some (.string (cutA s.data.toList)) := (hcq gs 0 hgsl).trans d0
        have hz : w.heap.size < w1.heap.size := Nat.lt_of_lt_of_le hz0 hb.size
        have hgsl1 : gs < w1.heap.size := Nat.lt_of_lt_of_le hgsl hb.size
        have hgs0 : w.heap.size < gs := by have := hgs; simp at this; omega
        clear hcq hfq hcp hfp d0 d1
        obtain ⟨g, cap, rfl, hg, hgl⟩ := ho.form (by simp)
        have c0 : w1.cell? ⟨g, 0, none⟩ = some (.int .i64 a) := by rw [ho.cellAt 0 (by simp)]; rfl
        have c1 : w1.cell? ⟨g, 1, none⟩ = some (.int .i64 r) := by rw [ho.cellAt 1 (by simp)]; rfl
        clear ho hb
        go_wp2_with fail
        have hne : ¬ (w1.heap.size = g) := by omega
        have hne2 : ¬ (g = w1.heap.size) := by omega
        have hn1 : ¬ (w.heap.size = w1.heap.size) := by omega
        have hn2 : ¬ (w1.heap.size = w.heap.size) := by omega
        have hn3 : ¬ (w.heap.size = w1.heap.size + 1) := by omega
        have hn4 : ¬ (w1.heap.size + 1 = w.heap.size) := by omega
        have hz2 : w.heap.size < w1.heap.size + 1 := by omega
        have hc0 : (w1.drew.cell? ⟨gs, 0, none⟩ = some (.string (cutA s.data.toList)) ∧ w1.drew.cell? ⟨g, 0, none⟩ = some (.int .i64 a) ∧ w1.drew.cell? ⟨g, 1, none⟩ = some (.int .i64 r)) := ⟨cs, c0, c1⟩
        refine wp_region_held (S := fun w' => w'.cell? ⟨gs, 0, none⟩ = some (.string (cutA s.data.toList)) ∧ w'.cell? ⟨g, 0, none⟩ = some (.int .i64 a) ∧ w'.cell? ⟨g, 1, none⟩ = some (.int .i64 r)) (by kernel_rfl) ?_
        try (change wpAnyH _ _ _ _ _ _ _ _ (World.drew _))
        have hS0 := hc0
        refine gTake 0 (v := ?_) rfl (by kernel_rfl) (by kernel_rfl) (by kernel_rfl) (fun _ _ _ h => h) (by kernel_rfl) ?_ hS0 ?_
        rotate_left
        · (intro W hW; clear hW; go_simp; try with_reducible rfl)
        refine gTake 1 (v := ?_) rfl (by kernel_rfl) (by kernel_rfl) (by kernel_rfl) (fun _ _ _ h => h) (by kernel_rfl) ?_ hS0 ?_
        rotate_left
        · (intro W hW; clear hW; go_simp; try with_reducible rfl)
        refine gTake 2 (v := ?_) rfl (by kernel_rfl) (by kernel_rfl) (by kernel_rfl) (fun _ _ _ h => h) (by kernel_rfl) ?_ hS0 ?_
        rotate_left
        · (intro W hW; have q0 := hW.1; have q1 := hW.2.1; have q2 := hW.2.2; clear hW; go_simp; try with_reducible rfl)
        refine gTake 3 (v := ?_) rfl (by kernel_rfl) (by kernel_rfl) (by kernel_rfl) (fun _ _ _ h => h) (by kernel_rfl) ?_ hS0 ?_
        rotate_left
        · (intro W hW; clear hW; go_simp; try with_reducible rfl)
        refine gTake 4 (v := ?_) rfl (by kernel_rfl) (by kernel_rfl) (by kernel_rfl) (fun _ _ _ h => h) (by kernel_rfl) ?_ hS0 ?_
        rotate_left
        · (intro W hW; clear hW; go_simp; try with_reducible rfl)
        refine gTake 5 (v := ?_) rfl (by kernel_rfl) (by kernel_rfl) (by kernel_rfl) (fun _ _ _ h => h) (by kernel_rfl) ?_ hS0 ?_
        rotate_left
        · (intro W hW; have q0 := hW.1; have q1 := hW.2.1; have q2 := hW.2.2; clear hW; go_simp; try with_reducible rfl)
        refine gTake 6 (v := ?_) rfl (by kernel_rfl) (by kernel_rfl) (by kernel_rfl) (fun _ _ _ h => h) (by kernel_rfl) ?_ hS0 ?_
        rotate_left
        · (intro W hW; clear hW; go_simp; try with_reducible rfl)
        refine gTake 7 (v := ?_) rfl (by kernel_rfl) (by kernel_rfl) (by kernel_rfl) (fun _ _ _ h => h) (by kernel_rfl) ?_ hS0 ?_
        rotate_left
        · (intro W hW; clear hW; go_simp; try with_reducible rfl)
        refine gTake 8 (v := ?_) rfl (by kernel_rfl) (by kernel_rfl) (by kernel_rfl) (fun _ _ _ h => h) (by kernel_rfl) ?_ hS0 ?_
        rotate_left
        · (intro W hW; have q0 := hW.1; have q1 := hW.2.1; have q2 := hW.2.2; clear hW; go_simp; try with_reducible rfl)
        refine gTake 9 (v := ?_) rfl (by kernel_rfl) (by kernel_rfl) (by kernel_rfl) (fun _ _ _ h => h) (by kernel_rfl) ?_ hS0 ?_
        rotate_left
        · (intro W hW; clear hW; go_simp; try with_reducible rfl)
        refine gOne 10 rfl (by kernel_rfl) (by kernel_rfl) (fun K hK => ?_)
        go_simp
        skip
        have hS1 := (gtkeepS hS0 (below_box w1.drew (.cells #[.string ⟨#[]⟩, .int .i64 0, .int .i64 0] 26)))
        refine hK _ _ hS1 ?_
        clear hK K
        refine gOne 11 rfl (by kernel_rfl) (by kernel_rfl) (fun K hK => ?_)
        go_simp
        skip
        refine viaS (hK _ _) ?_ (fun hS2 => ?_)
        · exact ⟨by simp; exact cellK cs (below_box _ _), by simp; exact cellK c0 (below_box _ _), by simp; exact cellK c1 (below_box _ _)⟩
        clear hK K
        refine wpAnyH_done (by kernel_rfl) ?_ _
        go_simp
        go_wp2_with fail
        (with_reducible refine (l13One_below w1.heap.size 0 (cutA s.data.toList) a r _ HZs.out (soAt_mk (by simp) (by simp) (by simp))).mono ?_)
        rintro e w2 ⟨rfl, hd2⟩
        obtain ⟨hc2, hf2⟩ := bcell hd2
        have HB1 := HB
        have HB := Lib.hid (show Below w.heap.size w w2 from Below.trans (by repeat (first | (with_reducible exact HB.out) | (with_reducible refine below_drewN' ?_ _) | (with_reducible refine Below.drew ?_) | (with_reducible refine Below.alloc ?_ (by first | omega | (simp <;> omega)) _) | (with_reducible refine Below.setCell ?_ (by simp) _))) (hd2.mono (by simp <;> omega)))
        have hz3 : w.heap.size < w2.heap.size := Nat.lt_of_lt_of_le (by simp <;> omega) hd2.size
        clear hd2
        rw [hok]
        go_wp2
        refine bodyPost_ret (v := .tuple #[.agg #[.string ⟨#[]⟩, .int .i64 0, .int .i64 0], .bool false]) (by simp [results, Tryd.results12, go_sem, hc, hc2, hz3, hn1, hn2, hn3, hn4, hz, hz2]) rfl ⟨gt_same HZ.out.1.symm (HZ.out.2.1 0).symm (HZ.out.2.1 1).symm HZ.out.2.2.symm, ?_⟩
        exact (by repeat (first | (with_reducible exact HB.out) | (with_reducible refine below_drewN' ?_ _) | (with_reducible refine Below.drew ?_) | (with_reducible refine Below.alloc ?_ (by first | omega | (simp <;> omega)) _) | (with_reducible refine Below.setCell ?_ (by simp) _)))
  · have HZ := Lib.hid (And.intro hS (And.intro hr (And.intro h0 h1)))
    rw [hb, hx] at HS
    have HBt := Lib.hid hb
    skip
    clear hx hS h0 h1 hr hb hbd
    go_enter Tryd.func12, Tryd.ntmps12
    go_wp2_with fail
    refine (HC.out _).mono ?_
    rintro e wp ⟨v, ps, rfl, hps, hown, hbp⟩
    have HBP := Lib.hid (show Below w.heap.size w wp from (below_box _ _).trans (hbp.mono (by simp)))
    obtain ⟨hcp, hfp⟩ := bcell hbp
    have hz0 : w.heap.size < wp.heap.size := Nat.lt_of_lt_of_le (by simp) hbp.size
    rcases pieces2 hps with ⟨hl2, hb2⟩ | ⟨y, rfl, hy⟩
    · have := HBt.out
      rw [hb2] at this
      cases this
    · skip
      obtain ⟨gs, caps, rfl, hgs, hgsl⟩ := hown.form (by simp)
      have d0 : wp.cell? ⟨gs, 0, none⟩ = some (.string (cutA s.data.toList)) := by rw [hown.cellAt 0 (by simp)]; rfl
      have d1 : wp.cell? ⟨gs, 1, none⟩ = some (.string y) := by rw [hown.cellAt 1 (by simp)]; rfl
      have hys : y.size ≤ 1048576 := by
        have h1 := (cut_len s.data.toList).2
        have h2 : y.data.toList.length = y.size := by simp
        have h3 : s.data.toList.length = s.size := by simp
        rw [hy, cutN] at h2
        omega
      clear hown hbp hps
      go_wp2_with fail
      refine (HS.out y _ hy hys).mono ?_
      rintro e w1 ⟨v1, rfl, ho, hb⟩
      have HB := Lib.hid (show Below w.heap.size w w1 from HBP.out.trans (hb.mono HBP.out.size))
      obtain ⟨hcq, hfq⟩ := bcell hb
      have hc : ∀ b o, b < w.heap.size + 1 → w1.cell? ⟨b, o, none⟩ = (w.alloc (.cells #[.string ⟨#[]⟩, .int .i64 0, .int .i64 0] 26)).cell? ⟨b, o, none⟩ := fun b o h => (hcq b o (by omega)).trans (hcp b o (by simpa using h))
      have hf : ∀ b o, b < w.heap.size + 1 → w1.frozen? ⟨b, o, none⟩ = (w.alloc (.cells #[.string ⟨#[]⟩, .int .i64 0, .int .i64 0] 26)).frozen? ⟨b, o, none⟩ := fun b o h => (hfq b o (by omega)).trans (hfp b o (by simpa using h))
      have cs : w1.cell? ⟨gs, 0, none⟩ = some (.string (cutA s.data.toList)) := (hcq gs 0 hgsl).trans d0
      have hz : w.heap.size < w1.heap.size := Nat.lt_of_lt_of_le hz0 hb.size
      have hgsl1 : gs < w1.heap.size := Nat.lt_of_lt_of_le hgsl hb.size
      have hgs0 : w.heap.size < gs := by have := hgs; simp at this; omega
      clear hcq hfq hcp hfp d0 d1
      obtain ⟨g, cap, rfl, hg, hgl⟩ := ho.form (by simp)
      have c0 : w1.cell? ⟨g, 0, none⟩ = some (.int .i64 a) := by rw [ho.cellAt 0 (by simp)]; rfl
      have c1 : w1.cell? ⟨g, 1, none⟩ = some (.int .i64 r) := by rw [ho.cellAt 1 (by simp)]; rfl
      clear ho hb
      go_wp2_with fail
      have hne : ¬ (w1.heap.size = g) := by omega
      have hne2 : ¬ (g = w1.heap.size) := by omega
      have hn1 : ¬ (w.heap.size = w1.heap.size) := by omega
      have hn2 : ¬ (w1.heap.size = w.heap.size) := by omega
      have hn3 : ¬ (w.heap.size = w1.heap.size + 1) := by omega
      have hn4 : ¬ (w1.heap.size + 1 = w.heap.size) := by omega
      have hz2 : w.heap.size < w1.heap.size + 1 := by omega
      have hc0 : (w1.drew.cell? ⟨gs, 0, none⟩ = some (.string (cutA s.data.toList)) ∧ w1.drew.cell? ⟨g, 0, none⟩ = some (.int .i64 a) ∧ w1.drew.cell? ⟨g, 1, none⟩ = some (.int .i64 r)) := ⟨cs, c0, c1⟩
      refine wp_region_held (S := fun w' => w'.cell? ⟨gs, 0, none⟩ = some (.string (cutA s.data.toList)) ∧ w'.cell? ⟨g, 0, none⟩ = some (.int .i64 a) ∧ w'.cell? ⟨g, 1, none⟩ = some (.int .i64 r)) (by kernel_rfl) ?_
      try (change wpAnyH _ _ _ _ _ _ _ _ (World.drew _))
      have hS0 := hc0
      refine gTake 0 (v := ?_) rfl (by kernel_rfl) (by kernel_rfl) (by kernel_rfl) (fun _ _ _ h => h) (by kernel_rfl) ?_ hS0 ?_
      rotate_left
      · (intro W hW; clear hW; go_simp; try with_reducible rfl)
      refine gTake 1 (v := ?_) rfl (by kernel_rfl) (by kernel_rfl) (by kernel_rfl) (fun _ _ _ h => h) (by kernel_rfl) ?_ hS0 ?_
      rotate_left
      · (intro W hW; clear hW; go_simp; try with_reducible rfl)
      refine gTake 2 (v := ?_) rfl (by kernel_rfl) (by kernel_rfl) (by kernel_rfl) (fun _ _ _ h => h) (by kernel_rfl) ?_ hS0 ?_
      rotate_left
      · (intro W hW; have q0 := hW.1; have q1 := hW.2.1; have q2 := hW.2.2; clear hW; go_simp; try with_reducible rfl)
      refine gTake 3 (v := ?_) rfl (by kernel_rfl) (by kernel_rfl) (by kernel_rfl) (fun _ _ _ h => h) (by kernel_rfl) ?_ hS0 ?_
      rotate_left
      · (intro W hW; clear hW; go_simp; try with_reducible rfl)
      refine gTake 4 (v := ?_) rfl (by kernel_rfl) (by kernel_rfl) (by kernel_rfl) (fun _ _ _ h => h) (by kernel_rfl) ?_ hS0 ?_
      rotate_left
      · (intro W hW; clear hW; go_simp; try with_reducible rfl)
      refine gTake 5 (v := ?_) rfl (by kernel_rfl) (by kernel_rfl) (by kernel_rfl) (fun _ _ _ h => h) (by kernel_rfl) ?_ hS0 ?_
      rotate_left
      · (intro W hW; have q0 := hW.1; have q1 := hW.2.1; have q2 := hW.2.2; clear hW; go_simp; try with_reducible rfl)
      refine gTake 6 (v := ?_) rfl (by kernel_rfl) (by kernel_rfl) (by kernel_rfl) (fun _ _ _ h => h) (by kernel_rfl) ?_ hS0 ?_
      rotate_left
      · (intro W hW; clear hW; go_simp; try with_reducible rfl)
      refine gTake 7 (v := ?_) rfl (by kernel_rfl) (by kernel_rfl) (by kernel_rfl) (fun _ _ _ h => h) (by kernel_rfl) ?_ hS0 ?_
      rotate_left
      · (intro W hW; clear hW; go_simp; try with_reducible rfl)
      refine gTake 8 (v := ?_) rfl (by kernel_rfl) (by kernel_rfl) (by kernel_rfl) (fun _ _ _ h => h) (by kernel_rfl) ?_ hS0 ?_
      rotate_left
      · (intro W hW; have q0 := hW.1; have q1 := hW.2.1; have q2 := hW.2.2; clear hW; go_simp; try with_reducible rfl)
      refine gTake 9 (v := ?_) rfl (by kernel_rfl) (by kernel_rfl) (by kernel_rfl) (fun _ _ _ h => h) (by kernel_rfl) ?_ hS0 ?_
      rotate_left
      · (intro W hW; clear hW; go_simp; try with_reducible rfl)
      refine gOne 10 rfl (by kernel_rfl) (by kernel_rfl) (fun K hK => ?_)
      go_simp
      skip
      have hS1 := (gtkeepS hS0 (below_box w1.drew (.cells #[.string ⟨#[]⟩, .int .i64 0, .int .i64 0] 26)))
      refine hK _ _ hS1 ?_
      clear hK K
      refine gOne 11 rfl (by kernel_rfl) (by kernel_rfl) (fun K hK => ?_)
      go_simp
      skip
      refine viaS (hK _ _) ?_ (fun hS2 => ?_)
      · exact ⟨by simp; exact cellK cs (below_box _ _), by simp; exact cellK c0 (below_box _ _), by simp; exact cellK c1 (below_box _ _)⟩
      clear hK K
      refine wpAnyH_done (by kernel_rfl) ?_ _
      go_simp
      go_wp2_with fail
      (with_reducible refine (l13One_below w1.heap.size 0 (cutA s.data.toList) a r _ HZs.out (soAt_mk (by simp) (by simp) (by simp))).mono ?_)
      rintro e w2 ⟨rfl, hd2⟩
      obtain ⟨hc2, hf2⟩ := bcell hd2
      have HB1 := HB
      have HB := Lib.hid (show Below w.heap.size w w2 from Below.trans (by repeat (first | (with_reducible exact HB.out) | (with_reducible refine below_drewN' ?_ _) | (with_reducible refine Below.drew ?_) | (with_reducible refine Below.alloc ?_ (by first | omega | (simp <;> omega)) _) | (with_reducible refine Below.setCell ?_ (by simp) _))) (hd2.mono (by simp <;> omega)))
      have hz3 : w.heap.size < w2.heap.size := Nat.lt_of_lt_of_le (by simp <;> omega) hd2.size
      clear hd2
      rw [hok]
      go_wp2
      refine bodyPost_ret (v := .tuple #[.agg #[.string (cutA s.data.toList), .int .i64 a, .int .i64 r], .bool true]) (by simp [results, Tryd.results12, go_sem, hc, hc2, hz3, hn1, hn2, hn3, hn4, hz, hz2]) rfl ⟨gt_same HZ.out.1.symm HZ.out.2.2.1.symm HZ.out.2.2.2.symm HZ.out.2.1.symm, ?_⟩
      exact (by repeat (first | (with_reducible exact HB.out) | (with_reducible refine below_drewN' ?_ _) | (with_reducible refine Below.drew ?_) | (with_reducible refine Below.alloc ?_ (by first | omega | (simp <;> omega)) _) | (with_reducible refine Below.setCell ?_ (by simp) _)))
end Go.Proofs.YthbofhlfggkolaaDoor
