/-
  Contracts of ReadSource: the program's; the laws' comparison of a Source with itself. Conditions: those that each theorem states.
-/
import Derived.Test.YthbofhlfggkolaaDoorPn
import Derived.Test.YthbofhlfggkolaaDoorCu
namespace Go.Proofs.YthbofhlfggkolaaDoor
open Go.RowKit
set_option linter.unusedVariables false
set_option linter.unusedSimpArgs false

theorem own_cap {w : World} {B e : Nat} {a : Option Addr} {n m cap : Nat} {xs : List Value} (h : w.ownsRow B e 1 (.slice a m cap) n xs) (hn : n = 2) : 2 ≤ cap := by
  rcases h.2 with ⟨hh, h0⟩ | ⟨g', cap', cur, hh, _, _, hle, _⟩
  · injection hh with _ _ h3; omega
  · injection hh with _ _ h3; omega
set_option maxHeartbeats 1000000 in
theorem sourceOf_any (g cap : Nat) (s : ByteArray) (a r : Int) (w : World) (h : w.cell? ⟨g, 0, none⟩ = some (.int .i64 a) ∧ w.cell? ⟨g, 1, none⟩ = some (.int .i64 r)) (hcap : 2 ≤ cap) :
    Calls Tryd.prog 39 #[.string s, .slice (some ⟨g, 0, none⟩) 2 cap] w fun e w' => e = .returned (.agg #[.string s, .int .i64 a, .int .i64 r]) ∧ Below w.heap.size w w' := by
  have hg : g < w.heap.size := World.block_lt_of_cell? _ _ h.1
  have hk := gtkeep h (below_box w (.cells #[.string ⟨#[]⟩, .int .i64 0, .int .i64 0] 26))
  have hk2 := gtkeep h (below_box w (.cells #[.string s, .int .i64 a, .int .i64 r] 26))
  obtain ⟨k0, k1⟩ := hk
  have hne : ¬ (w.heap.size = g) := by omega
  have hne2 : ¬ (g = w.heap.size) := by omega
  go_enter Tryd.func39, Tryd.ntmps39
  go_wp2_with fail
  refine wp_region_held (S := fun w' => w'.cell? ⟨g, 0, none⟩ = some (.int .i64 a) ∧ w'.cell? ⟨g, 1, none⟩ = some (.int .i64 r)) (by kernel_rfl) ?_
  try (change wpAnyH _ _ _ _ _ _ _ _ (World.drew _))
  have hS0 := (show (w.alloc (.cells #[.string ⟨#[]⟩, .int .i64 0, .int .i64 0] 26)).drew.cell? ⟨g, 0, none⟩ = some (.int .i64 a) ∧ (w.alloc (.cells #[.string ⟨#[]⟩, .int .i64 0, .int .i64 0] 26)).drew.cell? ⟨g, 1, none⟩ = some (.int .i64 r) from ⟨k0, k1⟩)
  refine gTake 0 (v := ?_) rfl (by kernel_rfl) (by kernel_rfl) (by kernel_rfl) (fun _ _ _ h => h) (by kernel_rfl) ?_ hS0 ?_
  rotate_left
  · (intro W hW; clear hW; go_simp; try with_reducible rfl)
  refine gTake 1 (v := ?_) rfl (by kernel_rfl) (by kernel_rfl) (by kernel_rfl) (fun _ _ _ h => h) (by kernel_rfl) ?_ hS0 ?_
  rotate_left
  · (intro W hW; clear hW; go_simp; try with_reducible rfl)
  refine gTake 2 (v := ?_) rfl (by kernel_rfl) (by kernel_rfl) (by kernel_rfl) (fun _ _ _ h => h) (by kernel_rfl) ?_ hS0 ?_
  rotate_left
  · (intro W hW; clear hW; go_simp; try with_reducible rfl)
  refine gTake 3 (v := ?_) rfl (by kernel_rfl) (by kernel_rfl) (by kernel_rfl) (fun _ _ _ h => h) (by kernel_rfl) ?_ hS0 ?_
  rotate_left
  · (intro W hW; have q0 := hW.1; have q1 := hW.2; clear hW; go_simp; try with_reducible rfl)
  refine gTake 4 (v := ?_) rfl (by kernel_rfl) (by kernel_rfl) (by kernel_rfl) (fun _ _ _ h => h) (by kernel_rfl) ?_ hS0 ?_
  rotate_left
  · (intro W hW; clear hW; go_simp; try with_reducible rfl)
  refine gTake 5 (v := ?_) rfl (by kernel_rfl) (by kernel_rfl) (by kernel_rfl) (fun _ _ _ h => h) (by kernel_rfl) ?_ hS0 ?_
  rotate_left
  · (intro W hW; clear hW; go_simp; try with_reducible rfl)
  refine gTake 6 (v := ?_) rfl (by kernel_rfl) (by kernel_rfl) (by kernel_rfl) (fun _ _ _ h => h) (by kernel_rfl) ?_ hS0 ?_
  rotate_left
  · (intro W hW; have q0 := hW.1; have q1 := hW.2; clear hW; go_simp; try with_reducible rfl)
  refine gTake 7 (v := ?_) rfl (by kernel_rfl) (by kernel_rfl) (by kernel_rfl) (fun _ _ _ h => h) (by kernel_rfl) ?_ hS0 ?_
  rotate_left
  · (intro W hW; clear hW; go_simp; try with_reducible rfl)
  refine gOne 8 rfl (by kernel_rfl) (by kernel_rfl) (fun K hK => ?_)
  go_simp
  skip
  refine viaS (hK _ _) ?_ (fun hS1 => ?_)
  · exact ⟨by first | (simp [hne, hne2]; exact k0) | (simp [hne, hne2, k0]; done) | exact k0 | exact hk2.1, by first | (simp [hne, hne2]; exact k1) | (simp [hne, hne2, k1]; done) | exact k1 | exact hk2.2⟩
  clear hK K
  refine wpAnyH_done (by kernel_rfl) ?_ _
  go_simp
  go_wp2
  refine bodyPost_ret (v := .agg #[.string s, .int .i64 a, .int .i64 r]) (by simp [results, Tryd.results39, go_sem]) rfl ⟨rfl, ?_⟩
  exact (by repeat (first | exact Below.refl _ _ | refine below_drewN' ?_ _ | refine Below.drew ?_ | refine Below.alloc ?_ (by simp <;> omega) _ | refine Below.setCell ?_ (by simp) _))
set_option maxHeartbeats 2000000 in
theorem readNamedSource_any (s : ByteArray) (w : World) (hs : s.size ≤ 1048576) (hP : Pow w) (hE : ErrV w) (hM : MaxV w) :
    Calls Tryd.prog 38 #[.string s, .int .i64 2, .func (.func 39) #[] #[], .func (.func 34) #[] #[]] w fun e w' => e = .returned (.tuple #[.agg #[.string (gtS s.data.toList), .int .i64 (gtV s.data.toList 0), .int .i64 (gtV s.data.toList 1)], .bool (gtRd s.data.toList)]) ∧ Below w.heap.size w w' := by
  have HC := Lib.hid (fun W (h : Below w.heap.size w W) => cut_call s W hs (hM.below h))
  have HS := Lib.hid (fun (y : ByteArray) W (hy : y.data.toList = cutN s.data.toList) (hys : y.size ≤ 1048576) (h : Below w.heap.size w W) => hy ▸ iReadList_any y W hys (hP.below h) (hE.below h) (hM.below h))
  have HZs := Lib.hid (cutA_max s hs)
  clear hs hP hE hM
  rcases gt_cases s.data.toList with ⟨hr, hS, hv, hcs⟩ | ⟨a, r, hb, hx, hok, hbd, hr, hS, h0, h1⟩
  · have HZ := Lib.hid (And.intro hS (And.intro hv hr))
    clear hS hv hr
    rcases hcs with hbn | ⟨hbn, hl⟩ | ⟨a, r, hbn, hx, hok, hbd⟩
    · rw [hbn] at HS
      generalize listV (cutN s.data.toList) = xs at *
      go_enter Tryd.func38, Tryd.ntmps38
      go_wp2_with fail
      refine (HC.out _ ((below_box w (.cells #[.string ⟨#[]⟩, .int .i64 0, .int .i64 0] 26)).alloc (by simp) (.cells #[.string ⟨#[]⟩, .int .i64 0, .int .i64 0] 26))).mono ?_
      rintro e w1 ⟨y, b, rfl, ⟨hy, hys⟩, hb1⟩
      have HB1 := Lib.hid (show Below w.heap.size w w1 from ((below_box w (.cells #[.string ⟨#[]⟩, .int .i64 0, .int .i64 0] 26)).alloc (by simp) (.cells #[.string ⟨#[]⟩, .int .i64 0, .int .i64 0] 26)).trans (hb1.mono (by simp <;> omega)))
      go_wp2_with fail
      refine (HS.out y w1 hy hys HB1.out).mono ?_
      rintro e w2 ⟨v1, rfl, ho, hb2⟩
      have hbb := hb1.trans (hb2.mono hb1.size)
      obtain ⟨hc, hf⟩ := bcell hbb
      have hz : w.heap.size + 1 < w2.heap.size := Nat.lt_of_lt_of_le (by simp) hbb.size
      have HB := Lib.hid (HB1.out.trans (hb2.mono HB1.out.size))
      clear hb1 hb2 hy hys HB1
      clear ho hbb
      go_wp2
      have m0 : (w2.cell? ⟨w.heap.size, 0, none⟩).isSome = true := by rw [hc _ _ (by simp <;> omega)]; simp
      have m1 : (w2.cell? ⟨w.heap.size, 1, none⟩).isSome = true := by rw [hc _ _ (by simp <;> omega)]; simp
      have m2 : (w2.cell? ⟨w.heap.size, 2, none⟩).isSome = true := by rw [hc _ _ (by simp <;> omega)]; simp
      refine bodyPost_ret (v := .tuple #[.agg #[.string ⟨#[]⟩, .int .i64 0, .int .i64 0], .bool false]) (by simp [results, Tryd.results38, go_sem, World.cell?_setCell_other, World.cell?_setCell_same', hc, m0, m1, m2]) rfl ⟨gt_same HZ.out.1.symm (HZ.out.2.1 0).symm (HZ.out.2.1 1).symm HZ.out.2.2.symm, ?_⟩
      exact (by repeat (first | (with_reducible exact HB.out) | (with_reducible refine below_drewN' ?_ _) | (with_reducible refine Below.drew ?_) | (with_reducible refine Below.alloc ?_ (by first | omega | (simp <;> omega)) _) | (with_reducible refine Below.setCell ?_ (by simp) _)))
    · rw [hbn] at HS
      have hxl := listV_len (cutN s.data.toList)
      generalize listV (cutN s.data.toList) = xs at *
      have t1 : ((xs.length : Int) != 2) = true := by simp; omega
      go_enter Tryd.func38, Tryd.ntmps38
      go_wp2_with fail
      refine (HC.out _ ((below_box w (.cells #[.string ⟨#[]⟩, .int .i64 0, .int .i64 0] 26)).alloc (by simp) (.cells #[.string ⟨#[]⟩, .int .i64 0, .int .i64 0] 26))).mono ?_
      rintro e w1 ⟨y, b, rfl, ⟨hy, hys⟩, hb1⟩
      have HB1 := Lib.hid (show Below w.heap.size w w1 from ((below_box w (.cells #[.string ⟨#[]⟩, .int .i64 0, .int .i64 0] 26)).alloc (by simp) (.cells #[.string ⟨#[]⟩, .int .i64 0, .int .i64 0] 26)).trans (hb1.mono (by simp <;> omega)))
      go_wp2_with fail
      refine (HS.out y w1 hy hys HB1.out).mono ?_
      rintro e w2 ⟨v1, rfl, ho, hb2⟩
      have hbb := hb1.trans (hb2.mono hb1.size)
      obtain ⟨hc, hf⟩ := bcell hbb
      have hz : w.heap.size + 1 < w2.heap.size := Nat.lt_of_lt_of_le (by simp) hbb.size
      have HB := Lib.hid (HB1.out.trans (hb2.mono HB1.out.size))
      clear hb1 hb2 hy hys HB1
      obtain ⟨g, cap, rfl⟩ := OwnI.form (show OwnI w2 _ v1 xs from ho)
      clear ho hbb
      go_wp2
      have m0 : (w2.cell? ⟨w.heap.size, 0, none⟩).isSome = true := by rw [hc _ _ (by simp <;> omega)]; simp
      have m1 : (w2.cell? ⟨w.heap.size, 1, none⟩).isSome = true := by rw [hc _ _ (by simp <;> omega)]; simp
      have m2 : (w2.cell? ⟨w.heap.size, 2, none⟩).isSome = true := by rw [hc _ _ (by simp <;> omega)]; simp
      refine bodyPost_ret (v := .tuple #[.agg #[.string ⟨#[]⟩, .int .i64 0, .int .i64 0], .bool false]) (by simp [results, Tryd.results38, go_sem, World.cell?_setCell_other, World.cell?_setCell_same', hc, m0, m1, m2]) rfl ⟨gt_same HZ.out.1.symm (HZ.out.2.1 0).symm (HZ.out.2.1 1).symm HZ.out.2.2.symm, ?_⟩
      exact (by repeat (first | (with_reducible exact HB.out) | (with_reducible refine below_drewN' ?_ _) | (with_reducible refine Below.drew ?_) | (with_reducible refine Below.alloc ?_ (by first | omega | (simp <;> omega)) _) | (with_reducible refine Below.setCell ?_ (by simp) _)))
    · rw [hbn, hx] at HS
      skip
      clear hx hbd
      go_enter Tryd.func38, Tryd.ntmps38
      go_wp2_with fail
      refine (HC.out _ ((below_box w (.cells #[.string ⟨#[]⟩, .int .i64 0, .int .i64 0] 26)).alloc (by simp) (.cells #[.string ⟨#[]⟩, .int .i64 0, .int .i64 0] 26))).mono ?_
      rintro e w1 ⟨y, b, rfl, ⟨hy, hys⟩, hb1⟩
      have HB1 := Lib.hid (show Below w.heap.size w w1 from ((below_box w (.cells #[.string ⟨#[]⟩, .int .i64 0, .int .i64 0] 26)).alloc (by simp) (.cells #[.string ⟨#[]⟩, .int .i64 0, .int .i64 0] 26)).trans (hb1.mono (by simp <;> omega)))
      go_wp2_with fail
      refine (HS.out y w1 hy hys HB1.out).mono ?_
      rintro e w2 ⟨v1, rfl, ho, hb2⟩
      have hbb := hb1.trans (hb2.mono hb1.size)
      obtain ⟨hc, hf⟩ := bcell hbb
      have hz : w.heap.size + 1 < w2.heap.size := Nat.lt_of_lt_of_le (by simp) hbb.size
      have HB := Lib.hid (HB1.out.trans (hb2.mono HB1.out.size))
      clear hb1 hb2 hy hys HB1
      obtain ⟨g, cap, rfl, hg, hgl⟩ := ho.form (by simp)
      have c0 : w2.cell? ⟨g, 0, none⟩ = some (.int .i64 a) := by rw [ho.cellAt 0 (by simp)]; rfl
      have c1 : w2.cell? ⟨g, 1, none⟩ = some (.int .i64 r) := by rw [ho.cellAt 1 (by simp)]; rfl
      have hcap : 2 ≤ cap := own_cap ho rfl
      have HCC := Lib.hid (show w2.cell? ⟨g, 0, none⟩ = some (.int .i64 a) ∧ w2.cell? ⟨g, 1, none⟩ = some (.int .i64 r) from ⟨c0, c1⟩)
      clear ho hgl hg hbb c0 c1
      go_wp2_with fail
      (with_reducible refine (sourceOf_any g cap (cutA s.data.toList) a r w2 HCC.out hcap).mono ?_)
      rintro e w3 ⟨rfl, hb3⟩
      have HB3 := Lib.hid (HB.out.trans (hb3.mono HB.out.size))
      obtain ⟨hc3, hf3⟩ := bcell hb3
      have hz3 : w.heap.size + 1 < w3.heap.size := Nat.lt_of_lt_of_le hz hb3.size
      clear hb3
      go_wp2_with fail
      (with_reducible refine (soValid_any (cutA s.data.toList) a r _ HZs.out).mono ?_)
      rintro e w4 ⟨rfl, hb4⟩
      obtain ⟨hc4, hf4⟩ := bcell hb4
      have hz4 : w.heap.size + 1 < w4.heap.size := Nat.lt_of_lt_of_le (by simp <;> omega) hb4.size
      have hz5 : w3.heap.size < w4.heap.size := Nat.lt_of_lt_of_le (by simp) hb4.size
      have HB := Lib.hid (show Below w.heap.size w w4 from (HB3.out.alloc HB3.out.size _).trans (hb4.mono (by simp <;> omega)))
      have hn1 : ¬ (w.heap.size = w3.heap.size) := by omega
      have hn2 : ¬ (w3.heap.size = w.heap.size) := by omega
      have hn3 : ¬ (w.heap.size + 1 = w3.heap.size) := by omega
      have hn4 : ¬ (w3.heap.size = w.heap.size + 1) := by omega
      have hy1 : w.heap.size < w2.heap.size := by omega
      have hy3 : w.heap.size < w3.heap.size := by omega
      have hy4 : w.heap.size < w4.heap.size := by omega
      have hy6 : w.heap.size < w3.heap.size + 1 := by omega
      have hy7 : w.heap.size + 1 < w3.heap.size + 1 := by omega
      clear hb4
      rw [hok]
      go_wp2
      have m0 : (w4.cell? ⟨w.heap.size, 0, none⟩).isSome = true := by rw [hc4 _ _ (by simp <;> omega), World.cell?_alloc_past _ _ _ (by first | omega | (simp <;> omega)), hc3 _ _ (by omega), hc _ _ (by simp <;> omega)]; simp
      have m1 : (w4.cell? ⟨w.heap.size, 1, none⟩).isSome = true := by rw [hc4 _ _ (by simp <;> omega), World.cell?_alloc_past _ _ _ (by first | omega | (simp <;> omega)), hc3 _ _ (by omega), hc _ _ (by simp <;> omega)]; simp
      have m2 : (w4.cell? ⟨w.heap.size, 2, none⟩).isSome = true := by rw [hc4 _ _ (by simp <;> omega), World.cell?_alloc_past _ _ _ (by first | omega | (simp <;> omega)), hc3 _ _ (by omega), hc _ _ (by simp <;> omega)]; simp
      refine bodyPost_ret (v := .tuple #[.agg #[.string ⟨#[]⟩, .int .i64 0, .int .i64 0], .bool false]) (by simp [results, Tryd.results38, go_sem, World.cell?_setCell_other, World.cell?_setCell_same', m0, m1, m2]) rfl ⟨gt_same HZ.out.1.symm (HZ.out.2.1 0).symm (HZ.out.2.1 1).symm HZ.out.2.2.symm, ?_⟩
      exact (by repeat (first | (with_reducible exact HB.out) | (with_reducible refine below_drewN' ?_ _) | (with_reducible refine Below.drew ?_) | (with_reducible refine Below.alloc ?_ (by first | omega | (simp <;> omega)) _) | (with_reducible refine Below.setCell ?_ (by simp) _)))
  · have HZ := Lib.hid (And.intro hS (And.intro hr (And.intro h0 h1)))
    rw [hb, hx] at HS
    skip
    clear hx hS h0 h1 hr hb hbd
    go_enter Tryd.func38, Tryd.ntmps38
    go_wp2_with fail
    refine (HC.out _ ((below_box w (.cells #[.string ⟨#[]⟩, .int .i64 0, .int .i64 0] 26)).alloc (by simp) (.cells #[.string ⟨#[]⟩, .int .i64 0, .int .i64 0] 26))).mono ?_
    rintro e w1 ⟨y, b, rfl, ⟨hy, hys⟩, hb1⟩
    have HB1 := Lib.hid (show Below w.heap.size w w1 from ((below_box w (.cells #[.string ⟨#[]⟩, .int .i64 0, .int .i64 0] 26)).alloc (by simp) (.cells #[.string ⟨#[]⟩, .int .i64 0, .int .i64 0] 26)).trans (hb1.mono (by simp <;> omega)))
    go_wp2_with fail
    refine (HS.out y w1 hy hys HB1.out).mono ?_
    rintro e w2 ⟨v1, rfl, ho, hb2⟩
    have hbb := hb1.trans (hb2.mono hb1.size)
    obtain ⟨hc, hf⟩ := bcell hbb
    have hz : w.heap.size + 1 < w2.heap.size := Nat.lt_of_lt_of_le (by simp) hbb.size
    have HB := Lib.hid (HB1.out.trans (hb2.mono HB1.out.size))
    clear hb1 hb2 hy hys HB1
    obtain ⟨g, cap, rfl, hg, hgl⟩ := ho.form (by simp)
    have c0 : w2.cell? ⟨g, 0, none⟩ = some (.int .i64 a) := by rw [ho.cellAt 0 (by simp)]; rfl
    have c1 : w2.cell? ⟨g, 1, none⟩ = some (.int .i64 r) := by rw [ho.cellAt 1 (by simp)]; rfl
    have hcap : 2 ≤ cap := own_cap ho rfl
    have HCC := Lib.hid (show w2.cell? ⟨g, 0, none⟩ = some (.int .i64 a) ∧ w2.cell? ⟨g, 1, none⟩ = some (.int .i64 r) from ⟨c0, c1⟩)
    clear ho hgl hg hbb c0 c1
    go_wp2_with fail
    (with_reducible refine (sourceOf_any g cap (cutA s.data.toList) a r w2 HCC.out hcap).mono ?_)
    rintro e w3 ⟨rfl, hb3⟩
    have HB3 := Lib.hid (HB.out.trans (hb3.mono HB.out.size))
    obtain ⟨hc3, hf3⟩ := bcell hb3
    have hz3 : w.heap.size + 1 < w3.heap.size := Nat.lt_of_lt_of_le hz hb3.size
    clear hb3
    go_wp2_with fail
    (with_reducible refine (soValid_any (cutA s.data.toList) a r _ HZs.out).mono ?_)
    rintro e w4 ⟨rfl, hb4⟩
    obtain ⟨hc4, hf4⟩ := bcell hb4
    have hz4 : w.heap.size + 1 < w4.heap.size := Nat.lt_of_lt_of_le (by simp <;> omega) hb4.size
    have hz5 : w3.heap.size < w4.heap.size := Nat.lt_of_lt_of_le (by simp) hb4.size
    have HB := Lib.hid (show Below w.heap.size w w4 from (HB3.out.alloc HB3.out.size _).trans (hb4.mono (by simp <;> omega)))
    have hn1 : ¬ (w.heap.size = w3.heap.size) := by omega
    have hn2 : ¬ (w3.heap.size = w.heap.size) := by omega
    have hn3 : ¬ (w.heap.size + 1 = w3.heap.size) := by omega
    have hn4 : ¬ (w3.heap.size = w.heap.size + 1) := by omega
    have hy1 : w.heap.size < w2.heap.size := by omega
    have hy3 : w.heap.size < w3.heap.size := by omega
    have hy4 : w.heap.size < w4.heap.size := by omega
    have hy6 : w.heap.size < w3.heap.size + 1 := by omega
    have hy7 : w.heap.size + 1 < w3.heap.size + 1 := by omega
    clear hb4
    rw [hok]
    go_wp2
    have m0 : (w4.cell? ⟨w.heap.size, 0, none⟩).isSome = true := by rw [hc4 _ _ (by simp <;> omega), World.cell?_alloc_past _ _ _ (by first | omega | (simp <;> omega)), hc3 _ _ (by omega), hc _ _ (by simp <;> omega)]; simp
    have m1 : (w4.cell? ⟨w.heap.size, 1, none⟩).isSome = true := by rw [hc4 _ _ (by simp <;> omega), World.cell?_alloc_past _ _ _ (by first | omega | (simp <;> omega)), hc3 _ _ (by omega), hc _ _ (by simp <;> omega)]; simp
    have m2 : (w4.cell? ⟨w.heap.size, 2, none⟩).isSome = true := by rw [hc4 _ _ (by simp <;> omega), World.cell?_alloc_past _ _ _ (by first | omega | (simp <;> omega)), hc3 _ _ (by omega), hc _ _ (by simp <;> omega)]; simp
    refine bodyPost_ret (v := .tuple #[.agg #[.string (cutA s.data.toList), .int .i64 a, .int .i64 r], .bool true]) (by simp [results, Tryd.results38, go_sem, World.cell?_setCell_other, World.cell?_setCell_same', m0, m1, m2]) rfl ⟨gt_same HZ.out.1.symm HZ.out.2.2.1.symm HZ.out.2.2.2.symm HZ.out.2.1.symm, ?_⟩
    exact (by repeat (first | (with_reducible exact HB.out) | (with_reducible refine below_drewN' ?_ _) | (with_reducible refine Below.drew ?_) | (with_reducible refine Below.alloc ?_ (by first | omega | (simp <;> omega)) _) | (with_reducible refine Below.setCell ?_ (by simp) _)))
set_option maxHeartbeats 1000000 in
theorem iReadSource_any (s : ByteArray) (w : World) (hs : s.size ≤ 1048576) (hP : Pow w) (hE : ErrV w) (hM : MaxV w) : Calls Tryd.prog 13 #[.string s] w fun e w' => e = .returned (.tuple #[.agg #[.string (gtS s.data.toList), .int .i64 (gtV s.data.toList 0), .int .i64 (gtV s.data.toList 1)], .bool (gtRd s.data.toList)]) ∧ Below w.heap.size w w' := by
  have HS := Lib.hid (fun W (h : Below w.heap.size w W) => readNamedSource_any s W hs (hP.below h) (hE.below h) (hM.below h))
  clear hs hP hE hM
  generalize gtRd s.data.toList = r at *
  generalize gtV s.data.toList = u at *
  generalize gtS s.data.toList = x at *
  go_enter Tryd.func13, Tryd.ntmps13
  go_wp2_with fail
  (with_reducible refine (HS.out _ (below_box _ _)).mono ?_)
  rintro e w1 ⟨rfl, hb⟩
  have HB := Lib.hid (show Below w.heap.size w w1 from (below_box _ _).trans (hb.mono (by simp)))
  obtain ⟨hc, hf⟩ := bcell hb
  have hz : w.heap.size < w1.heap.size := Nat.lt_of_lt_of_le (by simp) hb.size
  clear hb
  go_wp2
  refine bodyPost_ret (v := .tuple #[.agg #[.string x, .int .i64 (u 0), .int .i64 (u 1)], .bool r]) (by simp [results, Tryd.results13, go_sem, hc]) rfl ⟨rfl, ?_⟩
  exact (by repeat (first | (with_reducible exact HB.out) | (with_reducible refine below_drewN' ?_ _) | (with_reducible refine Below.drew ?_) | (with_reducible refine Below.alloc ?_ (by first | omega | (simp <;> omega)) _) | (with_reducible refine Below.setCell ?_ (by simp) _)))
end Go.Proofs.YthbofhlfggkolaaDoor
