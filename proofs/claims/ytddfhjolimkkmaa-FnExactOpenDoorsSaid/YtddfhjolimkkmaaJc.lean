/-
  The laws' marks on slices of Doors: what is marked is the own row alone. Conditions: those that each theorem states.
-/
import Derived.Test.YtddfhjolimkkmaaJa
import Derived.Test.YtddfhjolimkkmaaMk
namespace Go.Proofs.Ytddfhjolimkkmaa
open Go.RowKit
set_option linter.unusedVariables false
set_option linter.unusedSimpArgs false

theorem blk_farDo {w w' : World} {g g' : Nat} {t : TypeId} {cs : List Value} (h : BlkV w g t cs) (hg : w.grownBy w' (some g')) (hne : g ≠ g') : BlkV w' g t cs := by
  obtain ⟨-, -, -, -, hb⟩ := hg
  exact (hb g h.lt (fun e => hne (by injection e))).trans h
theorem doV_lenN (xs : List Do) : (doV xs).length = xs.length * 4 := doV_len xs
set_option maxHeartbeats 4000000 in
set_option maxRecDepth 100000 in
theorem markDoorS_any (g n : Nat) (k : Int) (cs : List Value) (w : World) (hB : BlkV w g 26 cs) (hc : cs.length = n * 4) (hn : n ≤ 1048576) (hk : 0 ≤ k ∧ k ≤ 50000000) :
    Calls Try.prog 35 #[.slice (some ⟨g, 0, none⟩) n n, .int .i64 k] w fun e w' => e = .returned (.int .i64 (k + 4 * n)) ∧ w.grownBy w' (some g) := by
  have HB := Lib.hid hB
  clear hB
  obtain ⟨hk1, hk2⟩ := hk
  go_enter Try.func35, Try.ntmps35
  go_wp2
  go_loopw [1, 5] (fun m i wr => ∃ (j : Nat) (ds : List Value), j ≤ n ∧ i = .int .i64 j ∧ m = .int .i64 (k + 4 * j) ∧ ds.length = n * 4 ∧ BlkV wr g 26 ds ∧ w.grownBy wr (some g)) (fun m i wr => n - (intOf i).toNat)
  case atStart => exact ⟨0, cs, by omega, rfl, by simp, hc, HB.out, World.grownBy.refl _ _⟩
  case round =>
    obtain ⟨j, ds, hj, rfl, rfl, hds, hblk, hgr⟩ := hrel
    by_cases hlt : j < n
    · obtain ⟨q, hq⟩ : ∃ q : Nat, k + 4 * (j : Int) = q := ⟨(k + 4 * j).toNat, by omega⟩
      have hqb : q ≤ 90000000 := by omega
      have HQ := Lib.hid hq
      have HBK := Lib.hid hblk
      have HG := Lib.hid hgr
      rw [hq]
      clear hq hblk hgr
      go_wp2_with fail
      (with_reducible refine (markText_any q wr (by omega)).mono ?_)
      rintro e w2 ⟨s, hs, rfl, hb2⟩
      have HB2 := Lib.hid (HBK.out.below hb2 HBK.out.lt)
      have HG2 := Lib.hid (HG.out.trans (grown_of hb2))
      clear hb2 hs
      have f0 := HB2.out.frozen (j * 4)
      obtain ⟨u0, c0⟩ : ∃ u, w2.cell? ⟨g, j * 4, none⟩ = some u := by
        rw [HB2.out.cell]
        exact ⟨_, List.getElem?_eq_getElem (by omega)⟩
      have f1 := HB2.out.frozen (j * 4 + 1)
      obtain ⟨u1, c1⟩ : ∃ u, w2.cell? ⟨g, j * 4 + 1, none⟩ = some u := by
        rw [HB2.out.cell]
        exact ⟨_, List.getElem?_eq_getElem (by omega)⟩
      have f2 := HB2.out.frozen (j * 4 + 2)
      obtain ⟨u2, c2⟩ : ∃ u, w2.cell? ⟨g, j * 4 + 2, none⟩ = some u := by
        rw [HB2.out.cell]
        exact ⟨_, List.getElem?_eq_getElem (by omega)⟩
      have f3 := HB2.out.frozen (j * 4 + 3)
      obtain ⟨u3, c3⟩ : ∃ u, w2.cell? ⟨g, j * 4 + 3, none⟩ = some u := by
        rw [HB2.out.cell]
        exact ⟨_, List.getElem?_eq_getElem (by omega)⟩
      go_wp2
      go_roundw
      case rel => exact ⟨j + 1, _, by omega, by go_num, by have := HQ.out; congr 1; omega, by simp only [List.length_set]; exact hds, ((((HB2.out.setC _ _).setC _ _).setC _ _).setC _ _), ((((HG2.out.trans (grown_set g _ _ _)).trans (grown_set g _ _ _)).trans (grown_set g _ _ _)).trans (grown_set g _ _ _))⟩
      case measure => simp [intOf]; omega
    · obtain rfl : j = n := by omega
      have HG := Lib.hid hgr
      clear hgr hblk
      go_wp2
      go_ret
      exact ⟨rfl, HG.out⟩
end Go.Proofs.Ytddfhjolimkkmaa
