/-
  The model's meshes. Conditions: those that each theorem states.
-/
import Derived.Test.YtjooebiiceillaaUv
import Derived.Test.YtjooebiiceillaaRg
namespace Go.Proofs.Ytjooebiiceillaa
open Go.RowKit
set_option linter.unusedVariables false
set_option linter.unusedSimpArgs false

theorem OwnSS.mono {w : World} {B B' : Nat} {v : Value} {xs : List (List Int)} (h : OwnSS w B v xs) (hb : B' ≤ B) : OwnSS w B' v xs := by
  obtain ⟨vs, h1, h2, h3⟩ := h
  exact ⟨vs, ⟨h1.1, h1.2.imp id fun ⟨g, cap, cur, e, hg, r⟩ => ⟨g, cap, cur, e, Nat.le_trans hb hg, r⟩⟩, h2.mono hb, h3⟩
set_option maxHeartbeats 8000000 in
set_option maxRecDepth 100000 in
theorem l04Meshes_any (b cap Jn : Nat) (A : Option Addr) (xs : List Aw) (w : World) (hJ : w.cell? ⟨b, 0, none⟩ = some (.int .i64 (Jn : Int))) (hA : w.cell? ⟨b, 1, none⟩ = some (.slice A xs.length cap)) (hr : AwR w A xs) (hok : mineOk (Jn : Int) xs = true) :
    Calls Try.prog 87 #[.pointer (some ⟨b, 0, none⟩)] w fun e w' => ∃ u, e = .returned u ∧ OwnSS w' w.heap.size u (mshT Jn xs xs.length) ∧ Below w.heap.size w w' := by
  obtain ⟨hj, -, hn⟩ := mineOk_iff.1 hok
  obtain ⟨i0, hi, hz0, hz1, hz2⟩ := info_parts info_i64
  obtain ⟨iR, hiR, hzR0, hzR1, hzR2⟩ := info_parts info_rows
  have hbl := World.block_lt_of_cell? _ _ hJ
  have HM := Lib.hid (And.intro hJ hA)
  have HR := Lib.hid hr
  have HOK := Lib.hid hok
  have HT := Lib.hid (l04Tree_any b cap Jn A xs w hJ hA hr hok)
  have HTL := Lib.hid (show (treeL xs xs.length).length ≤ 1000 from Nat.le_trans (ixT_len _ _) (by omega))
  clear hJ hA hr hok
  go_enter Try.func87, Try.ntmps87
  go_wp2_with fail
  (with_reducible refine (HT.out).mono ?_)
  rintro e w1 ⟨ut, rfl, hot, hd1⟩
  have HOT := Lib.hid (RowW.of_ownI hot)
  have HB1 := Lib.hid hd1
  obtain ⟨utA, utc, rfl⟩ := hot.form
  clear hot hd1
  go_wp2
  go_loopw [4, 5] (fun out i wr => ∃ k : Nat, k ≤ xs.length ∧ i = .int .i64 (k : Int) ∧ Hid (OwnSS wr w1.heap.size out (mshT Jn xs k)) ∧ Hid (Below w1.heap.size w1 wr)) (fun out i wr => xs.length - (intOf i).toNat)
  case atStart => exact ⟨0, by omega, rfl, Lib.hid ⟨[], World.ownsRow_lit _ _ 0 (Nat.le_refl _) (by simp [maxLen]) rfl, OwnRs.nil _ _, fun k h => absurd h (by simp)⟩, Lib.hid ((Below.refl _ _).alloc (Nat.le_refl _) _)⟩
  case round =>
    obtain ⟨k, hk, rfl, HO, HBL⟩ := hrel
    have hbw : b < w1.heap.size := Nat.lt_of_lt_of_le hbl HB1.out.size
    have HBW := Lib.hid (HB1.out.trans (HBL.out.mono HB1.out.size))
    have m0 := cellK1 HM.out.1 HBW.out
    have m1 := cellK1 HM.out.2 HBW.out
    have hwz : w1.heap.size ≤ wr.heap.size := HBL.out.size
    by_cases hlt : k < xs.length
    · have hkI : (k : Int) < (xs.length : Int) := by omega
      have HTR := Lib.hid (HOT.out.below HBL.out)
      have HH := Lib.hid (show decide ((k : Int) ∈ treeL xs xs.length) = treeP xs k by unfold treeL; rw [ixT_has, decide_eq_true hlt, Bool.true_and])
      go_wp2_with fail
      (with_reducible refine (l00Has_any _ (treeL xs xs.length) (k : Int) _ HTR.out HTL.out).mono ?_)
      rintro e w' ⟨rfl, rfl⟩
      rw [HH.out]
      cases hp : treeP xs k
      · have HN := Lib.hid (mshT_no (Jn := Jn) hp)
        have HNE := Lib.hid (mesh_ne HOK.out hlt hp)
        have HRM := Lib.hid (show rowM Jn xs k = ((k : Int) + 1) :: wlkR Jn xs (treeL xs xs.length) xs[k].t xs[k].f by unfold rowM; rw [getD_of_lt hlt])
        have hen := ends_in HOK.out hlt
        have HM0 := Lib.hid m0
        have HM1 := Lib.hid m1
        have HRW := Lib.hid (HR.out.below HBW.out)
        obtain ⟨g, off, rfl, hrg⟩ := HRW.out k hlt
        obtain ⟨⟨d0, d1, d2, d3⟩, d4, d5, d6⟩ := lay_row hrg
        generalize xs[k] = a at *
        obtain ⟨sa, f, t, l, se, fr, sh⟩ := a
        dsimp only at d0 d1 d2 d3 d4 d5 d6 hen HNE HRM
        clear hrg d0 d3 d4 d5 d6 hp HH
        obtain ⟨fn, rfl⟩ : ∃ fn : Nat, f = fn := ⟨f.toNat, by omega⟩
        obtain ⟨tn, rfl⟩ : ∃ tn : Nat, t = tn := ⟨t.toNat, by omega⟩
        go_wp2_with fail
        refine wp_region_held (S := fun w' => (w'.cell? ⟨b, 1, none⟩ = some (.slice (some ⟨g, off, none⟩) xs.length cap) ∧ w'.cell? ⟨g, off + k * 7 + 1, none⟩ = some (.int .i64 (fn : Int)) ∧ w'.cell? ⟨g, off + k * 7 + 2, none⟩ = some (.int .i64 (tn : Int))) ∧ Below wr.heap.size wr w') (by kernel_rfl) ?_
        try (change wpAnyH _ _ _ _ _ _ _ _ (World.drew _))
        have hS0 := (show (wr.drew.cell? ⟨b, 1, none⟩ = some (.slice (some ⟨g, off, none⟩) xs.length cap) ∧ wr.drew.cell? ⟨g, off + k * 7 + 1, none⟩ = some (.int .i64 (fn : Int)) ∧ wr.drew.cell? ⟨g, off + k * 7 + 2, none⟩ = some (.int .i64 (tn : Int))) ∧ Below wr.heap.size wr wr.drew from ⟨⟨HM1.out, d1, d2⟩, Below.drew (Below.refl _ _)⟩)
        refine gTake 0 (v := ?_) rfl (by kernel_rfl) (by kernel_rfl) (by kernel_rfl) (fun _ _ _ h => h) (by kernel_rfl) ?_ hS0 ?_
        rotate_left
        · (intro W hW; clear hW; go_simp; try with_reducible rfl)
        refine gTake 1 (v := ?_) rfl (by kernel_rfl) (by kernel_rfl) (by kernel_rfl) (fun _ _ _ h => h) (by kernel_rfl) ?_ hS0 ?_
        rotate_left
        · (intro W hW; clear hW; go_simp; try with_reducible rfl)
        refine gTake 2 (v := ?_) rfl (by kernel_rfl) (by kernel_rfl) (by kernel_rfl) (fun _ _ _ h => h) (by kernel_rfl) ?_ hS0 ?_
        rotate_left
        · (intro W hW; clear hW; go_simp; try with_reducible rfl)
        refine gTake 3 (v := ?_) rfl (by kernel_rfl) (by kernel_rfl) (by kernel_rfl) (fun _ _ _ h => h) (by kernel_rfl) ?_ hS0 ?_
        rotate_left
        · (intro W hW; clear hW; go_simp; try with_reducible rfl)
        refine gTake 4 (v := ?_) rfl (by kernel_rfl) (by kernel_rfl) (by kernel_rfl) (fun _ _ _ h => h) (by kernel_rfl) ?_ hS0 ?_
        rotate_left
        · (intro W hW; clear hW; go_simp; try with_reducible rfl)
        refine gTake 5 (v := ?_) rfl (by kernel_rfl) (by kernel_rfl) (by kernel_rfl) (fun _ _ _ h => h) (by kernel_rfl) ?_ hS0 ?_
        rotate_left
        · (intro W hW; have q0 := hW.1.1; have q1 := hW.1.2.1; have q2 := hW.1.2.2; clear hW; go_simp; try with_reducible rfl)
        refine gTake 6 (v := ?_) rfl (by kernel_rfl) (by kernel_rfl) (by kernel_rfl) (fun _ _ _ h => h) (by kernel_rfl) ?_ hS0 ?_
        rotate_left
        · (intro W hW; clear hW; go_simp; try with_reducible rfl)
        refine gTake 7 (v := ?_) rfl (by kernel_rfl) (by kernel_rfl) (by kernel_rfl) (fun _ _ _ h => h) (by kernel_rfl) ?_ hS0 ?_
        rotate_left
        · (intro W hW; clear hW; go_simp; try with_reducible rfl)
        refine gTake 8 (v := ?_) rfl (by kernel_rfl) (by kernel_rfl) (by kernel_rfl) (fun _ _ _ h => h) (by kernel_rfl) ?_ hS0 ?_
        rotate_left
        · (intro W hW; clear hW; go_simp; try with_reducible rfl)
        refine gTake 9 (v := ?_) rfl (by kernel_rfl) (by kernel_rfl) (by kernel_rfl) (fun _ _ _ h => h) (by kernel_rfl) ?_ hS0 ?_
        rotate_left
        · (intro W hW; have q0 := hW.1.1; have q1 := hW.1.2.1; have q2 := hW.1.2.2; clear hW; go_simp; try with_reducible rfl)
        refine gTake 10 (v := ?_) rfl (by kernel_rfl) (by kernel_rfl) (by kernel_rfl) (fun _ _ _ h => h) (by kernel_rfl) ?_ hS0 ?_
        rotate_left
        · (intro W hW; clear hW; go_simp; try with_reducible rfl)
        refine gTake 11 (v := ?_) rfl (by kernel_rfl) (by kernel_rfl) (by kernel_rfl) (fun _ _ _ h => h) (by kernel_rfl) ?_ hS0 ?_
        rotate_left
        · (intro W hW; clear hW; go_simp; try with_reducible rfl)
        refine gTake 12 (v := ?_) rfl (by kernel_rfl) (by kernel_rfl) (by kernel_rfl) (fun _ _ _ h => h) (by kernel_rfl) ?_ hS0 ?_
        rotate_left
        · (intro W hW; clear hW; go_simp; try with_reducible rfl)
        refine gTake 13 (v := ?_) rfl (by kernel_rfl) (by kernel_rfl) (by kernel_rfl) (fun _ _ _ h => h) (by kernel_rfl) ?_ hS0 ?_
        rotate_left
        · (intro W hW; have q0 := hW.1.1; have q1 := hW.1.2.1; have q2 := hW.1.2.2; clear hW; go_simp; try with_reducible rfl)
        refine gTake 14 (v := ?_) rfl (by kernel_rfl) (by kernel_rfl) (by kernel_rfl) (fun _ _ _ h => h) (by kernel_rfl) ?_ hS0 ?_
        rotate_left
        · (intro W hW; clear hW; go_simp; try with_reducible rfl)
        refine gTake 15 (v := ?_) rfl (by kernel_rfl) (by kernel_rfl) (by kernel_rfl) (fun _ _ _ h => h) (by kernel_rfl) ?_ hS0 ?_
        rotate_left
        · (intro W hW; clear hW; go_simp; try with_reducible rfl)
        refine gTake 16 (v := ?_) rfl (by kernel_rfl) (by kernel_rfl) (by kernel_rfl) (fun _ _ _ h => h) (by kernel_rfl) ?_ hS0 ?_
        rotate_left
        · (intro W hW; clear hW; go_simp; try with_reducible rfl)
        refine gTake 17 (v := ?_) rfl (by kernel_rfl) (by kernel_rfl) (by kernel_rfl) (fun _ _ _ h => h) (by kernel_rfl) ?_ hS0 ?_
        rotate_left
        · (intro W hW; have q0 := hW.1.1; have q1 := hW.1.2.1; have q2 := hW.1.2.2; clear hW; go_simp; try with_reducible rfl)
        refine gOne 18 rfl (by kernel_rfl) (by kernel_rfl) (fun K hK => ?_)
        go_simp
        go_at_call 96
        (with_reducible refine (l04Walk_any b cap Jn (some ⟨g, off, none⟩) xs _ (treeL xs xs.length) (tn : Int) (fn : Int) _ (cellK1 HM0.out hS0.2) (cellK1 HM1.out hS0.2) (HRW.out.below hS0.2) (HTR.out.below hS0.2) treeL_in HTL.out HOK.out (by omega) (by omega)).mono ?_)
        rintro e w2 ⟨u6, rfl, ho6, hd2⟩
        have HO6 := Lib.hid ho6
        clear ho6
        try go_simp
        have hS1 := (show (w2.cell? ⟨b, 1, none⟩ = some (.slice (some ⟨g, off, none⟩) xs.length cap) ∧ w2.cell? ⟨g, off + k * 7 + 1, none⟩ = some (.int .i64 (fn : Int)) ∧ w2.cell? ⟨g, off + k * 7 + 2, none⟩ = some (.int .i64 (tn : Int))) ∧ Below wr.heap.size wr w2 from ⟨⟨cellK1 hS0.1.1 hd2, cellK1 hS0.1.2.1 hd2, cellK1 hS0.1.2.2 hd2⟩, hS0.2.trans (hd2.mono hS0.2.size)⟩)
        refine hK _ _ hS1 ?_
        clear hK K
        refine gTake 19 (v := ?_) rfl (by kernel_rfl) (by kernel_rfl) (by kernel_rfl) (fun _ _ _ h => h) (by kernel_rfl) ?_ hS1 ?_
        rotate_left
        · (intro W hW; clear hW; go_simp; try with_reducible rfl)
        refine gTake 20 (v := ?_) rfl (by kernel_rfl) (by kernel_rfl) (by kernel_rfl) (fun _ _ _ h => h) (by kernel_rfl) ?_ hS1 ?_
        rotate_left
        · (intro W hW; clear hW; go_simp; try with_reducible rfl)
        refine gTake 21 (v := ?_) rfl (by kernel_rfl) (by kernel_rfl) (by kernel_rfl) (fun _ _ _ h => h) (by kernel_rfl) ?_ hS1 ?_
        rotate_left
        · (intro W hW; clear hW; go_simp; try with_reducible rfl)
        refine gTake 22 (v := ?_) rfl (by kernel_rfl) (by kernel_rfl) (by kernel_rfl) (fun _ _ _ h => h) (by kernel_rfl) ?_ hS1 ?_
        rotate_left
        · (intro W hW; clear hW; go_simp; try with_reducible rfl)
        refine gTake 23 (v := ?_) rfl (by kernel_rfl) (by kernel_rfl) (by kernel_rfl) (fun _ _ _ h => h) (by kernel_rfl) ?_ hS1 ?_
        rotate_left
        · (intro W hW; clear hW; go_simp; try with_reducible rfl)
        refine wpAnyH_done (by kernel_rfl) ?_ _
        go_simp
        have HB2 := Lib.hid (show Below wr.heap.size wr w2 from hS1.2)
        have HO6b := Lib.hid (show OwnI w2 wr.heap.size u6 (wlkR Jn xs (treeL xs xs.length) tn fn) from HO6.out)
        have hwl := wlkR_lenV Jn xs (treeL xs xs.length) tn fn
        obtain ⟨ws, hws⟩ : ∃ ws, wlkR Jn xs (treeL xs xs.length) tn fn = ws := ⟨_, rfl⟩
        rw [hws] at HO6b HNE HRM hwl
        clear hws HO6 hS1 hS0 d1 d2 m0 m1 HM0 HM1
        obtain ⟨vs, hv0, hrs0, hap0⟩ := HO.out
        have HV := Lib.hid (And.intro hv0 (And.intro hrs0 hap0))
        clear hv0 hrs0 hap0
        have hpos : 0 < ws.length := List.length_pos_iff.2 HNE.out
        obtain ⟨A6, c6, rfl⟩ := HO6b.out.form
        obtain ⟨lb, lo, rfl, -, -⟩ := RowW.cell (RowW.of_ownI HO6b.out) (j := 0) hpos
        have HC6 := Lib.hid (show ∀ j, j < ws.length → w2.cell? ⟨lb, lo + j, none⟩ = some (.int .i64 (ws.getD j 0)) from fun j hj => by
          obtain ⟨lb2, lo2, e, -, h⟩ := RowW.cell (RowW.of_ownI HO6b.out) hj
          injection e with e
          injection e with e1 e2 e3
          subst e1 e2
          exact h)
        have HL3 := Lib.hid (show (w2.alloc (.cells #[.int .i64 ((k : Int) + 1)] 2)).ownsRow wr.heap.size 2 1 (.slice (some ⟨w2.heap.size, 0, none⟩) 1 1) 1 [.int .i64 ((k : Int) + 1)] from World.ownsRow_lit (base := wr.heap.size) (e := 2) (size := 1) w2 #[.int .i64 ((k : Int) + 1)] 1 HB2.out.size (by unfold maxLen; omega) (by simp))
        have HC3 := Lib.hid (show ∀ j u, (intsV ws)[j]? = some u → (w2.alloc (.cells #[.int .i64 ((k : Int) + 1)] 2)).cell? ((⟨lb, lo, none⟩ : Addr).add j) = some u from fun j u hj => by
          have hjl : j < ws.length := by
            have := (List.getElem?_eq_some_iff.1 hj).1
            simpa [intsV] using this
          have hu : u = .int .i64 (ws.getD j 0) := by
            simp [intsV, hjl] at hj
            rw [← hj]; simp [List.getD, hjl]
          rw [hu, show ((⟨lb, lo, none⟩ : Addr).add j) = ⟨lb, lo + j, none⟩ from by simp [Addr.add]]
          exact cellK1 (HC6.out j hjl) (below_box _ _))
        have hsz2 := HB2.out.size
        have hJ16 : Jn ≤ 16 := by omega
        have hll := mshT_len Jn xs k
        go_wp2_with (at_builtin; refine wpList_append_own_at _ rfl _ _ 30 rfl wr.heap.size 2 i0 (.int .i64 0) 1 8 Try.underlying30 hi hz0 hz1 hz2 rfl (by decide) _ _ _ rfl HL3.out ⟨lb, lo, none⟩ ws.length c6 (intsV ws) rfl (by simp [intsV]) HC3.out ?c2z ?c3z ?c4z ?c5z ?_)
        case c2z => intro u hu; simp [intsV] at hu; obtain ⟨z, -, rfl⟩ := hu; simp [Value.oneCell']
        case c3z => unfold maxLen; omega
        case c4z => omega
        case c5z => (simp; omega)
        intro v4 w4 ho4 hg4 _ hm4
        have HB4 := Lib.hid (show Below wr.heap.size wr w4 from (HB2.out.alloc HB2.out.size _).grown hg4 (by simp; omega) (fun j hj => by have h9 : some w2.heap.size = some j := hj; injection h9 with h9; omega))
        have HU4 := Lib.hid (show OwnI w4 wr.heap.size v4 (rowM Jn xs k) from by
          unfold OwnI
          rw [HRM.out, List.length_cons, Nat.add_comm ws.length 1]
          exact ho4)
        clear ho4 hg4 hm4
        obtain ⟨A4, c4, rfl⟩ := HU4.out.form
        have HV5 := Lib.hid (fun (o : Obj) => own_below HV.out.1 (HB4.out.alloc HB4.out.size o))
        have hB4s := HB4.out.size
        go_wp2_with (at_builtin; refine wpList_append_own_at _ rfl _ _ 53 rfl w1.heap.size 30 iR (.slice none 0 0) 1 24 Try.underlying53 hiR hzR0 hzR1 hzR2 rfl (by decide) _ _ _ rfl (HV5.out _) ⟨w4.heap.size, 0, none⟩ 1 1 [.slice A4 (rowM Jn xs k).length c4] rfl rfl ?c1z ?c2z ?c3z ?c4z ?c5z ?_)
        case c1z => intro j u hj; match j, hj with | 0, hj => (simp at hj; subst hj; simp [Addr.add]) | j + 1, hj => (simp at hj)
        case c2z => simp [Value.oneCell']
        case c3z => unfold maxLen; omega
        case c4z => omega
        case c5z => (simp; omega)
        intro v6 w6 ho6 hg6 _ hm6
        have HS6 := Lib.hid (ss_app HV.out.1 HV.out.2.1 HV.out.2.2 (HB4.out.alloc HB4.out.size _) (World.ownsRow.alloc HU4.out _) hwz ho6 hg6 (by rw [World.size_alloc]; exact hm6))
        have HB6 := Lib.hid (show Below w1.heap.size w1 w6 from (HBL.out.trans ((HB4.out.alloc HB4.out.size _).mono hwz)).grown hg6 (by simp; omega) (fun j hj => (World.ownsRow.lt HV.out.1 j hj).1))
        clear ho6 hg6 hm6
        go_wp2
        go_roundw
        case rel => exact ⟨k + 1, by omega, by go_num, by rw [HN.out]; exact HS6, HB6⟩
        case measure => simp [intOf]; omega
      · have HN := Lib.hid (mshT_yes (Jn := Jn) hp)
        go_wp2
        go_roundw
        case rel => exact ⟨k + 1, by omega, by go_num, by rw [HN.out]; exact HO, HBL⟩
        case measure => simp [intOf]; omega
    · obtain rfl : k = xs.length := by omega
      obtain ⟨wo, rfl⟩ : ∃ wo : World, wo = wr := ⟨_, rfl⟩
      go_wp2
      go_ret
      exact ⟨_, rfl, HO.out.mono HB1.out.size, HBW.out⟩
end Go.Proofs.Ytjooebiiceillaa
