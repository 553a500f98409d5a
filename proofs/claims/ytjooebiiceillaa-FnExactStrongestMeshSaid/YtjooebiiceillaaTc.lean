/-
  Meshes, and StrongestMesh, the model's and the program's. Conditions: those that each theorem states.
-/
import Derived.Test.YtjooebiiceillaaUv
import Derived.Test.YtjooebiiceillaaRg
import Derived.Test.YtjooebiiceillaaZm
import Derived.Test.YtjooebiiceillaaZf
namespace Go.Proofs.Ytjooebiiceillaa
open Go.RowKit
set_option linter.unusedVariables false
set_option linter.unusedSimpArgs false

theorem OwnSS.mono {w : World} {B B' : Nat} {v : Value} {xs : List (List Int)} (h : OwnSS w B v xs) (hb : B' ≤ B) : OwnSS w B' v xs := by
  obtain ⟨vs, h1, h2, h3⟩ := h
  exact ⟨vs, ⟨h1.1, h1.2.imp id fun ⟨g, cap, cur, e, hg, r⟩ => ⟨g, cap, cur, e, Nat.le_trans hb hg, r⟩⟩, h2.mono hb, h3⟩
set_option maxHeartbeats 8000000 in
set_option maxRecDepth 100000 in
theorem l04Meshes_any (b cap Jn : Nat) (A : Option Addr) (xs : List Aw) (w : World) (hJ : w.cell? ⟨b, 0, none⟩ = some (.int .i64 (Jn : Int))) (hA : w.cell? ⟨b, 1, none⟩ = some (.slice A xs.length cap)) (hr : AwR w A xs) (hok : mineOk (Jn : Int) xs = true) :
    Calls Try.prog 87 #[.pointer (some ⟨b, 0, none⟩)] w fun e w' => ∃ u, e = .returned u ∧ OwnSS w' w.heap.size u (mshT Jn xs xs.length) ∧ Below w.heap.size w w' := by
  obtain ⟨hj, -, hn⟩ := mineOk_iff.1 hok
  obtain ⟨i0, hi, hz0, hz1, hz2⟩ := info_parts info_i64
  obtain ⟨iR, hiR, hzR0, hzR1, hzR2⟩ := info_parts info_rows
  have hbl := World.block_lt_of_cell? _ _ hJ
  have HM := Lib.hid (And.intro hJ hA)
  have HR := Lib.hid hr
  have HOK := Lib.hid hok
  have HT := Lib.hid (l04Tree_any b cap Jn A xs w hJ hA hr hok)
  have HTL := Lib.hid (show (treeL xs xs.length).length ≤ 1000 from Nat.le_trans (ixT_len _ _) (by omega))
  clear hJ hA hr hok
  go_enter Try.func87, Try.ntmps87
  go_wp2_with fail
  (with_reducible refine (HT.out).mono ?_)
  rintro e w1 ⟨ut, rfl, hot, hd1⟩
  have HOT := Lib.hid (RowW.of_ownI hot)
  have HB1 := Lib.hid hd1
  obtain ⟨utA, utc, rfl⟩ := hot.form
  clear hot hd1
  go_wp2
  go_loopw [4, 5] (fun out i wr => ∃ k : Nat, k ≤ xs.length ∧ i = .int .i64 (k : Int) ∧ Hid (OwnSS wr w1.heap.size out (mshT Jn xs k)) ∧ Hid (Below w1.heap.size w1 wr)) (fun out i wr => xs.length - (intOf i).toNat)
  case atStart => exact ⟨0, by omega, rfl, Lib.hid ⟨[], World.ownsRow_lit _ _ 0 (Nat.le_refl _) (by simp [maxLen]) rfl, OwnRs.nil _ _, fun k h => absurd h (by simp)⟩, Lib.hid ((Below.refl _ _).alloc (Nat.le_refl _) _)⟩
  case round =>
    obtain ⟨k, hk, rfl, HO, HBL⟩ := hrel
    have hbw : b < w1.heap.size := Nat.lt_of_lt_of_le hbl HB1.out.size
    have HBW := Lib.hid (HB1.out.trans (HBL.out.mono HB1.out.size))
    have m0 := cellK1 HM.out.1 HBW.out
    have m1 := cellK1 HM.out.2 HBW.out
    have hwz : w1.heap.size ≤ wr.heap.size := HBL.out.size
    by_cases hlt : k < xs.length
    · have hkI : (k : Int) < (xs.length : Int) := by omega
      have HTR := Lib.hid (HOT.out.below HBL.out)
      have HH := Lib.hid (show decide ((k : Int) ∈ treeL xs xs.length) = treeP xs k by unfold treeL; rw [ixT_has, decide_eq_true hlt, Bool.true_and])
      go_wp2_with fail
      (with_reducible refine (l00Has_any _ (treeL xs xs.length) (k : Int) _ HTR.out HTL.out).mono ?_)
      rintro e w' ⟨rfl, rfl⟩
      rw [HH.out]
      cases hp : treeP xs k
      · have HN := Lib.hid (mshT_no (Jn := Jn) hp)
        have HNE := Lib.hid (mesh_ne HOK.out hlt hp)
        have HRM := Lib.hid (show rowM Jn xs k = ((k : Int) + 1) :: wlkR Jn xs (treeL xs xs.length) xs[k].t xs[k].f by unfold rowM; rw [getD_of_lt hlt])
        have hen := ends_in HOK.out hlt
        have HM0 := Lib.hid m0
        have HM1 := Lib.hid m1
        have HRW := Lib.hid (HR.out.below HBW.out)
        obtain ⟨g, off, rfl, hrg⟩ := HRW.out k hlt
        obtain ⟨⟨d0, d1, d2, d3⟩, d4, d5, d6⟩ := lay_row hrg
        generalize xs[k] = a at *
        obtain ⟨sa, f, t, l, se, fr, sh⟩ := a
        dsimp only at d0 d1 d2 d3 d4 d5 d6 hen HNE HRM
        clear hrg d0 d3 d4 d5 d6 hp HH
        obtain ⟨fn, rfl⟩ : ∃ fn : Nat, f = fn := ⟨f.toNat, by omega⟩
        obtain ⟨tn, rfl⟩ : ∃ tn : Nat, t = tn := ⟨t.toNat, by omega⟩
        go_wp2_with fail
        refine wp_region_held (S := fun w' => (w'.cell? ⟨b, 1, none⟩ = some (.slice (some ⟨g, off, none⟩) xs.length cap) ∧ w'.cell? ⟨g, off + k * 7 + 1, none⟩ = some (.int .i64 (fn : Int)) ∧ w'.cell? ⟨g, off + k * 7 + 2, none⟩ = some (.int .i64 (tn : Int))) ∧ Below wr.heap.size wr w') (by kernel_rfl) ?_
        try (change wpAnyH _ _ _ _ _ _ _ _ (World.drew _))
        have hS0 := (show (wr.drew.cell? ⟨b, 1, none⟩ = some (.slice (some ⟨g, off, none⟩) xs.length cap) ∧ wr.drew.cell? ⟨g, off + k * 7 + 1, none⟩ = some (.int .i64 (fn : Int)) ∧ wr.drew.cell? ⟨g, off + k * 7 + 2, none⟩ = some (.int .i64 (tn : Int))) ∧ Below wr.heap.size wr wr.drew from ⟨⟨HM1.out, d1, d2⟩, Below.drew (Below.refl _ _)⟩)
        refine gTake 0 (v := ?_) rfl (by kernel_rfl) (by kernel_rfl) (by kernel_rfl) (fun _ _ _ h => h) (by kernel_rfl) ?_ hS0 ?_
        rotate_left
        · (intro W hW; clear hW; go_simp; try with_reducible rfl)
        refine gTake 1 (v := ?_) rfl (by kernel_rfl) (by kernel_rfl) (by kernel_rfl) (fun _ _ _ h => h) (by kernel_rfl) ?_ hS0 ?_
        rotate_left
        · (intro W hW; clear hW; go_simp; try with_reducible rfl)
        refine gTake 2 (v := ?_) rfl (by kernel_rfl) (by kernel_rfl) (by kernel_rfl) (fun _ _ _ h => h) (by kernel_rfl) ?_ hS0 ?_
        rotate_left
        · (intro W hW; clear hW; go_simp; try with_reducible rfl)
        refine gTake 3 (v := ?_) rfl (by kernel_rfl) (by kernel_rfl) (by kernel_rfl) (fun _ _ _ h => h) (by kernel_rfl) ?_ hS0 ?_
        rotate_left
        · (intro W hW; clear hW; go_simp; try with_reducible rfl)
        refine gTake 4 (v := ?_) rfl (by kernel_rfl) (by kernel_rfl) (by kernel_rfl) (fun _ _ _ h => h) (by kernel_rfl) ?_ hS0 ?_
        rotate_left
        · (intro W hW; clear hW; go_simp; try with_reducible rfl)
        refine gTake 5 (v := ?_) rfl (by kernel_rfl) (by kernel_rfl) (by kernel_rfl) (fun _ _ _ h => h) (by kernel_rfl) ?_ hS0 ?_
        rotate_left
        · (intro W hW; have q0 := hW.1.1; have q1 := hW.1.2.1; have q2 := hW.1.2.2; clear hW; go_simp; try with_reducible rfl)
        refine gTake 6 (v := ?_) rfl (by kernel_rfl) (by kernel_rfl) (by kernel_rfl) (fun _ _ _ h => h) (by kernel_rfl) ?_ hS0 ?_
        rotate_left
        · (intro W hW; clear hW; go_simp; try with_reducible rfl)
        refine gTake 7 (v := ?_) rfl (by kernel_rfl) (by kernel_rfl) (by kernel_rfl) (fun _ _ _ h => h) (by kernel_rfl) ?_ hS0 ?_
        rotate_left
        · (intro W hW; clear hW; go_simp; try with_reducible rfl)
        refine gTake 8 (v := ?_) rfl (by kernel_rfl) (by kernel_rfl) (by kernel_rfl) (fun _ _ _ h => h) (by kernel_rfl) ?_ hS0 ?_
        rotate_left
        · (intro W hW; clear hW; go_simp; try with_reducible rfl)
        refine gTake 9 (v := ?_) rfl (by kernel_rfl) (by kernel_rfl) (by kernel_rfl) (fun _ _ _ h => h) (by kernel_rfl) ?_ hS0 ?_
        rotate_left
        · (intro W hW; have q0 := hW.1.1; have q1 := hW.1.2.1; have q2 := hW.1.2.2; clear hW; go_simp; try with_reducible rfl)
        refine gTake 10 (v := ?_) rfl (by kernel_rfl) (by kernel_rfl) (by kernel_rfl) (fun _ _ _ h => h) (by kernel_rfl) ?_ hS0 ?_
        rotate_left
        · (intro W hW; clear hW; go_simp; try with_reducible rfl)
        refine gTake 11 (v := ?_) rfl (by kernel_rfl) (by kernel_rfl) (by kernel_rfl) (fun _ _ _ h => h) (by kernel_rfl) ?_ hS0 ?_
        rotate_left
        · (intro W hW; clear hW; go_simp; try with_reducible rfl)
        refine gTake 12 (v := ?_) rfl (by kernel_rfl) (by kernel_rfl) (by kernel_rfl) (fun _ _ _ h => h) (by kernel_rfl) ?_ hS0 ?_
        rotate_left
        · (intro W hW; clear hW; go_simp; try with_reducible rfl)
        refine gTake 13 (v := ?_) rfl (by kernel_rfl) (by kernel_rfl) (by kernel_rfl) (fun _ _ _ h => h) (by kernel_rfl) ?_ hS0 ?_
        rotate_left
        · (intro W hW; have q0 := hW.1.1; have q1 := hW.1.2.1; have q2 := hW.1.2.2; clear hW; go_simp; try with_reducible rfl)
        refine gTake 14 (v := ?_) rfl (by kernel_rfl) (by kernel_rfl) (by kernel_rfl) (fun _ _ _ h => h) (by kernel_rfl) ?_ hS0 ?_
        rotate_left
        · (intro W hW; clear hW; go_simp; try with_reducible rfl)
        refine gTake 15 (v := ?_) rfl (by kernel_rfl) (by kernel_rfl) (by kernel_rfl) (fun _ _ _ h => h) (by kernel_rfl) ?_ hS0 ?_
        rotate_left
        · (intro W hW; clear hW; go_simp; try with_reducible rfl)
        refine gTake 16 (v := ?_) rfl (by kernel_rfl) (by kernel_rfl) (by kernel_rfl) (fun _ _ _ h => h) (by kernel_rfl) ?_ hS0 ?_
        rotate_left
        · (intro W hW; clear hW; go_simp; try with_reducible rfl)
        refine gTake 17 (v := ?_) rfl (by kernel_rfl) (by kernel_rfl) (by kernel_rfl) (fun _ _ _ h => h) (by kernel_rfl) ?_ hS0 ?_
        rotate_left
        · (intro W hW; have q0 := hW.1.1; have q1 := hW.1.2.1; have q2 := hW.1.2.2; clear hW; go_simp; try with_reducible rfl)
        refine gOne 18 rfl (by kernel_rfl) (by kernel_rfl) (fun K hK => ?_)
        go_simp
        go_at_call 96
        (with_reducible refine (l04Walk_any b cap Jn (some ⟨g, off, none⟩) xs _ (treeL xs xs.length) (tn : Int) (fn : Int) _ (cellK1 HM0.out hS0.2) (cellK1 HM1.out hS0.2) (HRW.out.below hS0.2) (HTR.out.below hS0.2) treeL_in HTL.out HOK.out (by omega) (by omega)).mono ?_)
        rintro e w2 ⟨u6, rfl, ho6, hd2⟩
        have HO6 := Lib.hid ho6
        clear ho6
        try go_simp
        have hS1 := (show (w2.cell? ⟨b, 1, none⟩ = some (.slice (some ⟨g, off, none⟩) xs.length cap) ∧ w2.cell? ⟨g, off + k * 7 + 1, none⟩ = some (.int .i64 (fn : Int)) ∧ w2.cell? ⟨g, off + k * 7 + 2, none⟩ = some (.int .i64 (tn : Int))) ∧ Below wr.heap.size wr w2 from ⟨⟨cellK1 hS0.1.1 hd2, cellK1 hS0.1.2.1 hd2, cellK1 hS0.1.2.2 hd2⟩, hS0.2.trans (hd2.mono hS0.2.size)⟩)
        refine hK _ _ hS1 ?_
        clear hK K
        refine gTake 19 (v := ?_) rfl (by kernel_rfl) (by kernel_rfl) (by kernel_rfl) (fun _ _ _ h => h) (by kernel_rfl) ?_ hS1 ?_
        rotate_left
        · (intro W hW; clear hW; go_simp; try with_reducible rfl)
        refine gTake 20 (v := ?_) rfl (by kernel_rfl) (by kernel_rfl) (by kernel_rfl) (fun _ _ _ h => h) (by kernel_rfl) ?_ hS1 ?_
        rotate_left
        · (intro W hW; clear hW; go_simp; try with_reducible rfl)
        refine gTake 21 (v := ?_) rfl (by kernel_rfl) (by kernel_rfl) (by kernel_rfl) (fun _ _ _ h => h) (by kernel_rfl) ?_ hS1 ?_
        rotate_left
        · (intro W hW; clear hW; go_simp; try with_reducible rfl)
        refine gTake 22 (v := ?_) rfl (by kernel_rfl) (by kernel_rfl) (by kernel_rfl) (fun _ _ _ h => h) (by kernel_rfl) ?_ hS1 ?_
        rotate_left
        · (intro W hW; clear hW; go_simp; try with_reducible rfl)
        refine gTake 23 (v := ?_) rfl (by kernel_rfl) (by kernel_rfl) (by kernel_rfl) (fun _ _ _ h => h) (by kernel_rfl) ?_ hS1 ?_
        rotate_left
        · (intro W hW; clear hW; go_simp; try with_reducible rfl)
        refine wpAnyH_done (by kernel_rfl) ?_ _
        go_simp
        have HB2 := Lib.hid (show Below wr.heap.size wr w2 from hS1.2)
        have HO6b := Lib.hid (show OwnI w2 wr.heap.size u6 (wlkR Jn xs (treeL xs xs.length) tn fn) from HO6.out)
        have hwl := wlkR_lenV Jn xs (treeL xs xs.length) tn fn
        obtain ⟨ws, hws⟩ : ∃ ws, wlkR Jn xs (treeL xs xs.length) tn fn = ws := ⟨_, rfl⟩
        rw [hws] at HO6b HNE HRM hwl
        clear hws HO6 hS1 hS0 d1 d2 m0 m1 HM0 HM1
        obtain ⟨vs, hv0, hrs0, hap0⟩ := HO.out
        have HV := Lib.hid (And.intro hv0 (And.intro hrs0 hap0))
        clear hv0 hrs0 hap0
        have hpos : 0 < ws.length := List.length_pos_iff.2 HNE.out
        obtain ⟨A6, c6, rfl⟩ := HO6b.out.form
        obtain ⟨lb, lo, rfl, -, -⟩ := RowW.cell (RowW.of_ownI HO6b.out) (j := 0) hpos
        have HC6 := Lib.hid (show ∀ j, j < ws.length → w2.cell? ⟨lb, lo + j, none⟩ = some (.int .i64 (ws.getD j 0)) from fun j hj => by
          obtain ⟨lb2, lo2, e, -, h⟩ := RowW.cell (RowW.of_ownI HO6b.out) hj
          injection e with e
          injection e with e1 e2 e3
          subst e1 e2
          exact h)
        have HL3 := Lib.hid (show (w2.alloc (.cells #[.int .i64 ((k : Int) + 1)] 2)).ownsRow wr.heap.size 2 1 (.slice (some ⟨w2.heap.size, 0, none⟩) 1 1) 1 [.int .i64 ((k : Int) + 1)] from World.ownsRow_lit (base := wr.heap.size) (e := 2) (size := 1) w2 #[.int .i64 ((k : Int) + 1)] 1 HB2.out.size (by unfold maxLen; omega) (by simp))
        have HC3 := Lib.hid (show ∀ j u, (intsV ws)[j]? = some u → (w2.alloc (.cells #[.int .i64 ((k : Int) + 1)] 2)).cell? ((⟨lb, lo, none⟩ : Addr).add j) = some u from fun j u hj => by
          have hjl : j < ws.length := by
            have := (List.getElem?_eq_some_iff.1 hj).1
            simpa [intsV] using this
          have hu : u = .int .i64 (ws.getD j 0) := by
            simp [intsV, hjl] at hj
            rw [← hj]; simp [List.getD, hjl]
          rw [hu, show ((⟨lb, lo, none⟩ : Addr).add j) = ⟨lb, lo + j, none⟩ from by simp [Addr.add]]
          exact cellK1 (HC6.out j hjl) (below_box _ _))
        have hsz2 := HB2.out.size
        have hJ16 : Jn ≤ 16 := by omega
        have hll := mshT_len Jn xs k
        go_wp2_with (at_builtin; refine wpList_append_own_at _ rfl _ _ 30 rfl wr.heap.size 2 i0 (.int .i64 0) 1 8 Try.underlying30 hi hz0 hz1 hz2 rfl (by decide) _ _ _ rfl HL3.out ⟨lb, lo, none⟩ ws.length c6 (intsV ws) rfl (by simp [intsV]) HC3.out ?c2z ?c3z ?c4z ?c5z ?_)
        case c2z => intro u hu; simp [intsV] at hu; obtain ⟨z, -, rfl⟩ := hu; simp [Value.oneCell']
        case c3z => unfold maxLen; omega
        case c4z => omega
        case c5z => (simp; omega)
        intro v4 w4 ho4 hg4 _ hm4
        have HB4 := Lib.hid (show Below wr.heap.size wr w4 from (HB2.out.alloc HB2.out.size _).grown hg4 (by simp; omega) (fun j hj => by have h9 : some w2.heap.size = some j := hj; injection h9 with h9; omega))
        have HU4 := Lib.hid (show OwnI w4 wr.heap.size v4 (rowM Jn xs k) from by
          unfold OwnI
          rw [HRM.out, List.length_cons, Nat.add_comm ws.length 1]
          exact ho4)
        clear ho4 hg4 hm4
        obtain ⟨A4, c4, rfl⟩ := HU4.out.form
        have HV5 := Lib.hid (fun (o : Obj) => own_below HV.out.1 (HB4.out.alloc HB4.out.size o))
        have hB4s := HB4.out.size
        go_wp2_with (at_builtin; refine wpList_append_own_at _ rfl _ _ 53 rfl w1.heap.size 30 iR (.slice none 0 0) 1 24 Try.underlying53 hiR hzR0 hzR1 hzR2 rfl (by decide) _ _ _ rfl (HV5.out _) ⟨w4.heap.size, 0, none⟩ 1 1 [.slice A4 (rowM Jn xs k).length c4] rfl rfl ?c1z ?c2z ?c3z ?c4z ?c5z ?_)
        case c1z => intro j u hj; match j, hj with | 0, hj => (simp at hj; subst hj; simp [Addr.add]) | j + 1, hj => (simp at hj)
        case c2z => simp [Value.oneCell']
        case c3z => unfold maxLen; omega
        case c4z => omega
        case c5z => (simp; omega)
        intro v6 w6 ho6 hg6 _ hm6
        have HS6 := Lib.hid (ss_app HV.out.1 HV.out.2.1 HV.out.2.2 (HB4.out.alloc HB4.out.size _) (World.ownsRow.alloc HU4.out _) hwz ho6 hg6 (by rw [World.size_alloc]; exact hm6))
        have HB6 := Lib.hid (show Below w1.heap.size w1 w6 from (HBL.out.trans ((HB4.out.alloc HB4.out.size _).mono hwz)).grown hg6 (by simp; omega) (fun j hj => (World.ownsRow.lt HV.out.1 j hj).1))
        clear ho6 hg6 hm6
        go_wp2
        go_roundw
        case rel => exact ⟨k + 1, by omega, by go_num, by rw [HN.out]; exact HS6, HB6⟩
        case measure => simp [intOf]; omega
      · have HN := Lib.hid (mshT_yes (Jn := Jn) hp)
        go_wp2
        go_roundw
        case rel => exact ⟨k + 1, by omega, by go_num, by rw [HN.out]; exact HO, HBL⟩
        case measure => simp [intOf]; omega
    · obtain rfl : k = xs.length := by omega
      obtain ⟨wo, rfl⟩ : ∃ wo : World, wo = wr := ⟨_, rfl⟩
      go_wp2
      go_ret
      exact ⟨_, rfl, HO.out.mono HB1.out.size, HBW.out⟩

/-- What MeshesOf returns. -/
def msR (J : Int) (xs : List Aw) : List (List Int) := if mineOk J xs then mshT J.toNat xs xs.length else []
theorem mshT_map (Jn : Nat) (xs : List Aw) : ∀ k, mshT Jn xs k = (ixT (fun (j : Nat) => !(treeP xs j)) k).map (fun y => rowM Jn xs y.toNat)
  | 0 => rfl
  | k + 1 => by
    rw [mshT, ixT, mshT_map Jn xs k]
    cases treeP xs k
    · simp
    · simp
theorem ret_vm {v : Value} {b b' : Int} (h : b = b') : Ending.returned (.tuple #[v, .int .i64 b]) = .returned (.tuple #[v, .int .i64 b']) := by rw [h]
theorem ss_nil (w : World) (B : Nat) : OwnSS w B (.slice none 0 0) [] := ⟨[], World.ownsRow_nil _ _ _ _, OwnRs.nil _ _, fun k h => absurd h (by simp)⟩
set_option maxHeartbeats 1000000 in
theorem sMeshesOf_any (J : Int) (A : Option Addr) (cap : Nat) (xs : List Aw) (w : World) (hr : AwR w A xs) (hs : ∀ a ∈ xs, a.s.size ≤ maxLen) (hl : xs.length ≤ 1048576) :
    Calls Try.prog 41 #[.agg #[.int .i64 J, .slice A xs.length cap]] w fun e w' => ∃ v, e = .returned (.tuple #[v, .int .i64 (paB J xs)]) ∧ OwnSS w' w.heap.size v (msR J xs) ∧ Below w.heap.size w w' := by
  have HB0 := Lib.hid (below_box w (.cells #[.int .i64 J, .slice A xs.length cap] 36))
  have HOKC := Lib.hid (l04Ok_any w.heap.size J A cap xs (w.alloc (.cells #[.int .i64 J, .slice A xs.length cap] 36)) (by simp) (by simp) (hr.below HB0.out) hs hl)
  have HK := Lib.hid (show (w.alloc (.cells #[.int .i64 J, .slice A xs.length cap] 36)).cell? ⟨w.heap.size, 0, none⟩ = some (.int .i64 J) ∧ (w.alloc (.cells #[.int .i64 J, .slice A xs.length cap] 36)).cell? ⟨w.heap.size, 1, none⟩ = some (.slice A xs.length cap) ∧ AwR (w.alloc (.cells #[.int .i64 J, .slice A xs.length cap] 36)) A xs from ⟨by simp, by simp, hr.below HB0.out⟩)
  clear hr hs
  cases hok : mineOk J xs
  · have HE := Lib.hid (show paB J xs = 1 ∧ msR J xs = [] by simp [paB, msR, hok])
    go_enter Try.func41, Try.ntmps41
    go_wp2_with fail
    (with_reducible refine (HOKC.out).mono ?_)
    rintro e w1 ⟨rfl, n, rfl⟩
    rw [hok]
    have HK1 := Lib.hid (show ((w.alloc (.cells #[.int .i64 J, .slice A xs.length cap] 36)).drewN n).cell? ⟨w.heap.size, 0, none⟩ = some (.int .i64 J) ∧ ((w.alloc (.cells #[.int .i64 J, .slice A xs.length cap] 36)).drewN n).cell? ⟨w.heap.size, 1, none⟩ = some (.slice A xs.length cap) ∧ AwR ((w.alloc (.cells #[.int .i64 J, .slice A xs.length cap] 36)).drewN n) A xs from HK.out)
    have HB1 := Lib.hid (show Below w.heap.size w ((w.alloc (.cells #[.int .i64 J, .slice A xs.length cap] 36)).drewN n) from below_drewN' HB0.out n)
    generalize (w.alloc (.cells #[.int .i64 J, .slice A xs.length cap] 36)).drewN n = W1 at *
    go_wp2
    go_ret2
    exact ⟨_, ret_vm HE.out.1.symm, by rw [HE.out.2]; exact ss_nil _ _, HB1.out⟩
  · obtain ⟨hj, -, h24⟩ := mineOk_iff.1 hok
    obtain ⟨Jn, rfl⟩ : ∃ Jn : Nat, J = Jn := ⟨J.toNat, by omega⟩
    have HOK := Lib.hid hok
    have HE := Lib.hid (show paB (Jn : Int) xs = 0 ∧ msR (Jn : Int) xs = mshT Jn xs xs.length by simp [paB, msR, hok])
    go_enter Try.func41, Try.ntmps41
    go_wp2_with fail
    (with_reducible refine (HOKC.out).mono ?_)
    rintro e w1 ⟨rfl, n, rfl⟩
    rw [hok]
    have HK1 := Lib.hid (show ((w.alloc (.cells #[.int .i64 (Jn : Int), .slice A xs.length cap] 36)).drewN n).cell? ⟨w.heap.size, 0, none⟩ = some (.int .i64 (Jn : Int)) ∧ ((w.alloc (.cells #[.int .i64 (Jn : Int), .slice A xs.length cap] 36)).drewN n).cell? ⟨w.heap.size, 1, none⟩ = some (.slice A xs.length cap) ∧ AwR ((w.alloc (.cells #[.int .i64 (Jn : Int), .slice A xs.length cap] 36)).drewN n) A xs from HK.out)
    have HB1 := Lib.hid (show Below w.heap.size w ((w.alloc (.cells #[.int .i64 (Jn : Int), .slice A xs.length cap] 36)).drewN n) from below_drewN' HB0.out n)
    generalize (w.alloc (.cells #[.int .i64 (Jn : Int), .slice A xs.length cap] 36)).drewN n = W1 at *
    go_wp2_with fail
    (with_reducible refine (l04Meshes_any w.heap.size cap Jn A xs _ HK1.out.1 HK1.out.2.1 HK1.out.2.2 HOK.out).mono ?_)
    rintro e w2 ⟨u2, rfl, ho2, hd2⟩
    have HO2 := Lib.hid ho2
    have HB2 := Lib.hid (HB1.out.trans (hd2.mono HB1.out.size))
    clear ho2 hd2
    go_wp2
    go_ret2
    exact ⟨_, ret_vm HE.out.1.symm, by rw [HE.out.2]; exact HO2.out.mono HB1.out.size, HB2.out⟩
set_option maxRecDepth 100000 in
theorem isClosedU_any (J : Int) (A : Option Addr) (n cap b c k : Nat) (m : DataW Unit) (p : Nat → Bool) (w : World) (hm : MapB m p n) (hown : w.ownsMap (H := Unit) Try.prog 2 (plainElem Try.prog 4) b c m) (hk : k < n) (hn : n ≤ 1000) :
    Calls Try.prog 92 #[.agg #[.int .i64 J, .slice A n cap, .map (some b)], .int .i64 (k : Int)] w fun e w' => e = .returned (.bool (p k)) ∧ Below w.heap.size w w' := by
  have hrun := look_bool b c k m p n (w.alloc (.cells #[.int .i64 J, .slice A n cap, .map (some b)] 96)) hm (hown.alloc _) hk hn
  go_enter Try.func92, Try.ntmps92
  go_wp2
  go_ret
  exact ⟨by first | rfl | simp, below_box _ _⟩
set_option maxHeartbeats 2000000 in
set_option maxRecDepth 100000 in
theorem thatClosed (p : Nat → Bool) (J : Int) (A : Option Addr) (n cap b : Nat) (w : World) (hn : n ≤ 1048576)
    (hf : ∀ (k : Nat) (w1 : World), k < n → Below w.heap.size w w1 → Calls Try.prog 92 #[.agg #[.int .i64 J, .slice A n cap, .map (some b)], .int .i64 (k : Int)] w1 fun e w2 => e = .returned (.bool (p k)) ∧ Below w1.heap.size w1 w2) :
    Calls Try.prog 91 #[.agg #[.int .i64 J, .slice A n cap], .func (.func 92) #[.agg #[.int .i64 J, .slice A n cap, .map (some b)]] #[]] w fun e w' => ∃ v, e = .returned v ∧ OwnI w' w.heap.size v (ixT p n) ∧ Below w.heap.size w w' := by
  have HF := Lib.hid hf
  obtain ⟨i0, hi, hz0, hz1, hz2⟩ := info_parts info_i64
  have HB0 := Lib.hid (below_box w (.cells #[.int .i64 J, .slice A n cap] 36))
  clear hf
  go_enter Try.func91, Try.ntmps91
  go_wp2
  go_loopw [5, 10] (fun out i wr => ∃ k : Nat, k ≤ n ∧ i = .int .i64 k ∧ wr.ownsRow w.heap.size 2 1 out (ixT p k).length (intsV (ixT p k)) ∧ Below w.heap.size w wr) (fun out i wr => n - (intOf i).toNat)
  case atStart => exact ⟨0, by omega, rfl, World.ownsRow_nil _ _ _ _, HB0.out⟩
  case round =>
    obtain ⟨k, hk, rfl, hown, hbel⟩ := hrel
    by_cases hlt : k < n
    · have HX := Lib.hid (HF.out k wr hlt hbel)
      have hll := ixT_len p k
      have HO := Lib.hid hown
      have HBL := Lib.hid hbel
      have hwr : w.heap.size ≤ wr.heap.size := hbel.size
      clear hown hbel
      cases he : p k
      · rw [he] at HX
        have HN := Lib.hid (ixT_no he)
        clear he
        go_wp2_with fail
        (with_reducible refine (HX.out).mono ?_)
        rintro e w2 ⟨rfl, hb2⟩
        have HO2 := Lib.hid (own_below HO.out hb2)
        have HB2 := Lib.hid (HBL.out.trans (hb2.mono HBL.out.size))
        clear hb2
        go_wp2
        go_roundw
        case rel => exact ⟨k + 1, by omega, by go_num, by rw [HN.out]; exact HO2.out, HB2.out⟩
        case measure => simp [intOf]; omega
      · rw [he] at HX
        have HN := Lib.hid (ixT_yes he)
        clear he
        go_wp2_with fail
        (with_reducible refine (HX.out).mono ?_)
        rintro e w2 ⟨rfl, hb2⟩
        have HO2 := Lib.hid (own_below HO.out hb2)
        have HB2 := Lib.hid (HBL.out.trans (hb2.mono HBL.out.size))
        have hw2 : w.heap.size ≤ w2.heap.size := HB2.out.size
        clear hb2
        go_wp2_with (first
          | (at_builtin; refine wpList_append_own_at _ rfl _ _ 30 rfl w.heap.size 2 i0 (.int .i64 0) 1 8 Try.underlying30 hi hz0 hz1 hz2 rfl (by decide) _ _ _ rfl (HO2.out.alloc _) ⟨w2.heap.size, 0, none⟩ 1 1 [.int .i64 (k)] rfl rfl ?c1z ?c2z ?c3z ?c4z ?c5z ?_))
        case c1z => intro j u hj; match j, hj with | 0, hj => (simp at hj; subst hj; simp [Addr.add]) | j + 1, hj => (simp at hj)
        case c2z => simp [Value.oneCell']
        case c3z => unfold maxLen; omega
        case c4z => omega
        case c5z => (simp; omega)
        intro v3 w3 ho3 hg3 _ hl3
        have HO3 := Lib.hid ho3
        have HB3 := Lib.hid ((HB2.out.alloc HB2.out.size _).grown hg3 (by simp; omega) (fun k hk => (HO2.out.lt k hk).1))
        clear ho3 hg3 hl3
        go_wp2
        go_roundw
        case rel => exact ⟨k + 1, by omega, by go_num, by rw [HN.out, ints_snocY, List.length_append]; exact HO3.out, HB3.out⟩
        case measure => simp [intOf]; omega
    · obtain rfl : k = n := by omega
      have HO := Lib.hid hown
      have HBL := Lib.hid hbel
      clear hown hbel
      go_wp2
      go_ret
      exact ⟨_, rfl, HO.out, HBL.out⟩
theorem openTree_any (J x : Int) (A : Option Addr) (cap b c : Nat) (m : DataW Unit) (xs : List Aw) (w : World) (hn : xs.length ≤ 1000) (hr : AwR w A xs) (hm : MapB m (fun k => !(treeP xs k)) xs.length) (hown : w.ownsMap (H := Unit) Try.prog 2 (plainElem Try.prog 4) b c m) :
    Calls Try.prog 121 #[.agg #[.int .i64 J, .slice A xs.length cap, .map (some b)], .int .i64 x] w fun e w' => ∃ v, e = .returned v ∧ OwnI w' w.heap.size v (opnL xs (treeP xs) x) ∧ Below w.heap.size w w' := by
  have h := openAtZ_any J x A cap b c m (fun k => !(treeP xs k)) xs w hn hr (MapZ.of hm) hown
  have e : (fun k => !((fun k => !(treeP xs k)) k)) = treeP xs := funext fun k => Bool.not_not _
  rw [e] at h
  exact h
set_option maxHeartbeats 8000000 in
set_option maxRecDepth 100000 in
theorem iMeshesOf_any (J : Int) (A : Option Addr) (cap : Nat) (xs : List Aw) (w : World) (hr : AwR w A xs) (hs : ∀ a ∈ xs, a.s.size ≤ maxLen) (hl : xs.length ≤ 1048576) :
    Calls Try.prog 42 #[.agg #[.int .i64 J, .slice A xs.length cap]] w fun e w' => ∃ v, e = .returned (.tuple #[v, .int .i64 (paB J xs)]) ∧ OwnSS w' w.heap.size v (msR J xs) ∧ Below w.heap.size w w' := by
  obtain ⟨i0, hi, hz0, hz1, hz2⟩ := info_parts info_i64
  obtain ⟨iR, hiR, hzR0, hzR1, hzR2⟩ := info_parts info_rows
  have HB0 := Lib.hid (below_box w (.cells #[.int .i64 J, .slice A xs.length cap] 36))
  have HR0 := Lib.hid (hr.below HB0.out)
  have HV := Lib.hid (iValidMine_any J A cap xs (w.alloc (.cells #[.int .i64 J, .slice A xs.length cap] 36)) HR0.out hs hl)
  have c0 : (w.alloc (.cells #[.int .i64 J, .slice A xs.length cap] 36)).cell? ⟨w.heap.size, 0, none⟩ = some (.int .i64 J) := by simp
  have c1 : (w.alloc (.cells #[.int .i64 J, .slice A xs.length cap] 36)).cell? ⟨w.heap.size, 1, none⟩ = some (.slice A xs.length cap) := by simp
  clear hr hs
  cases hok : mineOk J xs
  · have HE := Lib.hid (show paB J xs = 1 ∧ msR J xs = [] by simp [paB, msR, hok])
    rw [hok] at HV
    go_enter Try.func42, Try.ntmps42
    go_wp2_with fail
    (with_reducible refine (HV.out).mono ?_)
    rintro e w1 ⟨rfl, hb⟩
    go_wp2
    go_ret2
    exact ⟨_, ret_vm HE.out.1.symm, by rw [HE.out.2]; exact ss_nil _ _, HB0.out.trans (hb.mono (by simp))⟩
  · obtain ⟨hj, -, h24⟩ := mineOk_iff.1 hok
    rw [hok] at HV
    obtain ⟨Jn, rfl⟩ : ∃ Jn : Nat, J = Jn := ⟨J.toNat, by omega⟩
    have HOK := Lib.hid hok
    have HE := Lib.hid (show paB (Jn : Int) xs = 0 ∧ msR (Jn : Int) xs = (ixT (fun (j : Nat) => !(treeP xs j)) xs.length).map (fun y => rowM Jn xs y.toNat) by rw [← mshT_map]; simp [paB, msR, hok])
    clear hok
    go_enter Try.func42, Try.ntmps42
    go_wp2_with fail
    (with_reducible refine (HV.out).mono ?_)
    rintro e w1 ⟨rfl, hb⟩
    have HB1 := Lib.hid (HB0.out.trans (hb.mono (by simp)))
    have HR1 := Lib.hid (HR0.out.below hb)
    have d0 := cellK1 c0 hb
    have d1 := cellK1 c1 hb
    clear hb c0 c1
    go_wp2_with fail
    (with_reducible refine (treeOnly_any Jn A cap xs _ HR1.out HOK.out).mono ?_)
    rintro e w2 ⟨tb, tc, tm, rfl, hmb, hom, hd2⟩
    have HMB := Lib.hid hmb
    have HM2 := Lib.hid (fun (o : Obj) => hom.alloc o)
    have HB2 := Lib.hid (fun (o : Obj) => show Below w1.heap.size w1 (w2.alloc o) from hd2.alloc hd2.size o)
    have e0 := cellK1 d0 hd2
    have e1 := cellK1 d1 hd2
    have hq1 : w.heap.size < w2.heap.size := World.block_lt_of_cell? _ _ e0
    have hq3 : ¬ (w.heap.size = w2.heap.size) := by omega
    clear hmb hom hd2 d0 d1
    go_wp2_with fail
    have n0 : (w2.alloc (.cells #[.int .i64 (Jn : Int), .slice A xs.length cap, .map (some tb)] 96)).cell? ⟨w2.heap.size, 0, none⟩ = some (.int .i64 (Jn : Int)) := by simp
    have n1 : (w2.alloc (.cells #[.int .i64 (Jn : Int), .slice A xs.length cap, .map (some tb)] 96)).cell? ⟨w2.heap.size, 1, none⟩ = some (.slice A xs.length cap) := by simp
    have n2 : (w2.alloc (.cells #[.int .i64 (Jn : Int), .slice A xs.length cap, .map (some tb)] 96)).cell? ⟨w2.heap.size, 2, none⟩ = some (.map (some tb)) := by simp
    have e1' := cellK1 e1 (below_box w2 (.cells #[.int .i64 (Jn : Int), .slice A xs.length cap, .map (some tb)] 96))
    (with_reducible refine (thatClosed (fun (j : Nat) => !(treeP xs j)) (Jn : Int) A xs.length cap tb _ hl (fun k w4 hk4 hb4 => isClosedU_any (Jn : Int) A xs.length cap tb tc k tm (fun (j : Nat) => !(treeP xs j)) w4 HMB.out (ownsMap_below (HM2.out _) hb4) hk4 (by omega))).mono ?_)
    rintro e w3 ⟨vL, rfl, hoL, hd3⟩
    obtain ⟨lA, lc, rfl⟩ := hoL.form
    have HL := Lib.hid (RowW.of_ownI hoL)
    have HB3 := Lib.hid (show Below w1.heap.size w1 w3 from (HB2.out (.cells #[.int .i64 (Jn : Int), .slice A xs.length cap, .map (some tb)] 96)).trans (hd3.mono (HB2.out (.cells #[.int .i64 (Jn : Int), .slice A xs.length cap, .map (some tb)] 96)).size))
    have HN3 := Lib.hid (And.intro (cellK1 e1' hd3) (And.intro (cellK1 n0 hd3) (And.intro (cellK1 n1 hd3) (cellK1 n2 hd3))))
    have HM3 := Lib.hid (ownsMap_below (HM2.out (.cells #[.int .i64 (Jn : Int), .slice A xs.length cap, .map (some tb)] 96)) hd3)
    have HR3 := Lib.hid (HR1.out.below HB3.out)
    have HLM := Lib.hid (show ∀ y ∈ (ixT (fun (j : Nat) => !(treeP xs j)) xs.length), ∃ ix : Nat, y = ix ∧ ix < xs.length ∧ treeP xs ix = false from fun y hy => by
      have h1 := ixT_mem _ _ _ hy
      obtain ⟨ix, rfl⟩ : ∃ ix : Nat, y = ix := ⟨y.toNat, by omega⟩
      have h2 := ixT_has (fun (j : Nat) => !(treeP xs j)) ix xs.length
      rw [decide_eq_true hy] at h2
      refine ⟨ix, rfl, by omega, ?_⟩
      have h3 := h2.symm
      rw [Bool.and_eq_true] at h3
      simpa using h3.2)
    have hq4 : w2.heap.size < w3.heap.size := World.block_lt_of_cell? _ _ HN3.out.2.1
    have HLN := Lib.hid (show (ixT (fun (j : Nat) => !(treeP xs j)) xs.length).length ≤ xs.length from ixT_len _ _)
    clear hoL hd3 n0 n1 n2 e0 e1 e1'
    obtain ⟨Ls, hLs⟩ : ∃ Ls, (ixT (fun (j : Nat) => !(treeP xs j)) xs.length) = Ls := ⟨_, rfl⟩
    rw [hLs] at HE HL HLM HLN ⊢
    clear hLs
    go_wp2
    go_loopw [4, 21] (fun out i wr => ∃ k : Nat, k ≤ Ls.length ∧ i = .int .i64 (k : Int) ∧ Hid (OwnSS wr w3.heap.size out ((Ls.take k).map (fun y => rowM Jn xs y.toNat))) ∧ Hid (Below w3.heap.size w3 wr)) (fun out i wr => Ls.length - (intOf i).toNat)
    case atStart => exact ⟨0, by omega, rfl, Lib.hid (by rw [List.take_zero]; exact ss_nil _ _), Lib.hid (Below.refl _ _)⟩
    case round =>
      obtain ⟨k, hk, rfl, HO, HBL⟩ := hrel
      have hwz : w3.heap.size ≤ wr.heap.size := HBL.out.size
      by_cases hlt : k < Ls.length
      · have hkI : (k : Int) < (Ls.length : Int) := by omega
        have hk24 : (k : Int) < 24 := by have := HLN.out; omega
        obtain ⟨la, lf, rfl, -, hcl⟩ := RowW.cell (HL.out.below HBL.out) hlt
        have HTK := Lib.hid (show Ls.take (k + 1) = Ls.take k ++ [Ls.getD k 0] by rw [show Ls.getD k 0 = Ls[k] by simp [List.getD, hlt]]; exact List.take_succ_eq_append_getElem hlt)
        obtain ⟨ix, hy, hix, hp⟩ := HLM.out (Ls.getD k 0) (by rw [show Ls.getD k 0 = Ls[k] by simp [List.getD, hlt]]; exact List.getElem_mem hlt)
        rw [hy] at hcl HTK
        have hllk : ((Ls.take k).map (fun y => rowM Jn xs y.toNat)).length = k := by simp; omega
        have HLK := Lib.hid hllk
        clear hy hllk
        have hixI : (ix : Int) < (xs.length : Int) := by omega
        have HNE := Lib.hid (mesh_ne HOK.out hix hp)
        have HRM := Lib.hid (show rowM Jn xs ix = ((ix : Int) + 1) :: wlkR Jn xs (treeL xs xs.length) xs[ix].t xs[ix].f by unfold rowM; rw [getD_of_lt hix])
        have hen := ends_in HOK.out hix
        have HRW := Lib.hid (HR3.out.below HBL.out)
        have b1 := cellK1 HN3.out.1 HBL.out
        have q0 := cellK1 HN3.out.2.1 HBL.out
        have q1 := cellK1 HN3.out.2.2.1 HBL.out
        have q2 := cellK1 HN3.out.2.2.2 HBL.out
        have HMW := Lib.hid (ownsMap_below HM3.out HBL.out)
        obtain ⟨g, off, rfl, hrg⟩ := HRW.out ix hix
        obtain ⟨⟨d0, d1, d2, d3⟩, d4, d5, d6⟩ := lay_row hrg
        generalize xs[ix] = a at *
        obtain ⟨sa, f, t, l, se, fr, sh⟩ := a
        dsimp only at d0 d1 d2 d3 d4 d5 d6 hen HNE HRM
        clear hrg hp
        obtain ⟨fn, rfl⟩ : ∃ fn : Nat, f = fn := ⟨f.toNat, by omega⟩
        obtain ⟨tn, rfl⟩ : ∃ tn : Nat, t = tn := ⟨t.toNat, by omega⟩
        have hf1 : fn < Jn := by omega
        have ht1 : tn < Jn := by omega
        have hgw : ¬ (w2.heap.size = wr.heap.size) := by omega
        have hgw2 : w2.heap.size < wr.heap.size := by omega
        have hgw3 : w.heap.size < wr.heap.size := by omega
        have HR4 := Lib.hid (fun (o : Obj) => HRW.out.below (below_box wr o))
        have HM4 := Lib.hid (fun (o : Obj) => HMW.out.alloc o)
        go_wp2_with fail
        (with_reducible refine (path_any (treeP xs) Jn (some ⟨g, off, none⟩) cap (.map (some tb)) xs tn fn _ (HR4.out _) HOK.out ht1 hf1 rfl (fun W z _ hbz => openTree_any (Jn : Int) z _ cap tb tc tm xs W (by omega) ((HR4.out _).below hbz) HMB.out (ownsMap_below (HM4.out _) hbz))).mono ?_)
        rintro e w5 ⟨u5, rfl, ho5, hd5⟩
        have HB5 := Lib.hid (show Below wr.heap.size wr w5 from (below_box wr _).trans (hd5.mono (by simp)))
        have HO5 := Lib.hid (show OwnI w5 wr.heap.size u5 (wlkR Jn xs (treeL xs xs.length) tn fn) from own_leW ho5 (by simp))
        have hwl := wlkR_lenV Jn xs (treeL xs xs.length) tn fn
        obtain ⟨ws, hws⟩ : ∃ ws, wlkR Jn xs (treeL xs xs.length) tn fn = ws := ⟨_, rfl⟩
        rw [hws] at HO5 HNE HRM hwl
        clear hws ho5 hd5 d0 d1 d2 d3 d4 d5 d6 b1 q0 q1 q2 hcl
        obtain ⟨vs, hv0, hrs0, hap0⟩ := HO.out
        have HV2 := Lib.hid (And.intro hv0 (And.intro hrs0 hap0))
        clear hv0 hrs0 hap0
        have hpos : 0 < ws.length := List.length_pos_iff.2 HNE.out
        obtain ⟨A5, c5, rfl⟩ := HO5.out.form
        obtain ⟨lb, lo, rfl, -, -⟩ := RowW.cell (RowW.of_ownI HO5.out) (j := 0) hpos
        have HC5 := Lib.hid (show ∀ j, j < ws.length → w5.cell? ⟨lb, lo + j, none⟩ = some (.int .i64 (ws.getD j 0)) from fun j hj => by
          obtain ⟨lb2, lo2, e, -, h⟩ := RowW.cell (RowW.of_ownI HO5.out) hj
          injection e with e
          injection e with e1 e2 e3
          subst e1 e2
          exact h)
        have hsz5 := HB5.out.size
        have hJ16 : Jn ≤ 16 := by omega
        have HLI := Lib.hid (show OwnI (w5.alloc (.cells #[] 2)) w5.heap.size (.slice (some ⟨w5.heap.size, 0, none⟩) 0 0) [] from World.ownsRow_lit _ _ 0 (Nat.le_refl _) (by simp [maxLen]) rfl)
        go_wp2_with fail
        (with_reducible refine (through_any w5.heap.size ix true _ [] _ HLI.out (by simp) (by simp) (by omega)).mono ?_)
        rintro e w7 ⟨u7, rfl, ho7, hd7⟩
        have HX7 := Lib.hid (show Below w5.heap.size w5 w7 from (below_box w5 _).trans hd7)
        have HB7 := Lib.hid (HB5.out.trans (HX7.out.mono hsz5))
        have HO7 := Lib.hid (show w7.ownsRow wr.heap.size 2 1 u7 1 [.int .i64 ((ix : Int) + 1)] from own_leW ho7 hsz5)
        have HC7 := Lib.hid (show ∀ j u, (intsV ws)[j]? = some u → w7.cell? ((⟨lb, lo, none⟩ : Addr).add j) = some u from fun j u hj => by
          have hjl : j < ws.length := by
            have := (List.getElem?_eq_some_iff.1 hj).1
            simpa [intsV] using this
          have hu : u = .int .i64 (ws.getD j 0) := by
            simp [intsV, hjl] at hj
            rw [← hj]; simp [List.getD, hjl]
          rw [hu, show ((⟨lb, lo, none⟩ : Addr).add j) = ⟨lb, lo + j, none⟩ from by simp [Addr.add]]
          exact cellK1 (HC5.out j hjl) HX7.out)
        have hsz7 := HB7.out.size
        clear ho7 hd7
        go_wp2_with (at_builtin; refine wpList_append_own_at _ rfl _ _ 99 rfl wr.heap.size 2 i0 (.int .i64 0) 1 8 Try.underlying99 hi hz0 hz1 hz2 rfl (by decide) _ _ _ rfl HO7.out ⟨lb, lo, none⟩ ws.length c5 (intsV ws) rfl (by simp [intsV]) HC7.out ?c2z ?c3z ?c4z ?c5z ?_)
        case c2z => intro u hu; simp [intsV] at hu; obtain ⟨z, -, rfl⟩ := hu; simp [Value.oneCell']
        case c3z => unfold maxLen; omega
        case c4z => omega
        case c5z => omega
        intro v8 w8 ho8 hg8 _ hm8
        have HB8 := Lib.hid (show Below wr.heap.size wr w8 from HB7.out.grown hg8 hsz7 (fun j hj => (World.ownsRow.lt HO7.out j hj).1))
        have HU8 := Lib.hid (show OwnI w8 wr.heap.size v8 (rowM Jn xs ix) from by
          unfold OwnI
          rw [HRM.out, List.length_cons, Nat.add_comm ws.length 1]
          exact ho8)
        clear ho8 hg8 hm8
        obtain ⟨A8, c8, rfl⟩ := HU8.out.form
        have HV5 := Lib.hid (fun (o : Obj) => own_below HV2.out.1 (HB8.out.alloc HB8.out.size o))
        have hB8s := HB8.out.size
        have hlk2 := HLK.out
        go_wp2_with (at_builtin; refine wpList_append_own_at _ rfl _ _ 53 rfl w3.heap.size 30 iR (.slice none 0 0) 1 24 Try.underlying53 hiR hzR0 hzR1 hzR2 rfl (by decide) _ _ _ rfl (HV5.out _) ⟨w8.heap.size, 0, none⟩ 1 1 [.slice A8 (rowM Jn xs ix).length c8] rfl rfl ?c1z ?c2z ?c3z ?c4z ?c5z ?_)
        case c1z => intro j u hj; match j, hj with | 0, hj => (simp at hj; subst hj; simp [Addr.add]) | j + 1, hj => (simp at hj)
        case c2z => simp [Value.oneCell']
        case c3z => have := HLK.out; have := HLN.out; unfold maxLen; omega
        case c4z => have := HLK.out; have := HLN.out; omega
        case c5z => (simp; omega)
        intro v6 w6 ho6 hg6 _ hm6
        have HS6 := Lib.hid (ss_app HV2.out.1 HV2.out.2.1 HV2.out.2.2 (HB8.out.alloc HB8.out.size _) (World.ownsRow.alloc HU8.out _) hwz (by rw [HLK.out]; exact ho6) hg6 (by rw [World.size_alloc]; exact hm6))
        have HB6 := Lib.hid (show Below w3.heap.size w3 w6 from (HBL.out.trans ((HB8.out.alloc HB8.out.size _).mono hwz)).grown hg6 (by simp; omega) (fun j hj => (World.ownsRow.lt HV2.out.1 j hj).1))
        have HMP := Lib.hid (show (Ls.take (k + 1)).map (fun y => rowM Jn xs y.toNat) = (Ls.take k).map (fun y => rowM Jn xs y.toNat) ++ [rowM Jn xs ix] by rw [HTK.out, List.map_append]; rfl)
        clear ho6 hg6 hm6 hlk2
        go_wp2
        go_roundw
        case rel => exact ⟨k + 1, by omega, by go_num, by rw [HMP.out]; exact HS6, HB6⟩
        case measure => simp [intOf]; omega
      · obtain rfl : k = Ls.length := by omega
        obtain ⟨wo, rfl⟩ : ∃ wo : World, wo = wr := ⟨_, rfl⟩
        have HFI := Lib.hid (show OwnSS wo w3.heap.size u4 (Ls.map (fun y => rowM Jn xs y.toNat)) from by have := HO.out; rwa [List.take_length] at this)
        go_wp2
        go_ret2
        exact ⟨_, ret_vm HE.out.1.symm, by rw [HE.out.2]; exact HFI.out.mono (Nat.le_trans HB1.out.size HB3.out.size), HB1.out.trans ((HB3.out.trans (HBL.out.mono HB3.out.size)).mono HB1.out.size)⟩

theorem stp_inL {en : Int → Int × Int} {D : Int → Int} {a k : Int} {b : Bool} : ∀ L, stp en D a L = some (k, b) → k ∈ L
  | [], h => by cases h
  | y :: ks, h => by
    rw [stp] at h
    split at h
    · injection h with h
      injection h with h1 h2
      rw [h1]; exact List.mem_cons_self
    · exact List.mem_cons_of_mem _ (stp_inL ks h)
theorem pathN_in {en : Int → Int × Int} {D : Int → Int} {L : List Int} {n : Int} (hL : ∀ y ∈ L, 0 ≤ y ∧ y < n) : ∀ (m : Nat) (a : Int), ∀ y ∈ pathN en D L m a, y ≠ 0 ∧ -n ≤ y ∧ y ≤ n
  | 0, a, y, h => by cases h
  | m + 1, a, y, h => by
    rw [pathN] at h
    split at h
    · rename_i k b hs
      rcases List.mem_cons.1 h with q | q
      · have := hL k (stp_inL L hs)
        subst q
        unfold sgnZ
        cases b
        · simp only [Bool.false_eq_true, if_false]; omega
        · simp only [if_true]; omega
      · exact pathN_in hL m _ y q
    · cases h
/-- Each number of a mesh is a step. -/
theorem rowM_in {Jn : Nat} {xs : List Aw} {k : Nat} (hk : k < xs.length) : ∀ y ∈ rowM Jn xs k, y ≠ 0 ∧ -(xs.length : Int) ≤ y ∧ y ≤ xs.length := by
  intro y h
  unfold rowM at h
  rcases List.mem_cons.1 h with q | q
  · subst q; omega
  · unfold wlkR at q
    split at q
    · exact pathN_in treeL_in _ _ y q
    · cases q
theorem mshT_in {Jn : Nat} {xs : List Aw} : ∀ k, k ≤ xs.length → ∀ r ∈ mshT Jn xs k, ∀ y ∈ r, y ≠ 0 ∧ -(xs.length : Int) ≤ y ∧ y ≤ xs.length
  | 0, _, r, h => by cases h
  | k + 1, hk, r, h => by
    rw [mshT] at h
    split at h
    · exact mshT_in k (by omega) r h
    · rcases List.mem_append.1 h with q | q
      · exact mshT_in k (by omega) r q
      · rw [List.mem_singleton.1 q]; exact rowM_in (by omega)

def msh (J : Int) (xs : List Aw) : List (List Int) := mshT J.toNat xs xs.length
/-- How strong the draught of a mesh is. -/
def smF (J : Int) (xs : List Aw) (lv tp : List Int) (i : Nat) : Int := absR (alS (draT xs lv tp xs.length) ((msh J xs).getD i []) ((msh J xs).getD i []).length)
/-- What StrongestMesh returns. -/
def smC (J : Int) (xs : List Aw) (lv tp : List Int) : Int := if askC J xs lv tp = 0 then fgC (msh J xs).length else askC J xs lv tp
def smA (J : Int) (xs : List Aw) (lv tp : List Int) : Int := if askC J xs lv tp = 0 then fgB (smF J xs lv tp) (msh J xs).length else 0
def smM (J : Int) (xs : List Aw) (lv tp : List Int) : Int := if askC J xs lv tp = 0 then fgM (smF J xs lv tp) (msh J xs).length else 0
theorem row_ofW {k : IntKind} {w : World} {v : Value} {xs : List Int} (h : RowW k w v xs) (hp : 0 < xs.length) : Row k w v xs := by
  obtain ⟨A, cap, e, hc⟩ := h
  obtain ⟨b, off, rfl, -⟩ := hc 0 hp
  refine Or.inr ⟨b, off, cap, e, fun j hj => ?_⟩
  obtain ⟨b2, off2, e2, h2⟩ := hc j hj
  injection e2 with e2
  injection e2 with e3 e4 e5
  subst e3 e4
  exact h2
theorem mshT_pos {Jn : Nat} {xs : List Aw} : ∀ k, ∀ r ∈ mshT Jn xs k, 0 < r.length
  | 0, r, h => by cases h
  | k + 1, r, h => by
    rw [mshT] at h
    split at h
    · exact mshT_pos k r h
    · rcases List.mem_append.1 h with q | q
      · exact mshT_pos k r q
      · rw [List.mem_singleton.1 q]; unfold rowM; simp
def bst (f : Nat → Int) (i : Nat) : Int := if i = 0 then -1 else fgB f i
theorem bst_bd (f : Nat → Int) {i : Nat} (h : i ≤ 24) : -1 ≤ bst f i ∧ bst f i ≤ 24 := by
  unfold bst
  split
  · omega
  · have := bi_lt f i (by omega)
    unfold fgB
    omega
theorem smF_bd {J : Int} {xs : List Aw} {lv tp : List Int} (hok : mineOk J xs = true) (hb : ∀ j : Nat, -1489158000 ≤ (draT xs lv tp xs.length).getD j 0 ∧ (draT xs lv tp xs.length).getD j 0 ≤ 1489158000) {i : Nat} (h : i < (msh J xs).length) :
    (-100000000000 ≤ alS (draT xs lv tp xs.length) ((msh J xs).getD i []) ((msh J xs).getD i []).length ∧ alS (draT xs lv tp xs.length) ((msh J xs).getD i []) ((msh J xs).getD i []).length ≤ 100000000000) ∧ ((msh J xs).getD i []).length ≤ 17 ∧ (∀ y ∈ (msh J xs).getD i [], y ≠ 0 ∧ -(xs.length : Int) ≤ y ∧ y ≤ xs.length) := by
  have hm : (msh J xs).getD i [] ∈ msh J xs := by rw [show (msh J xs).getD i [] = (msh J xs)[i] by simp [List.getD, h]]; exact List.getElem_mem h
  have h1 := (mineOk_iff.1 hok).1
  have h17 := mshT_row xs.length _ hm
  have h2 := alS_bd hb ((msh J xs).getD i []) ((msh J xs).getD i []).length
  refine ⟨by omega, by omega, mshT_in xs.length (Nat.le_refl _) _ hm⟩
set_option maxHeartbeats 4000000 in
set_option maxRecDepth 100000 in
theorem sStrongestMesh_any (J : Int) (A : Option Addr) (cap : Nat) (xs : List Aw) (V : Value) (lv : List Int) (T : Value) (tp : List Int) (w : World) (hr : AwR w A xs) (hs : ∀ a ∈ xs, a.s.size ≤ maxLen) (hl : xs.length ≤ 1048576) (hv : Row .i64 w V lv) (hvl : lv.length ≤ 1048576) (ht : Row .i64 w T tp) (htl : tp.length ≤ 1048576) :
    Calls Try.prog 39 #[.agg #[.int .i64 J, .slice A xs.length cap], V, T] w fun e w' => e = .returned (.tuple #[.int .i64 (smA J xs lv tp), .int .i64 (smM J xs lv tp), .int .i64 (smC J xs lv tp)]) ∧ Below w.heap.size w w' := by
  obtain ⟨F, fcap, rfl⟩ := hv.form
  obtain ⟨G, gcap, rfl⟩ := ht.form
  have HB0 := Lib.hid (below_box w (.cells #[.int .i64 J, .slice A xs.length cap] 36))
  have HR := Lib.hid (hr.below HB0.out)
  have HV := Lib.hid (hv.below HB0.out)
  have HT := Lib.hid (ht.below HB0.out)
  have HA := Lib.hid (show (w.alloc (.cells #[.int .i64 J, .slice A xs.length cap] 36)).cell? ⟨w.heap.size, 0, none⟩ = some (.int .i64 J) ∧ (w.alloc (.cells #[.int .i64 J, .slice A xs.length cap] 36)).cell? ⟨w.heap.size, 1, none⟩ = some (.slice A xs.length cap) from ⟨by simp, by simp⟩)
  have HS := Lib.hid hs
  clear hr hv hs ht
  by_cases hc : askC J xs lv tp = 0
  · have HOK := Lib.hid (askC_ok hc)
    have hj := (mineOk_iff.1 HOK.out.1).1
    have h24 := (mineOk_iff.1 HOK.out.1).2.2
    have HDL := Lib.hid (draT_len xs lv tp xs.length)
    have HDB := Lib.hid (fun j => draR_bd (xs := xs) HOK.out.2.1 HOK.out.2.2 j)
    have HE := Lib.hid (show smA J xs lv tp = fgB (smF J xs lv tp) (msh J xs).length ∧ smM J xs lv tp = fgM (smF J xs lv tp) (msh J xs).length ∧ smC J xs lv tp = fgC (msh J xs).length by simp [smA, smM, smC, hc])
    have hml : (msh J xs).length ≤ 24 := Nat.le_trans (mshT_len _ _ _) h24
    have HFB := Lib.hid (fun i (h : i < (msh J xs).length) => smF_bd (lv := lv) (tp := tp) HOK.out.1 HDB.out h)
    have HMS := Lib.hid (fun (W : World) (hJ : W.cell? ⟨w.heap.size, 0, none⟩ = some (.int .i64 J)) (hA : W.cell? ⟨w.heap.size, 1, none⟩ = some (.slice A xs.length cap)) (hr : AwR W A xs) => show Calls Try.prog 87 #[.pointer (some ⟨w.heap.size, 0, none⟩)] W fun e w' => ∃ u, e = .returned u ∧ OwnSS w' W.heap.size u (msh J xs) ∧ Below W.heap.size W w' from by
      obtain ⟨Jn, rfl⟩ : ∃ Jn : Nat, J = Jn := ⟨J.toNat, by omega⟩
      exact l04Meshes_any w.heap.size cap Jn A xs W hJ hA hr HOK.out.1)
    go_enter Try.func39, Try.ntmps39
    go_wp2_with fail
    (with_reducible refine (l09Ask_any w.heap.size J A cap xs _ _ lv tp (w.alloc (.cells #[.int .i64 J, .slice A xs.length cap] 36)) HA.out.1 HA.out.2 HR.out HS.out hl (RowW.of_row HV.out) hvl (RowW.of_row HT.out) htl).mono ?_)
    rintro e w1 ⟨rfl, n, rfl⟩
    have HB1 := Lib.hid (show Below w.heap.size w ((w.alloc (.cells #[.int .i64 J, .slice A xs.length cap] 36)).drewN n) from below_drewN' HB0.out n)
    have HR1 := Lib.hid (show AwR ((w.alloc (.cells #[.int .i64 J, .slice A xs.length cap] 36)).drewN n) A xs from HR.out)
    have HV1 := Lib.hid (show RowW .i64 ((w.alloc (.cells #[.int .i64 J, .slice A xs.length cap] 36)).drewN n) _ lv from RowW.of_row HV.out)
    have HT1 := Lib.hid (show RowW .i64 ((w.alloc (.cells #[.int .i64 J, .slice A xs.length cap] 36)).drewN n) _ tp from RowW.of_row HT.out)
    have HA1 := Lib.hid (show ((w.alloc (.cells #[.int .i64 J, .slice A xs.length cap] 36)).drewN n).cell? ⟨w.heap.size, 0, none⟩ = some (.int .i64 J) ∧ ((w.alloc (.cells #[.int .i64 J, .slice A xs.length cap] 36)).drewN n).cell? ⟨w.heap.size, 1, none⟩ = some (.slice A xs.length cap) from HA.out)
    generalize (w.alloc (.cells #[.int .i64 J, .slice A xs.length cap] 36)).drewN n = W1 at *
    rw [hc]
    go_wp2_with fail
    (with_reducible refine (HMS.out _ HA1.out.1 HA1.out.2 HR1.out).mono ?_)
    rintro e w2 ⟨um, rfl, hom, hd2⟩
    obtain ⟨mA, mc, rfl⟩ := hom.form
    have HM2 := Lib.hid hom
    have hA2 := cellK1 HA1.out.2 hd2
    have HB2 := Lib.hid (HB1.out.trans (hd2.mono HB1.out.size))
    have HR2 := Lib.hid (HR1.out.below hd2)
    have HV2 := Lib.hid (HV1.out.below hd2)
    have HT2 := Lib.hid (HT1.out.below hd2)
    clear hom hd2
    go_wp2_with fail
    (with_reducible refine (l09Draughts_any w.heap.size cap J A xs _ _ lv tp _ hA2 HR2.out HV2.out HT2.out HOK.out.1 HOK.out.2.1 HOK.out.2.2).mono ?_)
    rintro e w3 ⟨ud, rfl, ho, hd⟩
    have HD3 := Lib.hid (RowW.of_ownI ho)
    have HM3 := Lib.hid (HM2.out.below hd)
    have HB3 := Lib.hid (HB2.out.trans (hd.mono HB2.out.size))
    obtain ⟨dA, dc, rfl⟩ := ho.form
    clear ho hd hA2
    have HL3 := Lib.hid (show ∀ i : Nat, i < (msh J xs).length → ∃ b off A' c', mA = some ⟨b, off, none⟩ ∧ w3.cell? ⟨b, off + i, none⟩ = some (.slice A' ((msh J xs).getD i []).length c') ∧ RowW .i64 w3 (.slice A' ((msh J xs).getD i []).length c') ((msh J xs).getD i []) from fun i h => by
      rw [show (msh J xs).getD i [] = (msh J xs)[i] by simp [List.getD, h]]
      exact HM3.out.rows.row h)
    have HFF := Lib.hid (fun i => show smF J xs lv tp i = absR (alS (draT xs lv tp xs.length) ((msh J xs).getD i []) ((msh J xs).getD i []).length) from rfl)
    generalize smF J xs lv tp = f at *
    generalize msh J xs = Ms at *
    go_wp2
    go_loopw [12, 13, 14] (fun bv mv iv wr => ∃ i : Nat, i ≤ Ms.length ∧ iv = .int .i64 (i : Int) ∧ bv = .int .i64 (bst f i) ∧ mv = .int .i64 (fgM f i) ∧ wr = w3) (fun bv mv iv wr => Ms.length - (intOf iv).toNat)
    case atStart => exact ⟨0, by omega, rfl, rfl, rfl, rfl⟩
    case round =>
      obtain ⟨i, hi, rfl, rfl, rfl, rfl⟩ := hrel
      by_cases hlt : i < Ms.length
      · have hiI : (i : Int) < (Ms.length : Int) := by omega
        obtain ⟨rb, ro, A', c', rfl, hcl, hrw⟩ := HL3.out i hlt
        obtain ⟨⟨b1, b2⟩, b3, b4⟩ := HFB.out i hlt
        have HRW := Lib.hid hrw
        have HST := Lib.hid (fun (j : Nat) (hj : j < (Ms.getD i []).length) => b4 _ (at_mem hj))
        have HFi := Lib.hid (HFF.out i)
        have hbb := bst_bd f (show i ≤ 24 by omega)
        clear hrw b4
        generalize Ms.getD i [] = zs at *
        go_wp2_with fail
        (with_reducible refine (l09Along_any _ _ (draT xs lv tp xs.length) zs _ HD3.out HRW.out HDB.out (by rw [HDL.out]; omega) (by omega) (fun j hj => by rw [HDL.out]; exact HST.out j hj)).mono ?_)
        rintro e w' ⟨rfl, rfl⟩
        go_wp2_with fail
        (with_reducible refine (l03Abs_any _ _ (by omega) (by omega)).mono ?_)
        rintro e w' ⟨rfl, rfl⟩
        rw [← HFi.out]
        by_cases h0 : i = 0
        · have HY := Lib.hid (fg_yes (f := f) (k := i) (Or.inl h0))
          have hbs : bst f i = -1 := by unfold bst; rw [if_pos h0]
          have hbn : bst f (i + 1) = (i : Int) := by unfold bst; rw [if_neg (by omega)]; exact HY.out.1
          have HBN := Lib.hid hbn
          rw [hbs]
          clear hbn hbs
          generalize f i = z at *
          go_wp2
          go_roundw
          case rel => exact ⟨i + 1, by omega, by go_num, by rw [HBN.out]; first | rfl | (rw [h0]; rfl), by rw [HY.out.2.1], by trivial⟩
          case measure => simp [intOf]; omega
        · have hbs : bst f i = fgB f i := by unfold bst; rw [if_neg h0]
          have hb0 : 0 ≤ fgB f i := by unfold fgB; omega
          have hbf : decide (fgB f i < 0) = false := decide_eq_false (by omega)
          by_cases hgt : fgM f i < f i
          · have HY := Lib.hid (fg_yes (f := f) (k := i) (Or.inr hgt))
            have HBN := Lib.hid (show bst f (i + 1) = (i : Int) by unfold bst; rw [if_neg (by omega)]; exact HY.out.1)
            rw [hbs]
            clear hbs
            generalize f i = z at *
            generalize fgM f i = mm at *
            generalize fgB f i = bb at *
            have hgd : decide (mm < z) = true := decide_eq_true hgt
            go_wp2
            go_roundw
            case rel => exact ⟨i + 1, by omega, by go_num, by rw [HBN.out], by rw [HY.out.2.1], by trivial⟩
            case measure => simp [intOf]; omega
          · have HY := Lib.hid (fg_no (f := f) h0 hgt)
            have HBN := Lib.hid (show bst f (i + 1) = fgB f i by unfold bst; rw [if_neg (by omega)]; exact HY.out.1)
            rw [hbs]
            clear hbs
            generalize f i = z at *
            generalize hmm : fgM f i = mm at *
            generalize fgB f i = bb at *
            have hgd : decide (mm < z) = false := decide_eq_false hgt
            go_wp2
            go_roundw
            case rel => exact ⟨i + 1, by omega, by go_num, by rw [HBN.out], by rw [HY.out.2.1], by trivial⟩
            case measure => simp [intOf]; omega
      · obtain rfl : i = Ms.length := by omega
        by_cases h0 : Ms.length = 0
        · have HZ := Lib.hid (show fgB f Ms.length = 0 ∧ fgM f Ms.length = 0 ∧ fgC Ms.length = 3 by rw [h0]; exact ⟨rfl, rfl, rfl⟩)
          have hbs : bst f Ms.length = -1 := by unfold bst; rw [if_pos h0]
          rw [hbs]
          clear hbs h0
          go_wp2
          go_ret3
          exact ⟨ret_t3 (HE.out.1.trans HZ.out.1).symm (HE.out.2.1.trans HZ.out.2.1).symm (HE.out.2.2.trans HZ.out.2.2).symm, HB3.out⟩
        · have HZ := Lib.hid (show fgC Ms.length = 0 by unfold fgC; rw [if_neg h0])
          have hbs : bst f Ms.length = fgB f Ms.length := by unfold bst; rw [if_neg h0]
          have hb0 : 0 ≤ fgB f Ms.length := by unfold fgB; omega
          rw [hbs]
          generalize hbb : fgB f Ms.length = bb at *
          generalize hmm : fgM f Ms.length = mm at *
          have hbf : decide (bb < 0) = false := decide_eq_false (by omega)
          clear hbs h0
          go_wp2
          go_ret3
          exact ⟨ret_t3 HE.out.1.symm HE.out.2.1.symm (HE.out.2.2.trans HZ.out).symm, HB3.out⟩
  · have HE := Lib.hid (show smA J xs lv tp = 0 ∧ smM J xs lv tp = 0 ∧ smC J xs lv tp = askC J xs lv tp by simp [smA, smM, smC, hc])
    have hz1 : (askC J xs lv tp != 0) = true := by simp [hc]
    have hz2 : (askC J xs lv tp == 0) = false := by simp [hc]
    generalize hzz : askC J xs lv tp = z at *
    go_enter Try.func39, Try.ntmps39
    go_wp2_with fail
    (with_reducible refine (l09Ask_any w.heap.size J A cap xs _ _ lv tp (w.alloc (.cells #[.int .i64 J, .slice A xs.length cap] 36)) HA.out.1 HA.out.2 HR.out HS.out hl (RowW.of_row HV.out) hvl (RowW.of_row HT.out) htl).mono ?_)
    rintro e w1 ⟨rfl, n, rfl⟩
    have HB1 := Lib.hid (show Below w.heap.size w ((w.alloc (.cells #[.int .i64 J, .slice A xs.length cap] 36)).drewN n) from below_drewN' HB0.out n)
    have HR1 := Lib.hid (show AwR ((w.alloc (.cells #[.int .i64 J, .slice A xs.length cap] 36)).drewN n) A xs from HR.out)
    have HV1 := Lib.hid (show RowW .i64 ((w.alloc (.cells #[.int .i64 J, .slice A xs.length cap] 36)).drewN n) _ lv from RowW.of_row HV.out)
    have HT1 := Lib.hid (show RowW .i64 ((w.alloc (.cells #[.int .i64 J, .slice A xs.length cap] 36)).drewN n) _ tp from RowW.of_row HT.out)
    have HA1 := Lib.hid (show ((w.alloc (.cells #[.int .i64 J, .slice A xs.length cap] 36)).drewN n).cell? ⟨w.heap.size, 0, none⟩ = some (.int .i64 J) ∧ ((w.alloc (.cells #[.int .i64 J, .slice A xs.length cap] 36)).drewN n).cell? ⟨w.heap.size, 1, none⟩ = some (.slice A xs.length cap) from HA.out)
    generalize (w.alloc (.cells #[.int .i64 J, .slice A xs.length cap] 36)).drewN n = W1 at *
    rw [hzz]
    go_wp2
    go_ret3
    exact ⟨ret_t3 HE.out.1.symm HE.out.2.1.symm HE.out.2.2.symm, HB1.out⟩
set_option maxHeartbeats 2000000 in
set_option maxRecDepth 100000 in
theorem smClos_any (bc bm rb ro mn mc i c' : Nat) (A' : Option Addr) (J : Int) (A F G : Option Addr) (cap fcap gcap : Nat) (xs : List Aw) (lv tp zs : List Int) (w : World) (hcs : (w.cell? ⟨bc, 0, none⟩ = some (.int .i64 J) ∧ w.cell? ⟨bc, 1, none⟩ = some (.slice A xs.length cap) ∧ w.cell? ⟨bc, 2, none⟩ = some (.slice F lv.length fcap) ∧ w.cell? ⟨bc, 3, none⟩ = some (.slice G tp.length gcap) ∧ w.cell? ⟨bm, 0, none⟩ = some (.slice (some ⟨rb, ro, none⟩) mn mc) ∧ w.cell? ⟨rb, ro + i, none⟩ = some (.slice A' zs.length c')) ∧ Below w.heap.size w w) (hi : i < mn) (hmn : mn ≤ 1000) (hr : AwR w A xs) (hv : RowW .i64 w (.slice F lv.length fcap) lv) (ht : RowW .i64 w (.slice G tp.length gcap) tp) (hok : mineOk J xs = true ∧ lvOk J lv = true ∧ flOk (-300) 600 xs.length tp = true) (hz : Row .i64 w (.slice A' zs.length c') zs) (hzl : zs.length ≤ 64) (hst : ∀ y ∈ zs, y ≠ 0 ∧ -(xs.length : Int) ≤ y ∧ y ≤ xs.length)
    (hb : -100000000000 ≤ alS (draT xs lv tp xs.length) zs zs.length ∧ alS (draT xs lv tp xs.length) zs zs.length ≤ 100000000000) :
    Calls Try.prog 88 #[.int .i64 (i : Int), .pointer (some ⟨bc, 0, none⟩), .pointer (some ⟨bm, 0, none⟩)] w fun e w' => e = .returned (.int .i64 (absR (alS (draT xs lv tp xs.length) zs zs.length))) ∧ Below w.heap.size w w' := by
  have HC := Lib.hid hcs
  have HR := Lib.hid hr
  have HV := Lib.hid hv
  have HT := Lib.hid ht
  have HOK := Lib.hid hok
  have HZ := Lib.hid hz
  have HZL := Lib.hid hzl
  have HST := Lib.hid hst
  obtain ⟨⟨k0, k1, k2, k3, k4, k5⟩, -⟩ := hcs
  obtain ⟨hb1, hb2⟩ := hb
  have hiI : (i : Int) < (mn : Int) := by omega
  clear hr hv ht hok hz hzl hst
  go_enter Try.func88, Try.ntmps88
  go_wp2_with fail
  refine wp_region_held (S := fun w' => (w'.cell? ⟨bc, 0, none⟩ = some (.int .i64 J) ∧ w'.cell? ⟨bc, 1, none⟩ = some (.slice A xs.length cap) ∧ w'.cell? ⟨bc, 2, none⟩ = some (.slice F lv.length fcap) ∧ w'.cell? ⟨bc, 3, none⟩ = some (.slice G tp.length gcap) ∧ w'.cell? ⟨bm, 0, none⟩ = some (.slice (some ⟨rb, ro, none⟩) mn mc) ∧ w'.cell? ⟨rb, ro + i, none⟩ = some (.slice A' zs.length c')) ∧ Below w.heap.size w w') (by kernel_rfl) ?_
  try (change wpAnyH _ _ _ _ _ _ _ _ (World.drew _))
  have hS0 := (show (w.drew.cell? ⟨bc, 0, none⟩ = some (.int .i64 J) ∧ w.drew.cell? ⟨bc, 1, none⟩ = some (.slice A xs.length cap) ∧ w.drew.cell? ⟨bc, 2, none⟩ = some (.slice F lv.length fcap) ∧ w.drew.cell? ⟨bc, 3, none⟩ = some (.slice G tp.length gcap) ∧ w.drew.cell? ⟨bm, 0, none⟩ = some (.slice (some ⟨rb, ro, none⟩) mn mc) ∧ w.drew.cell? ⟨rb, ro + i, none⟩ = some (.slice A' zs.length c')) ∧ Below w.heap.size w w.drew from ⟨HC.out.1, Below.drew (Below.refl _ _)⟩)
  refine gTake 0 (v := ?_) rfl (by kernel_rfl) (by kernel_rfl) (by kernel_rfl) (fun _ _ _ h => h) (by kernel_rfl) ?_ hS0 ?_
  rotate_left
  · (intro W hW; have q0 := hW.1.1; have q1 := hW.1.2.1; have q2 := hW.1.2.2.1; have q3 := hW.1.2.2.2.1; have q4 := hW.1.2.2.2.2.1; have q5 := hW.1.2.2.2.2.2; clear hW; go_simp; try with_reducible rfl)
  refine gTake 1 (v := ?_) rfl (by kernel_rfl) (by kernel_rfl) (by kernel_rfl) (fun _ _ _ h => h) (by kernel_rfl) ?_ hS0 ?_
  rotate_left
  · (intro W hW; have q0 := hW.1.1; have q1 := hW.1.2.1; have q2 := hW.1.2.2.1; have q3 := hW.1.2.2.2.1; have q4 := hW.1.2.2.2.2.1; have q5 := hW.1.2.2.2.2.2; clear hW; go_simp; try with_reducible rfl)
  refine gTake 2 (v := ?_) rfl (by kernel_rfl) (by kernel_rfl) (by kernel_rfl) (fun _ _ _ h => h) (by kernel_rfl) ?_ hS0 ?_
  rotate_left
  · (intro W hW; clear hW; go_simp; try with_reducible rfl)
  refine gTake 3 (v := ?_) rfl (by kernel_rfl) (by kernel_rfl) (by kernel_rfl) (fun _ _ _ h => h) (by kernel_rfl) ?_ hS0 ?_
  rotate_left
  · (intro W hW; clear hW; go_simp; try with_reducible rfl)
  refine gTake 4 (v := ?_) rfl (by kernel_rfl) (by kernel_rfl) (by kernel_rfl) (fun _ _ _ h => h) (by kernel_rfl) ?_ hS0 ?_
  rotate_left
  · (intro W hW; have q0 := hW.1.1; have q1 := hW.1.2.1; have q2 := hW.1.2.2.1; have q3 := hW.1.2.2.2.1; have q4 := hW.1.2.2.2.2.1; have q5 := hW.1.2.2.2.2.2; clear hW; go_simp; try with_reducible rfl)
  refine gOne 5 rfl (by kernel_rfl) (by kernel_rfl) (fun K hK => ?_)
  go_simp
  go_at_call 71
  (with_reducible refine (draughtAlong_any J A cap xs _ _ _ lv tp zs _ (HR.out.below hS0.2) (HV.out.below hS0.2) (HT.out.below hS0.2) HOK.out.1 HOK.out.2.1 HOK.out.2.2 (HZ.out.below hS0.2) HZL.out HST.out).mono ?_)
  rintro e w2 ⟨rfl, hd2⟩
  try go_simp
  have hS1 := (show (w2.cell? ⟨bc, 0, none⟩ = some (.int .i64 J) ∧ w2.cell? ⟨bc, 1, none⟩ = some (.slice A xs.length cap) ∧ w2.cell? ⟨bc, 2, none⟩ = some (.slice F lv.length fcap) ∧ w2.cell? ⟨bc, 3, none⟩ = some (.slice G tp.length gcap) ∧ w2.cell? ⟨bm, 0, none⟩ = some (.slice (some ⟨rb, ro, none⟩) mn mc) ∧ w2.cell? ⟨rb, ro + i, none⟩ = some (.slice A' zs.length c')) ∧ Below w.heap.size w w2 from ⟨⟨cellK1 hS0.1.1 hd2, cellK1 hS0.1.2.1 hd2, cellK1 hS0.1.2.2.1 hd2, cellK1 hS0.1.2.2.2.1 hd2, cellK1 hS0.1.2.2.2.2.1 hd2, cellK1 hS0.1.2.2.2.2.2 hd2⟩, hS0.2.trans (hd2.mono hS0.2.size)⟩)
  refine hK _ _ hS1 ?_
  clear hK K
  refine gOne 6 rfl (by kernel_rfl) (by kernel_rfl) (fun K hK => ?_)
  go_simp
  go_at_call 89
  (with_reducible refine (absolute_any _ _ (by omega) (by omega)).mono ?_)
  rintro e w3 ⟨rfl, rfl⟩
  try go_simp
  have hS2 := (show (w2.cell? ⟨bc, 0, none⟩ = some (.int .i64 J) ∧ w2.cell? ⟨bc, 1, none⟩ = some (.slice A xs.length cap) ∧ w2.cell? ⟨bc, 2, none⟩ = some (.slice F lv.length fcap) ∧ w2.cell? ⟨bc, 3, none⟩ = some (.slice G tp.length gcap) ∧ w2.cell? ⟨bm, 0, none⟩ = some (.slice (some ⟨rb, ro, none⟩) mn mc) ∧ w2.cell? ⟨rb, ro + i, none⟩ = some (.slice A' zs.length c')) ∧ Below w.heap.size w w2 from hS1)
  refine hK _ _ hS2 ?_
  clear hK K
  refine gTake 7 (v := ?_) rfl (by kernel_rfl) (by kernel_rfl) (by kernel_rfl) (fun _ _ _ h => h) (by kernel_rfl) ?_ hS2 ?_
  rotate_left
  · (intro W hW; clear hW; go_simp; try with_reducible rfl)
  refine wpAnyH_done (by kernel_rfl) ?_ _
  go_simp
  go_wp2
  go_ret
  exact ⟨rfl, hS2.2⟩
set_option maxHeartbeats 1000000 in
set_option maxRecDepth 100000 in
theorem fgrMesh (bc bm : Nat) (f : Nat → Int) (n : Nat) (w : World) (hn : n ≤ 1048576)
    (hf : ∀ (k : Nat) (w1 : World), k < n → Below w.heap.size w w1 → Calls Try.prog 88 #[.int .i64 (k : Int), .pointer (some ⟨bc, 0, none⟩), .pointer (some ⟨bm, 0, none⟩)] w1 fun e w2 => e = .returned (.int .i64 (f k)) ∧ Below w1.heap.size w1 w2) :
    Calls Try.prog 85 #[.int .i64 (n : Int), .func (.func 88) #[] #[.pointer (some ⟨bc, 0, none⟩), .pointer (some ⟨bm, 0, none⟩)]] w fun e w' => e = .returned (.tuple #[.int .i64 (fgB f n), .int .i64 (fgM f n), .int .i64 (fgC n)]) ∧ Below w.heap.size w w' := by
  have HF := Lib.hid hf
  clear hf
  have HZ := Lib.hid (show fgB f 0 = 0 ∧ fgM f 0 = 0 ∧ fgC 0 = 3 from ⟨rfl, rfl, rfl⟩)
  go_enter Try.func85, Try.ntmps85
  go_wp2
  go_loopw [7, 8, 9, 13] (fun b m c i wr => ∃ k : Nat, k ≤ n ∧ i = .int .i64 k ∧ b = .int .i64 (fgB f k) ∧ m = .int .i64 (fgM f k) ∧ c = .int .i64 (fgC k) ∧ Below w.heap.size w wr) (fun b m c i wr => n - (intOf i).toNat)
  case atStart => exact ⟨0, by omega, rfl, by rw [HZ.out.1], by rw [HZ.out.2.1], by rw [HZ.out.2.2], Below.refl _ _⟩
  case round =>
    obtain ⟨k, hk, rfl, rfl, rfl, rfl, hbel⟩ := hrel
    by_cases hlt : k < n
    · have HX := Lib.hid (HF.out k wr hlt hbel)
      have HBL := Lib.hid hbel
      have hlI : (k : Int) < (n : Int) := by omega
      clear hbel
      by_cases hk0 : k = 0
      · subst hk0
        have HY := Lib.hid (fg_yes (f := f) (k := 0) (Or.inl rfl))
        rw [HZ.out.1, HZ.out.2.1, HZ.out.2.2]
        rw [show ((0 : Nat) : Int) = 0 from rfl] at HX
        generalize f 0 = z at *
        go_wp2_with fail
        (with_reducible refine (HX.out).mono ?_)
        rintro e w2 ⟨rfl, hd⟩
        have HB2 := Lib.hid (HBL.out.trans (hd.mono HBL.out.size))
        clear hd
        go_wp2
        go_roundw
        case rel => exact ⟨1, by omega, by first | rfl | go_num, by rw [HY.out.1]; rfl, by rw [HY.out.2.1], by rw [HY.out.2.2], HB2.out⟩
        case measure => simp [intOf]; omega
      · have HC0 := Lib.hid (show fgC k = 0 by unfold fgC; rw [if_neg hk0])
        by_cases hc : fgM f k < f k
        · have HY := Lib.hid (fg_yes (f := f) (k := k) (Or.inr hc))
          rw [HC0.out]
          generalize f k = z at *
          generalize hmm : fgM f k = m at *
          generalize hbb : fgB f k = b at *
          go_wp2_with fail
          (with_reducible refine (HX.out).mono ?_)
          rintro e w2 ⟨rfl, hd⟩
          have HB2 := Lib.hid (HBL.out.trans (hd.mono HBL.out.size))
          clear hd
          go_wp2
          go_roundw
          case rel => exact ⟨k + 1, by omega, by go_num, by rw [HY.out.1], by rw [HY.out.2.1], by rw [HY.out.2.2], HB2.out⟩
          case measure => simp [intOf]; omega
        · have HY := Lib.hid (fg_no (f := f) hk0 hc)
          rw [HC0.out]
          generalize f k = z at *
          generalize hmm : fgM f k = m at *
          generalize hbb : fgB f k = b at *
          have hcd : decide (m < z) = false := decide_eq_false hc
          go_wp2_with fail
          (with_reducible refine (HX.out).mono ?_)
          rintro e w2 ⟨rfl, hd⟩
          have HB2 := Lib.hid (HBL.out.trans (hd.mono HBL.out.size))
          clear hd
          go_wp2
          go_roundw
          case rel => exact ⟨k + 1, by omega, by go_num, by rw [HY.out.1], by rw [HY.out.2.1], by rw [HY.out.2.2, HC0.out], HB2.out⟩
          case measure => simp [intOf]; omega
    · obtain rfl : k = n := by omega
      have HBL := Lib.hid hbel
      clear hbel
      generalize hb : fgB f k = b at *
      generalize hm : fgM f k = m at *
      generalize hc : fgC k = c at *
      go_wp2
      go_ret3
      exact ⟨ret_t3 hb.symm hm.symm hc.symm, HBL.out⟩
set_option maxHeartbeats 4000000 in
set_option maxRecDepth 100000 in
theorem iStrongestMesh_any (J : Int) (A : Option Addr) (cap : Nat) (xs : List Aw) (V : Value) (lv : List Int) (T : Value) (tp : List Int) (w : World) (hr : AwR w A xs) (hs : ∀ a ∈ xs, a.s.size ≤ maxLen) (hl : xs.length ≤ 1048576) (hv : Row .i64 w V lv) (hvl : lv.length ≤ 1048576) (ht : Row .i64 w T tp) (htl : tp.length ≤ 1048576) :
    Calls Try.prog 40 #[.agg #[.int .i64 J, .slice A xs.length cap], V, T] w fun e w' => e = .returned (.tuple #[.int .i64 (smA J xs lv tp), .int .i64 (smM J xs lv tp), .int .i64 (smC J xs lv tp)]) ∧ Below w.heap.size w w' := by
  obtain ⟨F, fcap, rfl⟩ := hv.form
  obtain ⟨G, gcap, rfl⟩ := ht.form
  have HB0 := Lib.hid (below_box w (.cells #[.int .i64 J, .slice A xs.length cap] 36))
  have HR := Lib.hid (hr.below HB0.out)
  have HV := Lib.hid (hv.below HB0.out)
  have HT := Lib.hid (ht.below HB0.out)
  have HA := Lib.hid (show (w.alloc (.cells #[.int .i64 J, .slice A xs.length cap] 36)).cell? ⟨w.heap.size, 0, none⟩ = some (.int .i64 J) ∧ (w.alloc (.cells #[.int .i64 J, .slice A xs.length cap] 36)).cell? ⟨w.heap.size, 1, none⟩ = some (.slice A xs.length cap) from ⟨by simp, by simp⟩)
  have HS := Lib.hid hs
  clear hr hv hs ht
  by_cases hc : askC J xs lv tp = 0
  · have HOK := Lib.hid (askC_ok hc)
    have HDB := Lib.hid (fun j => draR_bd (xs := xs) HOK.out.2.1 HOK.out.2.2 j)
    have h24 := (mineOk_iff.1 HOK.out.1).2.2
    have hml : (msh J xs).length ≤ 24 := Nat.le_trans (mshT_len _ _ _) h24
    have HMM := Lib.hid (show msR J xs = msh J xs by unfold msR msh; rw [HOK.out.1]; rfl)
    have HPB := Lib.hid (show paB J xs = 0 by unfold paB; rw [HOK.out.1]; rfl)
    have HE := Lib.hid (show smA J xs lv tp = fgB (smF J xs lv tp) (msh J xs).length ∧ smM J xs lv tp = fgM (smF J xs lv tp) (msh J xs).length ∧ smC J xs lv tp = fgC (msh J xs).length by simp [smA, smM, smC, hc])
    have HFB := Lib.hid (fun i (h : i < (msh J xs).length) => smF_bd (lv := lv) (tp := tp) HOK.out.1 HDB.out h)
    go_enter Try.func40, Try.ntmps40
    go_wp2_with fail
    (with_reducible refine (climateOf_ok J A cap xs _ _ lv tp (w.alloc (.cells #[.int .i64 J, .slice A xs.length cap] 36)) HR.out HS.out hl HV.out hvl HT.out htl hc).mono ?_)
    rintro e w1 ⟨rfl, hd1⟩
    have HB1 := Lib.hid (HB0.out.trans (hd1.mono HB0.out.size))
    have hm0 := cell_keep HA.out.1 hd1
    have hm1 := cell_keep HA.out.2 hd1
    have hw1 : w.heap.size < w1.heap.size := World.block_lt_of_cell? _ _ hm0
    have hwn : ¬ (w.heap.size = w1.heap.size) := Nat.ne_of_lt hw1
    have HR1 := Lib.hid (HR.out.below hd1)
    have HV1 := Lib.hid (HV.out.below hd1)
    have HT1 := Lib.hid (HT.out.below hd1)
    clear hd1
    have hBC := below_box w1 (.cells #[.int .i64 J, .slice A xs.length cap, .slice F lv.length fcap, .slice G tp.length gcap] 74)
    have HR2 := Lib.hid (HR1.out.below hBC)
    have HV2 := Lib.hid (HV1.out.below hBC)
    have HT2 := Lib.hid (HT1.out.below hBC)
    have HB2 := Lib.hid (HB1.out.trans (hBC.mono HB1.out.size))
    have k0 : (w1.alloc (.cells #[.int .i64 J, .slice A xs.length cap, .slice F lv.length fcap, .slice G tp.length gcap] 74)).cell? ⟨w1.heap.size, 0, none⟩ = some (.int .i64 J) := by simp
    have k1 : (w1.alloc (.cells #[.int .i64 J, .slice A xs.length cap, .slice F lv.length fcap, .slice G tp.length gcap] 74)).cell? ⟨w1.heap.size, 1, none⟩ = some (.slice A xs.length cap) := by simp
    have k2 : (w1.alloc (.cells #[.int .i64 J, .slice A xs.length cap, .slice F lv.length fcap, .slice G tp.length gcap] 74)).cell? ⟨w1.heap.size, 2, none⟩ = some (.slice F lv.length fcap) := by simp
    have k3 : (w1.alloc (.cells #[.int .i64 J, .slice A xs.length cap, .slice F lv.length fcap, .slice G tp.length gcap] 74)).cell? ⟨w1.heap.size, 3, none⟩ = some (.slice G tp.length gcap) := by simp
    clear hBC
    have HK2 := Lib.hid (And.intro k0 (And.intro k1 (And.intro k2 k3)))
    clear k0 k1 k2 k3
    go_wp2_with fail
    (with_reducible refine (iMeshesOf_any J A cap xs _ HR2.out HS.out hl).mono ?_)
    rintro e w3 ⟨um, rfl, hom, hd3⟩
    rw [HPB.out]
    rw [HMM.out] at hom
    obtain ⟨mA, mc, rfl⟩ := hom.form
    have HM3 := Lib.hid hom
    have HB3 := Lib.hid (HB2.out.trans (hd3.mono HB2.out.size))
    have HD4 := Lib.hid (fun (o : Obj) => show Below (w1.alloc (.cells #[.int .i64 J, .slice A xs.length cap, .slice F lv.length fcap, .slice G tp.length gcap] 74)).heap.size (w1.alloc (.cells #[.int .i64 J, .slice A xs.length cap, .slice F lv.length fcap, .slice G tp.length gcap] 74)) (w3.alloc o) from hd3.alloc hd3.size o)
    have HM4 := Lib.hid (fun (o : Obj) => HM3.out.below (below_box w3 o))
    have HB4 := Lib.hid (fun (o : Obj) => show Below w.heap.size w (w3.alloc o) from HB3.out.alloc HB3.out.size o)
    have hm3 : (w3.alloc (.cells #[.slice mA (msh J xs).length mc] 53)).cell? ⟨w3.heap.size, 0, none⟩ = some (.slice mA (msh J xs).length mc) := by simp
    have HM3c := Lib.hid hm3
    have hz3 : w1.heap.size < w3.heap.size := Nat.lt_of_lt_of_le (by simp) hd3.size
    have hz5 : ¬ (w1.heap.size = w3.heap.size) := by omega
    have HCL := Lib.hid (show ∀ (i : Nat) (W : World), i < (msh J xs).length → Below (w3.alloc (.cells #[.slice mA (msh J xs).length mc] 53)).heap.size (w3.alloc (.cells #[.slice mA (msh J xs).length mc] 53)) W → Calls Try.prog 88 #[.int .i64 (i : Int), .pointer (some ⟨w1.heap.size, 0, none⟩), .pointer (some ⟨w3.heap.size, 0, none⟩)] W fun e w2 => e = .returned (.int .i64 (smF J xs lv tp i)) ∧ Below W.heap.size W w2 from fun i W hi hb => by
      obtain ⟨rb, ro, A', c', hea, hcl, hrw⟩ := ((HM4.out (.cells #[.slice mA (msh J xs).length mc] 53)).below hb).rows.row hi
      obtain ⟨b1, b3, b4⟩ := HFB.out i hi
      have hge : (msh J xs).getD i [] = (msh J xs)[i] := by simp [List.getD, hi]
      have hbw := (HD4.out (.cells #[.slice mA (msh J xs).length mc] 53)).trans (hb.mono (HD4.out (.cells #[.slice mA (msh J xs).length mc] 53)).size)
      rw [hge] at b1 b3 b4
      unfold smF
      rw [hge]
      exact smClos_any w1.heap.size w3.heap.size rb ro (msh J xs).length mc i c' A' J A F G cap fcap gcap xs lv tp (msh J xs)[i] W ⟨⟨cellK1 HK2.out.1 hbw, cellK1 HK2.out.2.1 hbw, cellK1 HK2.out.2.2.1 hbw, cellK1 HK2.out.2.2.2 hbw, (by rw [← hea]; exact cellK1 HM3c.out hb), hcl⟩, Below.refl _ _⟩ hi (by omega) (HR2.out.below hbw) (RowW.of_row (HV2.out.below hbw)) (RowW.of_row (HT2.out.below hbw)) HOK.out (row_ofW hrw (mshT_pos xs.length _ (List.getElem_mem hi))) (by omega) b4 b1)
    clear hom hd3
    go_wp2_with fail
    (with_reducible refine (fgrMesh w1.heap.size w3.heap.size (smF J xs lv tp) (msh J xs).length _ (by omega) HCL.out).mono ?_)
    rintro e w5 ⟨rfl, hd5⟩
    have HB5 := Lib.hid ((HB4.out (.cells #[.slice mA (msh J xs).length mc] 53)).trans (hd5.mono (HB4.out (.cells #[.slice mA (msh J xs).length mc] 53)).size))
    clear hd5
    go_wp2
    go_ret3
    exact ⟨ret_t3 HE.out.1.symm HE.out.2.1.symm HE.out.2.2.symm, HB5.out⟩
  · have HE := Lib.hid (show smA J xs lv tp = 0 ∧ smM J xs lv tp = 0 ∧ smC J xs lv tp = askC J xs lv tp by simp [smA, smM, smC, hc])
    have hz1 : (askC J xs lv tp != 0) = true := by simp [hc]
    have hz2 : (askC J xs lv tp == 0) = false := by simp [hc]
    generalize hzz : askC J xs lv tp = z at *
    go_enter Try.func40, Try.ntmps40
    go_wp2_with fail
    (with_reducible refine (climateOf_bad J A cap xs _ _ lv tp (w.alloc (.cells #[.int .i64 J, .slice A xs.length cap] 36)) HR.out HS.out hl HV.out hvl HT.out htl (by rw [hzz]; exact hc)).mono ?_)
    rw [hzz]
    rintro e w1 ⟨rfl, hd1⟩
    have HB1 := Lib.hid (HB0.out.trans (hd1.mono HB0.out.size))
    clear hd1
    go_wp2
    go_ret3
    exact ⟨ret_t3 HE.out.1.symm HE.out.2.1.symm HE.out.2.2.symm, HB1.out.alloc HB1.out.size _⟩
end Go.Proofs.Ytjooebiiceillaa
