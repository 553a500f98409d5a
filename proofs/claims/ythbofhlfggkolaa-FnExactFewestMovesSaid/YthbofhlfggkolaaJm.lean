/-
  Contracts of chapter 10: locks as sets of doors; states that keep them, and how many; the model's and the program's. Conditions: those that each theorem states.
-/
import Derived.Test.YthbofhlfggkolaaJk
import Derived.Test.YthbofhlfggkolaaRh
namespace Go.Proofs.Ythbofhlfggkolaa
open Go.RowKit
set_option linter.unusedVariables false
set_option linter.unusedSimpArgs false

theorem msV_snoc (ms : List Nat) (q : Nat) : msV (ms ++ [q]) = msV ms ++ [.int .u8 (q : Int)] := by simp [msV]
theorem info_ds : (Try.prog.info? 97).map (fun i => (i.zero, i.size, i.bytes)) = some (some (.int .u8 0), 1, 1) := by kernel_rfl
theorem grown_setM (w : World) (p : Addr) (u : Value) : w.grownBy (w.setCell p u) (some p.block) :=
  ⟨rfl, rfl, rfl, by simp, fun k _ hk => heap_setCell_other w p k u (fun e => hk (by simp [e]))⟩
theorem cel_alloc {w : World} (c : Obj) {a : Addr} {u : Value} (h : w.cell? a = some u) : (w.drew.alloc c).cell? a = some u := cellK h ((Below.drew (Below.refl _ w)).alloc (Nat.le_refl _) c)
theorem frz_alloc (w : World) (c : Obj) {a : Addr} (h : a.block < w.heap.size) : (w.drew.alloc c).frozen? a = w.frozen? a := (Below.alloc (Below.refl w.heap.size w.drew) (Nat.le_refl _) c).frozen h
theorem ilLow {w : World} {B n : Nat} {v : Value} {cs : List Value} (h : w.ownsRow B 97 1 v n cs) {p : Addr} (hp : p.block < B) (u : Value) : (w.setCell p u).ownsRow B 97 1 v n cs := by
  refine h.kept (grown_setM w p u) ?_
  cases e : v.ownBlock with
  | none => exact Or.inl rfl
  | some q =>
    refine Or.inr fun e2 => ?_
    have := (World.ownsRow.lt h q e).1
    injection e2 with e2
    omega
theorem ilMono {w : World} {B B' n : Nat} {v : Value} {cs : List Value} (h : w.ownsRow B 97 1 v n cs) (hb : B' ≤ B) : w.ownsRow B' 97 1 v n cs := ⟨h.1, h.2.imp id fun ⟨g, cap, cur, e, hg, r⟩ => ⟨g, cap, cur, e, Nat.le_trans hb hg, r⟩⟩
theorem map_take_snoc {xs : List (List Int)} {k : Nat} (h : k < xs.length) : (xs.take (k + 1)).map lkM = (xs.take k).map lkM ++ [lkM xs[k]] := by
  rw [List.take_succ_eq_append_getElem h, List.map_append]; rfl
set_option maxHeartbeats 4000000 in
set_option maxRecDepth 100000 in
theorem interlockOf_any (n : Int) (A : Option Addr) (cap : Nat) (xs : List (List Int)) (w : World) (hr : RowsR w A xs) (hok : lksOk n xs = true) :
    Calls Try.prog 70 #[.int .i64 n, .slice A xs.length cap] w fun e w' => ∃ v, e = .returned (.agg #[.int .i64 n, v]) ∧ w'.ownsRow w.heap.size 97 1 v xs.length (msV (xs.map lkM)) ∧ Below w.heap.size w w' := by
  obtain ⟨i0, hi, hz0, hz1, hz2⟩ := info_parts info_ds
  have hn8 := (lksOk_iff.1 hok).1
  have h12 := (lksOk_iff.1 hok).2.1
  have HR := Lib.hid hr
  have HOK := Lib.hid hok
  clear hr hok
  go_enter Try.func70, Try.ntmps70
  go_wp2
  go_loopw [12] (fun i wr => ∃ (k : Nat) (v : Value), k ≤ xs.length ∧ i = .int .i64 k ∧ Hid ((wr.cell? ⟨w.heap.size + 1, 0, none⟩ = some (.int .i64 n) ∧ wr.cell? ⟨w.heap.size + 1, 1, none⟩ = some v) ∧ (wr.frozen? ⟨w.heap.size + 1, 1, none⟩ = false ∧ wr.frozen? ⟨w.heap.size, 0, none⟩ = false ∧ wr.frozen? ⟨w.heap.size, 1, none⟩ = false) ∧ (wr.cell? ⟨w.heap.size, 0, none⟩ = some (.int .i64 0) ∧ wr.cell? ⟨w.heap.size, 1, none⟩ = some (.slice none 0 0))) ∧ Hid (wr.ownsRow (w.heap.size + 2) 97 1 v k (msV ((xs.take k).map lkM))) ∧ Hid (w.heap.size + 2 ≤ wr.heap.size ∧ Below w.heap.size w wr)) (fun i wr => xs.length - (intOf i).toNat)
  case atStart =>
    refine ⟨0, .slice none 0 0, by omega, rfl, Lib.hid ⟨⟨by simp, by simp⟩, ⟨by simp, by simp, by simp⟩, by simp, by simp⟩, Lib.hid (World.ownsRow_nil _ _ _ _), Lib.hid ⟨by simp, ?_⟩⟩
    exact (by repeat (first | (with_reducible exact (Below.refl _ _)) | (with_reducible refine below_drewN' ?_ _) | (with_reducible refine Below.drew ?_) | (with_reducible refine Below.alloc ?_ (by first | omega | (simp; done) | (simp; omega)) _) | (with_reducible refine Below.setCell ?_ (by first | omega | (simp; done) | (simp; omega)) _)))
  case round =>
    obtain ⟨k, v, hk, rfl, HC, HO, HB⟩ := hrel
    obtain ⟨wo, rfl⟩ : ∃ wo : World, wo = wr := ⟨_, rfl⟩
    by_cases hlt : k < xs.length
    · obtain ⟨bl, off, Ax, cx, rfl, lX, hrw⟩ := (HR.out.below HB.out.2).row hlt
      obtain ⟨a, b, he, ha, hb⟩ := lks_each HOK.out hlt
      have HMS := Lib.hid (map_take_snoc hlt)
      have HLK := Lib.hid (show lkM xs[k] = (0 ^^^ 2 ^ a.toNat) ^^^ 2 ^ b.toNat by rw [he]; rfl)
      rw [he] at lX hrw
      obtain ⟨an, rfl⟩ : ∃ an : Nat, a = an := ⟨a.toNat, by omega⟩
      obtain ⟨bn, rfl⟩ : ∃ bn : Nat, b = bn := ⟨b.toNat, by omega⟩
      have hex : xs[k] = [(an : Int), (bn : Int)] := he
      clear he
      simp only [Int.toNat_natCast] at HLK
      obtain ⟨gx, ox, rfl, -, x0, x1⟩ := row_two hrw
      simp only [List.length_cons, List.length_nil, Nat.zero_add, Nat.reduceAdd] at lX
      have HXW0 := Lib.hid (show ∀ W, Below w.heap.size w W → W.cell? ⟨gx, ox, none⟩ = some (.int .i64 (an : Int)) ∧ W.cell? ⟨gx, ox + 1, none⟩ = some (.int .i64 (bn : Int)) from fun W h => by
        obtain ⟨b2, o2, A2, c2, e2, l2, r2⟩ := HR.out.row hlt
        rw [hex] at r2
        obtain ⟨g3, o3, rfl, -, y0, y1⟩ := row_two r2
        injection e2 with e2
        injection e2 with e21 e22
        subst e21
        subst e22
        have l3 := cellK l2 HB.out.2
        rw [lX] at l3
        injection l3 with l3
        injection l3 with l31 l32
        injection l31 with l31
        injection l31 with l311 l312
        subst l311
        subst l312
        exact ⟨cellK y0 h, cellK y1 h⟩)
      have hal : an < 8 := by omega
      have hbl : bn < 8 := by omega
      have hm := dec_mask bn hbl an (by omega)
      have HM1 := Lib.hid (fun W => show Calls Try.prog 92 #[.int .u8 0, .int .i64 (an : Int)] W fun e w' => e = .returned (.int .u8 ((0 ^^^ 2 ^ an : Nat) : Int)) ∧ W = w' from moved_any 0 an W (by omega) hal)
      have HM2 := Lib.hid (fun W => moved_any (0 ^^^ 2 ^ an) bn W hm.2 hbl)
      generalize (0 ^^^ 2 ^ an) = m1 at *
      generalize (m1 ^^^ 2 ^ bn) = m2 at *
      obtain ⟨⟨d0, d1⟩, ⟨f1, f2, f3⟩, r0, r1⟩ := HC.out
      have hgx : gx < wo.heap.size := World.block_lt_of_cell? _ _ x0
      have hp1 : w.heap.size + 1 < wo.heap.size := World.block_lt_of_cell? _ _ d0
      have HC2 := Lib.hid (And.intro d1 f1)
      clear hrw hex x0 x1
      have HXW := HXW0
      go_wp2_with fail
      refine wp_region_held (S := fun w' => (w'.cell? ⟨gx, ox, none⟩ = some (.int .i64 (an : Int)) ∧ w'.cell? ⟨gx, ox + 1, none⟩ = some (.int .i64 (bn : Int))) ∧ Below w.heap.size w w') (by kernel_rfl) ?_
      try (change wpAnyH _ _ _ _ _ _ _ _ (World.drew _))
      have hS0 := (show (wo.drew.cell? ⟨gx, ox, none⟩ = some (.int .i64 (an : Int)) ∧ wo.drew.cell? ⟨gx, ox + 1, none⟩ = some (.int .i64 (bn : Int))) ∧ Below w.heap.size w wo.drew from ⟨HXW.out _ (Below.drew HB.out.2), Below.drew HB.out.2⟩)
      refine gTake 0 (v := ?_) rfl (by kernel_rfl) (by kernel_rfl) (by kernel_rfl) (fun _ _ _ h => h) (by kernel_rfl) ?_ hS0 ?_
      rotate_left
      · (intro W hW; clear hW; go_simp; try with_reducible rfl)
      refine gTake 2 (v := ?_) rfl (by kernel_rfl) (by kernel_rfl) (by kernel_rfl) (fun _ _ _ h => h) (by kernel_rfl) ?_ hS0 ?_
      rotate_left
      · (intro W hW; clear hW; go_simp; try with_reducible rfl)
      refine gTake 3 (v := ?_) rfl (by kernel_rfl) (by kernel_rfl) (by kernel_rfl) (fun _ _ _ h => h) (by kernel_rfl) ?_ hS0 ?_
      rotate_left
      · (intro W hW; clear hW; go_simp; try with_reducible rfl)
      refine gTake 4 (v := ?_) rfl (by kernel_rfl) (by kernel_rfl) (by kernel_rfl) (fun _ _ _ h => h) (by kernel_rfl) ?_ hS0 ?_
      rotate_left
      · (intro W hW; have q0 := hW.1.1; have q1 := hW.1.2; clear hW; go_simp; try with_reducible rfl)
      refine gTake 6 (v := ?_) rfl (by kernel_rfl) (by kernel_rfl) (by kernel_rfl) (fun _ _ _ h => h) (by kernel_rfl) ?_ hS0 ?_
      rotate_left
      · (intro W hW; clear hW; go_simp; try with_reducible rfl)
      refine gTake 7 (v := ?_) rfl (by kernel_rfl) (by kernel_rfl) (by kernel_rfl) (fun _ _ _ h => h) (by kernel_rfl) ?_ hS0 ?_
      rotate_left
      · (intro W hW; clear hW; go_simp; try with_reducible rfl)
      refine gTake 8 (v := ?_) rfl (by kernel_rfl) (by kernel_rfl) (by kernel_rfl) (fun _ _ _ h => h) (by kernel_rfl) ?_ hS0 ?_
      rotate_left
      · (intro W hW; have q0 := hW.1.1; have q1 := hW.1.2; clear hW; go_simp; try with_reducible rfl)
      refine gTwo 1 5 rfl rfl (by kernel_rfl) (by kernel_rfl) (by kernel_rfl) (fun K hK => ?_) (fun K hK => ?_)
      · go_simp
        skip
        have hS1 := hS0
        refine hK _ _ hS1 ?_
        clear hK K
        refine gOne 5 rfl (by kernel_rfl) (by kernel_rfl) (fun K hK => ?_)
        go_simp
        go_at_call 92
        (with_reducible refine (HM1.out _).mono ?_)
        rintro e w' ⟨rfl, rfl⟩
        try go_simp
        have hS2 := hS1
        refine hK _ _ hS2 ?_
        clear hK K
        refine gOne 9 rfl (by kernel_rfl) (by kernel_rfl) (fun K hK => ?_)
        go_simp
        go_at_call 92
        (with_reducible refine (HM2.out _).mono ?_)
        rintro e w' ⟨rfl, rfl⟩
        try go_simp
        have hS3 := hS2
        refine hK _ _ hS3 ?_
        clear hK K
        refine gOne 10 rfl (by kernel_rfl) (by kernel_rfl) (fun K hK => ?_)
        go_simp
        skip
        have hS4 := (show ((wo.drew.alloc (.cells #[.int .u8 (m2 : Int)] 97)).cell? ⟨gx, ox, none⟩ = some (.int .i64 (an : Int)) ∧ (wo.drew.alloc (.cells #[.int .u8 (m2 : Int)] 97)).cell? ⟨gx, ox + 1, none⟩ = some (.int .i64 (bn : Int))) ∧ Below w.heap.size w (wo.drew.alloc (.cells #[.int .u8 (m2 : Int)] 97)) from ⟨HXW.out _ (hS3.2.alloc hS3.2.size _), hS3.2.alloc hS3.2.size _⟩)
        refine hK _ _ hS4 ?_
        clear hK K
        refine gOne 11 rfl (by kernel_rfl) (by kernel_rfl) (fun K hK => ?_)
        refine gAppendOwn (.tmp 17) (.tmp 26) 92 rfl 97 i0 (.int .u8 0) 1 1 Try.underlying92 hi hz0 hz1 hz2 rfl (by decide) (w.heap.size + 2) v k (msV ((xs.take k).map lkM)) (by simp [Act.eval, Act.put]) (HO.out.alloc (.cells #[.int .u8 (m2 : Int)] 97)) ⟨wo.heap.size, 0, none⟩ 1 1 [.int .u8 (m2 : Int)] (by simp [Act.eval, Act.put]) rfl (fun j u hj => by match j, hj with | 0, hj => (simp at hj; subst hj; simp [Addr.add]) | j + 1, hj => (simp at hj)) (by simp [Value.oneCell']) (by unfold maxLen; omega) (by omega) (by have := HB.out.1; simp; omega) ?_
        intro v' w3 ho3 hg3
        have hgl : ∀ j, v.ownBlock = some j → w.heap.size + 2 ≤ j := fun j hj => (HO.out.lt j hj).1
        have hfar : ∀ b, b < w.heap.size + 2 → some b ≠ v.ownBlock := fun b hb h => by have := hgl b h.symm; omega
        obtain ⟨g4, cap4, rfl, -, -⟩ := ho3.form (by omega)
        have hb3 : Below w.heap.size w w3 := ((HB.out.2.drew).alloc (by have := HB.out.1; simp; omega) (.cells #[.int .u8 (m2 : Int)] 97)).grown hg3 (by have := HB.out.1; simp; omega) (fun j hj => by have := hgl j hj; omega)
        have HB3 := Lib.hid hb3
        have e0 : w3.cell? ⟨w.heap.size + 1, 0, none⟩ = some (.int .i64 n) := hg3.cell (cel_alloc _ d0) (hfar _ (by first | (show w.heap.size + 1 < w.heap.size + 2; omega) | (show w.heap.size < w.heap.size + 2; omega)))
        have e1 : w3.cell? ⟨w.heap.size + 1, 1, none⟩ = some v := hg3.cell (cel_alloc _ d1) (hfar _ (by first | (show w.heap.size + 1 < w.heap.size + 2; omega) | (show w.heap.size < w.heap.size + 2; omega)))
        have e2 : w3.cell? ⟨w.heap.size, 0, none⟩ = some (.int .i64 0) := hg3.cell (cel_alloc _ r0) (hfar _ (by first | (show w.heap.size + 1 < w.heap.size + 2; omega) | (show w.heap.size < w.heap.size + 2; omega)))
        have e3 : w3.cell? ⟨w.heap.size, 1, none⟩ = some (.slice none 0 0) := hg3.cell (cel_alloc _ r1) (hfar _ (by first | (show w.heap.size + 1 < w.heap.size + 2; omega) | (show w.heap.size < w.heap.size + 2; omega)))
        have fz : ∀ bb o, bb ≤ w.heap.size + 1 → w3.frozen? ⟨bb, o, none⟩ = wo.frozen? ⟨bb, o, none⟩ := fun bb o h => (hg3.frozen_far ⟨bb, o, none⟩ (Nat.lt_of_lt_of_le (show bb < wo.heap.size by omega) (by simp)) (hfar _ (show bb < w.heap.size + 2 by omega))).trans (frz_alloc wo _ (a := ⟨bb, o, none⟩) (show bb < wo.heap.size by omega))
        have g1 := (fz (w.heap.size + 1) 1 (by omega)).trans f1
        have g2 := (fz w.heap.size 0 (by omega)).trans f2
        have g3 := (fz w.heap.size 1 (by omega)).trans f3
        have HO3 := Lib.hid ho3
        have hs3 : w.heap.size + 2 ≤ w3.heap.size := by have := hg3.size; have := HB.out.1; simp at *; omega
        clear ho3 hg3 fz hb3
        have hS5 := (show (w3.cell? ⟨gx, ox, none⟩ = some (.int .i64 (an : Int)) ∧ w3.cell? ⟨gx, ox + 1, none⟩ = some (.int .i64 (bn : Int))) ∧ Below w.heap.size w w3 from ⟨HXW.out _ HB3.out, HB3.out⟩)
        refine hK _ _ hS5 ?_
        clear hK K
        refine gTake 12 (v := ?_) rfl (by kernel_rfl) (by kernel_rfl) (by kernel_rfl) (fun _ _ _ h => h) (by kernel_rfl) ?_ hS5 ?_
        rotate_left
        · (intro W hW; clear hW; go_simp; try with_reducible rfl)
        refine gOne 13 rfl (by kernel_rfl) (by kernel_rfl) (fun K hK => ?_)
        go_simp
        skip
        have hS6 := (show ((w3.setCell ⟨w.heap.size + 1, 1, none⟩ (.slice (some ⟨g4, 0, none⟩) (k + 1) cap4)).cell? ⟨gx, ox, none⟩ = some (.int .i64 (an : Int)) ∧ (w3.setCell ⟨w.heap.size + 1, 1, none⟩ (.slice (some ⟨g4, 0, none⟩) (k + 1) cap4)).cell? ⟨gx, ox + 1, none⟩ = some (.int .i64 (bn : Int))) ∧ Below w.heap.size w (w3.setCell ⟨w.heap.size + 1, 1, none⟩ (.slice (some ⟨g4, 0, none⟩) (k + 1) cap4)) from ⟨HXW.out _ (HB3.out.setCell (by show w.heap.size ≤ w.heap.size + 1; omega) _), HB3.out.setCell (by show w.heap.size ≤ w.heap.size + 1; omega) _⟩)
        refine hK _ _ hS6 ?_
        clear hK K
        refine wpAnyH_done (by kernel_rfl) ?_ _
        go_simp
        go_wp2
        go_roundw
        case rel =>
          have n01 : (⟨w.heap.size + 1, 1, none⟩ : Addr) ≠ ⟨w.heap.size + 1, 0, none⟩ := by simp
          have n10 : (⟨w.heap.size + 1, 1, none⟩ : Addr) ≠ ⟨w.heap.size, 0, none⟩ := by simp
          have n11 : (⟨w.heap.size + 1, 1, none⟩ : Addr) ≠ ⟨w.heap.size, 1, none⟩ := by simp
          refine ⟨k + 1, .slice (some ⟨g4, 0, none⟩) (k + 1) cap4, by omega, by go_num, Lib.hid ⟨⟨(World.cell?_setCell_other _ _ _ _ n01).trans e0, World.cell?_setCell_same _ _ _ e1⟩, ⟨by rw [World.frozen?_setCell]; exact g1, by rw [World.frozen?_setCell]; exact g2, by rw [World.frozen?_setCell]; exact g3⟩, (World.cell?_setCell_other _ _ _ _ n10).trans e2, (World.cell?_setCell_other _ _ _ _ n11).trans e3⟩, Lib.hid ?_, Lib.hid ⟨by simp; omega, HB3.out.setCell (by show w.heap.size ≤ w.heap.size + 1; omega) _⟩⟩
          rw [HMS.out, HLK.out, msV_snoc]
          exact ilLow HO3.out (p := ⟨w.heap.size + 1, 1, none⟩) (by show w.heap.size + 1 < _; omega) _
        case measure => simp [intOf]; omega
      · go_simp
        go_at_call 92
        (with_reducible refine (HM1.out _).mono ?_)
        rintro e w' ⟨rfl, rfl⟩
        try go_simp
        have hS1 := hS0
        refine hK _ _ hS1 ?_
        clear hK K
        refine gTwo 1 9 rfl rfl (by kernel_rfl) (by kernel_rfl) (by kernel_rfl) (fun K hK => ?_) (fun K hK => ?_)
        · go_simp
          skip
          have hS2 := hS1
          refine hK _ _ hS2 ?_
          clear hK K
          refine gOne 9 rfl (by kernel_rfl) (by kernel_rfl) (fun K hK => ?_)
          go_simp
          go_at_call 92
          (with_reducible refine (HM2.out _).mono ?_)
          rintro e w' ⟨rfl, rfl⟩
          try go_simp
          have hS3 := hS2
          refine hK _ _ hS3 ?_
          clear hK K
          refine gOne 10 rfl (by kernel_rfl) (by kernel_rfl) (fun K hK => ?_)
          go_simp
          skip
          have hS4 := (show ((wo.drew.alloc (.cells #[.int .u8 (m2 : Int)] 97)).cell? ⟨gx, ox, none⟩ = some (.int .i64 (an : Int)) ∧ (wo.drew.alloc (.cells #[.int .u8 (m2 : Int)] 97)).cell? ⟨gx, ox + 1, none⟩ = some (.int .i64 (bn : Int))) ∧ Below w.heap.size w (wo.drew.alloc (.cells #[.int .u8 (m2 : Int)] 97)) from ⟨HXW.out _ (hS3.2.alloc hS3.2.size _), hS3.2.alloc hS3.2.size _⟩)
          refine hK _ _ hS4 ?_
          clear hK K
          refine gOne 11 rfl (by kernel_rfl) (by kernel_rfl) (fun K hK => ?_)
          refine gAppendOwn (.tmp 17) (.tmp 26) 92 rfl 97 i0 (.int .u8 0) 1 1 Try.underlying92 hi hz0 hz1 hz2 rfl (by decide) (w.heap.size + 2) v k (msV ((xs.take k).map lkM)) (by simp [Act.eval, Act.put]) (HO.out.alloc (.cells #[.int .u8 (m2 : Int)] 97)) ⟨wo.heap.size, 0, none⟩ 1 1 [.int .u8 (m2 : Int)] (by simp [Act.eval, Act.put]) rfl (fun j u hj => by match j, hj with | 0, hj => (simp at hj; subst hj; simp [Addr.add]) | j + 1, hj => (simp at hj)) (by simp [Value.oneCell']) (by unfold maxLen; omega) (by omega) (by have := HB.out.1; simp; omega) ?_
          intro v' w3 ho3 hg3
          have hgl : ∀ j, v.ownBlock = some j → w.heap.size + 2 ≤ j := fun j hj => (HO.out.lt j hj).1
          have hfar : ∀ b, b < w.heap.size + 2 → some b ≠ v.ownBlock := fun b hb h => by have := hgl b h.symm; omega
          obtain ⟨g4, cap4, rfl, -, -⟩ := ho3.form (by omega)
          have hb3 : Below w.heap.size w w3 := ((HB.out.2.drew).alloc (by have := HB.out.1; simp; omega) (.cells #[.int .u8 (m2 : Int)] 97)).grown hg3 (by have := HB.out.1; simp; omega) (fun j hj => by have := hgl j hj; omega)
          have HB3 := Lib.hid hb3
          have e0 : w3.cell? ⟨w.heap.size + 1, 0, none⟩ = some (.int .i64 n) := hg3.cell (cel_alloc _ d0) (hfar _ (by first | (show w.heap.size + 1 < w.heap.size + 2; omega) | (show w.heap.size < w.heap.size + 2; omega)))
          have e1 : w3.cell? ⟨w.heap.size + 1, 1, none⟩ = some v := hg3.cell (cel_alloc _ d1) (hfar _ (by first | (show w.heap.size + 1 < w.heap.size + 2; omega) | (show w.heap.size < w.heap.size + 2; omega)))
          have e2 : w3.cell? ⟨w.heap.size, 0, none⟩ = some (.int .i64 0) := hg3.cell (cel_alloc _ r0) (hfar _ (by first | (show w.heap.size + 1 < w.heap.size + 2; omega) | (show w.heap.size < w.heap.size + 2; omega)))
          have e3 : w3.cell? ⟨w.heap.size, 1, none⟩ = some (.slice none 0 0) := hg3.cell (cel_alloc _ r1) (hfar _ (by first | (show w.heap.size + 1 < w.heap.size + 2; omega) | (show w.heap.size < w.heap.size + 2; omega)))
          have fz : ∀ bb o, bb ≤ w.heap.size + 1 → w3.frozen? ⟨bb, o, none⟩ = wo.frozen? ⟨bb, o, none⟩ := fun bb o h => (hg3.frozen_far ⟨bb, o, none⟩ (Nat.lt_of_lt_of_le (show bb < wo.heap.size by omega) (by simp)) (hfar _ (show bb < w.heap.size + 2 by omega))).trans (frz_alloc wo _ (a := ⟨bb, o, none⟩) (show bb < wo.heap.size by omega))
          have g1 := (fz (w.heap.size + 1) 1 (by omega)).trans f1
          have g2 := (fz w.heap.size 0 (by omega)).trans f2
          have g3 := (fz w.heap.size 1 (by omega)).trans f3
          have HO3 := Lib.hid ho3
          have hs3 : w.heap.size + 2 ≤ w3.heap.size := by have := hg3.size; have := HB.out.1; simp at *; omega
          clear ho3 hg3 fz hb3
          have hS5 := (show (w3.cell? ⟨gx, ox, none⟩ = some (.int .i64 (an : Int)) ∧ w3.cell? ⟨gx, ox + 1, none⟩ = some (.int .i64 (bn : Int))) ∧ Below w.heap.size w w3 from ⟨HXW.out _ HB3.out, HB3.out⟩)
          refine hK _ _ hS5 ?_
          clear hK K
          refine gTake 12 (v := ?_) rfl (by kernel_rfl) (by kernel_rfl) (by kernel_rfl) (fun _ _ _ h => h) (by kernel_rfl) ?_ hS5 ?_
          rotate_left
          · (intro W hW; clear hW; go_simp; try with_reducible rfl)
          refine gOne 13 rfl (by kernel_rfl) (by kernel_rfl) (fun K hK => ?_)
          go_simp
          skip
          have hS6 := (show ((w3.setCell ⟨w.heap.size + 1, 1, none⟩ (.slice (some ⟨g4, 0, none⟩) (k + 1) cap4)).cell? ⟨gx, ox, none⟩ = some (.int .i64 (an : Int)) ∧ (w3.setCell ⟨w.heap.size + 1, 1, none⟩ (.slice (some ⟨g4, 0, none⟩) (k + 1) cap4)).cell? ⟨gx, ox + 1, none⟩ = some (.int .i64 (bn : Int))) ∧ Below w.heap.size w (w3.setCell ⟨w.heap.size + 1, 1, none⟩ (.slice (some ⟨g4, 0, none⟩) (k + 1) cap4)) from ⟨HXW.out _ (HB3.out.setCell (by show w.heap.size ≤ w.heap.size + 1; omega) _), HB3.out.setCell (by show w.heap.size ≤ w.heap.size + 1; omega) _⟩)
          refine hK _ _ hS6 ?_
          clear hK K
          refine wpAnyH_done (by kernel_rfl) ?_ _
          go_simp
          go_wp2
          go_roundw
          case rel =>
            have n01 : (⟨w.heap.size + 1, 1, none⟩ : Addr) ≠ ⟨w.heap.size + 1, 0, none⟩ := by simp
            have n10 : (⟨w.heap.size + 1, 1, none⟩ : Addr) ≠ ⟨w.heap.size, 0, none⟩ := by simp
            have n11 : (⟨w.heap.size + 1, 1, none⟩ : Addr) ≠ ⟨w.heap.size, 1, none⟩ := by simp
            refine ⟨k + 1, .slice (some ⟨g4, 0, none⟩) (k + 1) cap4, by omega, by go_num, Lib.hid ⟨⟨(World.cell?_setCell_other _ _ _ _ n01).trans e0, World.cell?_setCell_same _ _ _ e1⟩, ⟨by rw [World.frozen?_setCell]; exact g1, by rw [World.frozen?_setCell]; exact g2, by rw [World.frozen?_setCell]; exact g3⟩, (World.cell?_setCell_other _ _ _ _ n10).trans e2, (World.cell?_setCell_other _ _ _ _ n11).trans e3⟩, Lib.hid ?_, Lib.hid ⟨by simp; omega, HB3.out.setCell (by show w.heap.size ≤ w.heap.size + 1; omega) _⟩⟩
            rw [HMS.out, HLK.out, msV_snoc]
            exact ilLow HO3.out (p := ⟨w.heap.size + 1, 1, none⟩) (by show w.heap.size + 1 < _; omega) _
          case measure => simp [intOf]; omega
        · go_simp
          go_at_call 92
          (with_reducible refine (HM2.out _).mono ?_)
          rintro e w' ⟨rfl, rfl⟩
          try go_simp
          have hS2 := hS1
          refine hK _ _ hS2 ?_
          clear hK K
          refine gTwo 1 10 rfl rfl (by kernel_rfl) (by kernel_rfl) (by kernel_rfl) (fun K hK => ?_) (fun K hK => ?_)
          · go_simp
            skip
            have hS3 := hS2
            refine hK _ _ hS3 ?_
            clear hK K
            refine gOne 10 rfl (by kernel_rfl) (by kernel_rfl) (fun K hK => ?_)
            go_simp
            skip
            have hS4 := (show ((wo.drew.alloc (.cells #[.int .u8 (m2 : Int)] 97)).cell? ⟨gx, ox, none⟩ = some (.int .i64 (an : Int)) ∧ (wo.drew.alloc (.cells #[.int .u8 (m2 : Int)] 97)).cell? ⟨gx, ox + 1, none⟩ = some (.int .i64 (bn : Int))) ∧ Below w.heap.size w (wo.drew.alloc (.cells #[.int .u8 (m2 : Int)] 97)) from ⟨HXW.out _ (hS3.2.alloc hS3.2.size _), hS3.2.alloc hS3.2.size _⟩)
            refine hK _ _ hS4 ?_
            clear hK K
            refine gOne 11 rfl (by kernel_rfl) (by kernel_rfl) (fun K hK => ?_)
            refine gAppendOwn (.tmp 17) (.tmp 26) 92 rfl 97 i0 (.int .u8 0) 1 1 Try.underlying92 hi hz0 hz1 hz2 rfl (by decide) (w.heap.size + 2) v k (msV ((xs.take k).map lkM)) (by simp [Act.eval, Act.put]) (HO.out.alloc (.cells #[.int .u8 (m2 : Int)] 97)) ⟨wo.heap.size, 0, none⟩ 1 1 [.int .u8 (m2 : Int)] (by simp [Act.eval, Act.put]) rfl (fun j u hj => by match j, hj with | 0, hj => (simp at hj; subst hj; simp [Addr.add]) | j + 1, hj => (simp at hj)) (by simp [Value.oneCell']) (by unfold maxLen; omega) (by omega) (by have := HB.out.1; simp; omega) ?_
            intro v' w3 ho3 hg3
            have hgl : ∀ j, v.ownBlock = some j → w.heap.size + 2 ≤ j := fun j hj => (HO.out.lt j hj).1
            have hfar : ∀ b, b < w.heap.size + 2 → some b ≠ v.ownBlock := fun b hb h => by have := hgl b h.symm; omega
            obtain ⟨g4, cap4, rfl, -, -⟩ := ho3.form (by omega)
            have hb3 : Below w.heap.size w w3 := ((HB.out.2.drew).alloc (by have := HB.out.1; simp; omega) (.cells #[.int .u8 (m2 : Int)] 97)).grown hg3 (by have := HB.out.1; simp; omega) (fun j hj => by have := hgl j hj; omega)
            have HB3 := Lib.hid hb3
            have e0 : w3.cell? ⟨w.heap.size + 1, 0, none⟩ = some (.int .i64 n) := hg3.cell (cel_alloc _ d0) (hfar _ (by first | (show w.heap.size + 1 < w.heap.size + 2; omega) | (show w.heap.size < w.heap.size + 2; omega)))
            have e1 : w3.cell? ⟨w.heap.size + 1, 1, none⟩ = some v := hg3.cell (cel_alloc _ d1) (hfar _ (by first | (show w.heap.size + 1 < w.heap.size + 2; omega) | (show w.heap.size < w.heap.size + 2; omega)))
            have e2 : w3.cell? ⟨w.heap.size, 0, none⟩ = some (.int .i64 0) := hg3.cell (cel_alloc _ r0) (hfar _ (by first | (show w.heap.size + 1 < w.heap.size + 2; omega) | (show w.heap.size < w.heap.size + 2; omega)))
            have e3 : w3.cell? ⟨w.heap.size, 1, none⟩ = some (.slice none 0 0) := hg3.cell (cel_alloc _ r1) (hfar _ (by first | (show w.heap.size + 1 < w.heap.size + 2; omega) | (show w.heap.size < w.heap.size + 2; omega)))
            have fz : ∀ bb o, bb ≤ w.heap.size + 1 → w3.frozen? ⟨bb, o, none⟩ = wo.frozen? ⟨bb, o, none⟩ := fun bb o h => (hg3.frozen_far ⟨bb, o, none⟩ (Nat.lt_of_lt_of_le (show bb < wo.heap.size by omega) (by simp)) (hfar _ (show bb < w.heap.size + 2 by omega))).trans (frz_alloc wo _ (a := ⟨bb, o, none⟩) (show bb < wo.heap.size by omega))
            have g1 := (fz (w.heap.size + 1) 1 (by omega)).trans f1
            have g2 := (fz w.heap.size 0 (by omega)).trans f2
            have g3 := (fz w.heap.size 1 (by omega)).trans f3
            have HO3 := Lib.hid ho3
            have hs3 : w.heap.size + 2 ≤ w3.heap.size := by have := hg3.size; have := HB.out.1; simp at *; omega
            clear ho3 hg3 fz hb3
            have hS5 := (show (w3.cell? ⟨gx, ox, none⟩ = some (.int .i64 (an : Int)) ∧ w3.cell? ⟨gx, ox + 1, none⟩ = some (.int .i64 (bn : Int))) ∧ Below w.heap.size w w3 from ⟨HXW.out _ HB3.out, HB3.out⟩)
            refine hK _ _ hS5 ?_
            clear hK K
            refine gTake 12 (v := ?_) rfl (by kernel_rfl) (by kernel_rfl) (by kernel_rfl) (fun _ _ _ h => h) (by kernel_rfl) ?_ hS5 ?_
            rotate_left
            · (intro W hW; clear hW; go_simp; try with_reducible rfl)
            refine gOne 13 rfl (by kernel_rfl) (by kernel_rfl) (fun K hK => ?_)
            go_simp
            skip
            have hS6 := (show ((w3.setCell ⟨w.heap.size + 1, 1, none⟩ (.slice (some ⟨g4, 0, none⟩) (k + 1) cap4)).cell? ⟨gx, ox, none⟩ = some (.int .i64 (an : Int)) ∧ (w3.setCell ⟨w.heap.size + 1, 1, none⟩ (.slice (some ⟨g4, 0, none⟩) (k + 1) cap4)).cell? ⟨gx, ox + 1, none⟩ = some (.int .i64 (bn : Int))) ∧ Below w.heap.size w (w3.setCell ⟨w.heap.size + 1, 1, none⟩ (.slice (some ⟨g4, 0, none⟩) (k + 1) cap4)) from ⟨HXW.out _ (HB3.out.setCell (by show w.heap.size ≤ w.heap.size + 1; omega) _), HB3.out.setCell (by show w.heap.size ≤ w.heap.size + 1; omega) _⟩)
            refine hK _ _ hS6 ?_
            clear hK K
            refine wpAnyH_done (by kernel_rfl) ?_ _
            go_simp
            go_wp2
            go_roundw
            case rel =>
              have n01 : (⟨w.heap.size + 1, 1, none⟩ : Addr) ≠ ⟨w.heap.size + 1, 0, none⟩ := by simp
              have n10 : (⟨w.heap.size + 1, 1, none⟩ : Addr) ≠ ⟨w.heap.size, 0, none⟩ := by simp
              have n11 : (⟨w.heap.size + 1, 1, none⟩ : Addr) ≠ ⟨w.heap.size, 1, none⟩ := by simp
              refine ⟨k + 1, .slice (some ⟨g4, 0, none⟩) (k + 1) cap4, by omega, by go_num, Lib.hid ⟨⟨(World.cell?_setCell_other _ _ _ _ n01).trans e0, World.cell?_setCell_same _ _ _ e1⟩, ⟨by rw [World.frozen?_setCell]; exact g1, by rw [World.frozen?_setCell]; exact g2, by rw [World.frozen?_setCell]; exact g3⟩, (World.cell?_setCell_other _ _ _ _ n10).trans e2, (World.cell?_setCell_other _ _ _ _ n11).trans e3⟩, Lib.hid ?_, Lib.hid ⟨by simp; omega, HB3.out.setCell (by show w.heap.size ≤ w.heap.size + 1; omega) _⟩⟩
              rw [HMS.out, HLK.out, msV_snoc]
              exact ilLow HO3.out (p := ⟨w.heap.size + 1, 1, none⟩) (by show w.heap.size + 1 < _; omega) _
            case measure => simp [intOf]; omega
          · go_simp
            skip
            have hS3 := (show ((wo.drew.alloc (.cells #[.int .u8 (m2 : Int)] 97)).cell? ⟨gx, ox, none⟩ = some (.int .i64 (an : Int)) ∧ (wo.drew.alloc (.cells #[.int .u8 (m2 : Int)] 97)).cell? ⟨gx, ox + 1, none⟩ = some (.int .i64 (bn : Int))) ∧ Below w.heap.size w (wo.drew.alloc (.cells #[.int .u8 (m2 : Int)] 97)) from ⟨HXW.out _ (hS2.2.alloc hS2.2.size _), hS2.2.alloc hS2.2.size _⟩)
            refine hK _ _ hS3 ?_
            clear hK K
            refine gOne 1 rfl (by kernel_rfl) (by kernel_rfl) (fun K hK => ?_)
            go_simp
            skip
            have hS4 := hS3
            refine hK _ _ hS4 ?_
            clear hK K
            refine gOne 11 rfl (by kernel_rfl) (by kernel_rfl) (fun K hK => ?_)
            refine gAppendOwn (.tmp 17) (.tmp 26) 92 rfl 97 i0 (.int .u8 0) 1 1 Try.underlying92 hi hz0 hz1 hz2 rfl (by decide) (w.heap.size + 2) v k (msV ((xs.take k).map lkM)) (by simp [Act.eval, Act.put]) (HO.out.alloc (.cells #[.int .u8 (m2 : Int)] 97)) ⟨wo.heap.size, 0, none⟩ 1 1 [.int .u8 (m2 : Int)] (by simp [Act.eval, Act.put]) rfl (fun j u hj => by match j, hj with | 0, hj => (simp at hj; subst hj; simp [Addr.add]) | j + 1, hj => (simp at hj)) (by simp [Value.oneCell']) (by unfold maxLen; omega) (by omega) (by have := HB.out.1; simp; omega) ?_
            intro v' w3 ho3 hg3
            have hgl : ∀ j, v.ownBlock = some j → w.heap.size + 2 ≤ j := fun j hj => (HO.out.lt j hj).1
            have hfar : ∀ b, b < w.heap.size + 2 → some b ≠ v.ownBlock := fun b hb h => by have := hgl b h.symm; omega
            obtain ⟨g4, cap4, rfl, -, -⟩ := ho3.form (by omega)
            have hb3 : Below w.heap.size w w3 := ((HB.out.2.drew).alloc (by have := HB.out.1; simp; omega) (.cells #[.int .u8 (m2 : Int)] 97)).grown hg3 (by have := HB.out.1; simp; omega) (fun j hj => by have := hgl j hj; omega)
            have HB3 := Lib.hid hb3
            have e0 : w3.cell? ⟨w.heap.size + 1, 0, none⟩ = some (.int .i64 n) := hg3.cell (cel_alloc _ d0) (hfar _ (by first | (show w.heap.size + 1 < w.heap.size + 2; omega) | (show w.heap.size < w.heap.size + 2; omega)))
            have e1 : w3.cell? ⟨w.heap.size + 1, 1, none⟩ = some v := hg3.cell (cel_alloc _ d1) (hfar _ (by first | (show w.heap.size + 1 < w.heap.size + 2; omega) | (show w.heap.size < w.heap.size + 2; omega)))
            have e2 : w3.cell? ⟨w.heap.size, 0, none⟩ = some (.int .i64 0) := hg3.cell (cel_alloc _ r0) (hfar _ (by first | (show w.heap.size + 1 < w.heap.size + 2; omega) | (show w.heap.size < w.heap.size + 2; omega)))
            have e3 : w3.cell? ⟨w.heap.size, 1, none⟩ = some (.slice none 0 0) := hg3.cell (cel_alloc _ r1) (hfar _ (by first | (show w.heap.size + 1 < w.heap.size + 2; omega) | (show w.heap.size < w.heap.size + 2; omega)))
            have fz : ∀ bb o, bb ≤ w.heap.size + 1 → w3.frozen? ⟨bb, o, none⟩ = wo.frozen? ⟨bb, o, none⟩ := fun bb o h => (hg3.frozen_far ⟨bb, o, none⟩ (Nat.lt_of_lt_of_le (show bb < wo.heap.size by omega) (by simp)) (hfar _ (show bb < w.heap.size + 2 by omega))).trans (frz_alloc wo _ (a := ⟨bb, o, none⟩) (show bb < wo.heap.size by omega))
            have g1 := (fz (w.heap.size + 1) 1 (by omega)).trans f1
            have g2 := (fz w.heap.size 0 (by omega)).trans f2
            have g3 := (fz w.heap.size 1 (by omega)).trans f3
            have HO3 := Lib.hid ho3
            have hs3 : w.heap.size + 2 ≤ w3.heap.size := by have := hg3.size; have := HB.out.1; simp at *; omega
            clear ho3 hg3 fz hb3
            have hS5 := (show (w3.cell? ⟨gx, ox, none⟩ = some (.int .i64 (an : Int)) ∧ w3.cell? ⟨gx, ox + 1, none⟩ = some (.int .i64 (bn : Int))) ∧ Below w.heap.size w w3 from ⟨HXW.out _ HB3.out, HB3.out⟩)
            refine hK _ _ hS5 ?_
            clear hK K
            refine gTake 12 (v := ?_) rfl (by kernel_rfl) (by kernel_rfl) (by kernel_rfl) (fun _ _ _ h => h) (by kernel_rfl) ?_ hS5 ?_
            rotate_left
            · (intro W hW; clear hW; go_simp; try with_reducible rfl)
            refine gOne 13 rfl (by kernel_rfl) (by kernel_rfl) (fun K hK => ?_)
            go_simp
            skip
            have hS6 := (show ((w3.setCell ⟨w.heap.size + 1, 1, none⟩ (.slice (some ⟨g4, 0, none⟩) (k + 1) cap4)).cell? ⟨gx, ox, none⟩ = some (.int .i64 (an : Int)) ∧ (w3.setCell ⟨w.heap.size + 1, 1, none⟩ (.slice (some ⟨g4, 0, none⟩) (k + 1) cap4)).cell? ⟨gx, ox + 1, none⟩ = some (.int .i64 (bn : Int))) ∧ Below w.heap.size w (w3.setCell ⟨w.heap.size + 1, 1, none⟩ (.slice (some ⟨g4, 0, none⟩) (k + 1) cap4)) from ⟨HXW.out _ (HB3.out.setCell (by show w.heap.size ≤ w.heap.size + 1; omega) _), HB3.out.setCell (by show w.heap.size ≤ w.heap.size + 1; omega) _⟩)
            refine hK _ _ hS6 ?_
            clear hK K
            refine wpAnyH_done (by kernel_rfl) ?_ _
            go_simp
            go_wp2
            go_roundw
            case rel =>
              have n01 : (⟨w.heap.size + 1, 1, none⟩ : Addr) ≠ ⟨w.heap.size + 1, 0, none⟩ := by simp
              have n10 : (⟨w.heap.size + 1, 1, none⟩ : Addr) ≠ ⟨w.heap.size, 0, none⟩ := by simp
              have n11 : (⟨w.heap.size + 1, 1, none⟩ : Addr) ≠ ⟨w.heap.size, 1, none⟩ := by simp
              refine ⟨k + 1, .slice (some ⟨g4, 0, none⟩) (k + 1) cap4, by omega, by go_num, Lib.hid ⟨⟨(World.cell?_setCell_other _ _ _ _ n01).trans e0, World.cell?_setCell_same _ _ _ e1⟩, ⟨by rw [World.frozen?_setCell]; exact g1, by rw [World.frozen?_setCell]; exact g2, by rw [World.frozen?_setCell]; exact g3⟩, (World.cell?_setCell_other _ _ _ _ n10).trans e2, (World.cell?_setCell_other _ _ _ _ n11).trans e3⟩, Lib.hid ?_, Lib.hid ⟨by simp; omega, HB3.out.setCell (by show w.heap.size ≤ w.heap.size + 1; omega) _⟩⟩
              rw [HMS.out, HLK.out, msV_snoc]
              exact ilLow HO3.out (p := ⟨w.heap.size + 1, 1, none⟩) (by show w.heap.size + 1 < _; omega) _
            case measure => simp [intOf]; omega
    · obtain rfl : k = xs.length := by omega
      obtain ⟨⟨d0, d1⟩, ⟨f1, f2, f3⟩, r0, r1⟩ := HC.out
      have hp1 : w.heap.size + 1 < wo.heap.size := World.block_lt_of_cell? _ _ d0
      have hO := HO.out
      rw [List.take_length] at hO
      have HO2 := Lib.hid hO
      obtain ⟨A', c', rfl⟩ : ∃ A' c', v = .slice A' xs.length c' := by
        rcases hO.2 with ⟨rfl, h0⟩ | ⟨g, c2, cur, rfl, _⟩
        · exact ⟨none, 0, by rw [h0]⟩
        · exact ⟨_, c2, rfl⟩
      clear hO
      go_wp2
      refine bodyPost_ret (v := .agg #[.int .i64 n, .slice A' xs.length c']) (by simp [results, Try.results70, go_sem, World.cell?_setCell_other, World.cell?_setCell_same', r0, r1, d0, d1]) rfl ⟨_, rfl, ?_, ?_⟩
      · exact ilMono (ilLow (ilLow HO2.out (p := ⟨w.heap.size, 0, none⟩) (by show w.heap.size < _; omega) _) (p := ⟨w.heap.size, 1, none⟩) (by show w.heap.size < _; omega) _) (by omega)
      · exact (HB.out.2.setCell (p := ⟨w.heap.size, 0, none⟩) (Nat.le_refl _) _).setCell (p := ⟨w.heap.size, 1, none⟩) (Nat.le_refl _) _
theorem iAreLocked_any (D : Option Addr) (dcap : Nat) (st : List Bool) (A : Option Addr) (cap : Nat) (xs : List (List Int)) (w : World) (hd : BoR w D st) (hdl : st.length ≤ 1048576) (hr : RowsR w A xs) (hl : xs.length ≤ 1048576) (hls : ∀ r ∈ xs, r.length ≤ 1048576) :
    Calls Try.prog 69 #[.slice D st.length dcap, .slice A xs.length cap] w fun e w' => e = .returned (.bool (lkdOk st xs)) ∧ Below w.heap.size w w' := by
  have HC := Lib.hid (iValidLocks_any st.length A cap xs w hr hl hls)
  cases hok : lksOk st.length xs
  · have HF := Lib.hid (show lkdOk st xs = false by unfold lkdOk; rw [hok]; rfl)
    go_enter Try.func69, Try.ntmps69
    go_wp2_with fail
    (with_reducible refine (HC.out).mono ?_)
    rintro e w1 ⟨rfl, hd1⟩
    rw [hok]
    go_wp2
    go_ret
    exact ⟨ret_bool HF.out.symm, hd1⟩
  · have hn8 := (lksOk_iff.1 hok).1.2
    have h12 := (lksOk_iff.1 hok).2.1
    have hst : st.length ≤ 8 := by omega
    have HKB := Lib.hid (show keepM (openM st st.length) (xs.map lkM) = kb (stF st) xs from by
      rw [keepM_kb hok (openM_256 st hst)]
      refine kb_congr hok (fun i hi => ?_)
      rw [openM_bit, decide_eq_true (show i < st.length by omega), Bool.true_and])
    have HF := Lib.hid (show lkdOk st xs = kb (stF st) xs by unfold lkdOk; rw [hok]; rfl)
    have HI := Lib.hid (fun W (h : Below w.heap.size w W) => interlockOf_any st.length A cap xs W (hr.below h) hok)
    have HO := Lib.hid (fun W (h : Below w.heap.size w W) => openOf_any D dcap st W (hd.below h) hst)
    have HQ := Lib.hid (lkM_lt hok)
    have ho := openM_256 st hst
    generalize openM st st.length = om at *
    go_enter Try.func69, Try.ntmps69
    go_wp2_with fail
    (with_reducible refine (HC.out).mono ?_)
    rintro e w1 ⟨rfl, hd1⟩
    rw [hok]
    go_wp2_with fail
    (with_reducible refine (HI.out _ hd1).mono ?_)
    rintro e w2 ⟨v, rfl, ho2, hd2⟩
    have hb2 := hd1.trans (hd2.mono hd1.size)
    go_wp2_with fail
    (with_reducible refine (HO.out _ hb2).mono ?_)
    rintro e w' ⟨rfl, rfl⟩
    go_wp2_with fail
    (with_reducible refine (keeps_any w1.heap.size st.length v (xs.map lkM) om _ (by rw [List.length_map]; exact ho2) ho HQ.out (by rw [List.length_map]; omega)).mono ?_)
    rintro e w3 ⟨rfl, hd3⟩
    go_wp2
    go_ret
    exact ⟨ret_bool (HKB.out.trans HF.out.symm), hb2.trans (hd3.mono hb2.size)⟩
end Go.Proofs.Ythbofhlfggkolaa
