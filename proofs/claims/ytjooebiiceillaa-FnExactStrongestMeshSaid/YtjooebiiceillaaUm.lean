/-
  Contracts of chapter 4: a shortest walk through open airways; the program's. Conditions: those that each theorem states.
-/
import Derived.Test.YtjooebiiceillaaUl
import Derived.WalkMore
namespace Go.Proofs.Ytjooebiiceillaa
open Go.RowKit
set_option linter.unusedVariables false
set_option linter.unusedSimpArgs false

theorem through_any (B ix : Nat) (b : Bool) (v : Value) (pre : List Int) (w : World) (ho : OwnI w B v pre) (hB : B ≤ w.heap.size) (hl : pre.length ≤ 1000) (hx : ix ≤ 1000) :
    Calls Try.prog 94 #[v, .int .i64 (ix : Int), .bool b] w fun e w' => ∃ u, e = .returned u ∧ OwnI w' B u (pre ++ [sgnZ (ix : Int) b]) ∧ Below B w w' := by
  obtain ⟨i0, hi, hz0, hz1, hz2⟩ := info_parts info_i64
  have HO := Lib.hid ho
  obtain ⟨A, cap, rfl⟩ := ho.form
  clear ho
  have hw1 : IntKind.i64.wrap ((ix : Int) + 1) = (ix : Int) + 1 := IntWalk.i64_in _ (by omega)
  have hw2 : IntKind.i64.wrap (-((ix : Int) + 1)) = -(ix : Int) - 1 := by rw [IntWalk.i64_in _ (by omega)]; omega
  have hw3 : -((ix : Int) + 1) = -(ix : Int) - 1 := by omega
  cases b
  · rw [show sgnZ (ix : Int) false = -(ix : Int) - 1 from rfl]
    go_enter Try.func94, Try.ntmps94
    go_wp2_with (at_builtin; refine wpList_append_own _ rfl _ _ 99 rfl B 2 i0 (.int .i64 0) 1 8 Try.underlying99 hi hz0 hz1 hz2 rfl (by decide) _ _ _ rfl (World.ownsRow.alloc HO.out _) ⟨w.heap.size, 0, none⟩ 1 1 [.int .i64 (-(ix : Int) - 1)] rfl rfl ?c1z ?c2z ?c3z ?c4z ?c5z ?_)
    try (case c1z => intro j u hj; match j, hj with | 0, hj => (simp at hj; subst hj; simp [Addr.add]) | j + 1, hj => (simp at hj))
    try (case c2z => simp [Value.oneCell'])
    try (case c3z => unfold maxLen; omega)
    try (case c4z => omega)
    try (case c5z => first | omega | (simp; omega))
    intro v3 w3 ho3 hg3 _
    have HO3 := Lib.hid (show OwnI w3 B v3 (pre ++ [-(ix : Int) - 1]) from by unfold OwnI; rw [List.length_append, ints_snocY]; exact ho3)
    have HB3 := Lib.hid (show Below B w w3 from ((Below.refl _ _).alloc hB _).grown hg3 (by simp; omega) (fun k hk => (HO.out.lt k hk).1))
    clear ho3 hg3
    go_wp2
    go_ret
    exact ⟨_, rfl, HO3.out, HB3.out⟩
  · rw [show sgnZ (ix : Int) true = (ix : Int) + 1 from rfl]
    go_enter Try.func94, Try.ntmps94
    go_wp2_with (at_builtin; refine wpList_append_own _ rfl _ _ 99 rfl B 2 i0 (.int .i64 0) 1 8 Try.underlying99 hi hz0 hz1 hz2 rfl (by decide) _ _ _ rfl (World.ownsRow.alloc HO.out _) ⟨w.heap.size, 0, none⟩ 1 1 [.int .i64 ((ix : Int) + 1)] rfl rfl ?c1z ?c2z ?c3z ?c4z ?c5z ?_)
    try (case c1z => intro j u hj; match j, hj with | 0, hj => (simp at hj; subst hj; simp [Addr.add]) | j + 1, hj => (simp at hj))
    try (case c2z => simp [Value.oneCell'])
    try (case c3z => unfold maxLen; omega)
    try (case c4z => omega)
    try (case c5z => first | omega | (simp; omega))
    intro v3 w3 ho3 hg3 _
    have HO3 := Lib.hid (show OwnI w3 B v3 (pre ++ [(ix : Int) + 1]) from by unfold OwnI; rw [List.length_append, ints_snocY]; exact ho3)
    have HB3 := Lib.hid (show Below B w w3 from ((Below.refl _ _).alloc hB _).grown hg3 (by simp; omega) (fun k hk => (HO.out.lt k hk).1))
    clear ho3 hg3
    go_wp2
    go_ret
    exact ⟨_, rfl, HO3.out, HB3.out⟩
set_option maxHeartbeats 8000000 in
set_option maxRecDepth 100000 in
theorem path_any (op : Nat → Bool) (Jn : Nat) (A : Option Addr) (cap : Nat) (CV : Value) (xs : List Aw) (frn ton : Nat) (w : World) (hr : AwR w A xs) (hok : mineOk (Jn : Int) xs = true) (hfJ : frn < Jn) (htJ : ton < Jn) (hcv : CV.oneCell' = true)
    (HO : ∀ (W : World) (x : Nat), x < Jn → Below w.heap.size w W → Calls Try.prog 121 #[.agg #[.int .i64 (Jn : Int), .slice A xs.length cap, CV], .int .i64 (x : Int)] W fun e w' => ∃ v, e = .returned v ∧ OwnI w' W.heap.size v (opnL xs op x) ∧ Below W.heap.size W w') :
    Calls Try.prog 93 #[.agg #[.int .i64 (Jn : Int), .slice A xs.length cap, CV], .int .i64 (frn : Int), .int .i64 (ton : Int)] w fun e w' => ∃ u, e = .returned (.tuple #[u, .bool (decide (0 ≤ levD Jn xs (ixT op xs.length) ton frn))]) ∧ OwnI w' w.heap.size u (wlkR Jn xs (ixT op xs.length) frn ton) ∧ Below w.heap.size w w' := by
  obtain ⟨hj, -, hn⟩ := mineOk_iff.1 hok
  have HBN := Lib.hid (below_box w (.cells #[.int .i64 (Jn : Int), .slice A xs.length cap, CV] 96))
  have HR0 := Lib.hid (hr.below HBN.out)
  have HOK := Lib.hid hok
  have hNs : (w.alloc (.cells #[.int .i64 (Jn : Int), .slice A xs.length cap, CV] 96)).heap.size = w.heap.size + 1 := by simp
  have HOPn := Lib.hid HO
  have HOP2 := Lib.hid (show ∀ (W : World) (x : Nat), x < Jn → Below (w.alloc (.cells #[.int .i64 (Jn : Int), .slice A xs.length cap, CV] 96)).heap.size (w.alloc (.cells #[.int .i64 (Jn : Int), .slice A xs.length cap, CV] 96)) W → Calls Try.prog 121 #[.agg #[.int .i64 (Jn : Int), .slice A xs.length cap, CV], .int .i64 (x : Int)] W fun e w' => ∃ v, e = .returned v ∧ OwnI w' W.heap.size v (opnL xs op x) ∧ Below W.heap.size W w' from fun W x hx hb => HO W x hx (HBN.out.trans (hb.mono (by omega))))
  have HDT := Lib.hid (distancesTo_any op Jn A cap CV xs ton (w.alloc (.cells #[.int .i64 (Jn : Int), .slice A xs.length cap, CV] 96)) HR0.out hok htJ hcv HOP2.out)
  rw [hNs] at HDT
  have HDI := Lib.hid (levD_dist (ls := ixT op xs.length) (to := (ton : Int)) hok (fun y hy => ixT_mem _ _ _ hy) (by omega))
  have k0 : (w.alloc (.cells #[.int .i64 (Jn : Int), .slice A xs.length cap, CV] 96)).cell? ⟨w.heap.size, 0, none⟩ = some (.int .i64 (Jn : Int)) := by simp
  have k1 : (w.alloc (.cells #[.int .i64 (Jn : Int), .slice A xs.length cap, CV] 96)).cell? ⟨w.heap.size, 1, none⟩ = some (.slice A xs.length cap) := by simp
  have k2 : (w.alloc (.cells #[.int .i64 (Jn : Int), .slice A xs.length cap, CV] 96)).cell? ⟨w.heap.size, 2, none⟩ = some CV := by simp
  have HKN := Lib.hid (And.intro k0 (And.intro k1 k2))
  have HLB0 := Lib.hid (levD_bd Jn xs (ixT op xs.length) (ton : Int))
  have HEP := Lib.hid (fun (h : 0 ≤ levD Jn xs (ixT op xs.length) ton frn) => show wlkR Jn xs (ixT op xs.length) frn ton = pathN (endsOf xs) (levD Jn xs (ixT op xs.length) ton) (ixT op xs.length) (levD Jn xs (ixT op xs.length) ton frn).toNat frn by unfold wlkR; rw [if_pos h])
  have HEN := Lib.hid (fun (h : ¬ 0 ≤ levD Jn xs (ixT op xs.length) ton frn) => show wlkR Jn xs (ixT op xs.length) frn ton = [] by unfold wlkR; rw [if_neg h])
  have HL16 := Lib.hid (show ∀ j, levD Jn xs (ixT op xs.length) ton j < 16 from fun j => by
    by_cases c : 0 ≤ levD Jn xs (ixT op xs.length) ton j
    · have h1 := lev_cnt (enL_in (ls := ixT op xs.length) hok (fun y hy => ixT_mem _ _ _ hy)) (show 0 ≤ (ton : Int) ∧ (ton : Int) < (Jn : Int) by omega) (levD Jn xs (ixT op xs.length) ton j).toNat j (by
        have := lev_at (E := enL xs (ixT op xs.length)) (to := (ton : Int)) (s := Jn) (j := j) c
        unfold levD
        unfold levD at c
        omega)
      have h2 := cnt_le (lev (enL xs (ixT op xs.length)) (ton : Int) (levD Jn xs (ixT op xs.length) ton j).toNat) Jn
      omega
    · omega)
  clear hr hok HO
  obtain ⟨D, hDD⟩ : ∃ D, levD Jn xs (ixT op xs.length) ton = D := ⟨_, rfl⟩
  have HDD := Lib.hid hDD
  rw [hDD] at HDT HDI HLB0 HEP HEN HL16
  clear hDD
  go_enter Try.func93, Try.ntmps93
  go_wp2
  go_step3
  go_wp2_with fail
  clear k0 k1 k2
  (with_reducible refine (HDT.out).mono ?_)
  rintro e w1 ⟨rfl, hol, hd1⟩
  have HLW := Lib.hid (show w1.ownsRow (w.heap.size + 1) 2 1 (.slice (some ⟨w.heap.size + 1 + 1 + 1, 0, none⟩) Jn Jn) Jn (intsV (partsL Jn (fun j => encD (D j)))) from by
    unfold OwnI at hol
    rw [partsL_len] at hol
    exact hol)
  have dfr : w1.cell? ⟨w.heap.size + 1 + 1 + 1, frn, none⟩ = some (.int .i64 (encD (D frn))) := by rw [HLW.out.cellAt frn (by omega), partsL_at _ hfJ]
  have hlB : w.heap.size + 1 + 1 + 1 < w1.heap.size := World.block_lt_of_cell? _ _ dfr
  have HB1 := Lib.hid (show Below (w.heap.size + 1) (w.alloc (.cells #[.int .i64 (Jn : Int), .slice A xs.length cap, CV] 96)) w1 from hd1)
  have b0 := (HB1.out.cell (p := ⟨w.heap.size, 0, none⟩) (by show w.heap.size < w.heap.size + 1; omega)).trans HKN.out.1
  have b1 := (HB1.out.cell (p := ⟨w.heap.size, 1, none⟩) (by show w.heap.size < w.heap.size + 1; omega)).trans HKN.out.2.1
  have b2 := (HB1.out.cell (p := ⟨w.heap.size, 2, none⟩) (by show w.heap.size < w.heap.size + 1; omega)).trans HKN.out.2.2
  have HK1 := Lib.hid (And.intro b0 (And.intro b1 b2))
  have hf16 := HL16.out (frn : Int)
  have hfI : (frn : Int) < (Jn : Int) := by omega
  have HBw1 := Lib.hid (show Below w.heap.size w w1 from HBN.out.trans (HB1.out.mono (Nat.le_succ _)))
  clear hol hd1
  by_cases h0 : 0 ≤ D (frn : Int)
  · have HE := Lib.hid (HEP.out h0)
    have HDF := Lib.hid (show decide (0 ≤ D (frn : Int)) = true from decide_eq_true h0)
    rw [encD_of h0] at dfr
    have e1 : (D (frn : Int) == 16) = false := by simp; omega
    have e1b : ¬ D (frn : Int) = 16 := by omega
    have HQQ := Lib.hid (show D (frn : Int) = ((D (frn : Int)).toNat : Int) by omega)
    generalize hN : (D (frn : Int)).toNat = N at *
    have hN16 : N ≤ 16 := by omega
    obtain ⟨B, hBe⟩ : ∃ B, w1.heap.size = B := ⟨_, rfl⟩
    have HBE := Lib.hid hBe
    have HN0 := Lib.hid (show OwnI w1 B (.slice none 0 0) [] from World.ownsRow_nil _ _ _ _)
    have HBR := Lib.hid (show Below B w1 w1 from Below.refl _ _)
    have hwB : w.heap.size + 1 + 1 + 1 < B := by omega
    clear hBe hlB
    go_wp2
    go_step3
    go_wp2
    clear dfr b0 b1 b2
    go_loopw [9, 10] (fun pv at_ wr => ∃ (n a : Nat) (pre : List Int), at_ = .int .i64 (a : Int) ∧ a < Jn ∧ Hid (D (a : Int) = (n : Int)) ∧ Hid (pre ++ pathN (endsOf xs) D (ixT op xs.length) n a = pathN (endsOf xs) D (ixT op xs.length) N frn) ∧ pre.length + n ≤ 16 ∧ (∃ pa pc, pv = .slice pa pre.length pc) ∧ Hid (OwnI wr B pv pre) ∧ Hid (Below B w1 wr)) (fun pv at_ wr => (D (intOf at_)).toNat)
    case atStart => exact ⟨N, frn, [], rfl, hfJ, HQQ, Lib.hid rfl, by simp; omega, ⟨_, _, rfl⟩, HN0, HBR⟩
    case round =>
      obtain ⟨wo, rfl⟩ : ∃ wo : World, wo = wr := ⟨_, rfl⟩
      obtain ⟨n, a, pre, rfl, has, HDA, HPT, hpl, ⟨pa, pc, rfl⟩, HOP, HBB⟩ := hrel
      by_cases hat : a = ton
      · have hn0 : n = 0 := by
          have h1 := HDI.out.zero
          have h2 := HDA.out
          rw [hat] at h2
          omega
        have HRE := Lib.hid (show wlkR Jn xs (ixT op xs.length) frn ton = pre by rw [HE.out, ← HPT.out, hn0, pathN, List.append_nil])
        have hat3 : (a : Int) = (ton : Int) := by omega
        have hat2 : ((a : Int) != (ton : Int)) = false := by simp; omega
        clear hn0 hat
        go_wp2
        try rw [Exit.noGoto_ret]
        go_ret2
        exact ⟨_, ret_wb (by rw [HDD.out, HDF.out]), by rw [HRE.out]; exact own_leW HOP.out (by omega), HBw1.out.trans (HBB.out.mono (by omega))⟩
      · obtain ⟨n, rfl⟩ : ∃ n' : Nat, n = n' + 1 := by
          cases n with
          | zero =>
            exfalso
            have h1 := HDI.out.eq_to (j := (a : Int)) (by have := HDA.out; omega)
            omega
          | succ n => exact ⟨n, rfl⟩
        replace HDA := Lib.hid (show D (a : Int) = (n : Int) + 1 from HDA.out)
        obtain ⟨ki, bb, hst, -, -, -⟩ := stp_some (L := ixT op xs.length) HDI.out HDA.out
        have HST := Lib.hid hst
        have hat2 : ((a : Int) != (ton : Int)) = true := by simp; omega
        have hat3 : ¬ (a : Int) = (ton : Int) := by omega
        clear hst hat
        have hwB2 : w.heap.size < B := by omega
        have b0 := (HBB.out.cell (p := ⟨w.heap.size, 0, none⟩) hwB2).trans HK1.out.1
        have b1 := (HBB.out.cell (p := ⟨w.heap.size, 1, none⟩) hwB2).trans HK1.out.2.1
        have b2 := (HBB.out.cell (p := ⟨w.heap.size, 2, none⟩) hwB2).trans HK1.out.2.2
        have HBo := Lib.hid (show Below w.heap.size w wo from HBw1.out.trans (HBB.out.mono (by omega)))
        have hBo : B ≤ wo.heap.size := by rw [← HBE.out]; exact HBB.out.size
        go_wp2_with fail
        (with_reducible refine (HOPn.out wo a has HBo.out).mono ?_)
        rintro e w3 ⟨vL, rfl, hol, hd3⟩
        obtain ⟨la, lc, rfl⟩ := hol.form
        have HOL := Lib.hid hol
        have HB3 := Lib.hid (HBB.out.trans (hd3.mono hBo))
        have HOP3 := Lib.hid (HOP.out.below hd3)
        have hBw3 : B ≤ w3.heap.size := Nat.le_trans hBo hd3.size
        have HD3 := Lib.hid hd3
        have hlen24 := opnL_len xs op (a : Int)
        have HLM := Lib.hid (fun y (hy : y ∈ opnL xs op (a : Int)) => opnL_mem hy)
        have HFI := Lib.hid (show stp (endsOf xs) D a (ixT op xs.length) = stp (endsOf xs) D a (opnL xs op (a : Int)) by rw [opnL_filter, stp_filter])
        clear hol hd3 b0 b1 b2
        obtain ⟨Lh, hLh⟩ : ∃ Lh, opnL xs op (a : Int) = Lh := ⟨_, rfl⟩
        rw [hLh] at HOL hlen24 HLM HFI ⊢
        clear hLh
        go_wp2
        go_loopw [9, 10, 31] (fun pv at_ kv wr => ∃ k : Nat, k ≤ Lh.length ∧ kv = .int .i64 (k : Int) ∧ pv = .slice pa pre.length pc ∧ at_ = .int .i64 (a : Int) ∧ Hid (stp (endsOf xs) D a (ixT op xs.length) = stp (endsOf xs) D a (Lh.drop k)) ∧ Hid (Below w3.heap.size w3 wr)) (fun pv at_ kv wr => Lh.length - (intOf kv).toNat)
        case atStart => exact ⟨0, by omega, rfl, rfl, rfl, Lib.hid (by rw [List.drop_zero]; exact HFI.out), Lib.hid (Below.refl _ _)⟩
        case round =>
          obtain ⟨k, hk, rfl, rfl, rfl, HSD, HBL⟩ := hrel
          by_cases hkl : k < Lh.length
          · obtain ⟨lb, lo, rfl, -, hcl⟩ := RowW.cell (RowW.of_ownI (HOL.out.below HBL.out)) hkl
            have hmem := HLM.out _ (show Lh.getD k 0 ∈ Lh by rw [show Lh.getD k 0 = Lh[k] by simp [List.getD, hkl]]; exact List.getElem_mem hkl)
            have HSL0 := Lib.hid (HSD.out.trans (show _ = stp (endsOf xs) D a (Lh.getD k 0 :: Lh.drop (k + 1)) by rw [List.drop_eq_getElem_cons hkl, show Lh.getD k 0 = Lh[k] by simp [List.getD, hkl]]))
            generalize Lh.getD k 0 = y at *
            obtain ⟨ix, rfl⟩ : ∃ ix : Nat, y = ix := ⟨y.toNat, by omega⟩
            have HSL := Lib.hid (show stp (endsOf xs) D a (ixT op xs.length) = stp (endsOf xs) D a ((ix : Int) :: Lh.drop (k + 1)) from HSL0.out)
            clear HSL0
            have hixl : ix < xs.length := by omega
            have HBX1 := Lib.hid (show Below B w1 wr from HB3.out.trans (HBL.out.mono hBw3))
            obtain ⟨ga, off, rfl, hrg⟩ := HR0.out ix hixl
            obtain ⟨⟨c0, c1, c2, c3⟩, c4, c5, c6⟩ := lay_row hrg
            have hgal : ga < w.heap.size + 1 := by have := World.block_lt_of_cell? _ _ c0; rw [hNs] at this; exact this
            have hgB : ga < B := by omega
            have hen := ends_in HOK.out hixl
            have HGD := Lib.hid (show endsOf xs (ix : Int) = (xs[ix].f, xs[ix].t) by unfold endsOf; rw [Int.toNat_natCast, getD_of_lt hixl])
            rw [HGD.out] at hmem
            have e0 := (HBX1.out.cell (p := ⟨ga, off + ix * 7, none⟩) hgB).trans ((HB1.out.cell (p := ⟨ga, off + ix * 7, none⟩) hgal).trans c0)
            have e1x := (HBX1.out.cell (p := ⟨ga, off + ix * 7 + 1, none⟩) hgB).trans ((HB1.out.cell (p := ⟨ga, off + ix * 7 + 1, none⟩) hgal).trans c1)
            have e2 := (HBX1.out.cell (p := ⟨ga, off + ix * 7 + 2, none⟩) hgB).trans ((HB1.out.cell (p := ⟨ga, off + ix * 7 + 2, none⟩) hgal).trans c2)
            have e3 := (HBX1.out.cell (p := ⟨ga, off + ix * 7 + 3, none⟩) hgB).trans ((HB1.out.cell (p := ⟨ga, off + ix * 7 + 3, none⟩) hgal).trans c3)
            have e4 := (HBX1.out.cell (p := ⟨ga, off + ix * 7 + 4, none⟩) hgB).trans ((HB1.out.cell (p := ⟨ga, off + ix * 7 + 4, none⟩) hgal).trans c4)
            have e5 := (HBX1.out.cell (p := ⟨ga, off + ix * 7 + 5, none⟩) hgB).trans ((HB1.out.cell (p := ⟨ga, off + ix * 7 + 5, none⟩) hgal).trans c5)
            have e6 := (HBX1.out.cell (p := ⟨ga, off + ix * 7 + 6, none⟩) hgB).trans ((HB1.out.cell (p := ⟨ga, off + ix * 7 + 6, none⟩) hgal).trans c6)
            have b1 := (HBX1.out.cell (p := ⟨w.heap.size, 1, none⟩) hwB2).trans HK1.out.2.1
            generalize xs[ix] = aw at *
            obtain ⟨sa, f, t, l, se, frc, sh⟩ := aw
            dsimp only at e0 e1x e2 e3 e4 e5 e6 hen hmem HGD
            clear hrg c0 c1 c2 c3 c4 c5 c6
            obtain ⟨fn, rfl⟩ : ∃ fn : Nat, f = fn := ⟨f.toNat, by omega⟩
            obtain ⟨tn, rfl⟩ : ∃ tn : Nat, t = tn := ⟨t.toNat, by omega⟩
            have hf1 : fn < Jn := by omega
            have ht1 : tn < Jn := by omega
            have HEM := Lib.hid (show (((fn : Int), (tn : Int)) : Int × Int) ∈ enL xs (ixT op xs.length) from hmem.2.1)
            have HNF := Lib.hid (show ((((fn : Int), (tn : Int)) : Int × Int)).1 ≠ ((((fn : Int), (tn : Int)) : Int × Int)).2 from hen.2.2)
            have hend := hmem.2.2
            obtain ⟨yn, hyn⟩ : ∃ yn : Nat, (fn : Int) + (tn : Int) - (a : Int) = (yn : Int) := ⟨((fn : Int) + (tn : Int) - (a : Int)).toNat, by rcases hend with h | h <;> omega⟩
            have hyJ : yn < Jn := by rcases hend with h | h <;> omega
            have HBY := Lib.hid (fun (W : World) => beyond_any sa (fn : Int) (tn : Int) l se frc sh (a : Int) W (by omega) (by omega) (by omega))
            rw [hyn] at HBY
            have hixI : (ix : Int) < (xs.length : Int) := by omega
            have hkI : (k : Int) < (Lh.length : Int) := by omega
            have hyI : (yn : Int) < (Jn : Int) := by omega
            have haI : (a : Int) < (Jn : Int) := by omega
            have hgan : ¬ (ga = wr.heap.size) := by have := HBX1.out.size; have := HBE.out; omega
            have hwrn : ¬ (w.heap.size = wr.heap.size) := by have := HBX1.out.size; have := HBE.out; omega
            clear hmem hen
            go_wp2_with fail
            (with_reducible refine (HBY.out _).mono ?_)
            rintro e w4 ⟨rfl, hd4⟩
            have hz4 : wr.heap.size < w4.heap.size := Nat.lt_of_lt_of_le (by simp) hd4.size
            have p1 : w4.cell? ⟨wr.heap.size, 1, none⟩ = some (.int .i64 (fn : Int)) := (hd4.cell (p := ⟨wr.heap.size, 1, none⟩) (by simp)).trans (by simp)
            have HBZ4 := Lib.hid (show Below wr.heap.size wr w4 from (below_box wr _).trans (hd4.mono (by simp)))
            have HBX4 := Lib.hid (show Below B w1 w4 from HBX1.out.trans (HBZ4.out.mono (by have := HBX1.out.size; have := HBE.out; omega)))
            have dY : w4.cell? ⟨w.heap.size + 1 + 1 + 1, yn, none⟩ = some (.int .i64 (encD (D yn))) := (HBX4.out.cell (p := ⟨w.heap.size + 1 + 1 + 1, yn, none⟩) hwB).trans (by rw [HLW.out.cellAt yn (by omega), partsL_at _ hyJ])
            have dA : w4.cell? ⟨w.heap.size + 1 + 1 + 1, a, none⟩ = some (.int .i64 ((n : Int) + 1)) := (HBX4.out.cell (p := ⟨w.heap.size + 1 + 1 + 1, a, none⟩) hwB).trans (by rw [HLW.out.cellAt a (by omega), partsL_at _ has, HDA.out, encD_of (by omega)])
            have HLO := Lib.hid (show 0 ≤ D (yn : Int) ∧ (n : Int) ≤ D (yn : Int) from by
              rcases hend with h | h
              · have q := HDI.out.near (a : Int) (yn : Int) (Or.inl (by rw [← hyn, ← h, show (fn : Int) + (tn : Int) - (fn : Int) = tn by omega]; exact HEM.out)) (by rw [HDA.out]; omega)
                have q2 := HDI.out.near (yn : Int) (a : Int) (Or.inr (by rw [← hyn, ← h, show (fn : Int) + (tn : Int) - (fn : Int) = tn by omega]; exact HEM.out)) q.1
                rw [HDA.out] at q2
                exact ⟨q.1, by omega⟩
              · have q := HDI.out.near (a : Int) (yn : Int) (Or.inr (by rw [← hyn, ← h, show (fn : Int) + (tn : Int) - (tn : Int) = fn by omega]; exact HEM.out)) (by rw [HDA.out]; omega)
                have q2 := HDI.out.near (yn : Int) (a : Int) (Or.inl (by rw [← hyn, ← h, show (fn : Int) + (tn : Int) - (tn : Int) = fn by omega]; exact HEM.out)) q.1
                rw [HDA.out] at q2
                exact ⟨q.1, by omega⟩)
            rw [encD_of HLO.out.1] at dY
            clear hd4 e0 e1x e2 e3 e4 e5 e6 b1 hcl
            go_wp2
            go_quiet (fail)
            obtain ⟨w5, hw5⟩ : ∃ x, x = w4.drewN nq := ⟨_, rfl⟩
            have p1' : w5.cell? ⟨wr.heap.size, 1, none⟩ = some (.int .i64 (fn : Int)) := by rw [hw5]; exact p1
            have HBZ := Lib.hid (show Below w3.heap.size wr w5 from by rw [hw5]; exact below_drewN' (HBZ4.out.mono HBL.out.size) _)
            have HBW := Lib.hid (show Below w3.heap.size w3 w5 from HBL.out.trans HBZ.out)
            have HBX := Lib.hid (show Below wo.heap.size wo w5 from HD3.out.trans (HBW.out.mono HD3.out.size))
            have HBX5 := Lib.hid (show Below B w1 w5 from by rw [hw5]; exact below_drewN' HBX4.out _)
            have hBw : B ≤ w5.heap.size := by have := HBX5.out.size; have := HBE.out; omega
            rw [← hw5]
            clear hw5 p1 dY dA
            have hyn2 := hyn
            rcases hend with hxa | hxa
            · obtain rfl : yn = tn := by omega
              obtain rfl : a = fn := by omega
              clear hyn hxa hyn2
              by_cases hnr : D (yn : Int) < (n : Int) + 1
              · skip
                have HHT0 := Lib.hid ((hit_near HDI.out HEM.out (by rw [HDA.out]; omega) HNF.out).1 rfl)
                have HHT := Lib.hid (show hit D a (endsOf xs (ix : Int)) = some true from by rw [HGD.out, HHT0.out.2, if_pos (by rw [HDA.out]; simp only; omega)])
                have e9 : ((a : Int) == (a : Int)) = true := by simp
                have HST2 := Lib.hid (HSL.out.trans (stp_hit HHT.out))
                have HPN := Lib.hid (show pathN (endsOf xs) D (ixT op xs.length) (n + 1) a = sgnZ (ix : Int) true :: pathN (endsOf xs) D (ixT op xs.length) n (yn : Int) by
                  rw [pathN_step HST2.out]
                  unfold endZ
                  rw [HGD.out]
                  simp)
                have HDE : D (yn : Int) = (n : Int) := by have h1 := HLO.out; omega
                go_wp2_with fail
                (with_reducible refine (through_any B ix true _ pre _ (HOP.out.below HBX.out) hBw (by omega) (by omega)).mono ?_)
                rintro e w7 ⟨u7, rfl, ho7, hd7⟩
                obtain ⟨pa7, pc7, he7⟩ := ho7.form
                rw [List.length_append] at he7
                obtain rfl : u7 = .slice pa7 (pre.length + 1) pc7 := he7
                have HO7 := Lib.hid ho7
                have HB7 := Lib.hid (HBX5.out.trans hd7)
                clear ho7 hd7
                go_wp2
                go_roundw
                case rel => exact ⟨n, yn, pre ++ [sgnZ (ix : Int) true], rfl, hyJ, Lib.hid HDE, Lib.hid (by rw [← HPT.out, HPN.out, List.append_assoc]; rfl), by rw [List.length_append]; simp only [List.length_cons, List.length_nil]; omega, ⟨_, _, by rw [List.length_append]; rfl⟩, HO7, HB7⟩
                case measure => simp only [intOf]; rw [HDE, HDA.out]; omega

              · skip
                have HHT0 := Lib.hid ((hit_near HDI.out HEM.out (by rw [HDA.out]; omega) HNF.out).1 rfl)
                have HHT := Lib.hid (show hit D a (endsOf xs (ix : Int)) = none from by rw [HGD.out, HHT0.out.2, if_neg (by rw [HDA.out]; simp only; omega)])
                go_wp2
                go_roundw
                case rel => exact ⟨k + 1, by omega, by go_num, rfl, rfl, Lib.hid (HSL.out.trans (stp_miss HHT.out)), Lib.hid (HBL.out.trans HBZ.out)⟩
                case measure => simp [intOf]; omega

            · obtain rfl : yn = fn := by omega
              obtain rfl : a = tn := by omega
              clear hyn hxa hyn2
              by_cases hnr : D (yn : Int) < (n : Int) + 1
              · skip
                have HHT0 := Lib.hid ((hit_near HDI.out HEM.out (by rw [HDA.out]; omega) HNF.out).2 rfl)
                have HHT := Lib.hid (show hit D a (endsOf xs (ix : Int)) = some false from by rw [HGD.out, HHT0.out.2, if_pos (by rw [HDA.out]; simp only; omega)])
                have e9 : ((yn : Int) == (a : Int)) = false := by have h1 := HNF.out; simp only [ne_eq] at h1; simp; omega
                have HST2 := Lib.hid (HSL.out.trans (stp_hit HHT.out))
                have HPN := Lib.hid (show pathN (endsOf xs) D (ixT op xs.length) (n + 1) a = sgnZ (ix : Int) false :: pathN (endsOf xs) D (ixT op xs.length) n (yn : Int) by
                  rw [pathN_step HST2.out]
                  unfold endZ
                  rw [HGD.out]
                  simp)
                have HDE : D (yn : Int) = (n : Int) := by have h1 := HLO.out; omega
                go_wp2_with fail
                (with_reducible refine (through_any B ix false _ pre _ (HOP.out.below HBX.out) hBw (by omega) (by omega)).mono ?_)
                rintro e w7 ⟨u7, rfl, ho7, hd7⟩
                obtain ⟨pa7, pc7, he7⟩ := ho7.form
                rw [List.length_append] at he7
                obtain rfl : u7 = .slice pa7 (pre.length + 1) pc7 := he7
                have HO7 := Lib.hid ho7
                have HB7 := Lib.hid (HBX5.out.trans hd7)
                clear ho7 hd7
                go_wp2
                go_roundw
                case rel => exact ⟨n, yn, pre ++ [sgnZ (ix : Int) false], rfl, hyJ, Lib.hid HDE, Lib.hid (by rw [← HPT.out, HPN.out, List.append_assoc]; rfl), by rw [List.length_append]; simp only [List.length_cons, List.length_nil]; omega, ⟨_, _, by rw [List.length_append]; rfl⟩, HO7, HB7⟩
                case measure => simp only [intOf]; rw [HDE, HDA.out]; omega

              · skip
                have HHT0 := Lib.hid ((hit_near HDI.out HEM.out (by rw [HDA.out]; omega) HNF.out).2 rfl)
                have HHT := Lib.hid (show hit D a (endsOf xs (ix : Int)) = none from by rw [HGD.out, HHT0.out.2, if_neg (by rw [HDA.out]; simp only; omega)])
                go_wp2
                go_roundw
                case rel => exact ⟨k + 1, by omega, by go_num, rfl, rfl, Lib.hid (HSL.out.trans (stp_miss HHT.out)), Lib.hid (HBL.out.trans HBZ.out)⟩
                case measure => simp [intOf]; omega

          · exfalso
            have h1 := HSD.out
            rw [HST.out, List.drop_of_length_le (by omega)] at h1
            cases h1
  · have HE := Lib.hid (HEN.out (by omega))
    have HDF := Lib.hid (show decide (0 ≤ D (frn : Int)) = false from decide_eq_false h0)
    rw [encD_neg (by omega)] at dfr
    clear HLB0
    go_wp2
    try rw [Exit.noGoto_ret]
    go_ret2
    exact ⟨_, ret_wb (by rw [HDD.out, HDF.out]), by rw [HE.out]; exact World.ownsRow_nil _ _ _ _, HBw1.out⟩
end Go.Proofs.Ytjooebiiceillaa
