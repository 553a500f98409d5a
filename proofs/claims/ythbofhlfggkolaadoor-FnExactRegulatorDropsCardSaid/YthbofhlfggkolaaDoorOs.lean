/-
  Contracts of chapter 12: what regulators take away; the model's and the program's. Conditions: those that each theorem states.
-/
import Derived.Test.YthbofhlfggkolaaDoorOj
namespace Go.Proofs.YthbofhlfggkolaaDoor
open Go.RowKit
set_option linter.unusedVariables false
set_option linter.unusedSimpArgs false

/-- What a regulator takes away. -/
def rdF (xs : List Aw) (p dr pu : List Int) (i : Nat) : Int := pv p (xs.getD i Aw.none).f.toNat - pv p (xs.getD i Aw.none).t.toNat + pu.getD i 0 - dr.getD i 0
def rdT (xs : List Aw) (p dr pu : List Int) (k : Nat) : List Int := (List.range k).map (rdF xs p dr pu)
theorem rdT_len (xs : List Aw) (p dr pu : List Int) (k : Nat) : (rdT xs p dr pu k).length = k := by simp [rdT]
theorem rdT_snoc (xs : List Aw) (p dr pu : List Int) (k : Nat) : rdT xs p dr pu (k + 1) = rdT xs p dr pu k ++ [rdF xs p dr pu k] := by simp [rdT, List.range_succ]
theorem rdT_fill (xs : List Aw) (p dr pu : List Int) (n : Nat) : (List.range n).map (rdF xs p dr pu) = rdT xs p dr pu n := rfl
def rdR (J : Int) (xs : List Aw) (dr pu : List Int) (rg : List Bool) : List Int := if poC J xs dr pu rg = 0 then rdT xs (poR J xs dr pu rg) dr pu xs.length else []
theorem rdR_no {J : Int} {xs : List Aw} {dr pu : List Int} {rg : List Bool} (h : poC J xs dr pu rg ≠ 0) : rdR J xs dr pu rg = [] := by unfold rdR; rw [if_neg h]
theorem rdR_16 (J : Int) (xs : List Aw) (dr pu : List Int) (rg : List Bool) : (rdR J xs dr pu rg).length ≤ 1048576 := by
  unfold rdR
  split
  · rename_i h
    rw [rdT_len]
    have h0 : dmC J xs dr pu rg = 0 := by
      unfold poC at h
      split at h
      · assumption
      · exact h
    have := (mineOk_iff.1 (dmC_ok h0).1).2.2
    omega
  · simp
/-- What is known of potentials that fit. -/
theorem po_ok {J : Int} {xs : List Aw} {dr pu : List Int} {rg : List Bool} (h : poC J xs dr pu rg = 0) : dmC J xs dr pu rg = 0 ∧ (poR J xs dr pu rg).length = J.toNat ∧ ∀ v, -2100000000 ≤ pv (poR J xs dr pu rg) v ∧ pv (poR J xs dr pu rg) v ≤ 0 := by
  have h0 : dmC J xs dr pu rg = 0 := by
    unfold poC at h
    split at h
    · assumption
    · exact h
  obtain ⟨hmo, hdo, huo, hgo⟩ := dmC_ok h0
  have hx : ∀ i, i < xs.length → -2000000 ≤ exF dr pu i ∧ exF dr pu i ≤ 2000000 := fun i hi => by
    have h1 := wf_allO hdo (show i < dr.length by have := (flOk_iff.1 hdo).1; omega)
    have h2 := wf_allO huo (show i < pu.length by have := (flOk_iff.1 huo).1; omega)
    unfold exF
    omega
  have hJ := (mineOk_iff.1 hmo).1
  have h24 := (mineOk_iff.1 hmo).2.2
  have hp : ptOk J.toNat (edT xs (exF dr pu) rg xs.length) = true := by
    unfold poC at h
    rw [if_pos h0] at h
    cases hq : ptOk J.toNat (edT xs (exF dr pu) rg xs.length)
    · rw [hq] at h; exact absurd h (by simp)
    · rfl
  have he : poR J xs dr pu rg = itR (edT xs (exF dr pu) rg xs.length) (List.replicate J.toNat 0) (J.toNat - 1) := by
    unfold poR ptR
    rw [if_pos h0, hp]; rfl
  refine ⟨h0, by rw [he, itR_len]; simp, fun v => ?_⟩
  rw [he]
  have h1 := low_all (n := J.toNat - 1) (by have := edT_len xs (exF dr pu) rg xs.length; omega) (edT_ok (ex := exF dr pu) (rg := rg) hmo xs.length (Nat.le_refl _)) (edT_g (G := 2000000) hx xs.length (Nat.le_refl _)) (by omega) v
  omega
theorem pv_at {p : List Int} {v : Nat} (h : v < p.length) : p.getD v 0 = pv p v := rfl
set_option maxHeartbeats 4000000 in
set_option maxRecDepth 100000 in
theorem sRegulatorDrops_any (J : Int) (A : Option Addr) (cap : Nat) (xs : List Aw) (D : Value) (dr : List Int) (U : Value) (pu : List Int) (G : Option Addr) (gcap : Nat) (rg : List Bool) (w : World) (hr : AwR w A xs) (hs : ∀ a ∈ xs, a.s.size ≤ maxLen) (hl : xs.length ≤ 1048576) (hd : Row .i64 w D dr) (hdl : dr.length ≤ 1048576) (hu : Row .i64 w U pu) (hul : pu.length ≤ 1048576) (hg : BoR w G rg) (hgl : rg.length ≤ 1048576) :
    Calls Tryd.prog 28 #[.agg #[.int .i64 J, .slice A xs.length cap], D, U, .slice G rg.length gcap] w fun e w' => ∃ v, e = .returned (.tuple #[v, .int .i64 (poC J xs dr pu rg)]) ∧ OwnI w' w.heap.size v (rdR J xs dr pu rg) ∧ Below w.heap.size w w' := by
  obtain ⟨D, dcap, rfl⟩ := hd.form
  obtain ⟨U, ucap, rfl⟩ := hu.form
  have HB0 := Lib.hid (below_box w (.cells #[.int .i64 J, .slice A xs.length cap] 43))
  have HR := Lib.hid (hr.below HB0.out)
  have HD := Lib.hid (hd.below HB0.out)
  have HU := Lib.hid (hu.below HB0.out)
  have HG := Lib.hid (hg.below HB0.out)
  have HC := Lib.hid (show (w.alloc (.cells #[.int .i64 J, .slice A xs.length cap] 43)).cell? ⟨w.heap.size, 0, none⟩ = some (.int .i64 J) ∧ (w.alloc (.cells #[.int .i64 J, .slice A xs.length cap] 43)).cell? ⟨w.heap.size, 1, none⟩ = some (.slice A xs.length cap) from ⟨by simp, by simp⟩)
  have HS := Lib.hid hs
  clear hr hd hu hg hs
  by_cases hc : dmC J xs dr pu rg = 0
  · have HDM := Lib.hid hc
    have HE := Lib.hid (show poR J xs dr pu rg = ptR J.toNat (edT xs (exF dr pu) rg xs.length) ∧ poC J xs dr pu rg = (if ptOk J.toNat (edT xs (exF dr pu) rg xs.length) then 0 else 3) by unfold poR poC; rw [if_pos hc, if_pos hc]; exact ⟨rfl, rfl⟩)
    go_enter Tryd.func28, Tryd.ntmps28
    go_wp2_with fail
    (with_reducible refine (l12Ask_any w.heap.size J A cap xs _ dr _ pu G gcap rg _ HC.out.1 HC.out.2 HR.out HS.out hl HD.out hdl HU.out hul hgl).mono ?_)
    rintro e w1 ⟨rfl, hd1⟩
    have HB1 := Lib.hid (HB0.out.trans (hd1.mono HB0.out.size))
    have HR1 := Lib.hid (HR.out.below hd1)
    have HD1 := Lib.hid (HD.out.below hd1)
    have HU1 := Lib.hid (HU.out.below hd1)
    have HG1 := Lib.hid (HG.out.below hd1)
    have HC1 := Lib.hid (And.intro (cellK HC.out.1 hd1) (cellK HC.out.2 hd1))
    clear hd1
    rw [hc]
    clear hc
    go_wp2_with fail
    (with_reducible refine (l12Fit_any w.heap.size J A cap xs _ dr _ pu G gcap rg w1 HC1.out.1 HC1.out.2 HR1.out HD1.out HU1.out HG1.out HDM.out).mono ?_)
    rintro e w2 ⟨u, rfl, ho2, hd2⟩
    have HB2 := Lib.hid (HB1.out.trans (hd2.mono HB1.out.size))
    have HO2 := Lib.hid (own_leO ho2 HB1.out.size)
    have HR2 := Lib.hid (HR1.out.below hd2)
    have HD2 := Lib.hid (HD1.out.below hd2)
    have HU2 := Lib.hid (HU1.out.below hd2)
    have HC2 := Lib.hid (And.intro (cellK HC1.out.1 hd2) (cellK HC1.out.2 hd2))
    clear ho2 hd2
    obtain ⟨A2, c2, rfl⟩ := OwnI.form HO2.out
    cases hp : ptOk J.toNat (edT xs (exF dr pu) rg xs.length)
    · have HN := Lib.hid (show rdR J xs dr pu rg = [] ∧ poC J xs dr pu rg = 3 from ⟨rdR_no (by rw [HE.out.2, hp]; simp), by rw [HE.out.2, hp]; rfl⟩)
      clear hp
      go_wp2
      go_ret2
      exact ⟨_, ret_vO HN.out.2.symm, by rw [HN.out.1]; exact own_nilO _ _, HB2.out⟩
    · have hpc : poC J xs dr pu rg = 0 := by rw [HE.out.2, hp]; rfl
      rw [← HE.out.1] at HO2 ⊢
      clear hp
      obtain ⟨p, hp0⟩ : ∃ p, poR J xs dr pu rg = p := ⟨_, rfl⟩
      have HPO := po_ok hpc
      have HPL := Lib.hid (show (J.toNat : Nat) = p.length from hp0 ▸ HPO.2.1.symm)
      have HLO := Lib.hid (show ∀ v, -2100000000 ≤ pv p v ∧ pv p v ≤ 0 from hp0 ▸ HPO.2.2)
      obtain ⟨hmo, hdo, huo, hgo⟩ := dmC_ok HPO.1
      have HMO := Lib.hid hmo
      have HDU := Lib.hid (And.intro hdo huo)
      have HLL := Lib.hid (And.intro (flOk_iff.1 hdo).1 (flOk_iff.1 huo).1)
      have h24 := (mineOk_iff.1 hmo).2.2
      have HRR := Lib.hid (show rdR J xs dr pu rg = rdT xs p dr pu xs.length by unfold rdR; rw [if_pos hpc, hp0])
      clear hmo hdo huo hgo HPO
      have HPC := Lib.hid hpc
      rw [hp0] at HO2 ⊢
      have HP2 := Lib.hid (row_ownI HO2.out)
      clear hpc hp0 HE
      obtain ⟨i0, hi, hz0, hz1, hz2⟩ := info_parts info_i64
      have m1 := HC2.out.2
      go_wp2
      clear m1
      go_loopw [13, 14] (fun out i wr => ∃ k : Nat, k ≤ xs.length ∧ i = .int .i64 (k : Int) ∧ wr.ownsRow w2.heap.size 2 1 out k (intsV (rdT xs p dr pu k)) ∧ Below w2.heap.size w2 wr) (fun out i wr => xs.length - (intOf i).toNat)
      case atStart => exact ⟨0, by omega, rfl, World.ownsRow_lit _ _ 0 (Nat.le_refl _) (by simp [maxLen]) rfl, (Below.refl _ _).alloc (Nat.le_refl _) _⟩
      case round =>
        obtain ⟨k, hk, rfl, hout, hbel⟩ := hrel
        have hwsz := hbel.size
        have m1 := cellK HC2.out.2 hbel
        by_cases hlt : k < xs.length
        · skip
          have he := ends_in HMO.out hlt
          obtain ⟨fn, hfn⟩ := Int.eq_ofNat_of_zero_le he.1.1
          obtain ⟨tn, htn⟩ := Int.eq_ofNat_of_zero_le he.2.1.1
          have hfJ : fn < p.length := by have := HPL.out; omega
          have htJ : tn < p.length := by have := HPL.out; omega
          obtain ⟨ga, goff, rfl, hrg⟩ := HR2.out k hlt
          obtain ⟨⟨x0, x1, x2, x3⟩, x4, x5, x6⟩ := lay_row hrg
          rw [hfn] at x1
          rw [htn] at x2
          have hld : k < dr.length := by have := HLL.out.1; omega
          have hlu : k < pu.length := by have := HLL.out.2; omega
          obtain ⟨p1, q1, ep, -, F0⟩ := Row.cell HP2.out hfJ
          obtain ⟨p2, q2, ep2, -, T0⟩ := Row.cell HP2.out htJ
          obtain ⟨ub, uof, eu, -, U0⟩ := Row.cell HU2.out hlu
          obtain ⟨db, dof, ed, -, D0⟩ := Row.cell HD2.out hld
          subst ep
          injection ep2 with ep2
          injection ep2 with ep21 ep22
          subst ep21 ep22
          subst eu ed
          rw [pv_at hfJ] at F0
          rw [pv_at htJ] at T0
          have HFV := Lib.hid (show rdF xs p dr pu k = pv p fn - pv p tn + pu.getD k 0 - dr.getD k 0 by unfold rdF; rw [getD_of_lt hlt, hfn, htn]; rfl)
          have hb1 := HLO.out fn
          have hb2 := HLO.out tn
          have hyb := wf_allO HDU.out.1 hld
          have hzb := wf_allO HDU.out.2 hlu
          have hfi : (fn : Int) < (p.length : Int) := by omega
          have hti : (tn : Int) < (p.length : Int) := by omega
          have hkd : (k : Int) < (dr.length : Int) := by omega
          have hku : (k : Int) < (pu.length : Int) := by omega
          have hki : (k : Int) < (xs.length : Int) := by omega
          have HS := Lib.hid (show rdT xs p dr pu (k + 1) = rdT xs p dr pu k ++ [pv p fn - pv p tn + pu.getD k 0 - dr.getD k 0] by rw [rdT_snoc, HFV.out])
          clear hrg x0 x3 x4 x5 x6 he hfn htn HFV
          generalize pv p fn = a1 at *
          generalize pv p tn = a2 at *
          generalize pu.getD k 0 = z at *
          generalize dr.getD k 0 = y at *
          have hw1 : IntKind.i64.wrap (a1 - a2) = a1 - a2 := IntWalk.i64_in _ (by omega)
          have hw2 : IntKind.i64.wrap (a1 - a2 + z) = a1 - a2 + z := IntWalk.i64_in _ (by omega)
          have hw3 : IntKind.i64.wrap (a1 - a2 + z - y) = a1 - a2 + z - y := IntWalk.i64_in _ (by omega)
          go_wp2_with fail
          refine wp_region_held (S := fun w' => w'.cell? ⟨w.heap.size, 1, none⟩ = some (.slice (some ⟨ga, goff, none⟩) xs.length cap) ∧ w'.cell? ⟨ga, goff + k * 7 + 1, none⟩ = some (.int .i64 fn) ∧ w'.cell? ⟨ga, goff + k * 7 + 2, none⟩ = some (.int .i64 tn) ∧ w'.cell? ⟨p1, q1 + fn, none⟩ = some (.int .i64 a1) ∧ w'.cell? ⟨p1, q1 + tn, none⟩ = some (.int .i64 a2) ∧ w'.cell? ⟨ub, uof + k, none⟩ = some (.int .i64 z) ∧ w'.cell? ⟨db, dof + k, none⟩ = some (.int .i64 y) ∧ Below w2.heap.size w2 w') (by kernel_rfl) ?_
          try (change wpAnyH _ _ _ _ _ _ _ _ (World.drew _))
          have hS0 := (show wr.drew.cell? ⟨w.heap.size, 1, none⟩ = some (.slice (some ⟨ga, goff, none⟩) xs.length cap) ∧ wr.drew.cell? ⟨ga, goff + k * 7 + 1, none⟩ = some (.int .i64 fn) ∧ wr.drew.cell? ⟨ga, goff + k * 7 + 2, none⟩ = some (.int .i64 tn) ∧ wr.drew.cell? ⟨p1, q1 + fn, none⟩ = some (.int .i64 a1) ∧ wr.drew.cell? ⟨p1, q1 + tn, none⟩ = some (.int .i64 a2) ∧ wr.drew.cell? ⟨ub, uof + k, none⟩ = some (.int .i64 z) ∧ wr.drew.cell? ⟨db, dof + k, none⟩ = some (.int .i64 y) ∧ Below w2.heap.size w2 wr.drew from ⟨cellK HC2.out.2 (hbel.drew), cellK x1 (hbel.drew), cellK x2 (hbel.drew), cellK F0 (hbel.drew), cellK T0 (hbel.drew), cellK U0 (hbel.drew), cellK D0 (hbel.drew), hbel.drew⟩)
          refine gTake 0 (v := ?_) rfl (by kernel_rfl) (by kernel_rfl) (by kernel_rfl) (fun _ _ _ h => h) (by kernel_rfl) ?_ hS0 ?_
          rotate_left
          · (intro W hW; clear hW; go_simp; try with_reducible rfl)
          refine gTake 1 (v := ?_) rfl (by kernel_rfl) (by kernel_rfl) (by kernel_rfl) (fun _ _ _ h => h) (by kernel_rfl) ?_ hS0 ?_
          rotate_left
          · (intro W hW; clear hW; go_simp; try with_reducible rfl)
          refine gTake 2 (v := ?_) rfl (by kernel_rfl) (by kernel_rfl) (by kernel_rfl) (fun _ _ _ h => h) (by kernel_rfl) ?_ hS0 ?_
          rotate_left
          · (intro W hW; clear hW; go_simp; try with_reducible rfl)
          refine gTake 3 (v := ?_) rfl (by kernel_rfl) (by kernel_rfl) (by kernel_rfl) (fun _ _ _ h => h) (by kernel_rfl) ?_ hS0 ?_
          rotate_left
          · (intro W hW; have q0 := hW.1; have q1 := hW.2.1; have q2 := hW.2.2.1; have q3 := hW.2.2.2.1; have q4 := hW.2.2.2.2.1; have q5 := hW.2.2.2.2.2.1; have q6 := hW.2.2.2.2.2.2.1; clear hW; go_simp; try with_reducible rfl)
          refine gTake 4 (v := ?_) rfl (by kernel_rfl) (by kernel_rfl) (by kernel_rfl) (fun _ _ _ h => h) (by kernel_rfl) ?_ hS0 ?_
          rotate_left
          · (intro W hW; clear hW; go_simp; try with_reducible rfl)
          refine gTake 5 (v := ?_) rfl (by kernel_rfl) (by kernel_rfl) (by kernel_rfl) (fun _ _ _ h => h) (by kernel_rfl) ?_ hS0 ?_
          rotate_left
          · (intro W hW; clear hW; go_simp; try with_reducible rfl)
          refine gTake 6 (v := ?_) rfl (by kernel_rfl) (by kernel_rfl) (by kernel_rfl) (fun _ _ _ h => h) (by kernel_rfl) ?_ hS0 ?_
          rotate_left
          · (intro W hW; clear hW; go_simp; try with_reducible rfl)
          refine gTake 7 (v := ?_) rfl (by kernel_rfl) (by kernel_rfl) (by kernel_rfl) (fun _ _ _ h => h) (by kernel_rfl) ?_ hS0 ?_
          rotate_left
          · (intro W hW; have q0 := hW.1; have q1 := hW.2.1; have q2 := hW.2.2.1; have q3 := hW.2.2.2.1; have q4 := hW.2.2.2.2.1; have q5 := hW.2.2.2.2.2.1; have q6 := hW.2.2.2.2.2.2.1; clear hW; go_simp; try with_reducible rfl)
          refine gTake 8 (v := ?_) rfl (by kernel_rfl) (by kernel_rfl) (by kernel_rfl) (fun _ _ _ h => h) (by kernel_rfl) ?_ hS0 ?_
          rotate_left
          · (intro W hW; clear hW; go_simp; try with_reducible rfl)
          refine gTake 9 (v := ?_) rfl (by kernel_rfl) (by kernel_rfl) (by kernel_rfl) (fun _ _ _ h => h) (by kernel_rfl) ?_ hS0 ?_
          rotate_left
          · (intro W hW; have q0 := hW.1; have q1 := hW.2.1; have q2 := hW.2.2.1; have q3 := hW.2.2.2.1; have q4 := hW.2.2.2.2.1; have q5 := hW.2.2.2.2.2.1; have q6 := hW.2.2.2.2.2.2.1; clear hW; go_simp; try with_reducible rfl)
          refine gTake 10 (v := ?_) rfl (by kernel_rfl) (by kernel_rfl) (by kernel_rfl) (fun _ _ _ h => h) (by kernel_rfl) ?_ hS0 ?_
          rotate_left
          · (intro W hW; clear hW; go_simp; try with_reducible rfl)
          refine gTake 11 (v := ?_) rfl (by kernel_rfl) (by kernel_rfl) (by kernel_rfl) (fun _ _ _ h => h) (by kernel_rfl) ?_ hS0 ?_
          rotate_left
          · (intro W hW; clear hW; go_simp; try with_reducible rfl)
          refine gTake 12 (v := ?_) rfl (by kernel_rfl) (by kernel_rfl) (by kernel_rfl) (fun _ _ _ h => h) (by kernel_rfl) ?_ hS0 ?_
          rotate_left
          · (intro W hW; have q0 := hW.1; have q1 := hW.2.1; have q2 := hW.2.2.1; have q3 := hW.2.2.2.1; have q4 := hW.2.2.2.2.1; have q5 := hW.2.2.2.2.2.1; have q6 := hW.2.2.2.2.2.2.1; clear hW; go_simp; try with_reducible rfl)
          refine gTake 13 (v := ?_) rfl (by kernel_rfl) (by kernel_rfl) (by kernel_rfl) (fun _ _ _ h => h) (by kernel_rfl) ?_ hS0 ?_
          rotate_left
          · (intro W hW; clear hW; go_simp; try with_reducible rfl)
          refine gTake 14 (v := ?_) rfl (by kernel_rfl) (by kernel_rfl) (by kernel_rfl) (fun _ _ _ h => h) (by kernel_rfl) ?_ hS0 ?_
          rotate_left
          · (intro W hW; clear hW; go_simp; try with_reducible rfl)
          refine gTake 15 (v := ?_) rfl (by kernel_rfl) (by kernel_rfl) (by kernel_rfl) (fun _ _ _ h => h) (by kernel_rfl) ?_ hS0 ?_
          rotate_left
          · (intro W hW; clear hW; go_simp; try with_reducible rfl)
          refine gTake 16 (v := ?_) rfl (by kernel_rfl) (by kernel_rfl) (by kernel_rfl) (fun _ _ _ h => h) (by kernel_rfl) ?_ hS0 ?_
          rotate_left
          · (intro W hW; have q0 := hW.1; have q1 := hW.2.1; have q2 := hW.2.2.1; have q3 := hW.2.2.2.1; have q4 := hW.2.2.2.2.1; have q5 := hW.2.2.2.2.2.1; have q6 := hW.2.2.2.2.2.2.1; clear hW; go_simp; try with_reducible rfl)
          refine gTake 17 (v := ?_) rfl (by kernel_rfl) (by kernel_rfl) (by kernel_rfl) (fun _ _ _ h => h) (by kernel_rfl) ?_ hS0 ?_
          rotate_left
          · (intro W hW; clear hW; go_simp; try with_reducible rfl)
          refine gTake 18 (v := ?_) rfl (by kernel_rfl) (by kernel_rfl) (by kernel_rfl) (fun _ _ _ h => h) (by kernel_rfl) ?_ hS0 ?_
          rotate_left
          · (intro W hW; have q0 := hW.1; have q1 := hW.2.1; have q2 := hW.2.2.1; have q3 := hW.2.2.2.1; have q4 := hW.2.2.2.2.1; have q5 := hW.2.2.2.2.2.1; have q6 := hW.2.2.2.2.2.2.1; clear hW; go_simp; try with_reducible rfl)
          refine gTake 19 (v := ?_) rfl (by kernel_rfl) (by kernel_rfl) (by kernel_rfl) (fun _ _ _ h => h) (by kernel_rfl) ?_ hS0 ?_
          rotate_left
          · (intro W hW; clear hW; go_simp; try with_reducible rfl)
          refine gTake 20 (v := ?_) rfl (by kernel_rfl) (by kernel_rfl) (by kernel_rfl) (fun _ _ _ h => h) (by kernel_rfl) ?_ hS0 ?_
          rotate_left
          · (intro W hW; clear hW; go_simp; try with_reducible rfl)
          refine gTake 21 (v := ?_) rfl (by kernel_rfl) (by kernel_rfl) (by kernel_rfl) (fun _ _ _ h => h) (by kernel_rfl) ?_ hS0 ?_
          rotate_left
          · (intro W hW; clear hW; go_simp; try with_reducible rfl)
          refine gTake 22 (v := ?_) rfl (by kernel_rfl) (by kernel_rfl) (by kernel_rfl) (fun _ _ _ h => h) (by kernel_rfl) ?_ hS0 ?_
          rotate_left
          · (intro W hW; clear hW; go_simp; try with_reducible rfl)
          refine gTake 23 (v := ?_) rfl (by kernel_rfl) (by kernel_rfl) (by kernel_rfl) (fun _ _ _ h => h) (by kernel_rfl) ?_ hS0 ?_
          rotate_left
          · (intro W hW; have q0 := hW.1; have q1 := hW.2.1; have q2 := hW.2.2.1; have q3 := hW.2.2.2.1; have q4 := hW.2.2.2.2.1; have q5 := hW.2.2.2.2.2.1; have q6 := hW.2.2.2.2.2.2.1; clear hW; go_simp; try with_reducible rfl)
          refine gTake 24 (v := ?_) rfl (by kernel_rfl) (by kernel_rfl) (by kernel_rfl) (fun _ _ _ h => h) (by kernel_rfl) ?_ hS0 ?_
          rotate_left
          · (intro W hW; clear hW; go_simp; try with_reducible rfl)
          refine gTake 25 (v := ?_) rfl (by kernel_rfl) (by kernel_rfl) (by kernel_rfl) (fun _ _ _ h => h) (by kernel_rfl) ?_ hS0 ?_
          rotate_left
          · (intro W hW; clear hW; go_simp; try with_reducible rfl)
          refine gTake 26 (v := ?_) rfl (by kernel_rfl) (by kernel_rfl) (by kernel_rfl) (fun _ _ _ h => h) (by kernel_rfl) ?_ hS0 ?_
          rotate_left
          · (intro W hW; clear hW; go_simp; try with_reducible rfl)
          refine gTake 27 (v := ?_) rfl (by kernel_rfl) (by kernel_rfl) (by kernel_rfl) (fun _ _ _ h => h) (by kernel_rfl) ?_ hS0 ?_
          rotate_left
          · (intro W hW; clear hW; go_simp; try with_reducible rfl)
          refine gTake 28 (v := ?_) rfl (by kernel_rfl) (by kernel_rfl) (by kernel_rfl) (fun _ _ _ h => h) (by kernel_rfl) ?_ hS0 ?_
          rotate_left
          · (intro W hW; have q0 := hW.1; have q1 := hW.2.1; have q2 := hW.2.2.1; have q3 := hW.2.2.2.1; have q4 := hW.2.2.2.2.1; have q5 := hW.2.2.2.2.2.1; have q6 := hW.2.2.2.2.2.2.1; clear hW; go_simp; try with_reducible rfl)
          refine gTake 29 (v := ?_) rfl (by kernel_rfl) (by kernel_rfl) (by kernel_rfl) (fun _ _ _ h => h) (by kernel_rfl) ?_ hS0 ?_
          rotate_left
          · (intro W hW; clear hW; go_simp; try with_reducible rfl)
          refine gOne 30 rfl (by kernel_rfl) (by kernel_rfl) (fun K hK => ?_)
          go_simp
          skip
          have hS1 := (show (wr.drew.alloc (.cells #[.int .i64 (a1 - a2 + z - y)] 2)).cell? ⟨w.heap.size, 1, none⟩ = some (.slice (some ⟨ga, goff, none⟩) xs.length cap) ∧ (wr.drew.alloc (.cells #[.int .i64 (a1 - a2 + z - y)] 2)).cell? ⟨ga, goff + k * 7 + 1, none⟩ = some (.int .i64 fn) ∧ (wr.drew.alloc (.cells #[.int .i64 (a1 - a2 + z - y)] 2)).cell? ⟨ga, goff + k * 7 + 2, none⟩ = some (.int .i64 tn) ∧ (wr.drew.alloc (.cells #[.int .i64 (a1 - a2 + z - y)] 2)).cell? ⟨p1, q1 + fn, none⟩ = some (.int .i64 a1) ∧ (wr.drew.alloc (.cells #[.int .i64 (a1 - a2 + z - y)] 2)).cell? ⟨p1, q1 + tn, none⟩ = some (.int .i64 a2) ∧ (wr.drew.alloc (.cells #[.int .i64 (a1 - a2 + z - y)] 2)).cell? ⟨ub, uof + k, none⟩ = some (.int .i64 z) ∧ (wr.drew.alloc (.cells #[.int .i64 (a1 - a2 + z - y)] 2)).cell? ⟨db, dof + k, none⟩ = some (.int .i64 y) ∧ Below w2.heap.size w2 (wr.drew.alloc (.cells #[.int .i64 (a1 - a2 + z - y)] 2)) from ⟨cellK HC2.out.2 ((hbel.drew).alloc hwsz _), cellK x1 ((hbel.drew).alloc hwsz _), cellK x2 ((hbel.drew).alloc hwsz _), cellK F0 ((hbel.drew).alloc hwsz _), cellK T0 ((hbel.drew).alloc hwsz _), cellK U0 ((hbel.drew).alloc hwsz _), cellK D0 ((hbel.drew).alloc hwsz _), (hbel.drew).alloc hwsz _⟩)
          refine hK _ _ hS1 ?_
          clear hK K
          refine gOne 31 rfl (by kernel_rfl) (by kernel_rfl) (fun K hK => ?_)
          refine gAppendOwn (.tmp 39) (.tmp 69) 36 rfl 2 i0 (.int .i64 0) 1 8 Tryd.underlying36 hi hz0 hz1 hz2 rfl (by decide) w2.heap.size u13 k (intsV (rdT xs p dr pu k)) (by simp [Act.eval, Act.put]) (hout.alloc _) ⟨wr.heap.size, 0, none⟩ 1 1 [.int .i64 (a1 - a2 + z - y)] (by simp [Act.eval, Act.put]) rfl (fun j u hj => by match j, hj with | 0, hj => (simp at hj; subst hj; simp [Addr.add]) | j + 1, hj => (simp at hj)) (by simp [Value.oneCell']) (by unfold maxLen; omega) (by omega) (by simp; omega) ?_
          intro v' w3 ho3 hg3
          have HB3 : Below w2.heap.size w2 w3 := ((hbel.drew).alloc hwsz _).grown hg3 (by simp; omega) (fun k hk => (hout.lt k hk).1)
          have hS2 := (show w3.cell? ⟨w.heap.size, 1, none⟩ = some (.slice (some ⟨ga, goff, none⟩) xs.length cap) ∧ w3.cell? ⟨ga, goff + k * 7 + 1, none⟩ = some (.int .i64 fn) ∧ w3.cell? ⟨ga, goff + k * 7 + 2, none⟩ = some (.int .i64 tn) ∧ w3.cell? ⟨p1, q1 + fn, none⟩ = some (.int .i64 a1) ∧ w3.cell? ⟨p1, q1 + tn, none⟩ = some (.int .i64 a2) ∧ w3.cell? ⟨ub, uof + k, none⟩ = some (.int .i64 z) ∧ w3.cell? ⟨db, dof + k, none⟩ = some (.int .i64 y) ∧ Below w2.heap.size w2 w3 from ⟨cellK HC2.out.2 (HB3), cellK x1 (HB3), cellK x2 (HB3), cellK F0 (HB3), cellK T0 (HB3), cellK U0 (HB3), cellK D0 (HB3), HB3⟩)
          refine hK _ _ hS2 ?_
          clear hK K
          refine gTake 32 (v := ?_) rfl (by kernel_rfl) (by kernel_rfl) (by kernel_rfl) (fun _ _ _ h => h) (by kernel_rfl) ?_ hS2 ?_
          rotate_left
          · (intro W hW; clear hW; go_simp; try with_reducible rfl)
          refine wpAnyH_done (by kernel_rfl) ?_ _
          go_simp
          have HOO : Hid (w3.ownsRow w2.heap.size 2 1 v' (k + 1) (intsV (rdT xs p dr pu (k + 1)))) := Lib.hid (by rw [HS.out]; simpa [intsV] using ho3)
          have HBB := Lib.hid HB3
          clear ho3 hg3 HB3 hS0 hS1 hS2 hout hbel
          go_wp2
          go_roundw
          case rel => exact ⟨k + 1, by omega, by go_num, HOO.out, HBB.out⟩
          case measure => simp [intOf]; omega
        · obtain rfl : k = xs.length := by omega
          have HOO := Lib.hid hout
          clear hout
          go_wp2
          go_ret2
          refine ⟨_, ret_vO HPC.out.symm, ?_, HB2.out.trans (hbel.mono HB2.out.size)⟩
          rw [HRR.out]
          refine own_leO (B := w2.heap.size) ?_ HB2.out.size
          unfold OwnI
          rw [rdT_len]
          exact HOO.out
  · have HE := Lib.hid (show rdR J xs dr pu rg = [] ∧ poC J xs dr pu rg = dmC J xs dr pu rg from ⟨rdR_no (by unfold poC; rw [if_neg hc]; exact hc), by unfold poC; rw [if_neg hc]⟩)
    have hz1 : (dmC J xs dr pu rg != 0) = true := by simp [hc]
    have hz2 : (dmC J xs dr pu rg == 0) = false := by simp [hc]
    go_enter Tryd.func28, Tryd.ntmps28
    go_wp2_with fail
    (with_reducible refine (l12Ask_any w.heap.size J A cap xs _ dr _ pu G gcap rg _ HC.out.1 HC.out.2 HR.out HS.out hl HD.out hdl HU.out hul hgl).mono ?_)
    rintro e w1 ⟨rfl, hd1⟩
    have HB1 := Lib.hid (HB0.out.trans (hd1.mono HB0.out.size))
    have HR1 := Lib.hid (HR.out.below hd1)
    have HD1 := Lib.hid (HD.out.below hd1)
    have HU1 := Lib.hid (HU.out.below hd1)
    have HG1 := Lib.hid (HG.out.below hd1)
    have HC1 := Lib.hid (And.intro (cellK HC.out.1 hd1) (cellK HC.out.2 hd1))
    clear hd1
    generalize dmC J xs dr pu rg = z at *
    go_wp2
    go_ret2
    exact ⟨_, ret_vO HE.out.2.symm, by rw [HE.out.1]; exact own_nilO _ _, HB1.out⟩
set_option maxHeartbeats 4000000 in
set_option maxRecDepth 100000 in
theorem iRegulatorDrops_any (J : Int) (A : Option Addr) (cap : Nat) (xs : List Aw) (D : Value) (dr : List Int) (U : Value) (pu : List Int) (G : Option Addr) (gcap : Nat) (rg : List Bool) (a b : Addr) (w : World) (hr : AwR w A xs) (hs : ∀ a ∈ xs, a.s.size ≤ maxLen) (hl : xs.length ≤ 1048576) (hd : Row .i64 w D dr) (hdl : dr.length ≤ 1048576) (hu : Row .i64 w U pu) (hul : pu.length ≤ 1048576) (hg : BoR w G rg) (hgl : rg.length ≤ 1048576) (hE : ErrS w a b) :
    Calls Tryd.prog 29 #[.agg #[.int .i64 J, .slice A xs.length cap], D, U, .slice G rg.length gcap] w fun e w' => ∃ v, e = .returned (.tuple #[v, .int .i64 (poC J xs dr pu rg)]) ∧ OwnI w' w.heap.size v (rdR J xs dr pu rg) ∧ Below w.heap.size w w' := by
  obtain ⟨D, dcap, rfl⟩ := hd.form
  obtain ⟨U, ucap, rfl⟩ := hu.form
  have HB0 := Lib.hid (below_box w (.cells #[.int .i64 J, .slice A xs.length cap] 43))
  have HR := Lib.hid (hr.below HB0.out)
  have HD := Lib.hid (hd.below HB0.out)
  have HU := Lib.hid (hu.below HB0.out)
  have HG := Lib.hid (hg.below HB0.out)
  have HC := Lib.hid (show (w.alloc (.cells #[.int .i64 J, .slice A xs.length cap] 43)).cell? ⟨w.heap.size, 0, none⟩ = some (.int .i64 J) ∧ (w.alloc (.cells #[.int .i64 J, .slice A xs.length cap] 43)).cell? ⟨w.heap.size, 1, none⟩ = some (.slice A xs.length cap) from ⟨by simp, by simp⟩)
  have HS := Lib.hid hs
  clear hr hd hu hg hs
  have HPP := Lib.hid (iPotentialsOf_any J A cap xs (.slice D dr.length dcap) dr (.slice U pu.length ucap) pu G gcap rg a b (w.alloc (.cells #[.int .i64 J, .slice A xs.length cap] 43)) HR.out HS.out hl HD.out hdl HU.out hul HG.out hgl (hE.below HB0.out))
  clear hE
  go_enter Tryd.func29, Tryd.ntmps29
  go_wp2_with fail
  (with_reducible refine (HPP.out).mono ?_)
  rintro e w2 ⟨v, rfl, ho2, hd2⟩
  have HB2 := Lib.hid (HB0.out.trans (hd2.mono HB0.out.size))
  by_cases hpc : poC J xs dr pu rg = 0
  · have HR2 := Lib.hid (HR.out.below hd2)
    have HD2 := Lib.hid (HD.out.below hd2)
    have HU2 := Lib.hid (HU.out.below hd2)
    have m1 := cellK HC.out.2 hd2
    rw [hpc]
    obtain ⟨p, hp0⟩ : ∃ p, poR J xs dr pu rg = p := ⟨_, rfl⟩
    have HPO := po_ok hpc
    have HPL := Lib.hid (show (J.toNat : Nat) = p.length from hp0 ▸ HPO.2.1.symm)
    have HLO := Lib.hid (show ∀ v, -2100000000 ≤ pv p v ∧ pv p v ≤ 0 from hp0 ▸ HPO.2.2)
    obtain ⟨hmo, hdo, huo, hgo⟩ := dmC_ok HPO.1
    have HMO := Lib.hid hmo
    have HDU := Lib.hid (And.intro hdo huo)
    have HLL := Lib.hid (And.intro (flOk_iff.1 hdo).1 (flOk_iff.1 huo).1)
    have h24 := (mineOk_iff.1 hmo).2.2
    have HRR := Lib.hid (show rdR J xs dr pu rg = rdT xs p dr pu xs.length by unfold rdR; rw [if_pos hpc, hp0])
    clear hmo hdo huo hgo HPO
    rw [hp0] at ho2
    have HP2 := Lib.hid (row_ownI ho2)
    obtain ⟨A2, c2, rfl⟩ := OwnI.form ho2
    have HPC := Lib.hid hpc
    clear hpc hp0 ho2 hd2
    have HMK := Lib.hid (run_make_row' (P := Tryd.prog) 36 2 (.int .i64 0) 8 Tryd.underlying36 info_i64 rfl .i64 .i64 xs.length (by omega) (by omega))
    have hmk := HMK.out
    have hw2 : w.heap.size < w2.heap.size := World.block_lt_of_cell? _ _ m1
    have hnw : ¬ w.heap.size = w2.heap.size := by omega
    go_wp2
    clear hmk
    go_loopw [33] (fun i wr => ∃ k : Nat, k ≤ xs.length ∧ i = .int .i64 (k : Int) ∧ Hid (wr.ownsRow w2.heap.size 2 1 (.slice (some ⟨w2.heap.size, 0, none⟩) xs.length xs.length) xs.length (intsV (fillO xs.length (rdF xs p dr pu) k))) ∧ Hid (Below w2.heap.size w2 wr)) (fun i wr => xs.length - (intOf i).toNat)
    case atStart =>
      refine ⟨0, by omega, rfl, Lib.hid ?_, Lib.hid ((Below.refl _ _).alloc (Nat.le_refl _) _)⟩
      have h := World.ownsRow_lit (base := w2.heap.size) (e := 2) (size := 1) w2 (madeCells #[.int .i64 0] xs.length) xs.length (Nat.le_refl _) (by unfold maxLen; omega) (by simp [madeCells])
      rwa [fillO_made _ (rdF xs p dr pu)] at h
    case round =>
      obtain ⟨k, hk, rfl, HOW, HBL⟩ := hrel
      have hbel := HBL.out
      by_cases hlt : k < xs.length
      · skip
        have he := ends_in HMO.out hlt
        obtain ⟨fn, hfn⟩ := Int.eq_ofNat_of_zero_le he.1.1
        obtain ⟨tn, htn⟩ := Int.eq_ofNat_of_zero_le he.2.1.1
        have hfJ : fn < p.length := by have := HPL.out; omega
        have htJ : tn < p.length := by have := HPL.out; omega
        obtain ⟨ga, goff, rfl, hrg⟩ := (HR2.out.below hbel) k hlt
        obtain ⟨⟨x0, x1, x2, x3⟩, x4, x5, x6⟩ := lay_row hrg
        rw [hfn] at x1
        rw [htn] at x2
        have hld : k < dr.length := by have := HLL.out.1; omega
        have hlu : k < pu.length := by have := HLL.out.2; omega
        obtain ⟨pb1, pq1, ep0, -, F00⟩ := Row.cell HP2.out hfJ
        have hp1 : pb1 < w2.heap.size := World.block_lt_of_cell? _ _ F00
        obtain ⟨ub1, uf1, eu0, -, U00⟩ := Row.cell HU2.out hlu
        have hu1 : ub1 < w2.heap.size := World.block_lt_of_cell? _ _ U00
        obtain ⟨db1, df1, ed0, -, D00⟩ := Row.cell HD2.out hld
        have hd1 : db1 < w2.heap.size := World.block_lt_of_cell? _ _ D00
        obtain ⟨p1, q1, ep, -, F0⟩ := Row.cell (HP2.out.below hbel) hfJ
        obtain ⟨p2, q2, ep2, -, T0⟩ := Row.cell (HP2.out.below hbel) htJ
        obtain ⟨ub, uof, eu, -, U0⟩ := Row.cell (HU2.out.below hbel) hlu
        obtain ⟨db, dof, ed, -, D0⟩ := Row.cell (HD2.out.below hbel) hld
        subst ep
        injection ep0 with ep0
        injection ep0 with ep01 ep02
        subst ep01 ep02
        injection ep2 with ep2
        injection ep2 with ep21 ep22
        subst ep21 ep22
        subst eu
        injection eu0 with eu0
        injection eu0 with eu01 eu02
        subst eu01 eu02
        subst ed
        injection ed0 with ed0
        injection ed0 with ed01 ed02
        subst ed01 ed02
        rw [pv_at hfJ] at F0
        rw [pv_at htJ] at T0
        have HFV := Lib.hid (show rdF xs p dr pu k = pv p fn - pv p tn + pu.getD k 0 - dr.getD k 0 by unfold rdF; rw [getD_of_lt hlt, hfn, htn]; rfl)
        have hb1 := HLO.out fn
        have hb2 := HLO.out tn
        have hyb := wf_allO HDU.out.1 hld
        have hzb := wf_allO HDU.out.2 hlu
        have hfi : (fn : Int) < (p.length : Int) := by omega
        have hti : (tn : Int) < (p.length : Int) := by omega
        have hkd : (k : Int) < (dr.length : Int) := by omega
        have hku : (k : Int) < (pu.length : Int) := by omega
        have hki : (k : Int) < (xs.length : Int) := by omega
        have HPUT := Lib.hid (fillO_put (rdF xs p dr pu) hlt)
        rw [HFV.out] at HPUT
        have dz : wr.cell? ⟨w2.heap.size, k, none⟩ = some (.int .i64 0) := by
          rw [HOW.out.cellAt k (by omega), fillO_at _ hlt]
        have fz : wr.frozen? ⟨w2.heap.size, k, none⟩ = false := HOW.out.frozenAt k
        have hwz : w2.heap.size < wr.heap.size := World.block_lt_of_cell? _ _ dz
        clear F00 U00 D00 he HFV hrg
        generalize xs[k] = aw at *
        obtain ⟨sa, f, t, l, se, fr, sh⟩ := aw
        dsimp only at x0 x1 x2 x3 x4 x5 x6 hfn htn
        subst hfn htn
        generalize pv p fn = a1 at *
        generalize pv p tn = a2 at *
        generalize pu.getD k 0 = z at *
        generalize dr.getD k 0 = y at *
        have hv1 : IntKind.i64.wrap (a1 - a2) = a1 - a2 := IntWalk.i64_in _ (by omega)
        have hv2 : IntKind.i64.wrap (a1 - a2 + z) = a1 - a2 + z := IntWalk.i64_in _ (by omega)
        have hv3 : IntKind.i64.wrap (a1 - a2 + z - y) = a1 - a2 + z - y := IntWalk.i64_in _ (by omega)
        go_wp2_with fail
        have hbx := below_box wr (.cells #[.string sa, .int .i64 (fn : Int), .int .i64 (tn : Int), .int .i64 l, .int .i64 se, .int .i64 fr, .int .i64 sh] 86)
        have y1 : (wr.alloc (.cells #[.string sa, .int .i64 (fn : Int), .int .i64 (tn : Int), .int .i64 l, .int .i64 se, .int .i64 fr, .int .i64 sh] 86)).cell? ⟨wr.heap.size, 1, none⟩ = some (.int .i64 (fn : Int)) := by simp
        have y2 : (wr.alloc (.cells #[.string sa, .int .i64 (fn : Int), .int .i64 (tn : Int), .int .i64 l, .int .i64 se, .int .i64 fr, .int .i64 sh] 86)).cell? ⟨wr.heap.size, 2, none⟩ = some (.int .i64 (tn : Int)) := by simp
        have y3 := cellK F0 hbx
        have y4 := cellK T0 hbx
        have y5 := cellK U0 hbx
        have y6 := cellK D0 hbx
        have dy := cellK dz hbx
        have fy := (hbx.frozen (World.block_lt_of_cell? _ _ dz)).trans fz
        have HBA := Lib.hid (hbel.alloc hbel.size (.cells #[.string sa, .int .i64 (fn : Int), .int .i64 (tn : Int), .int .i64 l, .int .i64 se, .int .i64 fr, .int .i64 sh] 86))
        have HOA := Lib.hid (own_below HOW.out hbx)
        generalize (wr.alloc (.cells #[.string sa, .int .i64 (fn : Int), .int .i64 (tn : Int), .int .i64 l, .int .i64 se, .int .i64 fr, .int .i64 sh] 86)) = WA at *
        have dy' : WA.drew.cell? ⟨w2.heap.size, k, none⟩ = some (.int .i64 0) := dy
        have fy' : WA.drew.frozen? ⟨w2.heap.size, k, none⟩ = false := fy
        clear F0 T0 U0 D0 dz fz hbx x0 x1 x2 x3 x4 x5 x6 dy fy hbel
        refine wp_region_held (S := fun w' => w'.cell? ⟨wr.heap.size, 1, none⟩ = some (.int .i64 (fn : Int)) ∧ w'.cell? ⟨wr.heap.size, 2, none⟩ = some (.int .i64 (tn : Int)) ∧ w'.cell? ⟨p1, q1 + fn, none⟩ = some (.int .i64 a1) ∧ w'.cell? ⟨p1, q1 + tn, none⟩ = some (.int .i64 a2) ∧ w'.cell? ⟨ub, uof + k, none⟩ = some (.int .i64 z) ∧ w'.cell? ⟨db, dof + k, none⟩ = some (.int .i64 y) ∧ Below w2.heap.size w2 w') (by kernel_rfl) ?_
        try (change wpAnyH _ _ _ _ _ _ _ _ (World.drew _))
        have hS0 := (show WA.drew.cell? ⟨wr.heap.size, 1, none⟩ = some (.int .i64 (fn : Int)) ∧ WA.drew.cell? ⟨wr.heap.size, 2, none⟩ = some (.int .i64 (tn : Int)) ∧ WA.drew.cell? ⟨p1, q1 + fn, none⟩ = some (.int .i64 a1) ∧ WA.drew.cell? ⟨p1, q1 + tn, none⟩ = some (.int .i64 a2) ∧ WA.drew.cell? ⟨ub, uof + k, none⟩ = some (.int .i64 z) ∧ WA.drew.cell? ⟨db, dof + k, none⟩ = some (.int .i64 y) ∧ Below w2.heap.size w2 WA.drew from ⟨y1, y2, y3, y4, y5, y6, Below.drew HBA.out⟩)
        refine gTake 0 (v := ?_) rfl (by kernel_rfl) (by kernel_rfl) (by kernel_rfl) (fun _ _ _ h => h) (by kernel_rfl) ?_ hS0 ?_
        rotate_left
        · (intro W hW; clear hW; go_simp; try with_reducible rfl)
        refine gTake 1 (v := ?_) rfl (by kernel_rfl) (by kernel_rfl) (by kernel_rfl) (fun _ _ _ h => h) (by kernel_rfl) ?_ hS0 ?_
        rotate_left
        · (intro W hW; clear hW; go_simp; try with_reducible rfl)
        refine gTake 2 (v := ?_) rfl (by kernel_rfl) (by kernel_rfl) (by kernel_rfl) (fun _ _ _ h => h) (by kernel_rfl) ?_ hS0 ?_
        rotate_left
        · (intro W hW; clear hW; go_simp; try with_reducible rfl)
        refine gTake 3 (v := ?_) rfl (by kernel_rfl) (by kernel_rfl) (by kernel_rfl) (fun _ _ _ h => h) (by kernel_rfl) ?_ hS0 ?_
        rotate_left
        · (intro W hW; clear hW; go_simp; try with_reducible rfl)
        refine gTake 4 (v := ?_) rfl (by kernel_rfl) (by kernel_rfl) (by kernel_rfl) (fun _ _ _ h => h) (by kernel_rfl) ?_ hS0 ?_
        rotate_left
        · (intro W hW; have q0 := hW.1; have q1 := hW.2.1; have q2 := hW.2.2.1; have q3 := hW.2.2.2.1; have q4 := hW.2.2.2.2.1; have q5 := hW.2.2.2.2.2.1; clear hW; go_simp; try with_reducible rfl)
        refine gTake 5 (v := ?_) rfl (by kernel_rfl) (by kernel_rfl) (by kernel_rfl) (fun _ _ _ h => h) (by kernel_rfl) ?_ hS0 ?_
        rotate_left
        · (intro W hW; clear hW; go_simp; try with_reducible rfl)
        refine gTake 6 (v := ?_) rfl (by kernel_rfl) (by kernel_rfl) (by kernel_rfl) (fun _ _ _ h => h) (by kernel_rfl) ?_ hS0 ?_
        rotate_left
        · (intro W hW; have q0 := hW.1; have q1 := hW.2.1; have q2 := hW.2.2.1; have q3 := hW.2.2.2.1; have q4 := hW.2.2.2.2.1; have q5 := hW.2.2.2.2.2.1; clear hW; go_simp; try with_reducible rfl)
        refine gTake 7 (v := ?_) rfl (by kernel_rfl) (by kernel_rfl) (by kernel_rfl) (fun _ _ _ h => h) (by kernel_rfl) ?_ hS0 ?_
        rotate_left
        · (intro W hW; clear hW; go_simp; try with_reducible rfl)
        refine gTake 8 (v := ?_) rfl (by kernel_rfl) (by kernel_rfl) (by kernel_rfl) (fun _ _ _ h => h) (by kernel_rfl) ?_ hS0 ?_
        rotate_left
        · (intro W hW; clear hW; go_simp; try with_reducible rfl)
        refine gTake 9 (v := ?_) rfl (by kernel_rfl) (by kernel_rfl) (by kernel_rfl) (fun _ _ _ h => h) (by kernel_rfl) ?_ hS0 ?_
        rotate_left
        · (intro W hW; have q0 := hW.1; have q1 := hW.2.1; have q2 := hW.2.2.1; have q3 := hW.2.2.2.1; have q4 := hW.2.2.2.2.1; have q5 := hW.2.2.2.2.2.1; clear hW; go_simp; try with_reducible rfl)
        refine gTake 10 (v := ?_) rfl (by kernel_rfl) (by kernel_rfl) (by kernel_rfl) (fun _ _ _ h => h) (by kernel_rfl) ?_ hS0 ?_
        rotate_left
        · (intro W hW; clear hW; go_simp; try with_reducible rfl)
        refine gTake 11 (v := ?_) rfl (by kernel_rfl) (by kernel_rfl) (by kernel_rfl) (fun _ _ _ h => h) (by kernel_rfl) ?_ hS0 ?_
        rotate_left
        · (intro W hW; have q0 := hW.1; have q1 := hW.2.1; have q2 := hW.2.2.1; have q3 := hW.2.2.2.1; have q4 := hW.2.2.2.2.1; have q5 := hW.2.2.2.2.2.1; clear hW; go_simp; try with_reducible rfl)
        refine gTake 12 (v := ?_) rfl (by kernel_rfl) (by kernel_rfl) (by kernel_rfl) (fun _ _ _ h => h) (by kernel_rfl) ?_ hS0 ?_
        rotate_left
        · (intro W hW; clear hW; go_simp; try with_reducible rfl)
        refine gTake 13 (v := ?_) rfl (by kernel_rfl) (by kernel_rfl) (by kernel_rfl) (fun _ _ _ h => h) (by kernel_rfl) ?_ hS0 ?_
        rotate_left
        · (intro W hW; clear hW; go_simp; try with_reducible rfl)
        refine gTake 14 (v := ?_) rfl (by kernel_rfl) (by kernel_rfl) (by kernel_rfl) (fun _ _ _ h => h) (by kernel_rfl) ?_ hS0 ?_
        rotate_left
        · (intro W hW; clear hW; go_simp; try with_reducible rfl)
        refine gTake 15 (v := ?_) rfl (by kernel_rfl) (by kernel_rfl) (by kernel_rfl) (fun _ _ _ h => h) (by kernel_rfl) ?_ hS0 ?_
        rotate_left
        · (intro W hW; clear hW; go_simp; try with_reducible rfl)
        refine gTake 16 (v := ?_) rfl (by kernel_rfl) (by kernel_rfl) (by kernel_rfl) (fun _ _ _ h => h) (by kernel_rfl) ?_ hS0 ?_
        rotate_left
        · (intro W hW; have q0 := hW.1; have q1 := hW.2.1; have q2 := hW.2.2.1; have q3 := hW.2.2.2.1; have q4 := hW.2.2.2.2.1; have q5 := hW.2.2.2.2.2.1; clear hW; go_simp; try with_reducible rfl)
        refine gTake 17 (v := ?_) rfl (by kernel_rfl) (by kernel_rfl) (by kernel_rfl) (fun _ _ _ h => h) (by kernel_rfl) ?_ hS0 ?_
        rotate_left
        · (intro W hW; clear hW; go_simp; try with_reducible rfl)
        refine gTake 18 (v := ?_) rfl (by kernel_rfl) (by kernel_rfl) (by kernel_rfl) (fun _ _ _ h => h) (by kernel_rfl) ?_ hS0 ?_
        rotate_left
        · (intro W hW; clear hW; go_simp; try with_reducible rfl)
        refine gTake 19 (v := ?_) rfl (by kernel_rfl) (by kernel_rfl) (by kernel_rfl) (fun _ _ _ h => h) (by kernel_rfl) ?_ hS0 ?_
        rotate_left
        · (intro W hW; clear hW; go_simp; try with_reducible rfl)
        refine gTake 20 (v := ?_) rfl (by kernel_rfl) (by kernel_rfl) (by kernel_rfl) (fun _ _ _ h => h) (by kernel_rfl) ?_ hS0 ?_
        rotate_left
        · (intro W hW; clear hW; go_simp; try with_reducible rfl)
        refine gTake 21 (v := ?_) rfl (by kernel_rfl) (by kernel_rfl) (by kernel_rfl) (fun _ _ _ h => h) (by kernel_rfl) ?_ hS0 ?_
        rotate_left
        · (intro W hW; have q0 := hW.1; have q1 := hW.2.1; have q2 := hW.2.2.1; have q3 := hW.2.2.2.1; have q4 := hW.2.2.2.2.1; have q5 := hW.2.2.2.2.2.1; clear hW; go_simp; try with_reducible rfl)
        refine gTake 22 (v := ?_) rfl (by kernel_rfl) (by kernel_rfl) (by kernel_rfl) (fun _ _ _ h => h) (by kernel_rfl) ?_ hS0 ?_
        rotate_left
        · (intro W hW; clear hW; go_simp; try with_reducible rfl)
        refine gTake 23 (v := ?_) rfl (by kernel_rfl) (by kernel_rfl) (by kernel_rfl) (fun _ _ _ h => h) (by kernel_rfl) ?_ hS0 ?_
        rotate_left
        · (intro W hW; clear hW; go_simp; try with_reducible rfl)
        refine gOne 24 rfl (by kernel_rfl) (by kernel_rfl) (fun K hK => ?_)
        go_simp
        skip
        have hS1 := (show (WA.drew.setCell ⟨w2.heap.size, k, none⟩ (.int .i64 (a1 - a2 + z - y))).cell? ⟨wr.heap.size, 1, none⟩ = some (.int .i64 (fn : Int)) ∧ (WA.drew.setCell ⟨w2.heap.size, k, none⟩ (.int .i64 (a1 - a2 + z - y))).cell? ⟨wr.heap.size, 2, none⟩ = some (.int .i64 (tn : Int)) ∧ (WA.drew.setCell ⟨w2.heap.size, k, none⟩ (.int .i64 (a1 - a2 + z - y))).cell? ⟨p1, q1 + fn, none⟩ = some (.int .i64 a1) ∧ (WA.drew.setCell ⟨w2.heap.size, k, none⟩ (.int .i64 (a1 - a2 + z - y))).cell? ⟨p1, q1 + tn, none⟩ = some (.int .i64 a2) ∧ (WA.drew.setCell ⟨w2.heap.size, k, none⟩ (.int .i64 (a1 - a2 + z - y))).cell? ⟨ub, uof + k, none⟩ = some (.int .i64 z) ∧ (WA.drew.setCell ⟨w2.heap.size, k, none⟩ (.int .i64 (a1 - a2 + z - y))).cell? ⟨db, dof + k, none⟩ = some (.int .i64 y) ∧ Below w2.heap.size w2 (WA.drew.setCell ⟨w2.heap.size, k, none⟩ (.int .i64 (a1 - a2 + z - y))) from ⟨(World.cell?_setCell_other _ _ _ _ (by intro e; injection e with e1 e2; omega)).trans y1, (World.cell?_setCell_other _ _ _ _ (by intro e; injection e with e1 e2; omega)).trans y2, (World.cell?_setCell_other _ _ _ _ (by intro e; injection e with e1 e2; omega)).trans y3, (World.cell?_setCell_other _ _ _ _ (by intro e; injection e with e1 e2; omega)).trans y4, (World.cell?_setCell_other _ _ _ _ (by intro e; injection e with e1 e2; omega)).trans y5, (World.cell?_setCell_other _ _ _ _ (by intro e; injection e with e1 e2; omega)).trans y6, (Below.drew HBA.out).setCell (Nat.le_refl _) _⟩)
        refine hK _ _ hS1 ?_
        clear hK K
        refine wpAnyH_done (by kernel_rfl) ?_ _
        go_simp
        have HBz := Lib.hid (hS1.2.2.2.2.2.2)
        clear hS0 hS1
        go_wp2
        go_roundw
        case rel => exact ⟨k + 1, by omega, by go_num, Lib.hid (by
          have h := ((show WA.drew.ownsRow w2.heap.size 2 1 (.slice (some ⟨w2.heap.size, 0, none⟩) xs.length xs.length) xs.length (intsV (fillO xs.length (rdF xs p dr pu) k)) from HOA.out).stored k (.int .i64 (a1 - a2 + z - y))).1
          rw [HPUT.out] at h
          exact h), HBz⟩
        case measure => simp [intOf]; omega
      · obtain rfl : k = xs.length := by omega
        have HOO := Lib.hid (show wr.ownsRow w2.heap.size 2 1 (.slice (some ⟨w2.heap.size, 0, none⟩) xs.length xs.length) xs.length (intsV (rdT xs p dr pu xs.length)) by have h := HOW.out; rw [fillO_full] at h; exact h)
        clear hbel HOW
        go_wp2
        go_ret2
        refine ⟨_, ret_vO HPC.out.symm, ?_, HB2.out.trans (HBL.out.mono HB2.out.size)⟩
        rw [HRR.out]
        refine own_leO (B := w2.heap.size) ?_ HB2.out.size
        unfold OwnI
        rw [rdT_len]
        exact HOO.out
  · have HE := Lib.hid (rdR_no hpc)
    have hz1 : (poC J xs dr pu rg != 0) = true := by simp [hpc]
    obtain ⟨A2, c2, rfl⟩ := OwnI.form ho2
    clear ho2 hd2
    obtain ⟨z, hzz⟩ : ∃ z, poC J xs dr pu rg = z := ⟨_, rfl⟩
    have HZ := Lib.hid hzz
    rw [hzz] at hz1 ⊢
    clear hzz
    go_wp2
    go_ret2
    exact ⟨_, ret_vO HZ.out.symm, by rw [HE.out]; exact own_nilO _ _, HB2.out⟩
end Go.Proofs.YthbofhlfggkolaaDoor
