/-
  Contracts of chapter 12: potentials; the program's. Conditions: those that each theorem states.
-/
import Derived.Test.YthbofhlfggkolaaDoorOh
import Derived.Test.YthbofhlfggkolaaDoorOi
import Derived.Test.YthbofhlfggkolaaDoorOd
namespace Go.Proofs.YthbofhlfggkolaaDoor
open Go.RowKit
set_option linter.unusedVariables false
set_option linter.unusedSimpArgs false

theorem edT_congr {xs : List Aw} {f g : Nat → Int} {rg : List Bool} : ∀ k, (∀ i, i < k → f i = g i) → edT xs f rg k = edT xs g rg k
  | 0, _ => rfl
  | k + 1, h => by
    rw [edT, edT, edT_congr k (fun i hi => h i (by omega))]
    congr 1
    unfold edI eA eB
    rw [h k (by omega)]
theorem edS_all {xs : List Aw} {ex : List Int} {rg : List Bool} {ys : List (Sg xs.length)} (hys : ys.map (·.1) = stT ex rg xs.length) : edS xs ys = edT xs (fun i => ex.getD i 0) rg xs.length := by
  rw [← edZ_all (ex := ex) (rg := rg) xs.length (Nat.le_refl _), ← hys, List.map_map]
  rfl
theorem own_nilJ (w : World) (B : Nat) : OwnI w B (.slice none 0 0) [] := ⟨by simp [intsV], .inl ⟨rfl, rfl⟩⟩
set_option maxHeartbeats 4000000 in
theorem potentials_any (Jn : Nat) (A : Option Addr) (cap : Nat) (xs : List Aw) (X : Option Addr) (xcap : Nat) (ex : List Int) (G : Option Addr) (gcap : Nat) (rg : List Bool) (a : Addr) (w : World) (hok : mineOk (Jn : Int) xs = true) (hr : AwR w A xs) (hxl : ex.length = xs.length) (hX : Row .i64 w (.slice X xs.length xcap) ex) (hgl : rg.length = xs.length) (hG : BoR w G rg)
    (hxb : ∀ i, i < xs.length → -2000000 ≤ ex.getD i 0 ∧ ex.getD i 0 ≤ 2000000) (hE : w.cell? ⟨0, 0, none⟩ = some (.iface 202 (.pointer (some a)))) :
    Calls Tryd.prog 45 #[.agg #[.int .i64 (Jn : Int), .slice A xs.length cap, .slice X xs.length xcap, .slice G xs.length gcap]] w fun e w' => ∃ v err, e = .returned (.tuple #[v, err]) ∧ ((ptOk Jn (edT xs (fun i => ex.getD i 0) rg xs.length) = true ∧ err = .nilIface) ∨ (ptOk Jn (edT xs (fun i => ex.getD i 0) rg xs.length) = false ∧ err = .iface 202 (.pointer (some a)))) ∧ OwnI w' w.heap.size v (ptR Jn (edT xs (fun i => ex.getD i 0) rg xs.length)) ∧ Below w.heap.size w w' := by
  have h24 := (mineOk_iff.1 hok).2.2
  have hJb := (mineOk_iff.1 hok).1
  obtain ⟨ys, hys⟩ := sg_of (rg := rg) hxb xs.length (Nat.le_refl _)
  have hes := edS_all hys
  have hyl : ys.length ≤ 48 := by
    have h1 := edS_len xs ys
    have h2 := edT_len xs (fun i => ex.getD i 0) rg xs.length
    rw [hes] at h1
    omega
  have ho := edT_ok (ex := fun i => ex.getD i 0) (rg := rg) hok xs.length (Nat.le_refl _)
  rw [show ((Jn : Int)).toNat = Jn by simp] at ho
  have hlow : ∀ n, n ≤ 18 → ∀ v, -2100000000 ≤ pv (itR (edT xs (fun i => ex.getD i 0) rg xs.length) (List.replicate Jn 0) n) v ∧ pv (itR (edT xs (fun i => ex.getD i 0) rg xs.length) (List.replicate Jn 0) n) v ≤ 0 := fun n hn v => by
    have h1 := low_all (by have := edT_len xs (fun i => ex.getD i 0) rg xs.length; omega) ho (edT_g (G := 2000000) hxb xs.length (Nat.le_refl _)) hn v
    omega
  have HLS := Lib.hid (fun (n : Nat) (hn : n ≤ 18) (W : World) (h : Below w.heap.size w W) (hp : PotR W (w.heap.size + 1) (itR (edT xs (fun i => ex.getD i 0) rg xs.length) (List.replicate Jn 0) n)) (hpw : w.heap.size + 1 < W.heap.size) => lower_st Jn A cap xs X xcap ex G gcap rg ys (w.heap.size + 1) (itR (edT xs (fun i => ex.getD i 0) rg xs.length) (List.replicate Jn 0) n) w W hok hr hxl hX hgl hG hxb hys hyl h (by omega) (by rw [itR_len]; simp) hp (hlow n hn) hpw)
  rw [hes] at HLS
  have HF := Lib.hid (fun (n : Nat) (h : chg (itR (edT xs (fun i => ex.getD i 0) rg xs.length) (List.replicate Jn 0) n) (edT xs (fun i => ex.getD i 0) rg xs.length) = false) => pt_found (J := Jn) (by omega) ho h)
  have HN := Lib.hid (fun (h : chg (itR (edT xs (fun i => ex.getD i 0) rg xs.length) (List.replicate Jn 0) (Jn - 1)) (edT xs (fun i => ex.getD i 0) rg xs.length) = true) => pt_none h)
  have HST := Lib.hid (fun (n : Nat) (h : chg (itR (edT xs (fun i => ex.getD i 0) rg xs.length) (List.replicate Jn 0) n) (edT xs (fun i => ex.getD i 0) rg xs.length) = false) => rel_still _ _ h)
  have HIT := Lib.hid (fun (n : Nat) => show itR (edT xs (fun i => ex.getD i 0) rg xs.length) (List.replicate Jn 0) (n + 1) = rel (itR (edT xs (fun i => ex.getD i 0) rg xs.length) (List.replicate Jn 0) n) (edT xs (fun i => ex.getD i 0) rg xs.length) from rfl)
  have HIL := Lib.hid (fun (n : Nat) => show (itR (edT xs (fun i => ex.getD i 0) rg xs.length) (List.replicate Jn 0) n).length = Jn by rw [itR_len]; simp)
  have HZ0 := Lib.hid (show itR (edT xs (fun i => ex.getD i 0) rg xs.length) (List.replicate Jn 0) 0 = (List.replicate Jn 0) from rfl)
  have HEE := Lib.hid hE
  clear hys hes ho hlow hok hr hX hG hxb hE hxl hgl hyl
  generalize (edT xs (fun i => ex.getD i 0) rg xs.length) = es at *
  have HB0 := Lib.hid (below_box w (.cells #[.int .i64 (Jn : Int), .slice A xs.length cap, .slice X xs.length xcap, .slice G xs.length gcap] 75))
  have HC0 := Lib.hid (show (w.alloc (.cells #[.int .i64 (Jn : Int), .slice A xs.length cap, .slice X xs.length xcap, .slice G xs.length gcap] 75)).cell? ⟨w.heap.size, 0, none⟩ = some (.int .i64 (Jn : Int)) ∧ (w.alloc (.cells #[.int .i64 (Jn : Int), .slice A xs.length cap, .slice X xs.length xcap, .slice G xs.length gcap] 75)).cell? ⟨w.heap.size, 1, none⟩ = some (.slice A xs.length cap) ∧ (w.alloc (.cells #[.int .i64 (Jn : Int), .slice A xs.length cap, .slice X xs.length xcap, .slice G xs.length gcap] 75)).cell? ⟨w.heap.size, 2, none⟩ = some (.slice X xs.length xcap) ∧ (w.alloc (.cells #[.int .i64 (Jn : Int), .slice A xs.length cap, .slice X xs.length xcap, .slice G xs.length gcap] 75)).cell? ⟨w.heap.size, 3, none⟩ = some (.slice G xs.length gcap) from ⟨by simp, by simp, by simp, by simp⟩)
  have HMK := Lib.hid (run_make_row' (P := Tryd.prog) 36 2 (.int .i64 0) 8 Tryd.underlying36 info_i64 rfl .i64 .i64 Jn (by omega) (by omega))
  have hmk := HMK.out
  go_enter Tryd.func45, Tryd.ntmps45
  go_wp2_with fail
  clear hmk
  have hWC : (w.alloc (.cells #[.int .i64 (Jn : Int), .slice A xs.length cap, .slice X xs.length xcap, .slice G xs.length gcap] 75)).heap.size = w.heap.size + 1 := by simp
  generalize w.alloc (.cells #[.int .i64 (Jn : Int), .slice A xs.length cap, .slice X xs.length xcap, .slice G xs.length gcap] 75) = WC at *
  go_loopw [12] (fun i wr => ∃ n : Nat, n ≤ Jn ∧ i = .int .i64 (n : Int) ∧ Hid (∀ m, m < n → chg (itR es (List.replicate Jn 0) m) es = true) ∧ Hid (PotR wr (w.heap.size + 1) (itR es (List.replicate Jn 0) n)) ∧ Hid (wr.cell? ⟨w.heap.size, 0, none⟩ = some (.int .i64 (Jn : Int)) ∧ wr.cell? ⟨w.heap.size, 1, none⟩ = some (.slice A xs.length cap) ∧ wr.cell? ⟨w.heap.size, 2, none⟩ = some (.slice X xs.length xcap) ∧ wr.cell? ⟨w.heap.size, 3, none⟩ = some (.slice G xs.length gcap)) ∧ Hid (Below w.heap.size w wr)) (fun i wr => Jn - (intOf i).toNat)
  case atStart =>
    have hbx := below_box WC (.cells (madeCells #[.int .i64 0] Jn) 2)
    refine ⟨0, by omega, rfl, Lib.hid (fun m h => absurd h (by omega)), Lib.hid ?_, Lib.hid ⟨cellK HC0.out.1 hbx, cellK HC0.out.2.1 hbx, cellK HC0.out.2.2.1 hbx, cellK HC0.out.2.2.2 hbx⟩, Lib.hid (HB0.out.alloc (by omega) _)⟩
    have h := World.ownsRow_lit (base := WC.heap.size) (e := 2) (size := 1) WC (madeCells #[.int .i64 0] Jn) Jn (by omega) (by unfold maxLen; omega) (by simp [madeCells])
    rw [show (madeCells #[.int .i64 0] Jn).toList = intsV (List.replicate Jn 0) by simp [madeCells, intsV, Nat.mod_one, List.map_const'], hWC] at h
    unfold PotR
    rw [HIL.out 0, HZ0.out]
    exact h
  case round =>
    obtain ⟨n, hn, rfl, HT, HP, HC, HB⟩ := hrel
    obtain ⟨wo, rfl⟩ : ∃ wo : World, wo = wr := ⟨_, rfl⟩
    obtain ⟨c0, c1, c2, c3⟩ := HC.out
    by_cases hlt : n < Jn
    · have hpw : w.heap.size + 1 < wo.heap.size := by
        obtain ⟨cur, hc⟩ := HP.out.blk
        exact (Array.getElem?_eq_some_iff.1 hc).1
      have HL1 := Lib.hid (HLS.out n (by omega) wo HB.out HP.out hpw)
      cases hch : chg (itR es (List.replicate Jn 0) n) es
      · have HE2 := Lib.hid (HF.out n hch)
        have HS2 := Lib.hid (HST.out n hch)
        rw [hch] at HL1
        go_wp2_with fail
        (with_reducible refine (HL1.out).mono ?_)
        rintro e w2 ⟨rfl, hp2, hk2, hb2⟩
        have HP2 := Lib.hid hp2
        have HB2 := Lib.hid hb2
        clear hp2 hk2 hb2
        go_wp2
        go_ret2
        refine ⟨_, _, rfl, .inl ⟨HE2.out.1, rfl⟩, ?_, HB2.out⟩
        rw [HE2.out.2]
        have h := HP2.out
        rw [HS2.out] at h
        unfold PotR at h
        unfold OwnI
        rw [HIL.out n] at h ⊢
        exact ⟨h.1, h.2.imp id fun ⟨g, cp, cur, e, hg, r⟩ => ⟨g, cp, cur, e, by omega, r⟩⟩
      · rw [hch] at HL1
        go_wp2_with fail
        (with_reducible refine (HL1.out).mono ?_)
        rintro e w2 ⟨rfl, hp2, hk2, hb2⟩
        have HP2 := Lib.hid hp2
        have HB2 := Lib.hid hb2
        have HC2 := Lib.hid (show w2.cell? ⟨w.heap.size, 0, none⟩ = some (.int .i64 (Jn : Int)) ∧ w2.cell? ⟨w.heap.size, 1, none⟩ = some (.slice A xs.length cap) ∧ w2.cell? ⟨w.heap.size, 2, none⟩ = some (.slice X xs.length xcap) ∧ w2.cell? ⟨w.heap.size, 3, none⟩ = some (.slice G xs.length gcap) from ⟨hk2.2 ⟨w.heap.size, 0, none⟩ _ (by show ¬ w.heap.size = w.heap.size + 1; omega) c0, hk2.2 ⟨w.heap.size, 1, none⟩ _ (by show ¬ w.heap.size = w.heap.size + 1; omega) c1, hk2.2 ⟨w.heap.size, 2, none⟩ _ (by show ¬ w.heap.size = w.heap.size + 1; omega) c2, hk2.2 ⟨w.heap.size, 3, none⟩ _ (by show ¬ w.heap.size = w.heap.size + 1; omega) c3⟩)
        clear hp2 hk2 hb2
        go_wp2
        go_roundw
        case rel => exact ⟨n + 1, by omega, by go_num, Lib.hid (fun m hm => by
          rcases Nat.lt_or_ge m n with q | q
          · exact HT.out m q
          · obtain rfl : m = n := by omega
            exact hch), Lib.hid (by rw [HIT.out]; exact HP2.out), HC2, HB2⟩
        case measure => simp [intOf]; omega
    · obtain rfl : n = Jn := by omega
      have HE2 := Lib.hid (HN.out (HT.out (n - 1) (by omega)))
      have hg := (HB.out.cell (World.block_lt_of_cell? _ _ HEE.out)).trans HEE.out
      go_wp2_with fail
      refine wp_region_held (S := fun w' => w'.cell? ⟨0, 0, none⟩ = some (.iface 202 (.pointer (some a))) ∧ Below wo.heap.size wo w') (by kernel_rfl) ?_
      try (change wpAnyH _ _ _ _ _ _ _ _ (World.drew _))
      have hS0 := (show wo.drew.cell? ⟨0, 0, none⟩ = some (.iface 202 (.pointer (some a))) ∧ Below wo.heap.size wo wo.drew from ⟨hg, Below.drew (Below.refl _ _)⟩)
      refine gTake 0 (v := ?_) rfl (by kernel_rfl) (by kernel_rfl) (by kernel_rfl) (fun _ _ _ h => h) (by kernel_rfl) ?_ hS0 ?_
      rotate_left
      · (intro W hW; have q0 := hW.1; clear hW; go_simp; try with_reducible rfl)
      refine gTake 1 (v := ?_) rfl (by kernel_rfl) (by kernel_rfl) (by kernel_rfl) (fun _ _ _ h => h) (by kernel_rfl) ?_ hS0 ?_
      rotate_left
      · (intro W hW; clear hW; go_simp; try with_reducible rfl)
      refine gTake 2 (v := ?_) rfl (by kernel_rfl) (by kernel_rfl) (by kernel_rfl) (fun _ _ _ h => h) (by kernel_rfl) ?_ hS0 ?_
      rotate_left
      · (intro W hW; clear hW; go_simp; try with_reducible rfl)
      refine wpAnyH_done (by kernel_rfl) ?_ _
      go_simp
      go_wp2
      go_ret2
      refine ⟨_, _, rfl, .inr ⟨HE2.out.1, rfl⟩, ?_, HB.out.trans (hS0.2.mono HB.out.size)⟩
      rw [HE2.out.2]
      exact own_nilJ _ _
theorem exL_at {dr pu : List Int} {n i : Nat} (h : i < n) : (exL dr pu n).getD i 0 = exF dr pu i := by simp [exL, List.getD, h]
set_option maxHeartbeats 4000000 in
theorem iPotentialsOf_any (J : Int) (A : Option Addr) (cap : Nat) (xs : List Aw) (D : Value) (dr : List Int) (U : Value) (pu : List Int) (G : Option Addr) (gcap : Nat) (rg : List Bool) (a b : Addr) (w : World) (hr : AwR w A xs) (hs : ∀ a ∈ xs, a.s.size ≤ maxLen) (hl : xs.length ≤ 1048576) (hd : Row .i64 w D dr) (hdl : dr.length ≤ 1048576) (hu : Row .i64 w U pu) (hul : pu.length ≤ 1048576) (hg : BoR w G rg) (hgl : rg.length ≤ 1048576) (hE : ErrS w a b) :
    Calls Tryd.prog 20 #[.agg #[.int .i64 J, .slice A xs.length cap], D, U, .slice G rg.length gcap] w fun e w' => ∃ v, e = .returned (.tuple #[v, .int .i64 (poC J xs dr pu rg)]) ∧ OwnI w' w.heap.size v (poR J xs dr pu rg) ∧ Below w.heap.size w w' := by
  obtain ⟨D, dcap, rfl⟩ := hd.form
  obtain ⟨U, ucap, rfl⟩ := hu.form
  have HB0 := Lib.hid (below_box w (.cells #[.int .i64 J, .slice A xs.length cap] 43))
  have HR := Lib.hid (hr.below HB0.out)
  have HD := Lib.hid (hd.below HB0.out)
  have HU := Lib.hid (hu.below HB0.out)
  have HG := Lib.hid (hg.below HB0.out)
  have HE := Lib.hid (hE.below HB0.out)
  have HS := Lib.hid hs
  clear hr hd hu hg hs hE
  by_cases hc : dmC J xs dr pu rg = 0
  · obtain ⟨hmo, hdo, huo, hgo⟩ := dmC_ok hc
    obtain ⟨Jn, rfl⟩ := Int.eq_ofNat_of_zero_le (show 0 ≤ J by have := (mineOk_iff.1 hmo).1; omega)
    have hx : ∀ i, i < xs.length → -2000000 ≤ (exL dr pu xs.length).getD i 0 ∧ (exL dr pu xs.length).getD i 0 ≤ 2000000 := fun i hi => by
      have h1 := wf_allO hdo (show i < dr.length by have := (flOk_iff.1 hdo).1; omega)
      have h2 := wf_allO huo (show i < pu.length by have := (flOk_iff.1 huo).1; omega)
      rw [exL_at hi]
      unfold exF
      omega
    have HX := Lib.hid hx
    have HMO := Lib.hid hmo
    have HGO := Lib.hid hgo
    have hes : edT xs (fun i => (exL dr pu xs.length).getD i 0) rg xs.length = edT xs (exF dr pu) rg xs.length := edT_congr _ (fun i hi => exL_at hi)
    have HES := Lib.hid hes
    have HPC := Lib.hid (show poC (Jn : Int) xs dr pu rg = (if ptOk Jn (edT xs (exF dr pu) rg xs.length) then 0 else 3) ∧ poR (Jn : Int) xs dr pu rg = ptR Jn (edT xs (exF dr pu) rg xs.length) from ⟨by unfold poC; rw [if_pos hc]; rfl, by unfold poR; rw [if_pos hc]; rfl⟩)
    have HDM := Lib.hid (demandOf_ok (Jn : Int) A cap xs (.slice D dr.length dcap) dr (.slice U pu.length ucap) pu G gcap rg _ HR.out HS.out hl HD.out hdl HU.out hul hgl hc)
    clear hmo hdo huo hgo hx hes hc
    go_enter Tryd.func20, Tryd.ntmps20
    go_wp2_with fail
    (with_reducible refine (HDM.out).mono ?_)
    rintro e w1 ⟨X, rfl, hox, hd1⟩
    have HB1 := Lib.hid (HB0.out.trans (hd1.mono HB0.out.size))
    have HXR := Lib.hid (row_ownI hox)
    obtain ⟨XA, xcap, rfl⟩ : ∃ XA xcap, X = .slice XA xs.length xcap := by
      obtain ⟨XA, xcap, e⟩ := HXR.out.form
      rw [exL_len] at e
      exact ⟨XA, xcap, e⟩
    have HR1 := Lib.hid (HR.out.below hd1)
    have HG1 := Lib.hid (HG.out.below hd1)
    have HE1 := Lib.hid (HE.out.below hd1)
    clear hox hd1
    rw [HGO.out]
    go_wp2_with fail
    have HBw := Lib.hid (below_box w1 (.cells #[.int .i64 (Jn : Int), .slice A xs.length cap, .slice XA xs.length xcap, .slice G xs.length gcap] 75))
    have HB2 := Lib.hid (HB1.out.trans (HBw.out.mono HB1.out.size))
    (with_reducible refine (potentials_any Jn A cap xs XA xcap (exL dr pu xs.length) G gcap rg a _ HMO.out (HR1.out.below HBw.out) (exL_len _ _ _) (HXR.out.below HBw.out) HGO.out (HG1.out.below HBw.out) HX.out (HE1.out.below HBw.out).fit).mono ?_)
    rintro e w2 ⟨v, err, rfl, hcase, ho, hd2⟩
    rw [HES.out] at hcase ho
    have HB3 := Lib.hid (HB2.out.trans (hd2.mono HB2.out.size))
    have HE2 := Lib.hid ((HE1.out.below HBw.out).below hd2)
    have HO := Lib.hid (own_leO ho HB2.out.size)
    clear hd2 ho
    rcases hcase with ⟨h1, rfl⟩ | ⟨h1, rfl⟩
    · rw [h1] at HPC
      go_wp2_with fail
      (with_reducible refine (codeOf_nil a b w2 HE2.out).mono ?_)
      rintro e w' ⟨rfl, rfl⟩
      go_wp2
      go_ret2
      exact ⟨v, ret_vO HPC.out.1.symm, by rw [HPC.out.2]; exact HO.out, HB3.out⟩
    · rw [h1] at HPC
      go_wp2_with fail
      (with_reducible refine (codeOf_fit a b w2 HE2.out).mono ?_)
      rintro e w' ⟨rfl, rfl⟩
      go_wp2
      go_ret2
      exact ⟨v, ret_vO HPC.out.1.symm, by rw [HPC.out.2]; exact HO.out, HB3.out⟩
  · have HPC := Lib.hid (show poC J xs dr pu rg = dmC J xs dr pu rg ∧ poR J xs dr pu rg = [] from ⟨by unfold poC; rw [if_neg hc], by unfold poR; rw [if_neg hc]⟩)
    have HDM := Lib.hid (demandOf_bad J A cap xs (.slice D dr.length dcap) dr (.slice U pu.length ucap) pu G gcap rg _ HR.out HS.out hl HD.out hdl HU.out hul hgl hc)
    have hcz : (dmC J xs dr pu rg != 0) = true := by simp [hc]
    have hcd : -1000 ≤ dmC J xs dr pu rg ∧ dmC J xs dr pu rg ≤ 1000 := by unfold dmC; split <;> (try split) <;> omega
    generalize dmC J xs dr pu rg = z at *
    go_enter Tryd.func20, Tryd.ntmps20
    go_wp2_with fail
    (with_reducible refine (HDM.out).mono ?_)
    rintro e w1 ⟨rfl, hd1⟩
    have HB1 := Lib.hid (HB0.out.trans (hd1.mono HB0.out.size))
    clear hd1
    go_wp2
    go_ret2
    exact ⟨_, ret_vO HPC.out.1.symm, by rw [HPC.out.2]; exact own_nilJ _ _, HB1.out.alloc HB1.out.size _⟩
theorem poR_16 (J : Int) (xs : List Aw) (dr pu : List Int) (rg : List Bool) : (poR J xs dr pu rg).length ≤ 1048576 := by
  unfold poR
  split
  · rename_i h
    have h1 := (mineOk_iff.1 (dmC_ok h).1).1
    have h2 := ptR_len J.toNat (edT xs (exF dr pu) rg xs.length)
    omega
  · simp
end Go.Proofs.YthbofhlfggkolaaDoor
