/-
  Contracts of lists of numbers that are read, chapter 1: the program's. Conditions: those that each theorem states.
-/
import Derived.Test.YtnlkikdgffaeeaaDoorNf
import Derived.Test.YtnlkikdgffaeeaaDoorNc
import Derived.Test.YtnlkikdgffaeeaaDoorShD
namespace Go.Proofs.YtnlkikdgffaeeaaDoor
open Go.RowKit
set_option linter.unusedVariables false
set_option linter.unusedSimpArgs false

/-- The library's bound for its search holds some number. -/
def MaxV (w : World) : Prop := ∃ m : Int, w.cell? ⟨1, 0, none⟩ = some (.int .i64 m)
theorem MaxV.below {w w' : World} (h : MaxV w) (hb : Below w.heap.size w w') : MaxV w' := by
  obtain ⟨m, h⟩ := h
  exact ⟨m, (hb.cell (World.block_lt_of_cell? _ _ h)).trans h⟩
theorem splitN_call (s : ByteArray) (c : UInt8) (n : Nat) (w : World) (hs : s.size ≤ 1048576) (h1 : 1 ≤ n) (hn : n ≤ 1000) (hM : MaxV w) :
    Calls Tryd.prog 41 #[.string s, .string ⟨#[c]⟩, .int .i64 n] w fun e w' => ∃ (ps : List ByteArray) (cap : Nat), e = .returned (.slice (some ⟨w.heap.size, 0, none⟩) ps.length cap) ∧ (∀ k (h : k < ps.length), w'.cell? ⟨w.heap.size, k, none⟩ = some (.string ps[k])) ∧ (w.heap.size < w'.heap.size ∧ 1 ≤ ps.length ∧ ps.length ≤ n) ∧ Below w.heap.size w w' ∧
      ((splitL c s.data.toList).length ≤ n → ps.map (·.data.toList) = splitL c s.data.toList) ∧ (n < (splitL c s.data.toList).length → ps.length = n) := by
  obtain ⟨m, hm⟩ := hM
  refine (Tryd.strings_SplitN s ⟨#[c]⟩ n m w (by omega) hm (by show 1 ≤ (#[c] : Array UInt8).size; simp) h1 (by omega)).mono ?_
  rintro e w' ⟨rfl, rfl⟩
  have hd := Lib.splitB_data (⟨#[c]⟩ : ByteArray) 0 (min n (s.size + 1) - 1) s
  have hlen := Lib.splitB_length_le (⟨#[c]⟩ : ByteArray) 0 (min n (s.size + 1) - 1) s
  have hln := splitL_len c s.data.toList
  have hsz : s.data.toList.length = s.size := by simp
  have hne := List.length_pos_iff.2 (splitL_ne c s.data.toList)
  rw [show (ByteArray.mk #[c]).data.toList = [c] from rfl] at hd
  generalize Lib.splitB (⟨#[c]⟩ : ByteArray) 0 (min n (s.size + 1) - 1) s = ps at *
  have hpos : 1 ≤ ps.length := by
    rcases Nat.eq_zero_or_pos ps.length with h0 | h0
    · have hz : (Lib.splitK [c] 0 (min n (s.size + 1) - 1) s.data.toList).length = 0 := by rw [← hd, List.length_map]; exact h0
      by_cases h : (splitL c s.data.toList).length ≤ n
      · rw [splitK_all c _ _ (by omega)] at hz; omega
      · rw [splitK_more c _ _ (by omega)] at hz; omega
    · exact h0
  refine ⟨ps, _, rfl, fun k hk => ?_, ⟨by simp, hpos, by omega⟩, (Below.refl _ _).alloc (Nat.le_refl _) _, fun h => ?_, fun h => ?_⟩
  · rw [World.cell?_alloc_new]
    unfold Lib.cellsOf
    rw [List.getElem?_toArray, List.getElem?_append_left (by simpa using hk), List.getElem?_map, List.getElem?_eq_getElem hk]; rfl
  · rw [hd]; exact splitK_all c _ _ (by omega)
  · have e : (ps.map (·.data.toList)).length = min n (s.size + 1) - 1 + 1 := by rw [hd]; exact splitK_more c _ _ (by omega)
    rw [List.length_map] at e
    omega
theorem splitN44 (s : ByteArray) (w : World) (hs : s.size ≤ 1048576) (hM : MaxV w) :
    Calls Tryd.prog 41 #[.string s, .string ⟨#[44]⟩, .int .i64 65] w fun e w' => ∃ (ps : List ByteArray) (cap : Nat), e = .returned (.slice (some ⟨w.heap.size, 0, none⟩) ps.length cap) ∧ (∀ k (h : k < ps.length), w'.cell? ⟨w.heap.size, k, none⟩ = some (.string ps[k])) ∧ (w.heap.size < w'.heap.size ∧ 1 ≤ ps.length ∧ ps.length ≤ 65) ∧ Below w.heap.size w w' ∧
      ((splitL 44 s.data.toList).length ≤ 65 → ps.map (·.data.toList) = splitL 44 s.data.toList) ∧ (65 < (splitL 44 s.data.toList).length → ps.length = 65) := splitN_call s 44 65 w hs (by omega) (by omega) hM
theorem nums_take (ps : List ByteArray) (k : Nat) : nums (ps.take k) = (nums ps).take k := by unfold nums; rw [List.map_take]
set_option maxHeartbeats 1000000 in
set_option maxRecDepth 100000 in
theorem iReadList_any (s : ByteArray) (w : World) (hs : s.size ≤ 1048576) (hP : Pow w) (hE : ErrV w) (hM : MaxV w) :
    Calls Tryd.prog 29 #[.string s] w fun e w' => ∃ v, e = .returned (.tuple #[v, .bool (listB s.data.toList)]) ∧ w'.ownsRow w.heap.size 2 1 v (listV s.data.toList).length (intsV (listV s.data.toList)) ∧ Below w.heap.size w w' := by
  by_cases hd : s.data.toList = [45]
  · obtain rfl := dash_eq hd
    clear hd hs hP hE hM
    rw [listV_dash.1, listV_dash.2]
    go_enter Tryd.func29, Tryd.ntmps29
    go_wp2
    go_ret2
    exact ⟨_, rfl, World.ownsRow_lit _ _ 0 (Nat.le_refl _) (by simp [maxLen]) rfl, (Below.refl _ _).alloc (Nat.le_refl _) _⟩
  · have hq : (s.toList == [45]) = false := by rw [ByteArray.toList_eq]; exact beq_false_of_ne hd
    have hq2 : (s.toList == (⟨#[45]⟩ : ByteArray).toList) = false := by rw [show (⟨#[45]⟩ : ByteArray).toList = [45] by rw [ByteArray.toList_eq]]; exact hq
    have HD := Lib.hid hd
    have HP := Lib.hid hP
    have HE0 := Lib.hid hE
    have HM := Lib.hid hM
    clear hd hP hE hM
    go_enter Tryd.func29, Tryd.ntmps29
    go_wp2_with fail
    refine (splitN44 s w hs HM.out).mono ?_
    rintro e wp ⟨ps, cap, rfl, hcs, ⟨hgl, hp1, hp65⟩, hbp, hps1, hps2⟩
    have HC := Lib.hid hcs
    have HP1 := Lib.hid hps1
    have HP2 := Lib.hid hps2
    have HBP := Lib.hid hbp
    have hsz := hbp.size
    clear hcs hps1 hps2 hbp
    by_cases h64 : 64 < ps.length
    · have t1 : (64 : Int) < (ps.length : Int) := by omega
      have HE := Lib.hid (list_long HD.out (by
        by_cases h : (splitL 44 s.data.toList).length ≤ 65
        · rw [← HP1.out h, List.length_map]; exact h64
        · omega))
      go_wp2
      go_ret2
      exact ⟨_, ret_lp HE.out.2.symm, by rw [HE.out.1]; exact World.ownsRow_nil _ _ _ _, HBP.out⟩
    · have t1 : ¬ (64 : Int) < (ps.length : Int) := by omega
      have t2 : decide ((64 : Int) < (ps.length : Int)) = false := decide_eq_false t1
      have HPS := Lib.hid (show ps.map (·.data.toList) = splitL 44 s.data.toList from HP1.out (by
        rcases Nat.lt_or_ge 65 (splitL 44 s.data.toList).length with h | h
        · have := HP2.out h; omega
        · exact h))
      have hmk := run_make_row' (P := Tryd.prog) 37 2 (.int .i64 0) 8 Tryd.underlying37 info_i64 rfl .i64 .i64 ps.length (by omega) (by omega)
      have hnl : (nums ps).length = ps.length := by simp [nums]
      have HNL := Lib.hid hnl
      clear HP1 HP2 hnl
      go_wp2
      clear hmk
      go_loopw [23] (fun i wr => ∃ k : Nat, k ≤ ps.length ∧ i = .int .i64 k ∧ Hid (items (ps.take k) = true) ∧ wr.ownsRow wp.heap.size 2 1 (.slice (some ⟨wp.heap.size, 0, none⟩) ps.length ps.length) ps.length (intsV ((nums ps).take k ++ List.replicate (ps.length - k) 0)) ∧ Below wp.heap.size wp wr) (fun i wr => ps.length - (intOf i).toNat)
      case atStart =>
        refine ⟨0, by omega, rfl, Lib.hid rfl, ?_, (Below.refl _ _).alloc (Nat.le_refl _) _⟩
        have h := World.ownsRow_lit (base := wp.heap.size) (e := 2) (size := 1) wp (madeCells #[.int .i64 0] ps.length) ps.length (Nat.le_refl _) (by unfold maxLen; omega) (by simp [madeCells])
        have e : (madeCells #[.int .i64 0] ps.length).toList = intsV ((nums ps).take 0 ++ List.replicate (ps.length - 0) 0) := by
          simp [madeCells, intsV, Nat.mod_one, List.map_const']
        rw [e] at h
        exact h
      case round =>
        obtain ⟨k, hk, rfl, HI, hout, hbel⟩ := hrel
        have hwsz := hbel.size
        by_cases hlt : k < ps.length
        · have hc : wr.cell? ⟨w.heap.size, k, none⟩ = some (.string ps[k]) := by rw [hbel.cell (p := ⟨w.heap.size, k, none⟩) hgl]; exact HC.out k hlt
          obtain ⟨hkL, hpL⟩ := get_list HPS.out hlt
          have hpm : ps[k].size ≤ 281474976710656 := by
            have := splitL_mem 44 s.data.toList ((splitL 44 s.data.toList)[k]) (List.getElem_mem hkL)
            rw [hpL] at this
            have e1 : ps[k].data.toList.length = ps[k].size := by simp
            have e2 : s.data.toList.length = s.size := by simp
            omega
          have HPL := Lib.hid hpL
          have HS := Lib.hid (items_snoc hlt)
          have hkn : k < (nums ps).length := by rw [HNL.out]; exact hlt
          have HZ := Lib.hid (show (nums ps)[k]'hkn = numV ps[k].data.toList by simp [nums])
          have HTS := Lib.hid (fun z hz => take_set (xs := nums ps) hkn z hz)
          have HRD := Lib.hid (fun W h1 h2 => iReadDecimal_any ps[k] W hpm h1 h2)
          have hcd : wr.cell? ⟨wp.heap.size, k, none⟩ = some (.int .i64 0) := by
            rw [hout.cellAt k (by omega)]
            unfold intsV
            rw [List.getElem?_map, List.getElem?_append_right (by simp; omega), List.getElem?_replicate, if_pos (by simp; omega)]
            rfl
          have hfz := hout.frozenAt k
          have hnb := numV_bd ps[k].data.toList
          have HOUT := Lib.hid hout
          clear hpL hout
          generalize ps[k] = p at *
          obtain ⟨wo, rfl⟩ : ∃ wo : World, wo = wr := ⟨_, rfl⟩
          have hgo : wp.heap.size < wo.heap.size := World.block_lt_of_cell? _ _ hcd
          cases hb : numB p.data.toList
          · have HE := Lib.hid (list_bad HD.out hkL (by rw [HPL.out]; exact itemB_no hb))
            rw [hb] at HRD
            clear hb HTS HZ
            generalize numV p.data.toList = z at *
            go_wp2_with (go_at_call 42; refine (HRD.out _ (HP.out.below (HBP.out.trans (hbel.mono hsz))) (HE0.out.below (HBP.out.trans (hbel.mono hsz)))).mono ?_; rintro e w1 ⟨rfl, hd1⟩)
            go_ret2
            exact ⟨_, ret_lp HE.out.2.symm, by rw [HE.out.1]; exact World.ownsRow_nil _ _ _ _, (HBP.out.trans (hbel.mono hsz)).trans (hd1.mono (Nat.le_trans hsz hwsz))⟩
          · rw [hb] at HRD
            have HB := Lib.hid (itemB_in hb)
            clear hb
            cases hin : inB (numV p.data.toList) (-1000000000000) 1000000000000
            · have HE := Lib.hid (list_bad HD.out hkL (by rw [HPL.out, HB.out, hin]))
              clear HTS HZ
              generalize numV p.data.toList = z at *
              go_wp2_with (first
                | (go_at_call 42; refine (HRD.out _ (HP.out.below (HBP.out.trans (hbel.mono hsz))) (HE0.out.below (HBP.out.trans (hbel.mono hsz)))).mono ?_; rintro e w1 ⟨rfl, hd1⟩)
                | (go_at_call 25; (with_reducible refine (within64_one _ _ _ _ _ _ (by simp)).mono ?_); rintro e w' ⟨rfl, rfl⟩))
              go_ret2
              exact ⟨_, ret_lp HE.out.2.symm, by rw [HE.out.1]; exact World.ownsRow_nil _ _ _ _, ((HBP.out.trans (hbel.mono hsz)).trans (hd1.mono (Nat.le_trans hsz hwsz))).alloc (Nat.le_trans (Nat.le_trans hsz hwsz) hd1.size) _⟩
            · have HI2 := Lib.hid (show items (ps.take (k + 1)) = true by rw [HS.out, HI.out, HB.out, hin]; rfl)
              clear HB HS
              have HTZ := Lib.hid (HTS.out _ HZ.out.symm)
              clear HTS HZ
              generalize numV p.data.toList = z at *
              go_wp2_with fail
              refine (HRD.out _ (HP.out.below (HBP.out.trans (hbel.mono hsz))) (HE0.out.below (HBP.out.trans (hbel.mono hsz)))).mono ?_
              rintro e w1 ⟨rfl, hd1⟩
              go_wp2_with fail
              (with_reducible refine (within64_one _ _ _ _ _ _ (by simp)).mono ?_)
              rintro e w2 ⟨rfl, hw2⟩
              have hd : Below wo.heap.size wo w2 := hd1.trans (hw2 ▸ (Below.refl _ _).alloc hd1.size _)
              clear hw2 hd1
              have hcd1 : w2.cell? ⟨wp.heap.size, k, none⟩ = some (.int .i64 0) := (hd.cell (p := ⟨wp.heap.size, k, none⟩) hgo).trans hcd
              have hfz1 : w2.frozen? ⟨wp.heap.size, k, none⟩ = false := (hd.frozen (p := ⟨wp.heap.size, k, none⟩) hgo).trans hfz
              have HOW := Lib.hid (own_below HOUT.out hd)
              have HBW := Lib.hid (hbel.trans (hd.mono hwsz))
              clear hcd hfz hd hbel
              go_wp2
              go_roundw
              case rel => exact ⟨k + 1, by omega, by go_num, HI2, by
                have h := (HOW.out.stored k (.int .i64 z)).1
                rw [← HNL.out] at h ⊢
                rw [HTZ.out] at h
                exact h, HBW.out.setCell (Nat.le_refl _) _⟩
              case measure => simp [intOf]; omega
        · obtain rfl : k = ps.length := by omega
          rw [List.take_length] at HI
          have hout2 : wr.ownsRow wp.heap.size 2 1 (.slice (some ⟨wp.heap.size, 0, none⟩) ps.length ps.length) ps.length (intsV (nums ps)) := by
            rw [List.take_of_length_le (by rw [HNL.out]; exact Nat.le_refl _), Nat.sub_self, List.replicate_zero, List.append_nil] at hout; exact hout
          have HE := Lib.hid (list_good HD.out (by rw [← HPS.out, List.length_map]; omega) (by rw [← HPS.out]; exact HI.out))
          have HF := Lib.hid (show listV s.data.toList = nums ps by rw [HE.out.1, nums_list HPS.out])
          clear hout
          have HO2 := Lib.hid hout2
          clear hout2
          go_wp2
          go_ret2
          exact ⟨_, ret_lp HE.out.2.symm, by rw [HF.out, HNL.out]; exact own_base HO2.out hsz, HBP.out.trans (hbel.mono hsz)⟩
end Go.Proofs.YtnlkikdgffaeeaaDoor
