/-
  Contracts of lists of numbers that are read, chapter 1: the model's. Conditions: those that each theorem states.
-/
import Derived.Test.YtnlkikdgffaeeaaDoorNe
import Derived.Test.YtnlkikdgffaeeaaDoorSa
namespace Go.Proofs.YtnlkikdgffaeeaaDoor
open Go.RowKit
set_option linter.unusedVariables false
set_option linter.unusedSimpArgs false

theorem ret_lp {v : Value} {b b' : Bool} (h : b = b') : Ending.returned (.tuple #[v, .bool b]) = .returned (.tuple #[v, .bool b']) := by rw [h]
def nums (ps : List ByteArray) : List Int := ps.map fun p => numV p.data.toList
theorem nums_snoc {ps : List ByteArray} {k : Nat} (h : k < ps.length) : nums (ps.take (k + 1)) = nums (ps.take k) ++ [numV ps[k].data.toList] := by
  unfold nums; rw [List.take_succ_eq_append_getElem h, List.map_append]; rfl
def items (ps : List ByteArray) : Bool := (ps.map (·.data.toList)).all itemB
theorem items_snoc {ps : List ByteArray} {k : Nat} (h : k < ps.length) : items (ps.take (k + 1)) = (items (ps.take k) && itemB ps[k].data.toList) := by
  unfold items; rw [List.take_succ_eq_append_getElem h, List.map_append, List.all_append]; simp
theorem own_str_cell {w wr : World} {B g n cap : Nat} {ps : List ByteArray} {B0 : Nat} (h : w.ownsRow B0 9 1 (.slice (some ⟨g, 0, none⟩) n cap) n (strsN ps)) (hn : n = ps.length) (hg : g < w.heap.size) (hb : Below w.heap.size w wr) {k : Nat} (hk : k < ps.length) :
    wr.cell? ⟨g, k, none⟩ = some (.string ps[k]) := by
  rw [hb.cell (p := ⟨g, k, none⟩) hg, h.cellAt k (by omega)]
  unfold strsN
  rw [List.getElem?_map, List.getElem?_eq_getElem hk]; rfl
theorem itemB_no {p : List UInt8} (h : numB p = false) : itemB p = false := by unfold itemB; rw [h, Bool.false_and]
theorem itemB_in {p : List UInt8} (h : numB p = true) : itemB p = inB (numV p) (-1000000000000) 1000000000000 := by unfold itemB inB; rw [h, Bool.true_and]
theorem get_list {ps : List ByteArray} {L : List (List UInt8)} (h : ps.map (·.data.toList) = L) {k : Nat} (hk : k < ps.length) : ∃ hk' : k < L.length, L[k] = ps[k].data.toList := by
  subst h
  exact ⟨by simpa using hk, by simp⟩
theorem nums_list {ps : List ByteArray} {L : List (List UInt8)} (h : ps.map (·.data.toList) = L) : nums ps = L.map numV := by
  subst h; unfold nums; rw [List.map_map]; rfl
theorem dash_eq {s : ByteArray} (h : s.data.toList = [45]) : s = ⟨#[45]⟩ := by
  cases s with | mk d => cases d with | mk l => simp at h; subst h; rfl
theorem own_base {w : World} {B B' : Nat} {e : TypeId} {size n : Nat} {v : Value} {xs : List Value} (h : w.ownsRow B' e size v n xs) (hb : B ≤ B') : w.ownsRow B e size v n xs := by
  refine ⟨h.1, ?_⟩
  rcases h.2 with h | ⟨g, cap, cur, h1, h2, h3⟩
  · exact .inl h
  · exact .inr ⟨g, cap, cur, h1, Nat.le_trans hb h2, h3⟩
theorem split44 (s : ByteArray) (w : World) (hs : s.size ≤ 1048576) : Calls Tryd.prog 39 #[.string s, .int .u8 44] w fun e w' => ∃ v ps, e = .returned v ∧ ps.map (·.data.toList) = splitL 44 s.data.toList ∧ w'.ownsRow w.heap.size 9 1 v ps.length (strsN ps) ∧ Below w.heap.size w w' := l01Split_any s 44 w hs
set_option maxHeartbeats 1000000 in
set_option maxRecDepth 100000 in
theorem sReadList_any (s : ByteArray) (w : World) (hs : s.size ≤ 1048576) :
    Calls Tryd.prog 28 #[.string s] w fun e w' => ∃ v, e = .returned (.tuple #[v, .bool (listB s.data.toList)]) ∧ w'.ownsRow w.heap.size 2 1 v (listV s.data.toList).length (intsV (listV s.data.toList)) ∧ Below w.heap.size w w' := by
  by_cases hd : s.data.toList = [45]
  · obtain rfl := dash_eq hd
    clear hd hs
    rw [listV_dash.1, listV_dash.2]
    go_enter Tryd.func28, Tryd.ntmps28
    go_wp2
    go_ret2
    exact ⟨_, rfl, World.ownsRow_lit _ _ 0 (Nat.le_refl _) (by simp [maxLen]) rfl, (Below.refl _ _).alloc (Nat.le_refl _) _⟩
  · have hq : (s.toList == [45]) = false := by rw [ByteArray.toList_eq]; exact beq_false_of_ne hd
    have hq2 : (s.toList == (⟨#[45]⟩ : ByteArray).toList) = false := by rw [show (⟨#[45]⟩ : ByteArray).toList = [45] by rw [ByteArray.toList_eq]]; exact hq
    have HD := Lib.hid hd
    obtain ⟨i0, hi, hz0, hz1, hz2⟩ := info_parts info_i64
    clear hd
    go_enter Tryd.func28, Tryd.ntmps28
    go_wp2_with fail
    refine (split44 s w hs).mono ?_
    rintro e wp ⟨v, ps, rfl, hps, hown, hbp⟩
    have HPS := Lib.hid hps
    have hpl : 0 < ps.length := by
      have := List.length_pos_iff.2 (splitL_ne 44 s.data.toList)
      rw [← hps, List.length_map] at this; exact this
    have hln := splitL_len 44 s.data.toList
    rw [← hps, List.length_map] at hln
    have hln2 : (ps.length : Int) ≤ 1048577 := by have e : s.data.toList.length = s.size := by simp
                                                  omega
    obtain ⟨g, cap, rfl, hg, hgl⟩ := hown.form hpl
    have HO := Lib.hid hown
    have hsz := hbp.size
    have HBP := Lib.hid hbp
    clear hown hps hln hbp
    by_cases h64 : 64 < ps.length
    · have t1 : (64 : Int) < (ps.length : Int) := by omega
      have HE := Lib.hid (list_long HD.out (by rw [← HPS.out, List.length_map]; exact h64))
      go_wp2
      go_ret2
      exact ⟨_, ret_lp HE.out.2.symm, by rw [HE.out.1]; exact World.ownsRow_nil _ _ _ _, HBP.out⟩
    · have t1 : ¬ (64 : Int) < (ps.length : Int) := by omega
      have t2 : decide ((64 : Int) < (ps.length : Int)) = false := decide_eq_false t1
      go_wp2
      go_loopw [5, 6] (fun out i wr => ∃ k : Nat, k ≤ ps.length ∧ i = .int .i64 k ∧ Hid (items (ps.take k) = true) ∧ wr.ownsRow wp.heap.size 2 1 out k (intsV (nums (ps.take k))) ∧ Below wp.heap.size wp wr) (fun out i wr => ps.length - (intOf i).toNat)
      case atStart => exact ⟨0, by omega, rfl, Lib.hid rfl, World.ownsRow_lit _ _ 0 (Nat.le_refl _) (by simp [maxLen]) rfl, (Below.refl _ _).alloc (Nat.le_refl _) _⟩
      case round =>
        obtain ⟨k, hk, rfl, HI, hout, hbel⟩ := hrel
        have hwsz := hbel.size
        by_cases hlt : k < ps.length
        · have hc := own_str_cell (B := 0) HO.out rfl hgl hbel hlt
          obtain ⟨hkL, hpL⟩ := get_list HPS.out hlt
          have hpm : ps[k].size ≤ 1048576 := by
            have := splitL_mem 44 s.data.toList ((splitL 44 s.data.toList)[k]) (List.getElem_mem hkL)
            rw [hpL] at this
            have e1 : ps[k].data.toList.length = ps[k].size := by simp
            have e2 : s.data.toList.length = s.size := by simp
            omega
          have HPL := Lib.hid hpL
          have HS := Lib.hid (And.intro (nums_snoc hlt) (items_snoc hlt))
          have hnb := numV_bd ps[k].data.toList
          have HN := Lib.hid (fun W => l01Number_any ps[k] W (by unfold maxLen; omega))
          clear hpL
          generalize ps[k] = p at *
          cases hb : numB p.data.toList
          · have HE := Lib.hid (list_bad HD.out hkL (by rw [HPL.out]; exact itemB_no hb))
            rw [hb] at HN
            clear hb
            generalize numV p.data.toList = z at *
            go_wp2_with (go_at_call 40; refine (HN.out _).mono ?_; rintro e w' ⟨rfl, rfl⟩)
            go_ret2
            exact ⟨_, ret_lp HE.out.2.symm, by rw [HE.out.1]; exact World.ownsRow_nil _ _ _ _, HBP.out.trans (hbel.mono hsz)⟩
          · rw [hb] at HN
            have HB := Lib.hid (itemB_in hb)
            clear hb
            cases hin : inB (numV p.data.toList) (-1000000000000) 1000000000000
            · have HE := Lib.hid (list_bad HD.out hkL (by rw [HPL.out, HB.out, hin]))
              generalize numV p.data.toList = z at *
              go_wp2_with (first
                | (go_at_call 40; refine (HN.out _).mono ?_; rintro e w' ⟨rfl, rfl⟩)
                | (go_at_call 30; refine (l00In_any _ _ _ _).mono ?_; rintro e w' ⟨rfl, rfl⟩))
              go_ret2
              exact ⟨_, ret_lp HE.out.2.symm, by rw [HE.out.1]; exact World.ownsRow_nil _ _ _ _, HBP.out.trans (hbel.mono hsz)⟩
            · have HI2 := Lib.hid (show items (ps.take (k + 1)) = true by rw [HS.out.2, HI.out, HB.out, hin]; rfl)
              have HS1 := Lib.hid HS.out.1
              clear HB HS
              generalize numV p.data.toList = z at *
              have hzb := inB_iff.1 hin
              go_wp2_with (first
                | (go_at_call 40; refine (HN.out _).mono ?_; rintro e w' ⟨rfl, rfl⟩)
                | (go_at_call 30; refine (l00In_any _ _ _ _).mono ?_; rintro e w' ⟨rfl, rfl⟩)
                | (at_builtin; refine wpList_append_own _ rfl _ _ 37 rfl wp.heap.size 2 i0 (.int .i64 0) 1 8 Tryd.underlying37 hi hz0 hz1 hz2 rfl (by decide) _ _ _ rfl (hout.alloc _) ⟨wr.heap.size, 0, none⟩ 1 1 [.int .i64 z] rfl rfl ?c1z ?c2z ?c3z ?c4z ?c5z ?_))
              case c1z => intro j u hj; match j, hj with | 0, hj => (simp at hj; subst hj; simp [Addr.add]) | j + 1, hj => (simp at hj)
              case c2z => simp [Value.oneCell']
              case c3z => unfold maxLen; omega
              case c4z => omega
              case c5z => (simp; omega)
              intro v' w1 hout' hgrow _
              have HBB : Hid (Below wp.heap.size wp w1) := Lib.hid ((hbel.alloc hwsz _).grown hgrow (by simp; omega) (fun k hk => (hout.lt k hk).1))
              have HOO : Hid (w1.ownsRow wp.heap.size 2 1 v' (k + 1) (intsV (nums (ps.take (k + 1))))) := Lib.hid (by rw [HS1.out]; simpa [intsV] using hout')
              clear hout' hgrow hout hbel
              go_wp2
              go_roundw
              case rel => exact ⟨k + 1, by omega, by go_num, HI2, HOO.out, HBB.out⟩
              case measure => simp [intOf]; omega
        · obtain rfl : k = ps.length := by omega
          rw [List.take_length] at HI hout
          have HE := Lib.hid (list_good HD.out (by rw [← HPS.out, List.length_map]; omega) (by rw [← HPS.out]; exact HI.out))
          have HF := Lib.hid (show listV s.data.toList = nums ps by rw [HE.out.1, nums_list HPS.out])
          go_wp2
          go_ret2
          exact ⟨_, ret_lp HE.out.2.symm, by rw [HF.out, show (nums ps).length = ps.length by simp [nums]]; exact own_base hout hsz, HBP.out.trans (hbel.mono hsz)⟩
end Go.Proofs.YtnlkikdgffaeeaaDoor
