/-
  Contracts of ListText of chapter 1, the program's and the model's. Conditions: those that each theorem states.
-/
import Derived.Test.YtnlkikdgffaeeaaDoorSb
import Derived.Test.YtnlkikdgffaeeaaDoorBj
import Derived.Test.YtnlkikdgffaeeaaDoorShC
namespace Go.Proofs.YtnlkikdgffaeeaaDoor
open Go.RowKit
set_option linter.unusedVariables false

theorem info_str : (Tryd.prog.info? 9).map (fun i => (i.zero, i.size, i.bytes)) = some (some (.string ⟨#[]⟩), 1, 16) := by kernel_rfl
def decB (x : Int) : ByteArray := ⟨(Lib.itoa x).toArray⟩
def strsV (l : List ByteArray) : List Value := l.map Value.string
theorem commas_join : ∀ l : List Int, Lib.join ((l.map decB).map (·.data.toList)) [44] = commas l
  | [] => rfl
  | [x] => by simp [Lib.join_one, commas, decB]
  | x :: y :: r => by
    have ih := commas_join (y :: r)
    rw [List.map_cons, List.map_cons, Lib.join_cons] at ih ⊢
    rw [commas, ← ih]
    simp [Lib.joinTail, decB]
theorem commas_join' (l : List Int) : (⟨(Lib.join ((l.map decB).map (·.data.toList)) (ByteArray.mk #[44]).data.toList).toArray⟩ : ByteArray) = ⟨(commas l).toArray⟩ := by
  rw [← commas_join]
theorem stake_set {xs : List Int} {k : Nat} (hk : k < xs.length) :
    (strsV ((xs.take k).map decB ++ List.replicate (xs.length - k) ⟨#[]⟩)).set k (.string (decB xs[k])) = strsV ((xs.take (k + 1)).map decB ++ List.replicate (xs.length - (k + 1)) ⟨#[]⟩) := by
  unfold strsV
  rw [← List.map_set, List.set_append_right _ _ (by simp; omega), List.length_map, List.length_take, Nat.min_eq_left (by omega), Nat.sub_self]
  congr 1
  rw [show xs.length - k = (xs.length - (k + 1)) + 1 by omega, List.replicate_succ, List.set_cons_zero, List.take_succ_eq_append_getElem hk, List.map_append, List.append_assoc]
  rfl

/-- What ListText returns. -/
def listT (xs : List Int) : List UInt8 := if fitsL xs then (if xs = [] then [45] else commas xs) else []
theorem fitsL_iff {xs : List Int} : fitsL xs = true ↔ (∀ y ∈ xs, -1000000000000 ≤ y ∧ y ≤ 1000000000000) ∧ xs.length ≤ 64 := by simp [fitsL]

theorem allR_fits {xs : List Int} (hn : xs.length ≤ 64) : allR (-1000000000000) 1000000000000 xs = fitsL xs := by
  rw [Bool.eq_iff_iff, allR_iff, fitsL_iff]
  exact ⟨fun h => ⟨h, hn⟩, fun h => h.1⟩

set_option maxHeartbeats 2000000 in
theorem iListText_any (v : Value) (xs : List Int) (w : World) (hv : Row .i64 w v xs) (hl : xs.length ≤ 1048576) (hP : Pow w) (hcp : ∀ A n c, v = .slice A n c → n ≤ c) :
    Calls Tryd.prog 14 #[v] w fun e w' => e = .returned (strB (listT xs)) ∧ Below w.heap.size w w' := by
  by_cases h0 : xs = []
  · subst h0
    have HE := Lib.hid (show listT [] = [45] from rfl)
    obtain ⟨A, cap, rfl⟩ := hv.form
    clear hv
    rw [List.length_nil]
    go_enter Tryd.func14, Tryd.ntmps14
    go_wp2
    go_ret
    exact ⟨by rw [HE.out]; rfl, Below.refl _ _⟩
  · have hpos : 0 < xs.length := List.length_pos_iff.2 h0
    have hz : ((xs.length : Int) == 0) = false := by simp; exact h0
    obtain ⟨b, off, cap, rfl, hcs⟩ : ∃ b off cap, v = .slice (some ⟨b, off, none⟩) xs.length cap ∧ ∀ j, j < xs.length → w.cell? ⟨b, off + j, none⟩ = some (.int .i64 (xs.getD j 0)) := by
      rcases hv with ⟨e, _⟩ | h
      · exact absurd e h0
      · exact h
    have HV := Lib.hid hv
    clear hv
    clear hcs
    by_cases h64 : 64 < xs.length
    · have HE := Lib.hid (show listT xs = [] by unfold listT; rw [show fitsL xs = false by unfold fitsL; rw [decide_eq_false (show ¬ xs.length ≤ 64 by omega), Bool.and_false]]; rfl)
      have t1 : (64 : Int) < (xs.length : Int) := by omega
      clear h0
      go_enter Tryd.func14, Tryd.ntmps14
      go_wp2
      go_ret
      exact ⟨(by rw [HE.out]; rfl : Ending.returned (Value.string ⟨#[]⟩) = .returned (strB (listT xs))), Below.refl _ _⟩
    · have t1 : ¬ (64 : Int) < (xs.length : Int) := by omega
      have t2 : decide ((64 : Int) < (xs.length : Int)) = false := decide_eq_false t1
      have HA := Lib.hid (allR_fits (xs := xs) (by omega))
      have H0 := Lib.hid h0
      clear h0 hcp
      cases hf : fitsL xs
      · rw [hf] at HA
        have HE := Lib.hid (show listT xs = [] by unfold listT; rw [hf]; rfl)
        have HA2 := HA.out
        clear hf
        go_enter Tryd.func14, Tryd.ntmps14
        go_wp2_with (go_at_call 25; refine (within64_any _ _ _ xs _ HV.out (by omega)).mono ?_; rintro e w' ⟨rfl, rfl⟩)
        go_ret
        exact ⟨(by rw [HE.out]; rfl : Ending.returned (Value.string ⟨#[]⟩) = .returned (strB (listT xs))), Below.refl _ _⟩
      · rw [hf] at HA
        have HE := Lib.hid (show listT xs = commas xs by unfold listT; rw [hf, if_neg H0.out]; rfl)
        have HR := Lib.hid (fun y hy => (⟨by have := ((fitsL_iff.1 hf).1 y hy).1; omega, by have := ((fitsL_iff.1 hf).1 y hy).2; omega⟩ : -9223372036854775808 ≤ y ∧ y ≤ 9223372036854775807))
        have HA2 := HA.out
        clear hf
        have HV2 := HV
        have HP2 := Lib.hid hP
        have hmk := run_make_row' (P := Tryd.prog) 48 9 (.string ⟨#[]⟩) 16 Tryd.underlying48 info_str rfl .i64 .i64 xs.length (by omega) (by omega)
        clear hP
        go_enter Tryd.func14, Tryd.ntmps14
        go_wp2_with (go_at_call 25; refine (within64_any _ _ _ xs _ HV.out (by omega)).mono ?_; rintro e w' ⟨rfl, rfl⟩)
        clear hmk
        go_loopw [22] (fun i wr => ∃ k : Nat, k ≤ xs.length ∧ i = .int .i64 k ∧ wr.ownsRow w.heap.size 9 1 (.slice (some ⟨w.heap.size, 0, none⟩) xs.length xs.length) xs.length (strsV ((xs.take k).map decB ++ List.replicate (xs.length - k) ⟨#[]⟩)) ∧ Below w.heap.size w wr) (fun i wr => xs.length - (intOf i).toNat)
        case atStart =>
          refine ⟨0, by omega, rfl, ?_, (Below.refl _ _).alloc (Nat.le_refl _) _⟩
          have h := World.ownsRow_lit (base := w.heap.size) (e := 9) (size := 1) w (madeCells #[.string ⟨#[]⟩] xs.length) xs.length (Nat.le_refl _) (by unfold maxLen; omega) (by simp [madeCells])
          have e : (madeCells #[.string ⟨#[]⟩] xs.length).toList = strsV ((xs.take 0).map decB ++ List.replicate (xs.length - 0) ⟨#[]⟩) := by
            simp [madeCells, strsV, Nat.mod_one, List.map_const']
          rw [e] at h
          exact h
        case round =>
          obtain ⟨k, hk, rfl, hown, hbel⟩ := hrel
          by_cases hlt : k < xs.length
          · obtain ⟨b', off', e', _, hc⟩ := Row.cell (HV2.out.below hbel) hlt
            injection e' with e'
            injection e' with e1 e2
            subst e1 e2
            rw [show xs.getD k 0 = xs[k] by simp [List.getD, hlt]] at hc
            have hb := HR.out xs[k] (List.getElem_mem hlt)
            have HO := Lib.hid (And.intro hown (stake_set hlt))
            have hcd0 : (strsV ((xs.take k).map decB ++ List.replicate (xs.length - k) ⟨#[]⟩))[k]? = some (.string ⟨#[]⟩) := by
              unfold strsV
              rw [List.getElem?_map, List.getElem?_append_right (by simp; omega), List.getElem?_replicate, if_pos (by simp; omega)]
              rfl
            have H0d := Lib.hid hcd0
            clear hown hcd0
            obtain ⟨wo, rfl⟩ : ∃ wo : World, wo = wr := ⟨_, rfl⟩
            go_wp2_with (go_at_call 26; refine (iDecimal_any xs[k] _ hb.1 hb.2 (Pow.below HP2.out hbel)).mono ?_; rintro e w' ⟨rfl, hb1⟩; have hown' := own_below HO.out.1 hb1; have hfz := hown'.frozenAt k; have hcd := (hown'.cellAt k (by omega)).trans H0d.out; replace hown' := Lib.hid hown')
            go_roundw
            case rel =>
              have h := (hown'.out.stored k (.string (decB xs[k]))).1
              rw [HO.out.2] at h
              exact ⟨k + 1, by omega, by go_num, h, (hbel.trans (hb1.mono hbel.size)).setCell (by simp) _⟩
            case measure => simp [intOf]; omega
          · obtain rfl : k = xs.length := by omega
            have hown2 : wr.ownsRow w.heap.size 9 1 (.slice (some ⟨w.heap.size, 0, none⟩) xs.length xs.length) xs.length (strsV (xs.map decB)) := by simpa using hown
            have hlen : (commas xs).length ≤ 140737488355328 := by have := commas_len xs HR.out; omega
            have hbk : w.heap.size < wr.heap.size := by
              have := hown2.cellAt 0 (by omega)
              refine World.block_lt_of_cell? (a := ⟨w.heap.size, 0, none⟩) (u := (strsV (xs.map decB))[0]'(by simpa [strsV] using hpos)) _ ?_
              rw [this, List.getElem?_eq_getElem]
            have hJ := Tryd.strings_Join w.heap.size 0 xs.length (xs.map decB) ⟨#[44]⟩ wr (by
                intro j x hx
                have hj : j < (xs.map decB).length := (List.getElem?_eq_some_iff.1 hx).1
                rw [List.length_map] at hj
                rw [Nat.zero_add, hown2.cellAt j (by omega)]
                unfold strsV
                rw [List.getElem?_map, hx]
                rfl) hbk (by rw [List.length_map]; omega) (by rw [List.length_map]; omega) (by
                rw [show (ByteArray.mk #[44]).data.toList = [44] from rfl, commas_join]; exact hlen)
            rw [commas_join', List.length_map] at hJ
            clear hown hown2
            go_wp2_with (go_at_call 27; refine hJ.mono ?_; rintro e w' ⟨rfl, hb1⟩)
            go_ret
            exact ⟨(by rw [HE.out]; rfl : Ending.returned (Value.string ⟨(commas xs).toArray⟩) = .returned (strB (listT xs))), hbel.trans (hb1.mono hbel.size)⟩
end Go.Proofs.YtnlkikdgffaeeaaDoor
