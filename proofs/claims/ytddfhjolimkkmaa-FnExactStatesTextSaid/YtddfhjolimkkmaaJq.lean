/-
  Contracts of chapter 10: states as text; the model's and the program's. Conditions: those that each theorem states.
-/
import Derived.Test.YtddfhjolimkkmaaJo
import Derived.Test.YtddfhjolimkkmaaBh
namespace Go.Proofs.Ytddfhjolimkkmaa
open Go.RowKit
set_option linter.unusedVariables false
set_option linter.unusedSimpArgs false

theorem str_addQ {x y : ByteArray} (h : x.size + y.size ≤ 100000) : Op.stringOp .add x y = pure (.string (x ++ y)) := by
  unfold Op.stringOp
  simp only []
  rw [if_neg (by simp [IntKind.max, IntKind.bits, IntKind.signed]; omega)]
theorem ba_snoc (a : List UInt8) (c : UInt8) : (⟨a.toArray⟩ : ByteArray) ++ ⟨#[c]⟩ = ⟨(a ++ [c]).toArray⟩ := by
  apply ByteArray.ext
  simp
/-- The letters of states. -/
def ltB (st : List Bool) : List UInt8 := st.map (fun b => if b = true then 111 else 120)
theorem ltB_len (st : List Bool) : (ltB st).length = st.length := by simp [ltB]
theorem ltB_take {st : List Bool} {k : Nat} (h : k < st.length) : (ltB st).take (k + 1) = (ltB st).take k ++ [if st[k] = true then 111 else 120] := by
  rw [List.take_succ_eq_append_getElem (by rw [ltB_len]; exact h)]
  simp [ltB]
/-- What StatesText returns. -/
def stT (st : List Bool) : ByteArray := if st.length ≤ 8 then ⟨(ltB st).toArray⟩ else ⟨#[]⟩
theorem take_szQ (st : List Bool) (k : Nat) (h : st.length ≤ 8) : (⟨((ltB st).take k).toArray⟩ : ByteArray).size ≤ 8 := by
  show ((ltB st).take k).toArray.size ≤ 8
  simp [ltB_len]; omega
set_option maxHeartbeats 1000000 in
theorem l10StatesText_any (D : Option Addr) (dcap : Nat) (st : List Bool) (w : World) (hd : BoR w D st) (hdl : st.length ≤ 8) :
    Calls Try.prog 109 #[.slice D st.length dcap] w fun e w' => e = .returned (.string ⟨(ltB st).toArray⟩) ∧ w = w' := by
  have HD := Lib.hid hd
  clear hd
  go_enter Try.func109, Try.ntmps109
  go_wp2
  go_loop [3, 4] (fun s i => ∃ (k : Nat) (t : ByteArray), k ≤ st.length ∧ i = .int .i64 k ∧ s = .string t ∧ Hid (t = ⟨((ltB st).take k).toArray⟩)) (fun s i => st.length - (intOf i).toNat)
  case atStart => exact ⟨0, _, by omega, rfl, rfl, Lib.hid rfl⟩
  case round =>
    obtain ⟨k, t, hk, rfl, rfl, HT⟩ := hrel
    by_cases hlt : k < st.length
    · obtain ⟨bs, os, rfl, s0⟩ := HD.out k hlt
      have hsz : t.size ≤ 8 := by rw [HT.out]; exact take_szQ st k hdl
      have HN := Lib.hid (ltB_take hlt)
      generalize st[k] = p at *
      cases p
      · have e2 := str_addQ (x := t) (y := ⟨#[120]⟩) (by show t.size + 1 ≤ 100000; omega)
        have e3 : binOp .add 9 (.string t) (.string ⟨#[120]⟩) = pure (.string (t ++ ⟨#[120]⟩)) := (binOp_string_add _ _ _).trans e2
        have HF := Lib.hid (show t ++ ⟨#[120]⟩ = ⟨((ltB st).take (k + 1)).toArray⟩ by rw [HN.out, HT.out, ba_snoc]; rfl)
        go_wp2
        go_round
        case rel => exact ⟨k + 1, _, by omega, by go_num, rfl, HF⟩
        case measure => simp [intOf]; omega
      · have e2 := str_addQ (x := t) (y := ⟨#[111]⟩) (by show t.size + 1 ≤ 100000; omega)
        have e3 : binOp .add 9 (.string t) (.string ⟨#[111]⟩) = pure (.string (t ++ ⟨#[111]⟩)) := (binOp_string_add _ _ _).trans e2
        have HF := Lib.hid (show t ++ ⟨#[111]⟩ = ⟨((ltB st).take (k + 1)).toArray⟩ by rw [HN.out, HT.out, ba_snoc]; rfl)
        go_wp2
        go_round
        case rel => exact ⟨k + 1, _, by omega, by go_num, rfl, HF⟩
        case measure => simp [intOf]; omega
    · obtain rfl : k = st.length := by omega
      have HF := Lib.hid (show t = ⟨(ltB st).toArray⟩ by rw [HT.out, List.take_of_length_le (by rw [ltB_len]; exact Nat.le_refl _)])
      go_wp2
      go_ret
      exact ⟨by rw [HF.out]; rfl, rfl⟩
theorem sStatesText_any (D : Option Addr) (dcap : Nat) (st : List Bool) (w : World) (hd : BoR w D st) (hdl : st.length ≤ 1048576) :
    Calls Try.prog 57 #[.slice D st.length dcap] w fun e w' => e = .returned (.string (stT st)) ∧ Below w.heap.size w w' := by
  by_cases h8 : st.length ≤ 8
  · have HE := Lib.hid (show stT st = ⟨(ltB st).toArray⟩ from if_pos h8)
    have t1 : ¬ (8 : Int) < (st.length : Int) := by omega
    go_enter Try.func57, Try.ntmps57
    go_wp2_with fail
    (with_reducible refine (l10StatesText_any D dcap st w hd h8).mono ?_)
    rintro e w' ⟨rfl, rfl⟩
    go_wp2
    go_ret
    exact ⟨by rw [HE.out]; rfl, Below.refl _ _⟩
  · have HE := Lib.hid (show stT st = ⟨#[]⟩ from if_neg h8)
    have t1 : (8 : Int) < (st.length : Int) := by omega
    go_enter Try.func57, Try.ntmps57
    go_wp2
    go_ret
    exact ⟨by rw [HE.out]; rfl, Below.refl _ _⟩
theorem byQ_put {L : List UInt8} {k : Nat} (hk : k < L.length) :
    (bytesV (L.take k ++ List.replicate (L.length - k) 0)).set k (.int .u8 ((L[k].toNat : Nat) : Int)) = bytesV (L.take (k + 1) ++ List.replicate (L.length - (k + 1)) 0) := by
  unfold bytesV
  rw [← List.map_set (f := fun b : UInt8 => Value.int .u8 (b.toNat : Int)) (a := L[k]), List.set_append_right _ _ (by simp; omega), List.length_take, Nat.min_eq_left (by omega), Nat.sub_self]
  congr 1
  rw [show L.length - k = (L.length - (k + 1)) + 1 by omega, List.replicate_succ, List.set_cons_zero, List.take_succ_eq_append_getElem hk, List.append_assoc]
  rfl
set_option maxHeartbeats 2000000 in
set_option maxRecDepth 100000 in
theorem iStatesText_any (D : Option Addr) (dcap : Nat) (st : List Bool) (w : World) (hd : BoR w D st) (hdl : st.length ≤ 1048576) :
    Calls Try.prog 58 #[.slice D st.length dcap] w fun e w' => e = .returned (.string (stT st)) ∧ Below w.heap.size w w' := by
  have HD := Lib.hid hd
  clear hd
  by_cases h8 : st.length ≤ 8
  · have HE := Lib.hid (show stT st = ⟨(ltB st).toArray⟩ from if_pos h8)
    have t1 : ¬ (8 : Int) < (st.length : Int) := by omega
    have hmk := run_make_row' (P := Try.prog) 76 5 (.int .u8 0) 1 Try.underlying76 info_u8 rfl .i64 .i64 st.length (by omega) (by omega)
    go_enter Try.func58, Try.ntmps58
    go_wp2
    clear hmk
    go_loopw [14] (fun i wr => ∃ k : Nat, k ≤ st.length ∧ i = .int .i64 k ∧ Hid (wr.ownsRow w.heap.size 5 1 (.slice (some ⟨w.heap.size, 0, none⟩) st.length st.length) st.length (bytesV ((ltB st).take k ++ List.replicate ((ltB st).length - k) 0))) ∧ Hid (Below w.heap.size w wr)) (fun i wr => st.length - (intOf i).toNat)
    case atStart =>
      refine ⟨0, by omega, rfl, Lib.hid ?_, Lib.hid ((Below.refl _ _).alloc (Nat.le_refl _) _)⟩
      have h := World.ownsRow_lit (base := w.heap.size) (e := 5) (size := 1) w (madeCells #[.int .u8 0] st.length) st.length (Nat.le_refl _) (by unfold maxLen; omega) (by simp [madeCells])
      have e : (madeCells #[.int .u8 0] st.length).toList = bytesV ((ltB st).take 0 ++ List.replicate ((ltB st).length - 0) 0) := by
        simp [madeCells, bytesV, ltB_len, Nat.mod_one, List.map_const']
      rw [e] at h
      exact h
    case round =>
      obtain ⟨k, hk, rfl, HO, HB⟩ := hrel
      obtain ⟨wo, rfl⟩ : ∃ wo : World, wo = wr := ⟨_, rfl⟩
      by_cases hlt : k < st.length
      · obtain ⟨bs, os, rfl, s0⟩ := (HD.out.below HB.out) k hlt
        have hfz := HO.out.frozenAt k
        have hlL : k < (ltB st).length := by rw [ltB_len]; exact hlt
        have hcd : ∃ u, wo.cell? ⟨w.heap.size, k, none⟩ = some u := by
          rw [HO.out.cellAt k (by omega)]
          exact ⟨_, List.getElem?_eq_getElem (by simp [bytesV, ltB_len]; omega)⟩
        obtain ⟨u, hcd⟩ := hcd
        have HP := Lib.hid (byQ_put hlL)
        have HL := Lib.hid (show (ltB st)[k] = if st[k] = true then 111 else 120 by simp [ltB])
        have hbw : w.heap.size < wo.heap.size := World.block_lt_of_cell? _ _ hcd
        generalize st[k] = p at *
        cases p
        · have HQ := Lib.hid (show (((ltB st)[k].toNat : Nat) : Int) = 120 by rw [HL.out]; rfl)
          go_wp2
          go_roundw
          case rel => exact ⟨k + 1, by omega, by go_num, Lib.hid (by
            have h := (HO.out.stored k (.int .u8 120)).1
            rw [← HQ.out, HP.out] at h
            rw [HQ.out] at h
            exact h), Lib.hid (HB.out.setCell (by simp) _)⟩
          case measure => simp [intOf]; omega
        · have HQ := Lib.hid (show (((ltB st)[k].toNat : Nat) : Int) = 111 by rw [HL.out]; rfl)
          go_wp2
          go_roundw
          case rel => exact ⟨k + 1, by omega, by go_num, Lib.hid (by
            have h := ((HO.out.stored k (.int .u8 120)).1.stored k (.int .u8 111)).1
            rw [List.set_set, ← HQ.out, HP.out] at h
            rw [HQ.out] at h
            exact h), Lib.hid ((HB.out.setCell (by simp) _).setCell (by simp) _)⟩
          case measure => simp [intOf]; omega
      · obtain rfl : k = st.length := by omega
        have hout := HO.out
        rw [List.take_of_length_le (by rw [ltB_len]; exact Nat.le_refl _), ltB_len, Nat.sub_self, List.replicate_zero, List.append_nil] at hout
        have hconv := run_convert_bytes_arg (P := Try.prog) (w := wo) 76 5 Try.underlying76 Try.underlying5 w.heap.size 0 st.length st.length ((ltB st).map fun b => (b.toNat : Int)) (by simp [ltB_len]) (fun i hi => by
          rw [Nat.zero_add, hout.cellAt i (by simpa [ltB_len] using hi)]
          have hi2 : i < (ltB st).length := by rw [ltB_len]; first | exact hi | simpa [ltB_len] using hi
          simp [bytesV, hi2, List.getD])
        replace hconv := hconv 9 Try.underlying9
        rw [strOf] at hconv
        rw [← HE.out] at hconv
        clear hout
        go_wp2
        go_ret
        exact ⟨rfl, HB.out⟩
  · have HE := Lib.hid (show stT st = ⟨#[]⟩ from if_neg h8)
    have t1 : (8 : Int) < (st.length : Int) := by omega
    go_enter Try.func58, Try.ntmps58
    go_wp2
    go_ret
    exact ⟨by rw [HE.out]; rfl, Below.refl _ _⟩
end Go.Proofs.Ytddfhjolimkkmaa
