/-
  Contracts of the reading of numbers of chapter 1: the model's. Conditions: those that each theorem states.
-/
import Derived.Test.YtnlkikdgffaeeaaDoorBe
import Derived.Test.YtnlkikdgffaeeaaDoorNa
namespace Go.Proofs.YtnlkikdgffaeeaaDoor
open Go.RowKit
set_option linter.unusedVariables false
set_option linter.unusedSimpArgs false

theorem byteAt_get {s : ByteArray} {l : List UInt8} (hl : s.data.toList = l) {k : Nat} (h : k < l.length) : byteAt s k = (l[k].toNat : Int) := by
  unfold byteAt
  rw [hl, List.getD_eq_getElem?_getD, List.getElem?_eq_getElem h]
  rfl
theorem size_of_list' {s : ByteArray} {l : List UInt8} (hl : s.data.toList = l) : s.size = l.length := by rw [← hl]; simp
theorem ret_pair {a a' : Int} {b b' : Bool} (h : a = a') (h2 : b = b') : Ending.returned (.tuple #[.int .i64 a, .bool b]) = .returned (.tuple #[.int .i64 a', .bool b']) := by rw [h, h2]
theorem num_no {l : List UInt8} (h : numOf l = none) : numV l = 0 ∧ numB l = false := by unfold numV numB; rw [h]; exact ⟨rfl, rfl⟩
theorem num_yes {l : List UInt8} {v : Int} (h : numOf l = some v) : numV l = v ∧ numB l = true := by unfold numV numB; rw [h]; exact ⟨rfl, rfl⟩
theorem mag_bad {l : List UInt8} {k : Nat} (hk : k < l.length) (h : isDg l[k] = false) : magOf l = none := by
  unfold magOf
  rw [if_neg]
  rintro ⟨_, _, h2⟩
  rw [List.all_eq_true] at h2
  rw [h2 _ (List.getElem_mem hk)] at h
  cases h
theorem dg_in (c : UInt8) : inB (c.toNat : Int) 48 57 = isDg c := by
  rw [Bool.eq_iff_iff, inB_iff, isDg_iff]; omega
theorem all_snoc {l : List UInt8} {k : Nat} (hk : k < l.length) (h : (l.take k).all isDg = true) (hd : isDg l[k] = true) : (l.take (k + 1)).all isDg = true := by
  rw [List.take_succ_eq_append_getElem hk, List.all_append, h]; simp [hd]
theorem val_snoc {l : List UInt8} {k : Nat} (hk : k < l.length) (hd : isDg l[k] = true) : (valD 0 (l.take (k + 1)) : Int) = 10 * (valD 0 (l.take k) : Int) + ((l[k].toNat : Int) - 48) := by
  rw [List.take_succ_eq_append_getElem hk, valD_snoc, dgv_eq]
  rw [isDg_iff] at hd
  omega
theorem val_bd {l : List UInt8} (k : Nat) (hk : k < l.length) (h18 : l.length ≤ 18) (h : (l.take k).all isDg = true) : (valD 0 (l.take k) : Int) < 100000000000000000 := by
  have hv := valD_lt (l.take k) 0 h
  rw [Nat.zero_add, Nat.one_mul] at hv
  have hp : 10 ^ (l.take k).length ≤ 10 ^ 17 := Nat.pow_le_pow_right (by omega) (by rw [List.length_take]; omega)
  rw [show (10 : Nat) ^ 17 = 100000000000000000 from rfl] at hp
  omega

theorem l01Number_nil (w : World) :
    Calls Tryd.prog 40 #[.string ⟨#[]⟩] w fun e w' => e = .returned (.tuple #[.int .i64 (numV []), .bool (numB [])]) ∧ w = w' := by
  rw [(num_no (l := []) rfl).1, (num_no (l := []) rfl).2]
  go_enter Tryd.func40, Tryd.ntmps40
  go_wp2
  go_ret2
  exact ⟨rfl, rfl⟩
set_option maxHeartbeats 1000000 in
set_option maxRecDepth 100000 in
theorem l01Number_plain (s : ByteArray) (c : UInt8) (r : List UInt8) (hc : c ≠ 45) (hl : s.data.toList = c :: r) (w : World) (hs : s.size ≤ maxLen) :
    Calls Tryd.prog 40 #[.string s] w fun e w' => e = .returned (.tuple #[.int .i64 (numV (c :: r)), .bool (numB (c :: r))]) ∧ w = w' := by
  unfold maxLen at hs
  have hsz : s.size = r.length + 1 := by rw [size_of_list' hl]; rfl
  have hp : 0 < s.size := by omega
  have hb0 := byteAt_eq hp
  have e0 : byteAt s 0 = (c.toNat : Int) := byteAt_get hl (by simp)
  have n45 : c.toNat ≠ 45 := fun e => hc (UInt8.toNat_inj.1 e)
  have q0 : ((c.toNat : Int) == 45) = false := by simp; omega
  rw [e0] at hb0
  by_cases h18 : (c :: r).length ≤ 18
  · have hq18 : (s.size : Int) ≤ 18 := by have h18' := h18; rw [List.length_cons] at h18'; omega
    by_cases h48 : c = 48 ∧ r ≠ []
    · have x48 : c.toNat = 48 := by rw [h48.1]; rfl
      have x1 : ((c.toNat : Int) == 48) = true := by simp [x48]
      have hrl : 1 ≤ r.length := List.length_pos_iff.2 h48.2
      have x2 : (1 : Int) < (s.size : Int) := by omega
      have HE := Lib.hid (show numV (c :: r) = 0 ∧ numB (c :: r) = false from num_no (by simp [numOf, hc, h48]))
      clear hl h48 x48 e0
      have hsz1 : (s.size : Int) ≤ (r.length : Int) + 1 := by omega
      have hsz2 : (r.length : Int) + 1 ≤ (s.size : Int) := by omega
      have hsz3 : ((s.size : Int) == 0) = false := beq_false_of_ne (by omega)
      clear hsz
      go_enter Tryd.func40, Tryd.ntmps40
      go_wp2
      go_ret2
      exact ⟨ret_pair HE.out.1.symm HE.out.2.symm, rfl⟩
    · have HN := Lib.hid (show numOf (c :: r) = (magOf (c :: r)).map fun (u : Nat) => (u : Int) by simp only [numOf]; rw [if_neg hc, if_neg h48])
      have x1 : ((c.toNat : Int) == 48) = true → ¬ (1 : Int) < (s.size : Int) := by
        intro e h
        have e2 : (c.toNat : Int) = 48 := by simpa using e
        have e3 : c.toNat = 48 := by omega
        refine h48 ⟨UInt8.toNat_inj.1 e3, fun e4 => ?_⟩
        rw [e4] at hsz
        simp at hsz
        omega
      have H18 := Lib.hid h18
      have HL := Lib.hid hl
      have tl : (r.length : Int) ≤ 17 := by rw [List.length_cons] at h18; omega
      clear hl e0
      by_cases xc : ((c.toNat : Int) == 48) = true
      · have x2 := x1 xc
        clear x1 h48
        have hsz1 : (s.size : Int) ≤ (r.length : Int) + 1 := by omega
        have hsz2 : (r.length : Int) + 1 ≤ (s.size : Int) := by omega
        have hsz3 : ((s.size : Int) == 0) = false := beq_false_of_ne (by omega)
        clear hsz
        go_enter Tryd.func40, Tryd.ntmps40
        go_wp2
        go_loop [5, 6] (fun n i => ∃ k j : Nat, (k ≤ (c :: r).length ∧ Hid (j = k)) ∧ i = .int .i64 (j : Int) ∧ n = .int .i64 ((valD 0 ((c :: r).take k) : Nat) : Int) ∧ Hid (((c :: r).take k).all isDg = true)) (fun _ i => s.size - (intOf i).toNat)
        case atStart => exact ⟨0, 0, ⟨by omega, Lib.hid rfl⟩, rfl, rfl, Lib.hid rfl⟩
        case round =>
          obtain ⟨k, j, ⟨hk, HJ⟩, rfl, rfl, HA⟩ := hrel
          have hj1 : j ≤ k + 0 := by have := HJ.out; omega
          have hj2 : k + 0 ≤ j := by have := HJ.out; omega
          by_cases hlt : k < (c :: r).length
          · have hv := val_bd k hlt H18.out HA.out
            have hsk : j < s.size := by rw [List.length_cons] at hlt; omega
            have hbk := byteAt_eq hsk
            have ek : byteAt s j = (((c :: r)[k].toNat : Nat) : Int) := by rw [HJ.out]; exact byteAt_get HL.out hlt
            rw [ek] at hbk
            have hdin := dg_in (c :: r)[k]
            cases hd : isDg (c :: r)[k]
            · rw [hd] at hdin
              have HE := Lib.hid (show numV (c :: r) = 0 ∧ numB (c :: r) = false from num_no (by rw [HN.out, mag_bad hlt hd]; rfl))
              clear hd ek
              generalize ((c :: r)[k].toNat : Int) = z at *
              go_wp2_with (go_at_call 47; (with_reducible refine (l01Digit_any _ _).mono ?_); rintro e w' ⟨rfl, rfl⟩)
              go_ret2
              exact ⟨ret_pair HE.out.1.symm HE.out.2.symm, rfl⟩
            · rw [hd] at hdin
              have HS := Lib.hid (And.intro (val_snoc hlt hd) (all_snoc hlt HA.out hd))
              have hdd := isDg_iff.1 hd
              have d1 : 48 ≤ ((c :: r)[k].toNat : Int) := by omega
              have d2 : ((c :: r)[k].toNat : Int) ≤ 57 := by omega
              clear hd ek hdd
              generalize ((c :: r)[k].toNat : Int) = z at *
              go_wp2_with (go_at_call 47; (with_reducible refine (l01Digit_any _ _).mono ?_); rintro e w' ⟨rfl, rfl⟩)
              go_round
              case rel => exact ⟨k + 1, j + 1, ⟨by omega, Lib.hid (by have := HJ.out; omega)⟩, by go_num, by rw [HS.out.1]; try go_num, Lib.hid HS.out.2⟩
              case measure => simp [intOf]; omega
          · obtain rfl : k = (c :: r).length := by omega
            have hex : ¬ (j : Int) < (s.size : Int) := by rw [List.length_cons] at hj2; omega
            have hex2 : decide ((j : Int) < (s.size : Int)) = false := decide_eq_false hex
            rw [List.take_length] at HA
            have hv : (valD 0 (c :: r) : Int) < 1000000000000000000 := by
              have hx := valD_lt (c :: r) 0 HA.out
              rw [Nat.zero_add, Nat.one_mul] at hx
              have hp : 10 ^ ((c :: r)).length ≤ 10 ^ 18 := Nat.pow_le_pow_right (by omega) H18.out
              rw [show (10 : Nat) ^ 18 = 1000000000000000000 from rfl] at hp
              omega
            rw [List.take_length]
            have HE := Lib.hid (show numV (c :: r) = ((valD 0 (c :: r) : Nat) : Int) ∧ numB (c :: r) = true from num_yes (by
              rw [HN.out]
              unfold magOf
              rw [if_pos ⟨by simp, H18.out, HA.out⟩]
              rfl))
            have hv0 : 0 ≤ ((valD 0 (c :: r) : Nat) : Int) := by omega
            generalize ((valD 0 (c :: r) : Nat) : Int) = z at *
            go_wp2
            go_ret2
            exact ⟨ret_pair HE.out.1.symm HE.out.2.symm, rfl⟩
      · have xc2 : ((c.toNat : Int) == 48) = false := by simpa using xc
        clear x1 xc h48
        have hsz1 : (s.size : Int) ≤ (r.length : Int) + 1 := by omega
        have hsz2 : (r.length : Int) + 1 ≤ (s.size : Int) := by omega
        have hsz3 : ((s.size : Int) == 0) = false := beq_false_of_ne (by omega)
        clear hsz
        go_enter Tryd.func40, Tryd.ntmps40
        go_wp2
        go_loop [5, 6] (fun n i => ∃ k j : Nat, (k ≤ (c :: r).length ∧ Hid (j = k)) ∧ i = .int .i64 (j : Int) ∧ n = .int .i64 ((valD 0 ((c :: r).take k) : Nat) : Int) ∧ Hid (((c :: r).take k).all isDg = true)) (fun _ i => s.size - (intOf i).toNat)
        case atStart => exact ⟨0, 0, ⟨by omega, Lib.hid rfl⟩, rfl, rfl, Lib.hid rfl⟩
        case round =>
          obtain ⟨k, j, ⟨hk, HJ⟩, rfl, rfl, HA⟩ := hrel
          have hj1 : j ≤ k + 0 := by have := HJ.out; omega
          have hj2 : k + 0 ≤ j := by have := HJ.out; omega
          by_cases hlt : k < (c :: r).length
          · have hv := val_bd k hlt H18.out HA.out
            have hsk : j < s.size := by rw [List.length_cons] at hlt; omega
            have hbk := byteAt_eq hsk
            have ek : byteAt s j = (((c :: r)[k].toNat : Nat) : Int) := by rw [HJ.out]; exact byteAt_get HL.out hlt
            rw [ek] at hbk
            have hdin := dg_in (c :: r)[k]
            cases hd : isDg (c :: r)[k]
            · rw [hd] at hdin
              have HE := Lib.hid (show numV (c :: r) = 0 ∧ numB (c :: r) = false from num_no (by rw [HN.out, mag_bad hlt hd]; rfl))
              clear hd ek
              generalize ((c :: r)[k].toNat : Int) = z at *
              go_wp2_with (go_at_call 47; (with_reducible refine (l01Digit_any _ _).mono ?_); rintro e w' ⟨rfl, rfl⟩)
              go_ret2
              exact ⟨ret_pair HE.out.1.symm HE.out.2.symm, rfl⟩
            · rw [hd] at hdin
              have HS := Lib.hid (And.intro (val_snoc hlt hd) (all_snoc hlt HA.out hd))
              have hdd := isDg_iff.1 hd
              have d1 : 48 ≤ ((c :: r)[k].toNat : Int) := by omega
              have d2 : ((c :: r)[k].toNat : Int) ≤ 57 := by omega
              clear hd ek hdd
              generalize ((c :: r)[k].toNat : Int) = z at *
              go_wp2_with (go_at_call 47; (with_reducible refine (l01Digit_any _ _).mono ?_); rintro e w' ⟨rfl, rfl⟩)
              go_round
              case rel => exact ⟨k + 1, j + 1, ⟨by omega, Lib.hid (by have := HJ.out; omega)⟩, by go_num, by rw [HS.out.1]; try go_num, Lib.hid HS.out.2⟩
              case measure => simp [intOf]; omega
          · obtain rfl : k = (c :: r).length := by omega
            have hex : ¬ (j : Int) < (s.size : Int) := by rw [List.length_cons] at hj2; omega
            have hex2 : decide ((j : Int) < (s.size : Int)) = false := decide_eq_false hex
            rw [List.take_length] at HA
            have hv : (valD 0 (c :: r) : Int) < 1000000000000000000 := by
              have hx := valD_lt (c :: r) 0 HA.out
              rw [Nat.zero_add, Nat.one_mul] at hx
              have hp : 10 ^ ((c :: r)).length ≤ 10 ^ 18 := Nat.pow_le_pow_right (by omega) H18.out
              rw [show (10 : Nat) ^ 18 = 1000000000000000000 from rfl] at hp
              omega
            rw [List.take_length]
            have HE := Lib.hid (show numV (c :: r) = ((valD 0 (c :: r) : Nat) : Int) ∧ numB (c :: r) = true from num_yes (by
              rw [HN.out]
              unfold magOf
              rw [if_pos ⟨by simp, H18.out, HA.out⟩]
              rfl))
            have hv0 : 0 ≤ ((valD 0 (c :: r) : Nat) : Int) := by omega
            generalize ((valD 0 (c :: r) : Nat) : Int) = z at *
            go_wp2
            go_ret2
            exact ⟨ret_pair HE.out.1.symm HE.out.2.symm, rfl⟩
  · skip
    have HE := Lib.hid (show numV (c :: r) = 0 ∧ numB (c :: r) = false from num_no (num_long (l := (c :: r)) (by show 18 < (trimS (c :: r)).length; simp only [trimS, if_neg hc]; first | exact Nat.lt_of_not_le h18)))
    have x18 : (18 : Int) < (s.size : Int) - 0 := by rw [List.length_cons] at h18; omega
    clear hl
    have hsz1 : (s.size : Int) ≤ (r.length : Int) + 1 := by omega
    have hsz2 : (r.length : Int) + 1 ≤ (s.size : Int) := by omega
    have hsz3 : ((s.size : Int) == 0) = false := beq_false_of_ne (by omega)
    clear hsz
    go_enter Tryd.func40, Tryd.ntmps40
    go_wp2
    go_ret2
    exact ⟨ret_pair HE.out.1.symm HE.out.2.symm, rfl⟩
set_option maxHeartbeats 1000000 in
set_option maxRecDepth 100000 in
theorem l01Number_minus (s : ByteArray) (r : List UInt8) (hl : s.data.toList = 45 :: r) (w : World) (hs : s.size ≤ maxLen) :
    Calls Tryd.prog 40 #[.string s] w fun e w' => e = .returned (.tuple #[.int .i64 (numV (45 :: r)), .bool (numB (45 :: r))]) ∧ w = w' := by
  unfold maxLen at hs
  have hsz : s.size = r.length + 1 := by rw [size_of_list' hl]; rfl
  have hp : 0 < s.size := by omega
  have hb0 := byteAt_eq hp
  have e0 : byteAt s 0 = 45 := byteAt_get hl (by simp)
  have q0 : ((45 : Int) == 45) = true := rfl
  rw [e0] at hb0
  by_cases hr : r = []
  · subst hr
    have HE := Lib.hid (show numV [45] = 0 ∧ numB [45] = false from num_no rfl)
    have z1 : s.size = 1 := by simpa using hsz
    have z2 : ((s.size : Int) == 1) = true := by simp [z1]
    clear hl z1
    have hsz1 : (s.size : Int) ≤ (([] : List UInt8).length : Int) + 1 := by omega
    have hsz2 : (([] : List UInt8).length : Int) + 1 ≤ (s.size : Int) := by omega
    have hsz3 : ((s.size : Int) == 0) = false := beq_false_of_ne (by omega)
    clear hsz hsz1 hsz2
    go_enter Tryd.func40, Tryd.ntmps40
    go_wp2
    go_ret2
    exact ⟨ret_pair HE.out.1.symm HE.out.2.symm, rfl⟩
  · have hrl : 1 ≤ r.length := List.length_pos_iff.2 hr
    have z2 : ((s.size : Int) == 1) = false := by simp; omega
    by_cases h18 : r.length ≤ 18
    · have hq18 : (s.size : Int) ≤ 19 := by have h18' := h18; skip; omega
      have hp1 : 1 < s.size := by omega
      have hb1 := byteAt_eq hp1
      have e1 : byteAt s 1 = (r[0].toNat : Int) := byteAt_get hl (by simp; omega)
      rw [e1] at hb1
      by_cases h48 : r.head? = some 48
      · have x48 : r[0].toNat = 48 := by rw [List.head?_eq_getElem?, List.getElem?_eq_getElem (by omega)] at h48; injection h48 with h48; rw [h48]; rfl
        have x1 : ((r[0].toNat : Int) == 48) = true := by simp [x48]
        have x2 : (1 : Int) < (s.size : Int) := by omega
        have HE := Lib.hid (show numV (45 :: r) = 0 ∧ numB (45 :: r) = false from num_no (by simp [numOf, h48]))
        clear hl h48 x48 e1 e0
        have hsz1 : (s.size : Int) ≤ (r.length : Int) + 1 := by omega
        have hsz2 : (r.length : Int) + 1 ≤ (s.size : Int) := by omega
        have hsz3 : ((s.size : Int) == 0) = false := beq_false_of_ne (by omega)
        clear hsz
        go_enter Tryd.func40, Tryd.ntmps40
        go_wp2
        go_ret2
        exact ⟨ret_pair HE.out.1.symm HE.out.2.symm, rfl⟩
      · have x1 : ((r[0].toNat : Int) == 48) = false := by
          have : r[0].toNat ≠ 48 := fun e => h48 (by rw [List.head?_eq_getElem?, List.getElem?_eq_getElem (by omega)]; congr 1; exact UInt8.toNat_inj.1 e)
          simp; omega
        have HN := Lib.hid (show numOf (45 :: r) = (magOf r).map fun (u : Nat) => -(u : Int) by simp [numOf, h48])
        have H18 := Lib.hid h18
        have HL := Lib.hid hl
        have tl : (r.length : Int) ≤ 18 := by omega
        clear hl e1 e0 h48
        have hsz1 : (s.size : Int) ≤ (r.length : Int) + 1 := by omega
        have hsz2 : (r.length : Int) + 1 ≤ (s.size : Int) := by omega
        have hsz3 : ((s.size : Int) == 0) = false := beq_false_of_ne (by omega)
        clear hsz
        go_enter Tryd.func40, Tryd.ntmps40
        go_wp2
        go_loop [5, 6] (fun n i => ∃ k j : Nat, (k ≤ r.length ∧ Hid (j = k + 1)) ∧ i = .int .i64 (j : Int) ∧ n = .int .i64 ((valD 0 (r.take k) : Nat) : Int) ∧ Hid ((r.take k).all isDg = true)) (fun _ i => s.size - (intOf i).toNat)
        case atStart => exact ⟨0, 1, ⟨by omega, Lib.hid rfl⟩, rfl, rfl, Lib.hid rfl⟩
        case round =>
          obtain ⟨k, j, ⟨hk, HJ⟩, rfl, rfl, HA⟩ := hrel
          have hj1 : j ≤ k + 1 := by have := HJ.out; omega
          have hj2 : k + 1 ≤ j := by have := HJ.out; omega
          by_cases hlt : k < r.length
          · have hv := val_bd k hlt H18.out HA.out
            have hsk : j < s.size := by omega
            have hbk := byteAt_eq hsk
            have ek : byteAt s j = ((r[k].toNat : Nat) : Int) := by rw [HJ.out]; exact byteAt_get HL.out (by simp; omega)
            rw [ek] at hbk
            have hdin := dg_in r[k]
            cases hd : isDg r[k]
            · rw [hd] at hdin
              have HE := Lib.hid (show numV (45 :: r) = 0 ∧ numB (45 :: r) = false from num_no (by rw [HN.out, mag_bad hlt hd]; rfl))
              clear hd ek
              generalize (r[k].toNat : Int) = z at *
              go_wp2_with (go_at_call 47; (with_reducible refine (l01Digit_any _ _).mono ?_); rintro e w' ⟨rfl, rfl⟩)
              go_ret2
              exact ⟨ret_pair HE.out.1.symm HE.out.2.symm, rfl⟩
            · rw [hd] at hdin
              have HS := Lib.hid (And.intro (val_snoc hlt hd) (all_snoc hlt HA.out hd))
              have hdd := isDg_iff.1 hd
              have d1 : 48 ≤ (r[k].toNat : Int) := by omega
              have d2 : (r[k].toNat : Int) ≤ 57 := by omega
              clear hd ek hdd
              generalize (r[k].toNat : Int) = z at *
              go_wp2_with (go_at_call 47; (with_reducible refine (l01Digit_any _ _).mono ?_); rintro e w' ⟨rfl, rfl⟩)
              go_round
              case rel => exact ⟨k + 1, j + 1, ⟨by omega, Lib.hid (by have := HJ.out; omega)⟩, by go_num, by rw [HS.out.1]; try go_num, Lib.hid HS.out.2⟩
              case measure => simp [intOf]; omega
          · obtain rfl : k = r.length := by omega
            have hex : ¬ (j : Int) < (s.size : Int) := by omega
            have hex2 : decide ((j : Int) < (s.size : Int)) = false := decide_eq_false hex
            rw [List.take_length] at HA
            have hv : (valD 0 r : Int) < 1000000000000000000 := by
              have hx := valD_lt r 0 HA.out
              rw [Nat.zero_add, Nat.one_mul] at hx
              have hp : 10 ^ (r).length ≤ 10 ^ 18 := Nat.pow_le_pow_right (by omega) H18.out
              rw [show (10 : Nat) ^ 18 = 1000000000000000000 from rfl] at hp
              omega
            rw [List.take_length]
            have HE := Lib.hid (show numV (45 :: r) = -((valD 0 r : Nat) : Int) ∧ numB (45 :: r) = true from num_yes (by
              rw [HN.out]
              unfold magOf
              rw [if_pos ⟨by exact hr, H18.out, HA.out⟩]
              rfl))
            have hv0 : 0 ≤ ((valD 0 r : Nat) : Int) := by omega
            generalize ((valD 0 r : Nat) : Int) = z at *
            go_wp2
            go_ret2
            exact ⟨ret_pair HE.out.1.symm HE.out.2.symm, rfl⟩
    · skip
      have HE := Lib.hid (show numV (45 :: r) = 0 ∧ numB (45 :: r) = false from num_no (num_long (l := (45 :: r)) (by show 18 < (trimS (45 :: r)).length; simp only [trimS, if_true]; first | exact Nat.lt_of_not_le h18)))
      have x18 : (18 : Int) < (s.size : Int) - 1 := by omega
      clear hl
      have hsz1 : (s.size : Int) ≤ (r.length : Int) + 1 := by omega
      have hsz2 : (r.length : Int) + 1 ≤ (s.size : Int) := by omega
      have hsz3 : ((s.size : Int) == 0) = false := beq_false_of_ne (by omega)
      clear hsz
      go_enter Tryd.func40, Tryd.ntmps40
      go_wp2
      go_ret2
      exact ⟨ret_pair HE.out.1.symm HE.out.2.symm, rfl⟩
theorem l01Number_any (s : ByteArray) (w : World) (hs : s.size ≤ maxLen) :
    Calls Tryd.prog 40 #[.string s] w fun e w' => e = .returned (.tuple #[.int .i64 (numV s.data.toList), .bool (numB s.data.toList)]) ∧ w = w' := by
  cases hl : s.data.toList with
  | nil =>
    have : s = ⟨#[]⟩ := empty_of_size (by rw [size_of_list' hl]; rfl)
    subst this
    exact l01Number_nil w
  | cons c r =>
    by_cases hc : c = 45
    · subst hc; exact l01Number_minus s r hl w hs
    · exact l01Number_plain s c r hc hl w hs
end Go.Proofs.YtnlkikdgffaeeaaDoor
