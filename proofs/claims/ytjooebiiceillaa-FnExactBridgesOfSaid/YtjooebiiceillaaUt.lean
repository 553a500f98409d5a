/-
  BridgesOf, the model's and the program's. Conditions: those that each theorem states.
-/
import Derived.Test.YtjooebiiceillaaUs
import Derived.Test.YtjooebiiceillaaUe
namespace Go.Proofs.Ytjooebiiceillaa
open Go.RowKit
set_option linter.unusedVariables false
set_option linter.unusedSimpArgs false

/-- What BridgesOf returns. -/
def bgR (J : Int) (xs : List Aw) : List Int := if mineOk J xs then ixT (brB J.toNat xs) xs.length else []
theorem bgR_len (J : Int) (xs : List Aw) : (bgR J xs).length ≤ xs.length := by
  unfold bgR
  split
  · exact ixT_len _ _
  · simp
theorem br_lab {Jn : Nat} {xs : List Aw} (hok : mineOk (Jn : Int) xs = true) {k : Nat} (hk : k < xs.length) : brB Jn xs k = !(decide (labT xs (ixT (fun (j : Nat) => !(decide ((j : Int) = (k : Int)))) xs.length) (ixT (fun (j : Nat) => !(decide ((j : Int) = (k : Int)))) xs.length).length xs[k].f = labT xs (ixT (fun (j : Nat) => !(decide ((j : Int) = (k : Int)))) xs.length) (ixT (fun (j : Nat) => !(decide ((j : Int) = (k : Int)))) xs.length).length xs[k].t)) := by
  have hen := ends_in hok hk
  have hd := levD_dist (ls := (ixT (fun (j : Nat) => !(decide ((j : Int) = (k : Int)))) xs.length)) (to := xs[k].t) hok (fun y hy => ixT_mem _ _ _ hy) (by omega)
  have h := dist_lab (E' := ((ixT (fun (j : Nat) => !(decide ((j : Int) = (k : Int)))) xs.length).map (endsOf xs)).reverse) hd (fun e => by unfold enL; rw [List.mem_reverse]) xs[k].f
  unfold brB
  rw [getD_of_lt hk, labT_full]
  congr 1
  rw [Bool.eq_iff_iff, decide_eq_true_iff, decide_eq_true_iff]
  exact h
theorem partsL_get {J j : Nat} (lab : Int → Int) (h : j < J) : (partsL J lab).getD j 0 = lab (j : Int) := by simp [partsL, h]
theorem ret_vb {v : Value} {b b' : Int} (h : b = b') : Ending.returned (.tuple #[v, .int .i64 b]) = .returned (.tuple #[v, .int .i64 b']) := by rw [h]
set_option maxHeartbeats 4000000 in
set_option maxRecDepth 100000 in
theorem sBridgesOf_any (J : Int) (A : Option Addr) (cap : Nat) (xs : List Aw) (w : World) (hr : AwR w A xs) (hs : ∀ a ∈ xs, a.s.size ≤ maxLen) (hl : xs.length ≤ 1048576) :
    Calls Try.prog 48 #[.agg #[.int .i64 J, .slice A xs.length cap]] w fun e w' => ∃ v, e = .returned (.tuple #[v, .int .i64 (paB J xs)]) ∧ OwnI w' w.heap.size v (bgR J xs) ∧ Below w.heap.size w w' := by
  have HB0 := Lib.hid (below_box w (.cells #[.int .i64 J, .slice A xs.length cap] 36))
  have HOKC := Lib.hid (l04Ok_any w.heap.size J A cap xs (w.alloc (.cells #[.int .i64 J, .slice A xs.length cap] 36)) (by simp) (by simp) (hr.below HB0.out) hs hl)
  have HK := Lib.hid (show (w.alloc (.cells #[.int .i64 J, .slice A xs.length cap] 36)).cell? ⟨w.heap.size, 0, none⟩ = some (.int .i64 J) ∧ (w.alloc (.cells #[.int .i64 J, .slice A xs.length cap] 36)).cell? ⟨w.heap.size, 1, none⟩ = some (.slice A xs.length cap) ∧ AwR (w.alloc (.cells #[.int .i64 J, .slice A xs.length cap] 36)) A xs from ⟨by simp, by simp, hr.below HB0.out⟩)
  obtain ⟨i0, hi, hz0, hz1, hz2⟩ := info_parts info_i64
  clear hr hs
  cases hok : mineOk J xs
  · have HE := Lib.hid (show paB J xs = 1 ∧ bgR J xs = [] by simp [paB, bgR, hok])
    go_enter Try.func48, Try.ntmps48
    go_wp2_with fail
    (with_reducible refine (HOKC.out).mono ?_)
    rintro e w1 ⟨rfl, n, rfl⟩
    rw [hok]
    have HK1 := Lib.hid (show ((w.alloc (.cells #[.int .i64 J, .slice A xs.length cap] 36)).drewN n).cell? ⟨w.heap.size, 0, none⟩ = some (.int .i64 J) ∧ ((w.alloc (.cells #[.int .i64 J, .slice A xs.length cap] 36)).drewN n).cell? ⟨w.heap.size, 1, none⟩ = some (.slice A xs.length cap) ∧ AwR ((w.alloc (.cells #[.int .i64 J, .slice A xs.length cap] 36)).drewN n) A xs from HK.out)
    have HB1 := Lib.hid (show Below w.heap.size w ((w.alloc (.cells #[.int .i64 J, .slice A xs.length cap] 36)).drewN n) from below_drewN' HB0.out n)
    generalize (w.alloc (.cells #[.int .i64 J, .slice A xs.length cap] 36)).drewN n = W1 at *
    go_wp2
    go_ret2
    exact ⟨_, ret_vb HE.out.1.symm, by rw [HE.out.2]; exact own_nil _ _, HB1.out⟩
  · obtain ⟨hj, -, h24⟩ := mineOk_iff.1 hok
    obtain ⟨Jn, rfl⟩ : ∃ Jn : Nat, J = Jn := ⟨J.toNat, by omega⟩
    have HOK := Lib.hid hok
    have HE := Lib.hid (show paB (Jn : Int) xs = 0 ∧ bgR (Jn : Int) xs = ixT (brB Jn xs) xs.length by simp [paB, bgR, hok])
    go_enter Try.func48, Try.ntmps48
    go_wp2_with fail
    (with_reducible refine (HOKC.out).mono ?_)
    rintro e w1 ⟨rfl, n, rfl⟩
    rw [hok]
    have HK1 := Lib.hid (show ((w.alloc (.cells #[.int .i64 (Jn : Int), .slice A xs.length cap] 36)).drewN n).cell? ⟨w.heap.size, 0, none⟩ = some (.int .i64 (Jn : Int)) ∧ ((w.alloc (.cells #[.int .i64 (Jn : Int), .slice A xs.length cap] 36)).drewN n).cell? ⟨w.heap.size, 1, none⟩ = some (.slice A xs.length cap) ∧ AwR ((w.alloc (.cells #[.int .i64 (Jn : Int), .slice A xs.length cap] 36)).drewN n) A xs from HK.out)
    have HB1 := Lib.hid (show Below w.heap.size w ((w.alloc (.cells #[.int .i64 (Jn : Int), .slice A xs.length cap] 36)).drewN n) from below_drewN' HB0.out n)
    generalize (w.alloc (.cells #[.int .i64 (Jn : Int), .slice A xs.length cap] 36)).drewN n = W1 at *
    have hw1 : w.heap.size < W1.heap.size := World.block_lt_of_cell? _ _ HK1.out.1
    clear hok
    go_wp2
    go_loopw [4, 5] (fun out i wr => ∃ k : Nat, k ≤ xs.length ∧ i = .int .i64 k ∧ Hid (OwnI wr W1.heap.size out (ixT (brB Jn xs) k)) ∧ Hid (Below W1.heap.size W1 wr)) (fun out i wr => xs.length - (intOf i).toNat)
    case atStart => exact ⟨0, by omega, rfl, Lib.hid (World.ownsRow_lit _ _ 0 (Nat.le_refl _) (by simp [maxLen]) rfl), Lib.hid ((Below.refl _ _).alloc (Nat.le_refl _) _)⟩
    case round =>
      obtain ⟨k, hk, rfl, HO, HBL⟩ := hrel
      have m0 := (HBL.out.cell (p := ⟨w.heap.size, 0, none⟩) hw1).trans HK1.out.1
      have m1 := (HBL.out.cell (p := ⟨w.heap.size, 1, none⟩) hw1).trans HK1.out.2.1
      have hwz : W1.heap.size ≤ wr.heap.size := HBL.out.size
      have hll := ixT_len (brB Jn xs) k
      by_cases hlt : k < xs.length
      · have hkI : (k : Int) < (xs.length : Int) := by omega
        have HBR := Lib.hid (br_lab HOK.out hlt)
        have hen := ends_in HOK.out hlt
        have HAL := Lib.hid (And.intro (ixT_mem (fun (j : Nat) => !(decide ((j : Int) = (k : Int)))) xs.length) (show (ixT (fun (j : Nat) => !(decide ((j : Int) = (k : Int)))) xs.length).length ≤ 1000 from Nat.le_trans (ixT_len _ _) (by omega)))
        go_wp2_with fail
        (with_reducible refine (l04All_any w.heap.size xs.length cap A (k : Int) _ m1 (by omega)).mono ?_)
        rintro e w2 ⟨u2, rfl, ho2, hd2⟩
        have HO2 := Lib.hid ho2
        have HB2 := Lib.hid (HBL.out.trans (hd2.mono hwz))
        have HOX := Lib.hid (own_below HO.out hd2)
        have m0 := (hd2.cell (p := ⟨w.heap.size, 0, none⟩) (Nat.lt_of_lt_of_le hw1 hwz)).trans m0
        have m1 := (hd2.cell (p := ⟨w.heap.size, 1, none⟩) (Nat.lt_of_lt_of_le hw1 hwz)).trans m1
        clear ho2 hd2
        go_wp2_with fail
        (with_reducible refine (l04Parts_any w.heap.size cap Jn A xs _ (ixT (fun (j : Nat) => !(decide ((j : Int) = (k : Int)))) xs.length) _ m0 m1 (HK1.out.2.2.below HB2.out) (RowW.of_ownI HO2.out) HAL.out.1 HAL.out.2 HOK.out).mono ?_)
        rintro e w3 ⟨u3, rfl, ho3, hd3⟩
        have hs2 := HB2.out.size
        have HO3 := Lib.hid (show OwnI w3 w2.heap.size u3 (partsL Jn (labT xs (ixT (fun (j : Nat) => !(decide ((j : Int) = (k : Int)))) xs.length) (ixT (fun (j : Nat) => !(decide ((j : Int) = (k : Int)))) xs.length).length)) from ho3)
        have HB3 := Lib.hid (HB2.out.trans (hd3.mono hs2))
        have HO4 := Lib.hid (own_below HOX.out hd3)
        clear ho3 hd3 m0 m1
        obtain ⟨ua, uc, rfl⟩ := HO3.out.form
        rw [partsL_len] at HO3 ⊢
        obtain ⟨g, off, rfl, hrg⟩ := (HK1.out.2.2.below HB3.out) k hlt
        obtain ⟨⟨d0, d1, d2, d3⟩, d4, d5, d6⟩ := lay_row hrg
        generalize xs[k] = a at *
        obtain ⟨sa, f, t, l, se, fr, sh⟩ := a
        dsimp only at d0 d1 d2 d3 d4 d5 d6 hen HBR
        clear hrg
        obtain ⟨fn, rfl⟩ : ∃ fn : Nat, f = fn := ⟨f.toNat, by omega⟩
        obtain ⟨tn, rfl⟩ : ∃ tn : Nat, t = tn := ⟨t.toNat, by omega⟩
        have hf1 : fn < Jn := by omega
        have ht1 : tn < Jn := by omega
        have hfI : (fn : Int) < (Jn : Int) := by omega
        have htI : (tn : Int) < (Jn : Int) := by omega
        obtain ⟨lb, lo, rfl, -, hcf⟩ := RowW.cell (RowW.of_ownI HO3.out) (j := fn) (by rw [partsL_len]; exact hf1)
        obtain ⟨lb2, lo2, hea, -, hct⟩ := RowW.cell (RowW.of_ownI HO3.out) (j := tn) (by rw [partsL_len]; exact ht1)
        obtain ⟨rfl, rfl⟩ : lb = lb2 ∧ lo = lo2 := by injection hea with hea; injection hea with h1 h2 h3; exact ⟨h1, h2⟩
        rw [partsL_get _ hf1] at hcf
        rw [partsL_get _ ht1] at hct
        generalize labT xs (ixT (fun (j : Nat) => !(decide ((j : Int) = (k : Int)))) xs.length) (ixT (fun (j : Nat) => !(decide ((j : Int) = (k : Int)))) xs.length).length (fn : Int) = La at *
        generalize labT xs (ixT (fun (j : Nat) => !(decide ((j : Int) = (k : Int)))) xs.length) (ixT (fun (j : Nat) => !(decide ((j : Int) = (k : Int)))) xs.length).length (tn : Int) = Lb at *
        have m0 := (HB3.out.cell (p := ⟨w.heap.size, 0, none⟩) hw1).trans HK1.out.1
        have m1 := (HB3.out.cell (p := ⟨w.heap.size, 1, none⟩) hw1).trans HK1.out.2.1
        clear hea
        by_cases hab : La = Lb
        · have hab2 : (La != Lb) = false := by simp [hab]
          have HN := Lib.hid (ixT_no (p := brB Jn xs) (k := k) (by rw [HBR.out, decide_eq_true hab]; rfl))
          clear hll
          go_wp2
          go_quiet (fail)
          obtain ⟨w4, hw4⟩ : ∃ x, x = w3.drewN nq := ⟨_, rfl⟩
          have HO5 := Lib.hid (show OwnI w4 W1.heap.size u4 (ixT (brB Jn xs) k) from by rw [hw4]; exact HO4.out)
          have HB5 := Lib.hid (show Below W1.heap.size W1 w4 from by rw [hw4]; exact below_drewN' HB3.out _)
          rw [← hw4]
          clear hw4
          go_wp2
          go_roundw
          case rel => exact ⟨k + 1, by omega, by go_num, by rw [HN.out]; exact HO5, HB5⟩
          case measure => simp [intOf]; omega
        · have hab2 : (La != Lb) = true := by simp [hab]
          have HN := Lib.hid (ixT_yes (p := brB Jn xs) (k := k) (by rw [HBR.out, decide_eq_false hab]; rfl))
          have hll2 : (ixT (brB Jn xs) k).length ≤ 24 := by omega
          go_wp2
          go_quiet (fail)
          obtain ⟨w4, hw4⟩ : ∃ x, x = w3.drewN nq := ⟨_, rfl⟩
          have HO5 := Lib.hid (show w4.ownsRow W1.heap.size 2 1 u4 (ixT (brB Jn xs) k).length (intsV (ixT (brB Jn xs) k)) from by rw [hw4]; exact HO4.out)
          have HB5 := Lib.hid (show Below W1.heap.size W1 w4 from by rw [hw4]; exact below_drewN' HB3.out _)
          have hw4s : W1.heap.size ≤ w4.heap.size := HB5.out.size
          rw [← hw4]
          clear hw4 m0 m1 hcf hct d0 d1 d2 d3 d4 d5 d6
          go_wp2_with (at_builtin; refine wpList_append_own_at _ rfl _ _ 30 rfl W1.heap.size 2 i0 (.int .i64 0) 1 8 Try.underlying30 hi hz0 hz1 hz2 rfl (by decide) _ _ _ rfl (HO5.out.alloc _) ⟨w4.heap.size, 0, none⟩ 1 1 [.int .i64 (k : Int)] rfl rfl ?c1z ?c2z ?c3z ?c4z ?c5z ?_)
          case c1z => intro j u hj; match j, hj with | 0, hj => (simp at hj; subst hj; simp [Addr.add]) | j + 1, hj => (simp at hj)
          case c2z => simp [Value.oneCell']
          case c3z => unfold maxLen; omega
          case c4z => omega
          case c5z => (simp; omega)
          intro v6 w6 ho6 hg6 _ hl6
          have HO6 := Lib.hid ho6
          have HB6 := Lib.hid ((HB5.out.alloc HB5.out.size _).grown hg6 (by simp; omega) (fun j hj => (HO5.out.lt j hj).1))
          clear ho6 hg6 hl6
          go_wp2
          go_roundw
          case rel => exact ⟨k + 1, by omega, by go_num, by rw [HN.out]; unfold OwnI; rw [ints_snocY, List.length_append]; exact HO6, HB6⟩
          case measure => simp [intOf]; omega
      · obtain rfl : k = xs.length := by omega
        obtain ⟨wo, rfl⟩ : ∃ wo : World, wo = wr := ⟨_, rfl⟩
        go_wp2
        go_ret2
        exact ⟨_, ret_vb HE.out.1.symm, by rw [HE.out.2]; exact own_leW HO.out (by omega), HB1.out.trans (HBL.out.mono HB1.out.size)⟩
set_option maxHeartbeats 2000000 in
set_option maxRecDepth 100000 in
theorem iBridgesOf_any (J : Int) (A : Option Addr) (cap : Nat) (xs : List Aw) (w : World) (hr : AwR w A xs) (hs : ∀ a ∈ xs, a.s.size ≤ maxLen) (hl : xs.length ≤ 1048576) :
    Calls Try.prog 49 #[.agg #[.int .i64 J, .slice A xs.length cap]] w fun e w' => ∃ v, e = .returned (.tuple #[v, .int .i64 (paB J xs)]) ∧ OwnI w' w.heap.size v (bgR J xs) ∧ Below w.heap.size w w' := by
  have HB0 := Lib.hid (below_box w (.cells #[.int .i64 J, .slice A xs.length cap] 36))
  have HR0 := Lib.hid (hr.below HB0.out)
  have HV := Lib.hid (iValidMine_any J A cap xs (w.alloc (.cells #[.int .i64 J, .slice A xs.length cap] 36)) HR0.out hs hl)
  have c0 : (w.alloc (.cells #[.int .i64 J, .slice A xs.length cap] 36)).cell? ⟨w.heap.size, 0, none⟩ = some (.int .i64 J) := by simp
  have c1 : (w.alloc (.cells #[.int .i64 J, .slice A xs.length cap] 36)).cell? ⟨w.heap.size, 1, none⟩ = some (.slice A xs.length cap) := by simp
  clear hr hs
  cases hok : mineOk J xs
  · have HE := Lib.hid (show paB J xs = 1 ∧ bgR J xs = [] by simp [paB, bgR, hok])
    rw [hok] at HV
    go_enter Try.func49, Try.ntmps49
    go_wp2_with fail
    (with_reducible refine (HV.out).mono ?_)
    rintro e w1 ⟨rfl, hb⟩
    go_wp2
    go_ret2
    exact ⟨_, ret_vb HE.out.1.symm, by rw [HE.out.2]; exact own_nil _ _, HB0.out.trans (hb.mono (by simp))⟩
  · obtain ⟨hj, -, h24⟩ := mineOk_iff.1 hok
    rw [hok] at HV
    obtain ⟨Jn, rfl⟩ : ∃ Jn : Nat, J = Jn := ⟨J.toNat, by omega⟩
    have HOK := Lib.hid hok
    have HE := Lib.hid (show paB (Jn : Int) xs = 0 ∧ bgR (Jn : Int) xs = ixT (brB Jn xs) xs.length by simp [paB, bgR, hok])
    have hmm := @run_makeMap Try.prog
    clear hok
    go_enter Try.func49, Try.ntmps49
    go_wp2_with fail
    (with_reducible refine (HV.out).mono ?_)
    rintro e w1 ⟨rfl, hb⟩
    have HB1 := Lib.hid (HB0.out.trans (hb.mono (by simp)))
    have HR1 := Lib.hid (HR0.out.below hb)
    have d0 := cellK1 c0 hb
    have d1 := cellK1 c1 hb
    have hz1 : w.heap.size < w1.heap.size := Nat.lt_of_lt_of_le (by simp) hb.size
    have hz2' : w.heap.size ≤ w1.heap.size := by omega
    have hz3 : ¬ (w.heap.size = w1.heap.size) := by omega
    clear hb c0 c1
    have HM2 := Lib.hid (show ((w1.alloc (.map #[] 0)).alloc (.cells #[.int .i64 (Jn : Int), .slice A xs.length cap, .map (some w1.heap.size)] 96)).ownsMap (H := Unit) Try.prog 2 (plainElem Try.prog 4) w1.heap.size 0 (.map []) from (World.ownsMap_made (H := Unit) w1 Try.prog 2 (plainElem Try.prog 4)).alloc _)
    have HB2 := Lib.hid (show Below w1.heap.size w1 ((w1.alloc (.map #[] 0)).alloc (.cells #[.int .i64 (Jn : Int), .slice A xs.length cap, .map (some w1.heap.size)] 96)) from (below_box _ _).alloc (by simp) _)
    have HF := Lib.hid (fun (k : Nat) (W : World) (hk : k < xs.length) (hB : Below w1.heap.size w1 W) (hm : W.ownsMap (H := Unit) Try.prog 2 (plainElem Try.prog 4) w1.heap.size k (.map [])) => isBridge_any Jn k w1.heap.size k cap A xs w1 W HR1.out HOK.out hB (Nat.le_refl _) hk hm (by omega))
    go_wp2_with fail
    (with_reducible refine (thatBr (brB Jn xs) (Jn : Int) A xs.length cap w1.heap.size w1 _ (by omega) HB2.out (Nat.le_refl _) HM2.out HF.out).mono ?_)
    rintro e w3 ⟨v, rfl, ho, hd3⟩
    have HO := Lib.hid (show OwnI w3 w.heap.size v (ixT (brB Jn xs) xs.length) from own_leW ho (by simp; omega))
    have HB3 := Lib.hid (HB1.out.trans (hd3.mono HB1.out.size))
    clear ho hd3
    go_wp2
    go_ret2
    exact ⟨_, ret_vb HE.out.1.symm, by rw [HE.out.2]; exact HO.out, HB3.out⟩
end Go.Proofs.Ytjooebiiceillaa
