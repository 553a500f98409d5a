/-
  Contracts for the law of splits of chapter 8. Conditions: those that each theorem states.
-/
import Derived.Test.YtmjinanapihkoaaYd
import Derived.Test.YtmjinanapihkoaaYg
import Derived.Test.YtmjinanapihkoaaYh
namespace Go.Proofs.Ytmjinanapihkoaa
open Go.RowKit
set_option linter.unusedVariables false
set_option linter.unusedSimpArgs false

/-- A slice of integers that came in: nil, or a row of 'cap' cells. -/
def IsRow (k : IntKind) (w : World) (a : Option Addr) (len cap : Nat) (zs : List Int) : Prop :=
  (a = none ∧ len = 0 ∧ cap = 0 ∧ zs = []) ∨
  ∃ x, a = some x ∧ len ≤ cap ∧ cap ≤ maxLen ∧ zs.length = cap ∧ (∀ i, i < zs.length → w.cell? (x.add i) = some (.int k (zs.getD i 0))) ∧ ∀ n ∈ zs, (Lit.int k n).wf = true
theorem IsRow.len {k : IntKind} {w : World} {a : Option Addr} {len cap : Nat} {zs : List Int} (h : IsRow k w a len cap zs) : len ≤ maxLen := by
  rcases h with ⟨_, h, _, _⟩ | ⟨x, _, h1, h2, _⟩ <;> omega
theorem IsRow.bytB {w : World} {a : Option Addr} {len cap : Nat} {zs : List Int} (h : IsRow .u8 w a len cap zs) : BytB w.heap.size w a len := by
  rcases h with ⟨_, h, _, _⟩ | ⟨x, rfl, hlc, hcm, hzl, hcell, hwf⟩
  · exact Or.inl h
  · by_cases h0 : len = 0
    · exact Or.inl h0
    · have hc0 := hcell 0 (by omega)
      obtain ⟨b, off, sp⟩ := x
      have hsp : sp = none := by simpa [Addr.add] using World.cell?_spot hc0
      subst hsp
      rw [Go.WideShapes.add_plain] at hc0
      refine Or.inr ⟨b, off, rfl, World.block_lt_of_cell? _ _ hc0, fun j hj => ⟨zs.getD j 0, ?_, ?_⟩⟩
      · have hm : zs.getD j 0 ∈ zs := by rw [List.getD_eq_getElem?_getD, List.getElem?_eq_getElem (by omega)]; exact List.getElem_mem _
        have := hwf _ hm
        generalize zs.getD j 0 = n at *
        simp [Lit.wf, IntKind.min, IntKind.max, IntKind.signed, IntKind.bits] at this
        omega
      · have := hcell j (by omega)
        rwa [Go.WideShapes.add_plain] at this
theorem BytB.mono {B B' : Nat} {w : World} {a : Option Addr} {len : Nat} (h : BytB B w a len) (hB : B ≤ B') : BytB B' w a len := by
  rcases h with h | ⟨b, off, rfl, hb, h⟩
  · exact Or.inl h
  · exact Or.inr ⟨b, off, rfl, by omega, h⟩
theorem b10_no (a : Option Addr) (len cap : Nat) (w : World) (h : len ≤ 1048576) : Calls Try.prog 12 #[.slice a len cap] w fun e w' => e = .returned (.bool false) ∧ w = w' := by
  have t1 : ¬ (1048576 : Int) < (len : Int) := by omega
  have t2 : decide ((1048576 : Int) < (len : Int)) = false := decide_eq_false t1
  go_enter Try.func12, Try.ntmps12
  go_wp2
  go_ret
  exact ⟨by first | rfl | simp, rfl⟩
theorem b10_yes (a : Option Addr) (len cap : Nat) (w : World) (h : 1048576 < len) (hm : len ≤ maxLen) : Calls Try.prog 12 #[.slice a len cap] w fun e w' => e = .returned (.bool true) ∧ w = w' := by
  unfold maxLen at hm
  have t1 : (1048576 : Int) < (len : Int) := by omega
  have t2 : decide ((1048576 : Int) < (len : Int)) = true := decide_eq_true t1
  go_enter Try.func12, Try.ntmps12
  go_wp2
  go_ret
  exact ⟨by first | rfl | simp, rfl⟩
theorem b10Sum_any (v : Value) (xs : List Int) (w : World) (hv : RowW .i64 w v xs) (hr : ∀ y ∈ xs, -100000000 ≤ y ∧ y ≤ 100000000) (hl : xs.length ≤ 24) :
    Calls Try.prog 22 #[v] w fun e w' => e = .returned (.int .i64 xs.sum) ∧ w = w' := by
  obtain ⟨A, cap, rfl, _⟩ := id hv
  have HV := Lib.hid hv
  have HR := Lib.hid hr
  clear hv hr
  go_enter Try.func22, Try.ntmps22
  go_wp2
  go_loop [3, 4] (fun t i => ∃ k : Nat, k ≤ xs.length ∧ i = .int .i64 k ∧ t = .int .i64 ((xs.take k).sum)) (fun _ i => xs.length - (intOf i).toNat)
  case atStart => exact ⟨0, Nat.zero_le _, rfl, rfl⟩
  case round =>
    obtain ⟨k, hk, rfl, rfl⟩ := hrel
    by_cases hlt : k < xs.length
    · obtain ⟨b, off, rfl, -, hc⟩ := RowW.cell HV.out hlt
      rw [show xs.getD k 0 = xs[k] by simp [List.getD, hlt]] at hc
      have hb1 := sumC_take HR.out hl k
      have hb2 := HR.out _ (mem_getD hlt)
      have HS := Lib.hid (sum_snoc hlt)
      obtain ⟨b1, b2⟩ := hb1
      obtain ⟨b3, b4⟩ := hb2
      obtain ⟨s, hs⟩ : ∃ s, (xs.take k).sum = s := ⟨_, rfl⟩
      rw [hs] at b1 b2 HS ⊢
      clear hs
      generalize xs[k] = z at *
      go_wp2
      go_round
      case rel => exact ⟨k + 1, by omega, by go_num, by rw [HS.out]⟩
      case measure => simp [intOf]; omega
    · obtain rfl : k = xs.length := by omega
      rw [List.take_length]
      go_wp2
      go_ret
      exact ⟨rfl, rfl⟩
theorem spe_nonneg (xs : List Int) (q : Int) : 0 ≤ speA xs q := by
  unfold speA
  split
  · have := loT_le (spdF xs q) (xs.length - 1); omega
  · exact Int.le_refl _
theorem split_sum_w (w : World) (v : Value) (xs : List Int) (q : Int) (hr : resL xs = true) (hq : -100000 ≤ q ∧ q ≤ 100000) (hv : RowW .i64 w v (splitL xs q)) :
    Calls Try.prog 22 #[v] w fun e w' => e = .returned (.int .i64 q) ∧ w = w' := by
  have h := b10Sum_any v (splitL xs q) w hv (fun y hy => by
    obtain ⟨j, hj, rfl⟩ := List.mem_iff_getElem.1 hy
    rw [splitL_get]
    have := splitF_bd (q := q) hr hq j
    omega) (by rw [splitL_len]; exact (resL_iff.1 hr).1.2)
  rwa [split_all hr] at h
theorem own_form2 {w : World} {B : Nat} {v : Value} {xs : List Int} (h : OwnI w B v xs) (h1 : 1 ≤ xs.length) : ∃ g cap, v = .slice (some ⟨g, 0, none⟩) xs.length cap ∧ xs.length ≤ cap := by
  rcases h.2 with ⟨-, h0⟩ | ⟨g, cap, cur, e, hg, hh, hnc, -⟩
  · omega
  · exact ⟨g, cap, e, hnc⟩
theorem rep_par {r : Int} {c : Nat} (hr : 1 ≤ r ∧ r ≤ 1000000) (h1 : 1 ≤ c) (h2 : c ≤ 24) : parA (List.replicate c r) = parR (List.replicate c r) ∧ parB (List.replicate c r) = 0 := by
  have := resL_rep hr h1 h2
  simp [parA, parB, this]
theorem row_tail {w : World} {g c cap : Nat} {r : Int} (h : Row .i64 w (.slice (some ⟨g, 0, none⟩) c cap) (List.replicate c r)) (h2 : 2 ≤ c) : Row .i64 w (.slice (some ⟨g, 1, none⟩) (c - 1) (cap - 1)) (List.replicate (c - 1) r) := by
  refine .inr ⟨g, 1, cap - 1, by simp, fun j hj => ?_⟩
  have hj' : j < c - 1 := by simpa using hj
  rcases h with ⟨h0, -⟩ | ⟨b, off, c', e, hc⟩
  · have := congrArg List.length h0; simp at this; omega
  · injection e with e1 e2 e3
    injection e1 with e1
    injection e1 with e1 e4
    subst e1 e4
    have := hc (j + 1) (by simp; omega)
    rw [show (0 : Nat) + (j + 1) = 1 + j by omega] at this
    rw [this]
    simp [List.getD, List.getElem?_replicate, hj', show j + 1 < c by omega]
set_option maxHeartbeats 4000000 in
set_option maxRecDepth 100000 in
theorem fnSplits_any (a0 : Option Addr) (len0 cap0 : Nat) (a1 : Option Addr) (len1 cap1 : Nat) (w : World) (hy0 : BytB w.heap.size w a0 len0) (hy1 : BytB w.heap.size w a1 len1) (hm0 : len0 ≤ maxLen) (hm1 : len1 ≤ maxLen) :
    Calls Try.prog 4 #[.slice a0 len0 cap0, .slice a1 len1 cap1] w fun e w' => e = .returned (.bool true) ∧ Below w.heap.size w w' := by
  have HY0 := Lib.hid hy0
  have HY1 := Lib.hid hy1
  clear hy0 hy1
  by_cases hl0 : len0 ≤ 1048576
  · by_cases hl1 : len1 ≤ 1048576
    · go_enter Try.func4, Try.ntmps4
      go_wp2_with (first
        | (go_at_call 12; refine (b10_no a0 len0 cap0 _ hl0).mono ?_; rintro e w' ⟨rfl, rfl⟩)
        | (go_at_call 12; refine (b10_no a1 len1 cap1 _ hl1).mono ?_; rintro e w' ⟨rfl, rfl⟩)
        | (go_at_call 19; refine (DrawSplitFlow_any a0 len0 cap0 w HY0.out hl0).mono ?_; rintro e w1 ⟨u, xs, q, rfl, hr1, hx26, hq, hb1⟩; have HR1 := Lib.hid hr1; have HB1 := Lib.hid hb1; clear hr1 hb1))
      cases hd : spOk xs q
      · have HE := Lib.hid (show spB xs q = 2 ∧ True by simp [spB, hd])
        go_wp2_with (first
          | (go_at_call 20; refine (iSplitFlow_any _ xs q _ HR1.out (by omega)).mono ?_; rintro e w2 ⟨p, rfl, ho2, hb2⟩; rw [HE.out.1]; have HO2 := Lib.hid (show OwnI w2 w1.heap.size p (spR xs q) from ho2); have HR2 := Lib.hid (HR1.out.below hb2); have HB2 := Lib.hid (HB1.out.trans (hb2.mono HB1.out.size)); clear ho2 hb2)
          | (go_at_call 21; refine (iSplitError_any _ xs q _ HR2.out (by omega)).mono ?_; rintro e w3 ⟨rfl, hb3⟩; rw [HE.out.1]; have HO3 := Lib.hid (HO2.out.below hb3); have HR3 := Lib.hid (HR2.out.below hb3); have HB3 := Lib.hid (HB2.out.trans (hb3.mono HB2.out.size)); clear hb3))
        go_wp2_with fail
        refine (DrawAirwaysFor_any a1 len1 cap1 w3 (BytB.mono (HY1.out.below HB3.out) HB3.out.size) hl1).mono ?_
        rintro e w5 ⟨r, t, hr0, ht0, rfl, hb5⟩
        have HB5 := Lib.hid (HB3.out.trans (hb5.mono HB3.out.size))
        clear hb5
        cases hok : othOk r t
        · have HE := Lib.hid (show arfA r t = 0 ∧ arfB r t = 2 by simp [arfA, arfB, hok])
          go_wp2_with (go_at_call 24; refine (iAirwaysFor_any r t _).mono ?_; rintro e w6 ⟨rfl, hb6⟩; rw [HE.out.1, HE.out.2])
          go_ret
          exact ⟨rfl, HB5.out.trans (hb6.mono HB5.out.size)⟩
        · have hin : inB r 1 1000000 = true ∧ inB t 1 1000000 = true := by simpa [othOk] using hok
          have hr1 := inB_iff.1 hin.1
          have hsp := ar_spec (b := t) hr1
          by_cases hN : arN r t < 24
          · obtain ⟨N, hNN⟩ : ∃ N : Nat, arN r t = N := ⟨_, rfl⟩
            have HE := Lib.hid (show arfA r t = ((N + 1 : Nat) : Int) ∧ arfB r t = 0 by simp [arfA, arfB, hok, hN, hNN]; omega)
            have HP := Lib.hid (show parR (List.replicate (N + 1) r) ≤ t from by have := hsp.2.2 N (by omega) (by omega); unfold arP at this; exact of_decide_eq_true this)
            have HQ := Lib.hid (show 1 ≤ N → t < parR (List.replicate N r) from fun h => by
              have := hsp.2.1 (N - 1) (by omega)
              rw [show N - 1 + 1 = N by omega] at this
              unfold arP at this
              have := of_decide_eq_false this
              omega)
            have hN24 : N < 24 := by omega
            have HPR := Lib.hid (rep_par (c := N + 1) hr1 (by omega) (by omega))
            have HPR2 := Lib.hid (fun (h : 1 ≤ N) => rep_par (c := N) hr1 h (by omega))
            obtain ⟨i0, hi, hz0, hz1, hz2⟩ := info_parts info_i64
            clear hsp hN hNN hok hin
            have t0 : ¬ ((N + 1 : Nat) : Int) < 1 := by omega
            have t1 : ¬ (24 : Int) < ((N + 1 : Nat) : Int) := by omega
            obtain ⟨n, hn⟩ : ∃ n : Nat, n = N + 1 := ⟨_, rfl⟩
            rw [← hn] at HE HP HPR t0 t1
            have HN := Lib.hid hn
            clear hn
            have hn24 : n ≤ 24 := by have := HN.out; omega
            have hn1 : 1 ≤ n := by have := HN.out; omega
            go_wp2_with (go_at_call 24; refine (iAirwaysFor_any r t _).mono ?_; rintro e w6 ⟨rfl, hb6⟩; rw [HE.out.1, HE.out.2]; have HB6 := Lib.hid (HB5.out.trans (hb6.mono HB5.out.size)); clear hb6)
            go_loopw [16, 17] (fun out i wr => ∃ k : Nat, k ≤ n ∧ i = .int .i64 k ∧ wr.ownsRow w6.heap.size 2 1 out k (intsV (List.replicate k r)) ∧ Below w6.heap.size w6 wr) (fun out i wr => n - (intOf i).toNat)
            case atStart => exact ⟨0, by omega, rfl, World.ownsRow_lit _ _ 0 (Nat.le_refl _) (by simp [maxLen]) rfl, (Below.refl _ _).alloc (Nat.le_refl _) _⟩
            case round =>
              obtain ⟨k, hk, rfl, hown, hbel⟩ := hrel
              have HO := Lib.hid hown
              have HBL := Lib.hid hbel
              have hwz := hbel.size
              clear hown hbel
              by_cases hlt : k < n
              · go_wp2_with (at_builtin; refine wpList_append_own _ rfl _ _ 24 rfl w6.heap.size 2 i0 (.int .i64 0) 1 8 Try.underlying24 hi hz0 hz1 hz2 rfl (by decide) _ _ _ rfl (HO.out.alloc _) ⟨wr.heap.size, 0, none⟩ 1 1 [.int .i64 r] rfl rfl ?c1z ?c2z ?c3z ?c4z ?c5z ?_)
                try (case c1z => intro j u hj; match j, hj with | 0, hj => (simp at hj; subst hj; simp [Addr.add]) | j + 1, hj => (simp at hj))
                try (case c2z => simp [Value.oneCell'])
                try (case c3z => unfold maxLen; omega)
                try (case c4z => omega)
                try (case c5z => first | omega | (simp; omega))
                intro v' w7 hout' hgrow _
                have HBB : Hid (Below w6.heap.size w6 w7) := Lib.hid ((HBL.out.alloc hwz _).grown hgrow (by simp; omega) (fun k hk => (HO.out.lt k hk).1))
                have HOO : Hid (w7.ownsRow w6.heap.size 2 1 v' (k + 1) (intsV (List.replicate (k + 1) r))) := Lib.hid (by rw [List.replicate_succ']; simpa [intsV] using hout')
                clear hout' hgrow
                go_wp2
                go_roundw
                case rel => exact ⟨k + 1, by omega, by go_num, HOO.out, HBB.out⟩
                case measure => simp [intOf]; omega
              · obtain rfl : k = n := by omega
                have HOW := Lib.hid (show OwnI wr w6.heap.size _ (List.replicate k r) by unfold OwnI; rw [List.length_replicate]; exact HO.out)
                obtain ⟨g, gcap, hge, hgcap⟩ := own_form2 HOW.out (by rw [List.length_replicate]; exact hn1)
                rw [List.length_replicate] at hgcap
                rw [List.length_replicate] at hge
                subst hge
                have HRW := Lib.hid (row_ownI8 HOW.out)
                obtain ⟨pr, hpr⟩ : ∃ pr, parR (List.replicate k r) = pr := ⟨_, rfl⟩
                have hple : pr ≤ t := by rw [← hpr]; exact HP.out
                have HPA := Lib.hid (show parA (List.replicate k r) = pr ∧ parB (List.replicate k r) = 0 from ⟨HPR.out.1.trans hpr, HPR.out.2⟩)
                clear hpr
                have hrl : (List.replicate k r).length ≤ 1048576 := by simp; omega
                by_cases h1 : k = 1
                · subst h1
                  go_wp2_with (go_at_call 14; refine (iParallelResistance_any _ (List.replicate 1 r) _ HRW.out hrl).mono ?_; rintro e w8 ⟨rfl, hb8⟩; rw [HPA.out.1, HPA.out.2]; have HB8 := Lib.hid (HBL.out.trans (hb8.mono HBL.out.size)); clear hb8)
                  go_ret
                  exact ⟨by first | rfl | simp, HB6.out.trans (HB8.out.mono HB6.out.size)⟩
                · have h1' : ¬ (k : Int) = 1 := by omega
                  have hgc : ¬ gcap = 1 := by have := hgcap; omega
                  have HRT := Lib.hid (row_tail HRW.out (by omega))
                  have hkN : k - 1 = N := by have := HN.out; omega
                  have hq := HQ.out (by omega)
                  rw [← hkN] at hq HPR2
                  obtain ⟨pq, hpq⟩ : ∃ pq, parR (List.replicate (k - 1) r) = pq := ⟨_, rfl⟩
                  rw [hpq] at hq
                  have HPB := Lib.hid (show parA (List.replicate (k - 1) r) = pq ∧ parB (List.replicate (k - 1) r) = 0 from ⟨(HPR2.out (by omega)).1.trans hpq, (HPR2.out (by omega)).2⟩)
                  clear hpq hkN
                  have hrl2 : (List.replicate (k - 1) r).length ≤ 1048576 := by simp; omega
                  have t3 : (1 : Int) ≤ (k : Int) := by omega
                  go_wp2_with (first
                    | (go_at_call 14; refine (iParallelResistance_any _ (List.replicate k r) _ HRW.out hrl).mono ?_; rintro e w8 ⟨rfl, hb8⟩; rw [HPA.out.1, HPA.out.2]; have HB8 := Lib.hid (HBL.out.trans (hb8.mono HBL.out.size)); have HRT8 := Lib.hid (HRT.out.below hb8); clear hb8)
                    | (go_at_call 14; refine (iParallelResistance_any _ (List.replicate (k - 1) r) _ HRT8.out hrl2).mono ?_; rintro e w9 ⟨rfl, hb9⟩; rw [HPB.out.1, HPB.out.2]; have HB9 := Lib.hid (HB8.out.trans (hb9.mono HB8.out.size)); clear hb9))
                  go_ret
                  exact ⟨by first | rfl | (simp; omega) | simp [hq], HB6.out.trans (HB9.out.mono HB6.out.size)⟩
          · have HE := Lib.hid (show arfA r t = 0 ∧ arfB r t = 3 by simp [arfA, arfB, hok, hN])
            clear hsp hN hok hin
            go_wp2_with (go_at_call 24; refine (iAirwaysFor_any r t _).mono ?_; rintro e w6 ⟨rfl, hb6⟩; rw [HE.out.1, HE.out.2])
            go_ret
            exact ⟨rfl, HB5.out.trans (hb6.mono HB5.out.size)⟩
      · have HE := Lib.hid (show spB xs q = 0 ∧ spR xs q = splitL xs q by simp [spB, spR, hd])
        have hd2 : resL xs = true ∧ inB q (-100000) 100000 = true := by simpa [spOk] using hd
        have HRS := Lib.hid hd2.1
        have hq1 := inB_iff.1 hd2.2
        have HSG := Lib.hid (fun k => splitF_sign (q := q) hd2.1 k)
        have hsp0 := spe_nonneg xs q
        have hsl := (resL_iff.1 hd2.1).1
        clear hd hd2
        obtain ⟨F, fcap, rfl⟩ := HR1.out.form
        go_wp2_with (first
          | (go_at_call 20; refine (iSplitFlow_any _ xs q _ HR1.out (by omega)).mono ?_; rintro e w2 ⟨p, rfl, ho2, hb2⟩; rw [HE.out.1]; have HO2 := Lib.hid (show OwnI w2 w1.heap.size p (spR xs q) from ho2); have HR2 := Lib.hid (HR1.out.below hb2); have HB2 := Lib.hid (HB1.out.trans (hb2.mono HB1.out.size)); rw [HE.out.2] at HO2; obtain ⟨pg, pcap, hpe, hpB⟩ := own_form HO2.out (by rw [splitL_len]; exact hsl.1); rw [splitL_len] at hpe; subst hpe; clear ho2 hb2)
          | (go_at_call 21; refine (iSplitError_any _ xs q _ HR2.out (by omega)).mono ?_; rintro e w3 ⟨rfl, hb3⟩; rw [HE.out.1]; have HO3 := Lib.hid (HO2.out.below hb3); have HR3 := Lib.hid (HR2.out.below hb3); have HB3 := Lib.hid (HB2.out.trans (hb3.mono HB2.out.size)); clear hb3)
          | (go_at_call 22; refine (split_sum_w _ _ xs q HRS.out hq1 (RowW.of_ownI HO3.out)).mono ?_; rintro e w' ⟨rfl, rfl⟩))
        go_loopw [11] (fun i wr => ∃ k : Nat, k ≤ xs.length ∧ i = .int .i64 k ∧ wr = w3) (fun i wr => xs.length - (intOf i).toNat)
        case atStart => exact ⟨0, by omega, rfl, rfl⟩
        case round =>
          obtain ⟨k, hk, rfl, rfl⟩ := hrel
          by_cases hlt : k < xs.length
          · obtain ⟨b', off', e1, -, hc⟩ := RowW.cell (RowW.of_ownI HO3.out) (show k < (splitL xs q).length by rw [splitL_len]; exact hlt)
            injection e1 with e1
            injection e1 with e1 e2
            subst e1 e2
            rw [show (splitL xs q).getD k 0 = splitF xs q k by simp [List.getD, splitL, hlt], Nat.zero_add] at hc
            have hsg := HSG.out k
            generalize splitF xs q k = z at *
            rcases Int.lt_trichotomy q 0 with h | h | h
            · have h2 := (hsg.2 (by omega)).2
              go_wp2
              go_roundw
              case rel => exact ⟨k + 1, by omega, by go_num, by first | trivial | rfl⟩
              case measure => simp [intOf]; omega
            · subst h
              have h2 := (hsg.2 (by omega)).2
              have h3 := (hsg.1 (by omega)).1
              obtain rfl : z = 0 := by omega
              go_wp2
              go_roundw
              case rel => exact ⟨k + 1, by omega, by go_num, by first | trivial | rfl⟩
              case measure => simp [intOf]; omega
            · have h2 := (hsg.1 (by omega)).1
              go_wp2
              go_roundw
              case rel => exact ⟨k + 1, by omega, by go_num, by first | trivial | rfl⟩
              case measure => simp [intOf]; omega
          · obtain rfl : k = xs.length := by omega
            go_wp2_with fail
            refine (DrawAirwaysFor_any a1 len1 cap1 wr (BytB.mono (HY1.out.below HB3.out) HB3.out.size) hl1).mono ?_
            rintro e w5 ⟨r, t, hr0, ht0, rfl, hb5⟩
            have HB5 := Lib.hid (HB3.out.trans (hb5.mono HB3.out.size))
            clear hb5
            cases hok : othOk r t
            · have HE := Lib.hid (show arfA r t = 0 ∧ arfB r t = 2 by simp [arfA, arfB, hok])
              go_wp2_with (go_at_call 24; refine (iAirwaysFor_any r t _).mono ?_; rintro e w6 ⟨rfl, hb6⟩; rw [HE.out.1, HE.out.2])
              go_ret
              exact ⟨rfl, HB5.out.trans (hb6.mono HB5.out.size)⟩
            · have hin : inB r 1 1000000 = true ∧ inB t 1 1000000 = true := by simpa [othOk] using hok
              have hr1 := inB_iff.1 hin.1
              have hsp := ar_spec (b := t) hr1
              by_cases hN : arN r t < 24
              · obtain ⟨N, hNN⟩ : ∃ N : Nat, arN r t = N := ⟨_, rfl⟩
                have HE := Lib.hid (show arfA r t = ((N + 1 : Nat) : Int) ∧ arfB r t = 0 by simp [arfA, arfB, hok, hN, hNN]; omega)
                have HP := Lib.hid (show parR (List.replicate (N + 1) r) ≤ t from by have := hsp.2.2 N (by omega) (by omega); unfold arP at this; exact of_decide_eq_true this)
                have HQ := Lib.hid (show 1 ≤ N → t < parR (List.replicate N r) from fun h => by
                  have := hsp.2.1 (N - 1) (by omega)
                  rw [show N - 1 + 1 = N by omega] at this
                  unfold arP at this
                  have := of_decide_eq_false this
                  omega)
                have hN24 : N < 24 := by omega
                have HPR := Lib.hid (rep_par (c := N + 1) hr1 (by omega) (by omega))
                have HPR2 := Lib.hid (fun (h : 1 ≤ N) => rep_par (c := N) hr1 h (by omega))
                obtain ⟨i0, hi, hz0, hz1, hz2⟩ := info_parts info_i64
                clear hsp hN hNN hok hin
                have t0 : ¬ ((N + 1 : Nat) : Int) < 1 := by omega
                have t1 : ¬ (24 : Int) < ((N + 1 : Nat) : Int) := by omega
                obtain ⟨n, hn⟩ : ∃ n : Nat, n = N + 1 := ⟨_, rfl⟩
                rw [← hn] at HE HP HPR t0 t1
                have HN := Lib.hid hn
                clear hn
                have hn24 : n ≤ 24 := by have := HN.out; omega
                have hn1 : 1 ≤ n := by have := HN.out; omega
                go_wp2_with (go_at_call 24; refine (iAirwaysFor_any r t _).mono ?_; rintro e w6 ⟨rfl, hb6⟩; rw [HE.out.1, HE.out.2]; have HB6 := Lib.hid (HB5.out.trans (hb6.mono HB5.out.size)); clear hb6)
                go_loopw [16, 17] (fun out i wr => ∃ k : Nat, k ≤ n ∧ i = .int .i64 k ∧ wr.ownsRow w6.heap.size 2 1 out k (intsV (List.replicate k r)) ∧ Below w6.heap.size w6 wr) (fun out i wr => n - (intOf i).toNat)
                case atStart => exact ⟨0, by omega, rfl, World.ownsRow_lit _ _ 0 (Nat.le_refl _) (by simp [maxLen]) rfl, (Below.refl _ _).alloc (Nat.le_refl _) _⟩
                case round =>
                  obtain ⟨k, hk, rfl, hown, hbel⟩ := hrel
                  have HO := Lib.hid hown
                  have HBL := Lib.hid hbel
                  have hwz := hbel.size
                  clear hown hbel
                  by_cases hlt : k < n
                  · go_wp2_with (at_builtin; refine wpList_append_own _ rfl _ _ 24 rfl w6.heap.size 2 i0 (.int .i64 0) 1 8 Try.underlying24 hi hz0 hz1 hz2 rfl (by decide) _ _ _ rfl (HO.out.alloc _) ⟨wr.heap.size, 0, none⟩ 1 1 [.int .i64 r] rfl rfl ?c1z ?c2z ?c3z ?c4z ?c5z ?_)
                    try (case c1z => intro j u hj; match j, hj with | 0, hj => (simp at hj; subst hj; simp [Addr.add]) | j + 1, hj => (simp at hj))
                    try (case c2z => simp [Value.oneCell'])
                    try (case c3z => unfold maxLen; omega)
                    try (case c4z => omega)
                    try (case c5z => first | omega | (simp; omega))
                    intro v' w7 hout' hgrow _
                    have HBB : Hid (Below w6.heap.size w6 w7) := Lib.hid ((HBL.out.alloc hwz _).grown hgrow (by simp; omega) (fun k hk => (HO.out.lt k hk).1))
                    have HOO : Hid (w7.ownsRow w6.heap.size 2 1 v' (k + 1) (intsV (List.replicate (k + 1) r))) := Lib.hid (by rw [List.replicate_succ']; simpa [intsV] using hout')
                    clear hout' hgrow
                    go_wp2
                    go_roundw
                    case rel => exact ⟨k + 1, by omega, by go_num, HOO.out, HBB.out⟩
                    case measure => simp [intOf]; omega
                  · obtain rfl : k = n := by omega
                    have HOW := Lib.hid (show OwnI wr w6.heap.size _ (List.replicate k r) by unfold OwnI; rw [List.length_replicate]; exact HO.out)
                    obtain ⟨g, gcap, hge, hgcap⟩ := own_form2 HOW.out (by rw [List.length_replicate]; exact hn1)
                    rw [List.length_replicate] at hgcap
                    rw [List.length_replicate] at hge
                    subst hge
                    have HRW := Lib.hid (row_ownI8 HOW.out)
                    obtain ⟨pr, hpr⟩ : ∃ pr, parR (List.replicate k r) = pr := ⟨_, rfl⟩
                    have hple : pr ≤ t := by rw [← hpr]; exact HP.out
                    have HPA := Lib.hid (show parA (List.replicate k r) = pr ∧ parB (List.replicate k r) = 0 from ⟨HPR.out.1.trans hpr, HPR.out.2⟩)
                    clear hpr
                    have hrl : (List.replicate k r).length ≤ 1048576 := by simp; omega
                    by_cases h1 : k = 1
                    · subst h1
                      go_wp2_with (go_at_call 14; refine (iParallelResistance_any _ (List.replicate 1 r) _ HRW.out hrl).mono ?_; rintro e w8 ⟨rfl, hb8⟩; rw [HPA.out.1, HPA.out.2]; have HB8 := Lib.hid (HBL.out.trans (hb8.mono HBL.out.size)); clear hb8)
                      go_ret
                      exact ⟨by first | rfl | simp, HB6.out.trans (HB8.out.mono HB6.out.size)⟩
                    · have h1' : ¬ (k : Int) = 1 := by omega
                      have hgc : ¬ gcap = 1 := by have := hgcap; omega
                      have HRT := Lib.hid (row_tail HRW.out (by omega))
                      have hkN : k - 1 = N := by have := HN.out; omega
                      have hq := HQ.out (by omega)
                      rw [← hkN] at hq HPR2
                      obtain ⟨pq, hpq⟩ : ∃ pq, parR (List.replicate (k - 1) r) = pq := ⟨_, rfl⟩
                      rw [hpq] at hq
                      have HPB := Lib.hid (show parA (List.replicate (k - 1) r) = pq ∧ parB (List.replicate (k - 1) r) = 0 from ⟨(HPR2.out (by omega)).1.trans hpq, (HPR2.out (by omega)).2⟩)
                      clear hpq hkN
                      have hrl2 : (List.replicate (k - 1) r).length ≤ 1048576 := by simp; omega
                      have t3 : (1 : Int) ≤ (k : Int) := by omega
                      go_wp2_with (first
                        | (go_at_call 14; refine (iParallelResistance_any _ (List.replicate k r) _ HRW.out hrl).mono ?_; rintro e w8 ⟨rfl, hb8⟩; rw [HPA.out.1, HPA.out.2]; have HB8 := Lib.hid (HBL.out.trans (hb8.mono HBL.out.size)); have HRT8 := Lib.hid (HRT.out.below hb8); clear hb8)
                        | (go_at_call 14; refine (iParallelResistance_any _ (List.replicate (k - 1) r) _ HRT8.out hrl2).mono ?_; rintro e w9 ⟨rfl, hb9⟩; rw [HPB.out.1, HPB.out.2]; have HB9 := Lib.hid (HB8.out.trans (hb9.mono HB8.out.size)); clear hb9))
                      go_ret
                      exact ⟨by first | rfl | (simp; omega) | simp [hq], HB6.out.trans (HB9.out.mono HB6.out.size)⟩
              · have HE := Lib.hid (show arfA r t = 0 ∧ arfB r t = 3 by simp [arfA, arfB, hok, hN])
                clear hsp hN hok hin
                go_wp2_with (go_at_call 24; refine (iAirwaysFor_any r t _).mono ?_; rintro e w6 ⟨rfl, hb6⟩; rw [HE.out.1, HE.out.2])
                go_ret
                exact ⟨rfl, HB5.out.trans (hb6.mono HB5.out.size)⟩
    · go_enter Try.func4, Try.ntmps4
      go_wp2_with (first
        | (go_at_call 12; refine (b10_no a0 len0 cap0 _ hl0).mono ?_; rintro e w' ⟨rfl, rfl⟩)
        | (go_at_call 12; refine (b10_yes a1 len1 cap1 _ (by omega) hm1).mono ?_; rintro e w' ⟨rfl, rfl⟩))
      go_ret
      exact ⟨rfl, Below.refl _ _⟩
  · go_enter Try.func4, Try.ntmps4
    go_wp2_with (go_at_call 12; refine (b10_yes a0 len0 cap0 _ (by omega) hm0).mono ?_; rintro e w' ⟨rfl, rfl⟩)
    go_ret
    exact ⟨rfl, Below.refl _ _⟩
end Go.Proofs.Ytmjinanapihkoaa
