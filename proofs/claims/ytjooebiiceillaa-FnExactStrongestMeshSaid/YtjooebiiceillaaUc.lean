/-
  Contracts of chapter 4: indices of airways, and the parts of a mine; the model's. Conditions: those that each theorem states.
-/
import Derived.Test.YtjooebiiceillaaGf
import Derived.Test.YtjooebiiceillaaNh
import Derived.Test.YtjooebiiceillaaUb
import Derived.Maps.AppendAt
namespace Go.Proofs.Ytjooebiiceillaa
open Go.RowKit
set_option linter.unusedVariables false
set_option linter.unusedSimpArgs false

theorem quiet_u {P : Program} {f : FuncId} {args : Array Value} {w : World} {n : Nat} {v : Value}
    (h : Calls P f args (w.drewN n) fun e w' => e = .returned v ∧ w.drewN n = w') : Calls P f args (w.drewN n) fun e w'' => e = .returned v ∧ ∃ m, w'' = w.drewN m :=
  h.mono fun _ _ ⟨he, hm⟩ => ⟨he, n, hm.symm⟩
theorem l00MinU_any (a b : Int) (w : World) : Calls Try.prog 123 #[.int .i64 a, .int .i64 b] w fun e w' => e = .returned (.int .i64 (if a < b then a else b)) ∧ w = w' := by
  by_cases h : a < b
  · rw [if_pos h]
    go_enter Try.func123, Try.ntmps123
    go_wp2
    go_ret
    exact ⟨rfl, rfl⟩
  · rw [if_neg h]
    go_enter Try.func123, Try.ntmps123
    go_wp2
    go_ret
    exact ⟨rfl, rfl⟩
theorem l00MaxU_any (a b : Int) (w : World) : Calls Try.prog 81 #[.int .i64 a, .int .i64 b] w fun e w' => e = .returned (.int .i64 (if b < a then a else b)) ∧ w = w' := by
  by_cases h : b < a
  · rw [if_pos h]
    go_enter Try.func81, Try.ntmps81
    go_wp2
    go_ret
    exact ⟨rfl, rfl⟩
  · rw [if_neg h]
    go_enter Try.func81, Try.ntmps81
    go_wp2
    go_ret
    exact ⟨rfl, rfl⟩
/-- The indices below n that fit, in ascending order. -/
def ixT (p : Nat → Bool) : Nat → List Int
  | 0 => []
  | k + 1 => if p k then ixT p k ++ [(k : Int)] else ixT p k
theorem ixT_len (p : Nat → Bool) : ∀ k, (ixT p k).length ≤ k
  | 0 => Nat.le_refl _
  | k + 1 => by have := ixT_len p k; rw [ixT]; split; (rw [List.length_append]; simp; omega); omega
theorem ixT_yes {p : Nat → Bool} {k : Nat} (h : p k = true) : ixT p (k + 1) = ixT p k ++ [(k : Int)] := by rw [ixT, if_pos h]
theorem ixT_no {p : Nat → Bool} {k : Nat} (h : p k = false) : ixT p (k + 1) = ixT p k := by rw [ixT, h]; rfl
theorem ints_snocY (l : List Int) (x : Int) : intsV (l ++ [x]) = intsV l ++ [.int .i64 x] := by simp [intsV]
/-- The ends of the airway with an index. -/
def endsOf (xs : List Aw) (i : Int) : Int × Int := ((xs.getD i.toNat Aw.none).f, (xs.getD i.toNat Aw.none).t)
def esOf (xs : List Aw) (ls : List Int) (k : Nat) : List (Int × Int) := ((ls.take k).map (endsOf xs)).reverse
theorem esOf_snoc {xs : List Aw} {ls : List Int} {k : Nat} (h : k < ls.length) : esOf xs ls (k + 1) = endsOf xs ls[k] :: esOf xs ls k := by
  unfold esOf
  rw [List.take_succ_eq_append_getElem h, List.map_append, List.reverse_append]
  rfl
def labT (xs : List Aw) (ls : List Int) (k : Nat) : Int → Int := labsE (esOf xs ls k)
def partsL (J : Nat) (lab : Int → Int) : List Int := (List.range J).map (fun (j : Nat) => lab (j : Int))
theorem partsL_len (J : Nat) (lab : Int → Int) : (partsL J lab).length = J := by simp [partsL]
theorem partsL_at {J j : Nat} (lab : Int → Int) (h : j < J) : (intsV (partsL J lab))[j]? = some (.int .i64 (lab (j : Int))) := by simp [intsV, partsL, h]
/-- The labels, when the first i are new. -/
def midL (J : Nat) (lab lab' : Int → Int) (i : Nat) : List Int := (List.range J).map (fun (j : Nat) => if j < i then lab' (j : Int) else lab (j : Int))
theorem midL_zero (J : Nat) (lab lab' : Int → Int) : midL J lab lab' 0 = partsL J lab := by simp [midL, partsL]
theorem midL_full (J : Nat) (lab lab' : Int → Int) : midL J lab lab' J = partsL J lab' := by
  unfold midL partsL
  apply List.map_congr_left
  intro j hj
  rw [if_pos (List.mem_range.1 hj)]
theorem midL_at {J i : Nat} (lab lab' : Int → Int) (h : i < J) : (intsV (midL J lab lab' i))[i]? = some (.int .i64 (lab (i : Int))) := by simp [intsV, midL, h]
theorem midL_put {J i : Nat} {lab lab' : Int → Int} (h : i < J) : (intsV (midL J lab lab' i)).set i (.int .i64 (lab' (i : Int))) = intsV (midL J lab lab' (i + 1)) := by
  unfold intsV
  rw [← List.map_set]
  congr 1
  apply List.ext_getElem (by simp [midL])
  intro j h3 h4
  have hj : j < J := by simpa [midL] using h4
  simp only [List.getElem_set, midL, List.getElem_map, List.getElem_range]
  by_cases e : i = j
  · subst e; rw [if_pos rfl, if_pos (by omega)]
  · rw [if_neg e]
    by_cases q : j < i
    · rw [if_pos q, if_pos (by omega)]
    · rw [if_neg q, if_neg (by omega)]
theorem midL_keep {J i : Nat} {lab lab' : Int → Int} (h : i < J) (he : lab' (i : Int) = lab (i : Int)) : midL J lab lab' (i + 1) = midL J lab lab' i := by
  unfold midL
  apply List.map_congr_left
  intro j hj
  by_cases q : j < i
  · rw [if_pos q, if_pos (by omega)]
  · rw [if_neg q]
    by_cases e : j = i
    · subst e; rw [if_pos (by omega), he]
    · rw [if_neg (by omega)]
theorem partsL_snoc (J : Nat) (lab : Int → Int) : partsL (J + 1) lab = partsL J lab ++ [lab (J : Int)] := by simp [partsL, List.range_succ]
set_option maxHeartbeats 1000000 in
set_option maxRecDepth 100000 in
theorem l04All_any (b n cap : Nat) (A : Option Addr) (but : Int) (w : World) (hA : w.cell? ⟨b, 1, none⟩ = some (.slice A n cap)) (hn : n ≤ 1000) :
    Calls Try.prog 97 #[.pointer (some ⟨b, 0, none⟩), .int .i64 but] w fun e w' => ∃ v, e = .returned v ∧ OwnI w' w.heap.size v (ixT (fun (k : Nat) => !(decide ((k : Int) = but))) n) ∧ Below w.heap.size w w' := by
  have hbl := World.block_lt_of_cell? _ _ hA
  have HA := Lib.hid hA
  obtain ⟨i0, hi, hz0, hz1, hz2⟩ := info_parts info_i64
  clear hA
  obtain ⟨p, hp⟩ : ∃ p : Nat → Bool, p = fun (k : Nat) => !(decide ((k : Int) = but)) := ⟨_, rfl⟩
  have HP := Lib.hid (fun k : Nat => show p k = !(decide ((k : Int) = but)) by rw [hp])
  rw [← hp]
  clear hp
  go_enter Try.func97, Try.ntmps97
  go_wp2
  go_loopw [5, 6] (fun out i wr => ∃ k : Nat, k ≤ n ∧ i = .int .i64 k ∧ wr.ownsRow w.heap.size 2 1 out (ixT p k).length (intsV (ixT p k)) ∧ Below w.heap.size w wr) (fun out i wr => n - (intOf i).toNat)
  case atStart => exact ⟨0, by omega, rfl, World.ownsRow_lit _ _ 0 (Nat.le_refl _) (by simp [maxLen]) rfl, (Below.refl _ _).alloc (Nat.le_refl _) _⟩
  case round =>
    obtain ⟨k, hk, rfl, hown, hbel⟩ := hrel
    have hm := (hbel.cell (p := ⟨b, 1, none⟩) hbl).trans HA.out
    have hll := ixT_len p k
    have HO := Lib.hid hown
    have HBL := Lib.hid hbel
    have hwz := hbel.size
    clear hown hbel
    by_cases hlt : k < n
    · by_cases e : (k : Int) = but
      · have HN := Lib.hid (ixT_no (p := p) (k := k) (by rw [HP.out, decide_eq_true e]; rfl))
        go_wp2
        go_roundw
        case rel => exact ⟨k + 1, by omega, by go_num, by rw [HN.out]; exact HO.out, HBL.out⟩
        case measure => simp [intOf]; omega
      · have HN := Lib.hid (ixT_yes (p := p) (k := k) (by rw [HP.out, decide_eq_false e]; rfl))
        go_wp2_with (at_builtin; refine wpList_append_own_at _ rfl _ _ 30 rfl w.heap.size 2 i0 (.int .i64 0) 1 8 Try.underlying30 hi hz0 hz1 hz2 rfl (by decide) _ _ _ rfl (HO.out.alloc _) ⟨wr.heap.size, 0, none⟩ 1 1 [.int .i64 (k)] rfl rfl ?c1z ?c2z ?c3z ?c4z ?c5z ?_)
        try (case c1z => intro j u hj; match j, hj with | 0, hj => (simp at hj; subst hj; simp [Addr.add]) | j + 1, hj => (simp at hj))
        try (case c2z => simp [Value.oneCell'])
        try (case c3z => unfold maxLen; omega)
        try (case c4z => omega)
        try (case c5z => first | omega | (simp; omega))
        intro v3 w3 ho3 hg3 _ hl3
        have HO3 := Lib.hid ho3
        have HB3 := Lib.hid ((HBL.out.alloc HBL.out.size _).grown hg3 (by simp; omega) (fun k hk => (HO.out.lt k hk).1))
        clear ho3 hg3 hl3
        go_wp2
        go_roundw
        case rel => exact ⟨k + 1, by omega, by go_num, by rw [HN.out, ints_snocY, List.length_append]; exact HO3.out, HB3.out⟩
        case measure => simp [intOf]; omega
    · obtain rfl : k = n := by omega
      go_wp2
      go_ret
      exact ⟨_, rfl, HO.out, HBL.out⟩
theorem ends_inU {J : Int} {xs : List Aw} (h : mineOk J xs = true) {k : Nat} (hk : k < xs.length) : (0 ≤ xs[k].f ∧ xs[k].f < J) ∧ (0 ≤ xs[k].t ∧ xs[k].t < J) := by
  have h1 := upTo_all _ (mineOk_iff.1 h).2.1 k hk
  unfold stepOk at h1
  rw [getD_of_lt hk] at h1
  simp only [Bool.and_eq_true, inB_iff] at h1
  obtain ⟨⟨⟨h2, h3⟩, h4⟩, -⟩ := h1
  exact ⟨by omega, by omega⟩
theorem labS_def (lab : Int → Int) (a b j : Int) : labS lab a b j = if lab j = (if lab b < lab a then lab a else lab b) then (if lab a < lab b then lab a else lab b) else lab j := rfl
set_option maxHeartbeats 4000000 in
set_option maxRecDepth 100000 in
theorem l04Parts_any (b cap Jn : Nat) (A : Option Addr) (xs : List Aw) (v : Value) (ls : List Int) (w : World) (hJ : w.cell? ⟨b, 0, none⟩ = some (.int .i64 (Jn : Int))) (hA : w.cell? ⟨b, 1, none⟩ = some (.slice A xs.length cap)) (hr : AwR w A xs) (hv : RowW .i64 w v ls)
    (hls : ∀ y ∈ ls, 0 ≤ y ∧ y < (xs.length : Int)) (hll : ls.length ≤ 1000) (hok : mineOk (Jn : Int) xs = true) :
    Calls Try.prog 99 #[.pointer (some ⟨b, 0, none⟩), v] w fun e w' => ∃ u, e = .returned u ∧ OwnI w' w.heap.size u (partsL Jn (labT xs ls ls.length)) ∧ Below w.heap.size w w' := by
  obtain ⟨hj, -, hn⟩ := mineOk_iff.1 hok
  obtain ⟨F, fcap, rfl, _⟩ := id hv
  have hbl := World.block_lt_of_cell? _ _ hJ
  have HM := Lib.hid (And.intro hJ hA)
  have HR := Lib.hid hr
  have HV := Lib.hid hv
  have HL := Lib.hid hls
  have HOK := Lib.hid hok
  obtain ⟨i0, hi, hz0, hz1, hz2⟩ := info_parts info_i64
  clear hJ hA hr hv hls hok
  go_enter Try.func99, Try.ntmps99
  go_wp2
  go_loopw [5, 6] (fun out i wr => ∃ k : Nat, k ≤ Jn ∧ i = .int .i64 k ∧ wr.ownsRow w.heap.size 2 1 out k (intsV (partsL k id)) ∧ Below w.heap.size w wr) (fun out i wr => Jn - (intOf i).toNat)
  case atStart => exact ⟨0, by omega, rfl, World.ownsRow_lit _ _ 0 (Nat.le_refl _) (by simp [maxLen]) rfl, (Below.refl _ _).alloc (Nat.le_refl _) _⟩
  case round =>
    obtain ⟨k, hk, rfl, hown, hbel⟩ := hrel
    have hm := (hbel.cell (p := ⟨b, 0, none⟩) hbl).trans HM.out.1
    have HO := Lib.hid hown
    have HBL := Lib.hid hbel
    have hwz := hbel.size
    clear hown hbel
    by_cases hlt : k < Jn
    · go_wp2_with (at_builtin; refine wpList_append_own _ rfl _ _ 30 rfl w.heap.size 2 i0 (.int .i64 0) 1 8 Try.underlying30 hi hz0 hz1 hz2 rfl (by decide) _ _ _ rfl (HO.out.alloc _) ⟨wr.heap.size, 0, none⟩ 1 1 [.int .i64 (k)] rfl rfl ?c1z ?c2z ?c3z ?c4z ?c5z ?_)
      try (case c1z => intro j u hj; match j, hj with | 0, hj => (simp at hj; subst hj; simp [Addr.add]) | j + 1, hj => (simp at hj))
      try (case c2z => simp [Value.oneCell'])
      try (case c3z => unfold maxLen; omega)
      try (case c4z => omega)
      try (case c5z => first | omega | (simp; omega))
      intro v3 w3 ho3 hg3 _
      have HO3 := Lib.hid (show w3.ownsRow w.heap.size 2 1 v3 (k + 1) (intsV (partsL (k + 1) id)) by rw [partsL_snoc]; simpa [intsV] using ho3)
      have HB3 := Lib.hid ((HBL.out.alloc HBL.out.size _).grown hg3 (by simp; omega) (fun k hk => (HO.out.lt k hk).1))
      clear ho3 hg3
      go_wp2
      go_roundw
      case rel => exact ⟨k + 1, by omega, by go_num, HO3.out, HB3.out⟩
      case measure => simp [intOf]; omega
    · obtain rfl : k = Jn := by omega
      have HOW := Lib.hid (show OwnI wr w.heap.size _ (partsL k id) by unfold OwnI; rw [partsL_len]; exact HO.out)
      obtain ⟨g, gcap, hge, hgB⟩ : ∃ g gcap, u5 = .slice (some ⟨g, 0, none⟩) k gcap ∧ w.heap.size ≤ g := by
        rcases HOW.out.2 with ⟨-, h0⟩ | ⟨g, cap, cur, e, hg, -⟩
        · rw [partsL_len] at h0; omega
        · rw [partsL_len] at e; exact ⟨g, cap, e, hg⟩
      subst hge
      have HO1 := Lib.hid (show wr.ownsRow w.heap.size 2 1 (.slice (some ⟨g, 0, none⟩) k gcap) k (intsV (partsL k (labT xs ls 0))) from HO.out)
      clear HO HOW
      go_wp2
      clear hlt
      go_loopw [7] (fun i wr => ∃ q : Nat, q ≤ ls.length ∧ i = .int .i64 q ∧ wr.ownsRow w.heap.size 2 1 (.slice (some ⟨g, 0, none⟩) k gcap) k (intsV (partsL k (labT xs ls q))) ∧ Below w.heap.size w wr) (fun i wr => ls.length - (intOf i).toNat)
      case atStart => exact ⟨0, by omega, rfl, HO1.out, HBL.out⟩
      case round =>
        obtain ⟨q, hq, rfl, hown, hbel⟩ := hrel
        by_cases hlt : q < ls.length
        · obtain ⟨fb, fo, rfl, -, hcl⟩ := RowW.cell (HV.out.below hbel) hlt
          rw [show ls.getD q 0 = ls[q] by simp [List.getD, hlt]] at hcl
          have hix := HL.out _ (List.getElem_mem hlt)
          have HES := Lib.hid (show labT xs ls (q + 1) = labS (labT xs ls q) (endsOf xs ls[q]).1 (endsOf xs ls[q]).2 by unfold labT; rw [esOf_snoc hlt]; rfl)
          generalize ls[q] = y at *
          obtain ⟨ix, rfl⟩ : ∃ ix : Nat, y = ix := ⟨y.toNat, by omega⟩
          have hixl : ix < xs.length := by omega
          obtain ⟨ga, off, rfl, hrg⟩ := HR.out.below hbel ix hixl
          obtain ⟨⟨c0, c1, c2, c3⟩, c4, c5, c6⟩ := lay_row hrg
          have hen := ends_inU HOK.out hixl
          have HGD := Lib.hid (show endsOf xs (ix : Int) = (xs[ix].f, xs[ix].t) by unfold endsOf; rw [Int.toNat_natCast, getD_of_lt hixl])
          rw [HGD.out] at HES
          dsimp only at HES
          have hm1 := (hbel.cell (p := ⟨b, 1, none⟩) hbl).trans HM.out.2
          generalize xs[ix] = a at *
          obtain ⟨sa, f, t, l, se, fr, sh⟩ := a
          dsimp only at c0 c1 c2 c3 c4 c5 c6 hen HES
          clear hrg
          obtain ⟨fn, rfl⟩ : ∃ fn : Nat, f = fn := ⟨f.toNat, by omega⟩
          obtain ⟨tn, rfl⟩ : ∃ tn : Nat, t = tn := ⟨t.toNat, by omega⟩
          have hf1 : fn < k := by omega
          have ht1 : tn < k := by omega
          have d1 : wr.cell? ⟨g, fn, none⟩ = some (.int .i64 (labT xs ls q fn)) := by rw [hown.cellAt fn (by omega), partsL_at _ hf1]
          have d2 : wr.cell? ⟨g, tn, none⟩ = some (.int .i64 (labT xs ls q tn)) := by rw [hown.cellAt tn (by omega), partsL_at _ ht1]
          have HO := Lib.hid hown
          have HB := Lib.hid hbel
          have hixI : (ix : Int) < (xs.length : Int) := by omega
          have hqI : (q : Int) < (ls.length : Int) := by omega
          have hfI : (fn : Int) < (k : Int) := by omega
          have htI : (tn : Int) < (k : Int) := by omega
          clear hown hbel
          obtain ⟨lab, hlab⟩ : ∃ lab, labT xs ls q = lab := ⟨_, rfl⟩
          rw [hlab] at d1 d2 HO HES
          have HLS := Lib.hid (fun j => labS_def lab (fn : Int) (tn : Int) j)
          clear hlab
          generalize hlf : lab fn = p at *
          generalize hlt' : lab tn = r at *
          obtain ⟨lo, hlo⟩ : ∃ lo : Int, (if p < r then p else r) = lo := ⟨_, rfl⟩
          obtain ⟨hi', hhi⟩ : ∃ hi' : Int, (if r < p then p else r) = hi' := ⟨_, rfl⟩
          have HLH := Lib.hid (And.intro hlo hhi)
          go_wp2
          go_quiet (fail)
          obtain ⟨W1, hW1⟩ : ∃ x, x = wr.drewN nq := ⟨_, rfl⟩
          have c1_1 : W1.cell? ⟨ga, off + ix * 7 + 1, none⟩ = some (.int .i64 (fn : Int)) := by rw [hW1]; exact c1
          have c2_1 : W1.cell? ⟨ga, off + ix * 7 + 2, none⟩ = some (.int .i64 (tn : Int)) := by rw [hW1]; exact c2
          have d1_1 : W1.cell? ⟨g, fn, none⟩ = some (.int .i64 p) := by rw [hW1]; exact d1
          have d2_1 : W1.cell? ⟨g, tn, none⟩ = some (.int .i64 r) := by rw [hW1]; exact d2
          have HO_1 := Lib.hid (show W1.ownsRow w.heap.size 2 1 (.slice (some ⟨g, 0, none⟩) k gcap) k (intsV (partsL k lab)) by rw [hW1]; exact HO.out)
          have HB_1 := Lib.hid (show Below w.heap.size w W1 by rw [hW1]; exact below_drewN' HB.out _)
          rw [← hW1]
          clear hW1
          clear c1 c2 d1 d2
          go_wp2
          go_quiet ((go_at_call 123; exact quiet_u (l00MinU_any p r _)))
          rw [HLH.out.1]
          obtain ⟨W2, hW2⟩ : ∃ x, x = W1.drewN nq := ⟨_, rfl⟩
          have c1_2 : W2.cell? ⟨ga, off + ix * 7 + 1, none⟩ = some (.int .i64 (fn : Int)) := by rw [hW2]; exact c1_1
          have c2_2 : W2.cell? ⟨ga, off + ix * 7 + 2, none⟩ = some (.int .i64 (tn : Int)) := by rw [hW2]; exact c2_1
          have d1_2 : W2.cell? ⟨g, fn, none⟩ = some (.int .i64 p) := by rw [hW2]; exact d1_1
          have d2_2 : W2.cell? ⟨g, tn, none⟩ = some (.int .i64 r) := by rw [hW2]; exact d2_1
          have HO_2 := Lib.hid (show W2.ownsRow w.heap.size 2 1 (.slice (some ⟨g, 0, none⟩) k gcap) k (intsV (partsL k lab)) by rw [hW2]; exact HO_1.out)
          have HB_2 := Lib.hid (show Below w.heap.size w W2 by rw [hW2]; exact below_drewN' HB_1.out _)
          rw [← hW2]
          clear hW2
          clear c1_1 c2_1 d1_1 d2_1
          go_wp2
          go_quiet ((go_at_call 81; exact quiet_u (l00MaxU_any p r _)))
          rw [HLH.out.2]
          obtain ⟨W3, hW3⟩ : ∃ x, x = W2.drewN nq := ⟨_, rfl⟩
          have c1_3 : W3.cell? ⟨ga, off + ix * 7 + 1, none⟩ = some (.int .i64 (fn : Int)) := by rw [hW3]; exact c1_2
          have c2_3 : W3.cell? ⟨ga, off + ix * 7 + 2, none⟩ = some (.int .i64 (tn : Int)) := by rw [hW3]; exact c2_2
          have d1_3 : W3.cell? ⟨g, fn, none⟩ = some (.int .i64 p) := by rw [hW3]; exact d1_2
          have d2_3 : W3.cell? ⟨g, tn, none⟩ = some (.int .i64 r) := by rw [hW3]; exact d2_2
          have HO_3 := Lib.hid (show W3.ownsRow w.heap.size 2 1 (.slice (some ⟨g, 0, none⟩) k gcap) k (intsV (partsL k lab)) by rw [hW3]; exact HO_2.out)
          have HB_3 := Lib.hid (show Below w.heap.size w W3 by rw [hW3]; exact below_drewN' HB_2.out _)
          rw [← hW3]
          clear hW3
          clear c1_2 c2_2 d1_2 d2_2 c1_3 c2_3 d1_3 d2_3
          go_wp2
          obtain ⟨lab', hl'⟩ : ∃ lab', labT xs ls (q + 1) = lab' := ⟨_, rfl⟩
          have HLN := Lib.hid hl'
          have HLV := Lib.hid (show ∀ j, lab' j = if lab j = hi' then lo else lab j from fun j => by rw [← hl', HES.out, HLS.out j, HLH.out.1, HLH.out.2])
          clear hl' HES HLS HLH
          go_loopw [11] (fun i wr => ∃ z : Nat, z ≤ k ∧ i = .int .i64 z ∧ wr.ownsRow w.heap.size 2 1 (.slice (some ⟨g, 0, none⟩) k gcap) k (intsV (midL k lab lab' z)) ∧ Below w.heap.size w wr) (fun i wr => k - (intOf i).toNat)
          case atStart => exact ⟨0, by omega, rfl, by rw [midL_zero]; exact HO_3.out, HB_3.out⟩
          case round =>
            obtain ⟨z, hz, rfl, hown, hbel⟩ := hrel
            by_cases hzk : z < k
            · have dz : wr.cell? ⟨g, z, none⟩ = some (.int .i64 (lab (z : Int))) := by rw [hown.cellAt z (by omega), midL_at _ _ hzk]
              have fz := hown.frozenAt z
              have hzI : (z : Int) < (k : Int) := by omega
              have HP := Lib.hid (And.intro (midL_put (lab := lab) (lab' := lab') hzk) (fun he => midL_keep (lab := lab) (lab' := lab') hzk he))
              have HV2 := HLV.out (z : Int)
              have HOz := Lib.hid hown
              have HBz := Lib.hid hbel
              clear hown hbel
              by_cases hc : lab (z : Int) = hi'
              · rw [if_pos hc] at HV2
                have HV3 := Lib.hid HV2
                clear HV2
                generalize lab (z : Int) = lz at *
                subst hc
                go_wp2
                go_roundw
                case rel => exact ⟨z + 1, by omega, by go_num, by
                  have h := (HOz.out.stored z (.int .i64 lo)).1
                  rw [← HV3.out, HP.out.1] at h
                  rw [HV3.out] at h
                  exact h, HBz.out.setCell (by omega) _⟩
                case measure => simp [intOf]; omega
              · rw [if_neg hc] at HV2
                have HV3 := Lib.hid HV2
                clear HV2
                generalize hlz : lab (z : Int) = lz at *
                go_wp2
                go_roundw
                case rel => exact ⟨z + 1, by omega, by go_num, by rw [HP.out.2 (by rw [HV3.out])]; exact HOz.out, HBz.out⟩
                case measure => simp [intOf]; omega
            · obtain rfl : z = k := by omega
              rw [midL_full] at hown
              have HOz := Lib.hid hown
              have HBz := Lib.hid hbel
              clear hown hbel
              go_wp2
              go_roundw
              case rel => exact ⟨q + 1, by omega, by go_num, by rw [HLN.out]; exact HOz.out, HBz.out⟩
              case measure => simp [intOf]; omega
        · obtain rfl : q = ls.length := by omega
          have HOW := Lib.hid (show OwnI wr w.heap.size _ (partsL k (labT xs ls ls.length)) by unfold OwnI; rw [partsL_len]; exact hown)
          go_wp2
          go_ret
          exact ⟨_, rfl, HOW.out, hbel⟩
end Go.Proofs.Ytjooebiiceillaa
