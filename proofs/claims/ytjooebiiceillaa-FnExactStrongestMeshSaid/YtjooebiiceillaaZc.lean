/-
  Contracts of chapter 9: rises and draughts of airways; the model's and the program's. Conditions: those that each theorem states.
-/
import Derived.Test.YtjooebiiceillaaZb
import Derived.Test.YtjooebiiceillaaZr
namespace Go.Proofs.Ytjooebiiceillaa
open Go.RowKit
set_option linter.unusedVariables false
set_option linter.unusedSimpArgs false

def draT (xs : List Aw) (lv tp : List Int) (k : Nat) : List Int := (List.range k).map (draR xs lv tp)
theorem draT_snoc (xs : List Aw) (lv tp : List Int) (k : Nat) : draT xs lv tp (k + 1) = draT xs lv tp k ++ [draR xs lv tp k] := by
  simp [draT, List.range_succ]
theorem draT_len (xs : List Aw) (lv tp : List Int) (k : Nat) : (draT xs lv tp k).length = k := by simp [draT]
def drR (J : Int) (xs : List Aw) (lv tp : List Int) : List Int := if askC J xs lv tp = 0 then draT xs lv tp xs.length else []
theorem drR_len (J : Int) (xs : List Aw) (lv tp : List Int) : (drR J xs lv tp).length ≤ xs.length := by unfold drR; split <;> simp [draT]
/-- The ends of an airway of a mine whose levels are right. -/
theorem ends_nat {J : Int} {xs : List Aw} {lv : List Int} (hok : mineOk J xs = true) (hlv : lvOk J lv = true) {k : Nat} (hk : k < xs.length) : ∃ fn tn : Nat, xs[k].f = fn ∧ xs[k].t = tn ∧ fn < lv.length ∧ tn < lv.length := by
  have h := ends_in hok hk
  have h2 := (lvOk_iff.1 hlv).1
  exact ⟨xs[k].f.toNat, xs[k].t.toNat, by omega, by omega, by omega, by omega⟩
theorem riR_eq {xs : List Aw} {lv : List Int} {k fn tn : Nat} (hk : k < xs.length) (hf : xs[k].f = fn) (ht : xs[k].t = tn) : riR xs lv k = lv.getD tn 0 - lv.getD fn 0 := by
  unfold riR
  rw [getD_of_lt hk, hf, ht]
  simp
set_option maxHeartbeats 1000000 in
theorem rise_any (J : Int) (A : Option Addr) (cap : Nat) (xs : List Aw) (v : Value) (lv : List Int) (k : Nat) (w : World) (hr : AwR w A xs) (hv : RowW .i64 w v lv) (hok : mineOk J xs = true) (hlv : lvOk J lv = true) (hk : k < xs.length) :
    Calls Try.prog 107 #[.agg #[.int .i64 J, .slice A xs.length cap, v], .int .i64 (k : Int)] w fun e w' => e = .returned (.int .i64 (riR xs lv k)) ∧ Below w.heap.size w w' := by
  have h24 := (mineOk_iff.1 hok).2.2
  have hll : lv.length ≤ 16 := by have := (lvOk_iff.1 hlv).1; have := (mineOk_iff.1 hok).1; omega
  obtain ⟨V, lcap, rfl, _⟩ := id hv
  obtain ⟨fn, tn, hf, ht, h1, h2⟩ := ends_nat hok hlv hk
  have HE := Lib.hid (riR_eq (lv := lv) hk hf ht)
  obtain ⟨lb, lo, rfl, -, d2⟩ := RowW.cell hv h2
  obtain ⟨lb', lo', e', -, d1⟩ := RowW.cell hv h1
  injection e' with e'; injection e' with e1 e2; subst e1; subst e2
  obtain ⟨b1, b2⟩ := lv_bd hlv tn
  obtain ⟨b3, b4⟩ := lv_bd hlv fn
  obtain ⟨gb, gof, rfl, hrg⟩ := hr k hk
  obtain ⟨⟨c0, c1, c2, c3⟩, c4, c5, c6⟩ := lay_row hrg
  rw [hf] at c1
  rw [ht] at c2
  have hg0 : gb < w.heap.size := World.block_lt_of_cell? _ _ c0
  have hl0 : lb < w.heap.size := World.block_lt_of_cell? _ _ d2
  have hgn : ¬ (gb = w.heap.size) := Nat.ne_of_lt hg0
  have hln : ¬ (lb = w.heap.size) := Nat.ne_of_lt hl0
  have hgn1 : ¬ (gb = w.heap.size + 1) := by omega
  have hln1 : ¬ (lb = w.heap.size + 1) := by omega
  have hgl1 : gb < w.heap.size + 1 := by omega
  have hll1 : lb < w.heap.size + 1 := by omega
  clear hr hv hok hlv hf ht hrg
  generalize xs[k] = a at *
  obtain ⟨s, f, t, l, se, fr, sh⟩ := a
  dsimp only at c0 c1 c2 c3 c4 c5 c6
  generalize lv.getD tn 0 = y at *
  generalize lv.getD fn 0 = z at *
  go_enter Try.func107, Try.ntmps107
  go_wp2
  go_quiet (fail)
  go_wp2
  go_ret
  exact ⟨ret_int HE.out.symm, (by repeat (first | (with_reducible exact Below.refl _ _) | (with_reducible refine below_drewN' ?_ _) | (with_reducible refine Below.alloc ?_ (by simp <;> omega) _) | (with_reducible refine Below.setCell ?_ (by simp) _)))⟩
set_option maxHeartbeats 2000000 in
set_option maxRecDepth 100000 in
theorem draught_any (J : Int) (A : Option Addr) (cap : Nat) (xs : List Aw) (v t : Value) (lv tp : List Int) (k : Nat) (w : World) (hr : AwR w A xs) (hv : RowW .i64 w v lv) (htp : RowW .i64 w t tp) (hok : mineOk J xs = true) (hlv : lvOk J lv = true) (hft : flOk (-300) 600 xs.length tp = true) (hk : k < xs.length) :
    Calls Try.prog 65 #[.agg #[.int .i64 J, .slice A xs.length cap, v, t], .int .i64 (k : Int)] w fun e w' => e = .returned (.int .i64 (draR xs lv tp k)) ∧ Below w.heap.size w w' := by
  have h24 := (mineOk_iff.1 hok).2.2
  obtain ⟨F, lcap, rfl, _⟩ := id hv
  obtain ⟨G, tcap, rfl, _⟩ := id htp
  have hkt : k < tp.length := by have := (flOk_iff.1 hft).1; omega
  obtain ⟨tb, to, rfl, -, d0⟩ := RowW.cell htp hkt
  have HE := Lib.hid (show draR xs lv tp k = colR (riR xs lv k) (tp.getD k 0) from rfl)
  obtain ⟨b1, b2⟩ := tp_bd hft hk
  obtain ⟨b3, b4⟩ := riR_bd (xs := xs) hlv k
  have HB0 := Lib.hid (below_box w (.cells #[.int .i64 J, .slice A xs.length cap, .slice F lv.length lcap, .slice (some ⟨tb, to, none⟩) tp.length tcap] 74))
  have HR := Lib.hid (hr.below HB0.out)
  have HV := Lib.hid (hv.below HB0.out)
  have HOK := Lib.hid hok
  have HLV := Lib.hid hlv
  have e0 : (w.alloc (.cells #[.int .i64 J, .slice A xs.length cap, .slice F lv.length lcap, .slice (some ⟨tb, to, none⟩) tp.length tcap] 74)).cell? ⟨w.heap.size, 0, none⟩ = some (.int .i64 J) := by simp
  have e1 : (w.alloc (.cells #[.int .i64 J, .slice A xs.length cap, .slice F lv.length lcap, .slice (some ⟨tb, to, none⟩) tp.length tcap] 74)).cell? ⟨w.heap.size, 1, none⟩ = some (.slice A xs.length cap) := by simp
  have e2 : (w.alloc (.cells #[.int .i64 J, .slice A xs.length cap, .slice F lv.length lcap, .slice (some ⟨tb, to, none⟩) tp.length tcap] 74)).cell? ⟨w.heap.size, 2, none⟩ = some (.slice F lv.length lcap) := by simp
  have e3 : (w.alloc (.cells #[.int .i64 J, .slice A xs.length cap, .slice F lv.length lcap, .slice (some ⟨tb, to, none⟩) tp.length tcap] 74)).cell? ⟨w.heap.size, 3, none⟩ = some (.slice (some ⟨tb, to, none⟩) tp.length tcap) := by simp
  have e4 := cell_keep d0 HB0.out
  clear hr hv htp hok hlv hft d0
  generalize tp.getD k 0 = y at *
  go_enter Try.func65, Try.ntmps65
  go_wp2_with fail
  generalize (w.alloc (.cells #[.int .i64 J, .slice A xs.length cap, .slice F lv.length lcap, .slice (some ⟨tb, to, none⟩) tp.length tcap] 74)) = W0 at *
  generalize hrr : riR xs lv k = r at *
  refine wp_region_held (S := fun w' => w'.cell? ⟨w.heap.size, 0, none⟩ = some (.int .i64 J) ∧ w'.cell? ⟨w.heap.size, 1, none⟩ = some (.slice A xs.length cap) ∧ w'.cell? ⟨w.heap.size, 2, none⟩ = some (.slice F lv.length lcap) ∧ w'.cell? ⟨w.heap.size, 3, none⟩ = some (.slice (some ⟨tb, to, none⟩) tp.length tcap) ∧ w'.cell? ⟨tb, to + k, none⟩ = some (.int .i64 y) ∧ Below W0.heap.size W0 w') (by kernel_rfl) ?_
  try (change wpAnyH _ _ _ _ _ _ _ _ (World.drew _))
  have hS0 := (show W0.drew.cell? ⟨w.heap.size, 0, none⟩ = some (.int .i64 J) ∧ W0.drew.cell? ⟨w.heap.size, 1, none⟩ = some (.slice A xs.length cap) ∧ W0.drew.cell? ⟨w.heap.size, 2, none⟩ = some (.slice F lv.length lcap) ∧ W0.drew.cell? ⟨w.heap.size, 3, none⟩ = some (.slice (some ⟨tb, to, none⟩) tp.length tcap) ∧ W0.drew.cell? ⟨tb, to + k, none⟩ = some (.int .i64 y) ∧ Below W0.heap.size W0 W0.drew from ⟨e0, e1, e2, e3, e4, Below.drew (Below.refl _ _)⟩)
  refine gTake 0 (v := ?_) rfl (by kernel_rfl) (by kernel_rfl) (by kernel_rfl) (fun _ _ _ h => h) (by kernel_rfl) ?_ hS0 ?_
  rotate_left
  · (intro W hW; clear hW; go_simp; try with_reducible rfl)
  refine gTake 1 (v := ?_) rfl (by kernel_rfl) (by kernel_rfl) (by kernel_rfl) (fun _ _ _ h => h) (by kernel_rfl) ?_ hS0 ?_
  rotate_left
  · (intro W hW; have q0 := hW.1; have q1 := hW.2.1; have q2 := hW.2.2.1; have q3 := hW.2.2.2.1; have q4 := hW.2.2.2.2.1; clear hW; go_simp; try with_reducible rfl)
  refine gTake 2 (v := ?_) rfl (by kernel_rfl) (by kernel_rfl) (by kernel_rfl) (fun _ _ _ h => h) (by kernel_rfl) ?_ hS0 ?_
  rotate_left
  · (intro W hW; clear hW; go_simp; try with_reducible rfl)
  refine gTake 4 (v := ?_) rfl (by kernel_rfl) (by kernel_rfl) (by kernel_rfl) (fun _ _ _ h => h) (by kernel_rfl) ?_ hS0 ?_
  rotate_left
  · (intro W hW; clear hW; go_simp; try with_reducible rfl)
  refine gTake 5 (v := ?_) rfl (by kernel_rfl) (by kernel_rfl) (by kernel_rfl) (fun _ _ _ h => h) (by kernel_rfl) ?_ hS0 ?_
  rotate_left
  · (intro W hW; have q0 := hW.1; have q1 := hW.2.1; have q2 := hW.2.2.1; have q3 := hW.2.2.2.1; have q4 := hW.2.2.2.2.1; clear hW; go_simp; try with_reducible rfl)
  refine gTake 6 (v := ?_) rfl (by kernel_rfl) (by kernel_rfl) (by kernel_rfl) (fun _ _ _ h => h) (by kernel_rfl) ?_ hS0 ?_
  rotate_left
  · (intro W hW; clear hW; go_simp; try with_reducible rfl)
  refine gTake 7 (v := ?_) rfl (by kernel_rfl) (by kernel_rfl) (by kernel_rfl) (fun _ _ _ h => h) (by kernel_rfl) ?_ hS0 ?_
  rotate_left
  · (intro W hW; clear hW; go_simp; try with_reducible rfl)
  refine gTake 8 (v := ?_) rfl (by kernel_rfl) (by kernel_rfl) (by kernel_rfl) (fun _ _ _ h => h) (by kernel_rfl) ?_ hS0 ?_
  rotate_left
  · (intro W hW; have q0 := hW.1; have q1 := hW.2.1; have q2 := hW.2.2.1; have q3 := hW.2.2.2.1; have q4 := hW.2.2.2.2.1; clear hW; go_simp; try with_reducible rfl)
  refine gOne 3 rfl (by kernel_rfl) (by kernel_rfl) (fun K hK => ?_)
  go_simp
  go_at_call 107
  (with_reducible refine (rise_any J A cap xs _ lv k _ (HR.out.below hS0.2.2.2.2.2) (HV.out.below hS0.2.2.2.2.2) HOK.out HLV.out hk).mono ?_)
  rintro e wq0 ⟨rfl, hdq0⟩
  try go_simp
  have hS1 := (show wq0.cell? ⟨w.heap.size, 0, none⟩ = some (.int .i64 J) ∧ wq0.cell? ⟨w.heap.size, 1, none⟩ = some (.slice A xs.length cap) ∧ wq0.cell? ⟨w.heap.size, 2, none⟩ = some (.slice F lv.length lcap) ∧ wq0.cell? ⟨w.heap.size, 3, none⟩ = some (.slice (some ⟨tb, to, none⟩) tp.length tcap) ∧ wq0.cell? ⟨tb, to + k, none⟩ = some (.int .i64 y) ∧ Below W0.heap.size W0 wq0 from ⟨cellK hS0.1 hdq0, cellK hS0.2.1 hdq0, cellK hS0.2.2.1 hdq0, cellK hS0.2.2.2.1 hdq0, cellK hS0.2.2.2.2.1 hdq0, hS0.2.2.2.2.2.trans (hdq0.mono hS0.2.2.2.2.2.size)⟩)
  refine hK _ _ hS1 ?_
  clear hK K
  refine gOne 9 rfl (by kernel_rfl) (by kernel_rfl) (fun K hK => ?_)
  go_simp
  go_at_call 57
  (with_reducible refine (columnDraught_any r y _ b1 b2 b3 b4).mono ?_)
  rintro e wq1 ⟨rfl, hdq1⟩
  try go_simp
  have hS2 := (show wq1.cell? ⟨w.heap.size, 0, none⟩ = some (.int .i64 J) ∧ wq1.cell? ⟨w.heap.size, 1, none⟩ = some (.slice A xs.length cap) ∧ wq1.cell? ⟨w.heap.size, 2, none⟩ = some (.slice F lv.length lcap) ∧ wq1.cell? ⟨w.heap.size, 3, none⟩ = some (.slice (some ⟨tb, to, none⟩) tp.length tcap) ∧ wq1.cell? ⟨tb, to + k, none⟩ = some (.int .i64 y) ∧ Below W0.heap.size W0 wq1 from ⟨cellK hS1.1 hdq1, cellK hS1.2.1 hdq1, cellK hS1.2.2.1 hdq1, cellK hS1.2.2.2.1 hdq1, cellK hS1.2.2.2.2.1 hdq1, hS1.2.2.2.2.2.trans (hdq1.mono hS1.2.2.2.2.2.size)⟩)
  refine hK _ _ hS2 ?_
  clear hK K
  refine gTake 10 (v := ?_) rfl (by kernel_rfl) (by kernel_rfl) (by kernel_rfl) (fun _ _ _ h => h) (by kernel_rfl) ?_ hS2 ?_
  rotate_left
  · (intro W hW; clear hW; go_simp; try with_reducible rfl)
  refine wpAnyH_done (by kernel_rfl) ?_ _
  go_simp
  go_wp2
  go_ret
  exact ⟨ret_int HE.out.symm, HB0.out.trans (hS2.2.2.2.2.2.mono HB0.out.size)⟩
set_option maxHeartbeats 4000000 in
set_option maxRecDepth 100000 in
theorem l09Draughts_any (b cap : Nat) (J : Int) (A : Option Addr) (xs : List Aw) (V T : Value) (lv tp : List Int) (w : World) (hA : w.cell? ⟨b, 1, none⟩ = some (.slice A xs.length cap)) (hr : AwR w A xs) (hv : RowW .i64 w V lv) (ht : RowW .i64 w T tp) (hok : mineOk J xs = true) (hlv : lvOk J lv = true) (hft : flOk (-300) 600 xs.length tp = true) :
    Calls Try.prog 62 #[.pointer (some ⟨b, 0, none⟩), V, T] w fun e w' => ∃ u, e = .returned u ∧ OwnI w' w.heap.size u (draT xs lv tp xs.length) ∧ Below w.heap.size w w' := by
  obtain ⟨i0, hi, hz0, hz1, hz2⟩ := info_parts info_i64
  have h24 := (mineOk_iff.1 hok).2.2
  have hll : lv.length ≤ 16 := by have := (lvOk_iff.1 hlv).1; have := (mineOk_iff.1 hok).1; omega
  have htl1 : tp.length ≤ xs.length := Nat.le_of_eq (flOk_iff.1 hft).1
  have htl2 : xs.length ≤ tp.length := Nat.le_of_eq (flOk_iff.1 hft).1.symm
  have HOK := Lib.hid hok
  have HLV := Lib.hid hlv
  have HFT := Lib.hid hft
  have HR := Lib.hid hr
  have HV := Lib.hid hv
  have HT := Lib.hid ht
  have HA := Lib.hid hA
  obtain ⟨F, lcap, rfl, _⟩ := id hv
  obtain ⟨G, tcap, rfl, _⟩ := id ht
  clear hr hv ht hok hlv hft
  go_enter Try.func62, Try.ntmps62
  go_wp2
  have HC1 := Lib.hid (below_box w (.cells #[] 2))
  go_loopw [7, 8] (fun out i wr => ∃ k : Nat, k ≤ xs.length ∧ i = .int .i64 k ∧ wr.ownsRow w.heap.size 2 1 out k (intsV (draT xs lv tp k)) ∧ Below w.heap.size w wr) (fun out i wr => xs.length - (intOf i).toNat)
  case atStart => exact ⟨0, by omega, rfl, World.ownsRow_lit _ _ 0 (Nat.le_refl _) (by simp [maxLen]) rfl, HC1.out⟩
  case round =>
    obtain ⟨k, hk, rfl, hown, hbel⟩ := hrel
    have hm := cell_keep HA.out hbel
    have hwz := hbel.size
    by_cases hlt : k < xs.length
    · have hkt : k < tp.length := by omega
      obtain ⟨fn, tn, hf, htt, h1, h2⟩ := ends_nat HOK.out HLV.out hlt
      have HRI := Lib.hid (riR_eq (lv := lv) hlt hf htt)
      have HN := Lib.hid (draT_snoc xs lv tp k)
      obtain ⟨lb, lo, rfl, -, d2⟩ := RowW.cell HV.out h2
      obtain ⟨lb', lo', e', -, d3⟩ := RowW.cell HV.out h1
      injection e' with e'; injection e' with e1 e2; subst e1; subst e2
      obtain ⟨tb, to, rfl, -, d4⟩ := RowW.cell HT.out hkt
      obtain ⟨g, off, rfl, hrg⟩ := HR.out k hlt
      obtain ⟨⟨c0, d1, d0, c3⟩, c4, c5, c6⟩ := lay_row hrg
      rw [hf] at d1
      rw [htt] at d0
      obtain ⟨b1, b2⟩ := lv_bd HLV.out tn
      obtain ⟨b3, b4⟩ := lv_bd HLV.out fn
      obtain ⟨b5, b6⟩ := tp_bd HFT.out hlt
      have HD := Lib.hid (show draR xs lv tp k = colR (lv.getD tn 0 - lv.getD fn 0) (tp.getD k 0) by unfold draR; rw [HRI.out])
      clear c0 c3 c4 c5 c6 hrg hf htt
      generalize lv.getD tn 0 = y at *
      generalize lv.getD fn 0 = z at *
      generalize tp.getD k 0 = x at *
      obtain ⟨c, hc⟩ : ∃ c, colR (y - z) x = c := ⟨_, rfl⟩
      have hwm : IntKind.i64.wrap (y - z) = y - z := IntWalk.i64_in _ (by omega)
      rw [hc] at HD
      go_wp2_with fail
      refine wp_region_held (S := fun w' => w'.cell? ⟨g, off + k * 7 + 2, none⟩ = some (.int .i64 (tn : Int)) ∧ w'.cell? ⟨g, off + k * 7 + 1, none⟩ = some (.int .i64 (fn : Int)) ∧ w'.cell? ⟨lb, lo + tn, none⟩ = some (.int .i64 y) ∧ w'.cell? ⟨lb, lo + fn, none⟩ = some (.int .i64 z) ∧ w'.cell? ⟨tb, to + k, none⟩ = some (.int .i64 x) ∧ Below w.heap.size w w') (by kernel_rfl) ?_
      try (change wpAnyH _ _ _ _ _ _ _ _ (World.drew _))
      have hS0 := (show wr.drew.cell? ⟨g, off + k * 7 + 2, none⟩ = some (.int .i64 (tn : Int)) ∧ wr.drew.cell? ⟨g, off + k * 7 + 1, none⟩ = some (.int .i64 (fn : Int)) ∧ wr.drew.cell? ⟨lb, lo + tn, none⟩ = some (.int .i64 y) ∧ wr.drew.cell? ⟨lb, lo + fn, none⟩ = some (.int .i64 z) ∧ wr.drew.cell? ⟨tb, to + k, none⟩ = some (.int .i64 x) ∧ Below w.heap.size w wr.drew from ⟨cell_keep d0 (hbel.drew), cell_keep d1 (hbel.drew), cell_keep d2 (hbel.drew), cell_keep d3 (hbel.drew), cell_keep d4 (hbel.drew), hbel.drew⟩)
      refine gTake 0 (v := ?_) rfl (by kernel_rfl) (by kernel_rfl) (by kernel_rfl) (fun _ _ _ h => h) (by kernel_rfl) ?_ hS0 ?_
      rotate_left
      · (intro W hW; clear hW; go_simp; try with_reducible rfl)
      refine gTake 1 (v := ?_) rfl (by kernel_rfl) (by kernel_rfl) (by kernel_rfl) (fun _ _ _ h => h) (by kernel_rfl) ?_ hS0 ?_
      rotate_left
      · (intro W hW; clear hW; go_simp; try with_reducible rfl)
      refine gTake 2 (v := ?_) rfl (by kernel_rfl) (by kernel_rfl) (by kernel_rfl) (fun _ _ _ h => h) (by kernel_rfl) ?_ hS0 ?_
      rotate_left
      · (intro W hW; clear hW; go_simp; try with_reducible rfl)
      refine gTake 3 (v := ?_) rfl (by kernel_rfl) (by kernel_rfl) (by kernel_rfl) (fun _ _ _ h => h) (by kernel_rfl) ?_ hS0 ?_
      rotate_left
      · (intro W hW; clear hW; go_simp; try with_reducible rfl)
      refine gTake 4 (v := ?_) rfl (by kernel_rfl) (by kernel_rfl) (by kernel_rfl) (fun _ _ _ h => h) (by kernel_rfl) ?_ hS0 ?_
      rotate_left
      · (intro W hW; clear hW; go_simp; try with_reducible rfl)
      refine gTake 5 (v := ?_) rfl (by kernel_rfl) (by kernel_rfl) (by kernel_rfl) (fun _ _ _ h => h) (by kernel_rfl) ?_ hS0 ?_
      rotate_left
      · (intro W hW; have q0 := hW.1; have q1 := hW.2.1; have q2 := hW.2.2.1; have q3 := hW.2.2.2.1; have q4 := hW.2.2.2.2.1; clear hW; go_simp; try with_reducible rfl)
      refine gTake 6 (v := ?_) rfl (by kernel_rfl) (by kernel_rfl) (by kernel_rfl) (fun _ _ _ h => h) (by kernel_rfl) ?_ hS0 ?_
      rotate_left
      · (intro W hW; clear hW; go_simp; try with_reducible rfl)
      refine gTake 7 (v := ?_) rfl (by kernel_rfl) (by kernel_rfl) (by kernel_rfl) (fun _ _ _ h => h) (by kernel_rfl) ?_ hS0 ?_
      rotate_left
      · (intro W hW; have q0 := hW.1; have q1 := hW.2.1; have q2 := hW.2.2.1; have q3 := hW.2.2.2.1; have q4 := hW.2.2.2.2.1; clear hW; go_simp; try with_reducible rfl)
      refine gTake 8 (v := ?_) rfl (by kernel_rfl) (by kernel_rfl) (by kernel_rfl) (fun _ _ _ h => h) (by kernel_rfl) ?_ hS0 ?_
      rotate_left
      · (intro W hW; clear hW; go_simp; try with_reducible rfl)
      refine gTake 9 (v := ?_) rfl (by kernel_rfl) (by kernel_rfl) (by kernel_rfl) (fun _ _ _ h => h) (by kernel_rfl) ?_ hS0 ?_
      rotate_left
      · (intro W hW; clear hW; go_simp; try with_reducible rfl)
      refine gTake 10 (v := ?_) rfl (by kernel_rfl) (by kernel_rfl) (by kernel_rfl) (fun _ _ _ h => h) (by kernel_rfl) ?_ hS0 ?_
      rotate_left
      · (intro W hW; clear hW; go_simp; try with_reducible rfl)
      refine gTake 11 (v := ?_) rfl (by kernel_rfl) (by kernel_rfl) (by kernel_rfl) (fun _ _ _ h => h) (by kernel_rfl) ?_ hS0 ?_
      rotate_left
      · (intro W hW; clear hW; go_simp; try with_reducible rfl)
      refine gTake 12 (v := ?_) rfl (by kernel_rfl) (by kernel_rfl) (by kernel_rfl) (fun _ _ _ h => h) (by kernel_rfl) ?_ hS0 ?_
      rotate_left
      · (intro W hW; have q0 := hW.1; have q1 := hW.2.1; have q2 := hW.2.2.1; have q3 := hW.2.2.2.1; have q4 := hW.2.2.2.2.1; clear hW; go_simp; try with_reducible rfl)
      refine gTake 13 (v := ?_) rfl (by kernel_rfl) (by kernel_rfl) (by kernel_rfl) (fun _ _ _ h => h) (by kernel_rfl) ?_ hS0 ?_
      rotate_left
      · (intro W hW; clear hW; go_simp; try with_reducible rfl)
      refine gTake 14 (v := ?_) rfl (by kernel_rfl) (by kernel_rfl) (by kernel_rfl) (fun _ _ _ h => h) (by kernel_rfl) ?_ hS0 ?_
      rotate_left
      · (intro W hW; have q0 := hW.1; have q1 := hW.2.1; have q2 := hW.2.2.1; have q3 := hW.2.2.2.1; have q4 := hW.2.2.2.2.1; clear hW; go_simp; try with_reducible rfl)
      refine gTake 15 (v := ?_) rfl (by kernel_rfl) (by kernel_rfl) (by kernel_rfl) (fun _ _ _ h => h) (by kernel_rfl) ?_ hS0 ?_
      rotate_left
      · (intro W hW; clear hW; go_simp; try with_reducible rfl)
      refine gTake 16 (v := ?_) rfl (by kernel_rfl) (by kernel_rfl) (by kernel_rfl) (fun _ _ _ h => h) (by kernel_rfl) ?_ hS0 ?_
      rotate_left
      · (intro W hW; clear hW; go_simp; try with_reducible rfl)
      refine gTake 17 (v := ?_) rfl (by kernel_rfl) (by kernel_rfl) (by kernel_rfl) (fun _ _ _ h => h) (by kernel_rfl) ?_ hS0 ?_
      rotate_left
      · (intro W hW; clear hW; go_simp; try with_reducible rfl)
      refine gTake 18 (v := ?_) rfl (by kernel_rfl) (by kernel_rfl) (by kernel_rfl) (fun _ _ _ h => h) (by kernel_rfl) ?_ hS0 ?_
      rotate_left
      · (intro W hW; clear hW; go_simp; try with_reducible rfl)
      refine gTake 19 (v := ?_) rfl (by kernel_rfl) (by kernel_rfl) (by kernel_rfl) (fun _ _ _ h => h) (by kernel_rfl) ?_ hS0 ?_
      rotate_left
      · (intro W hW; have q0 := hW.1; have q1 := hW.2.1; have q2 := hW.2.2.1; have q3 := hW.2.2.2.1; have q4 := hW.2.2.2.2.1; clear hW; go_simp; try with_reducible rfl)
      refine gOne 20 rfl (by kernel_rfl) (by kernel_rfl) (fun K hK => ?_)
      go_simp
      go_at_call 55
      (with_reducible refine (l09Column_any (y - z) x _ b5 b6 (by omega) (by omega)).mono ?_)
      rintro e w' ⟨rfl, rfl⟩
      rw [hc]
      try go_simp
      have hS1 := hS0
      refine hK _ _ hS1 ?_
      clear hK K
      refine gOne 21 rfl (by kernel_rfl) (by kernel_rfl) (fun K hK => ?_)
      go_simp
      skip
      have hS2 := (show (wr.drew.alloc (.cells #[.int .i64 c] 2)).cell? ⟨g, off + k * 7 + 2, none⟩ = some (.int .i64 (tn : Int)) ∧ (wr.drew.alloc (.cells #[.int .i64 c] 2)).cell? ⟨g, off + k * 7 + 1, none⟩ = some (.int .i64 (fn : Int)) ∧ (wr.drew.alloc (.cells #[.int .i64 c] 2)).cell? ⟨lb, lo + tn, none⟩ = some (.int .i64 y) ∧ (wr.drew.alloc (.cells #[.int .i64 c] 2)).cell? ⟨lb, lo + fn, none⟩ = some (.int .i64 z) ∧ (wr.drew.alloc (.cells #[.int .i64 c] 2)).cell? ⟨tb, to + k, none⟩ = some (.int .i64 x) ∧ Below w.heap.size w (wr.drew.alloc (.cells #[.int .i64 c] 2)) from ⟨cell_keep d0 ((hbel.drew).alloc hwz _), cell_keep d1 ((hbel.drew).alloc hwz _), cell_keep d2 ((hbel.drew).alloc hwz _), cell_keep d3 ((hbel.drew).alloc hwz _), cell_keep d4 ((hbel.drew).alloc hwz _), (hbel.drew).alloc hwz _⟩)
      refine hK _ _ hS2 ?_
      clear hK K
      refine gOne 22 rfl (by kernel_rfl) (by kernel_rfl) (fun K hK => ?_)
      refine gAppendOwn (.tmp 26) (.tmp 47) 30 rfl 2 i0 (.int .i64 0) 1 8 Try.underlying30 hi hz0 hz1 hz2 rfl (by decide) w.heap.size u7 k (intsV (draT xs lv tp k)) (by simp [Act.eval, Act.put]) (hown.alloc _) ⟨wr.heap.size, 0, none⟩ 1 1 [.int .i64 c] (by simp [Act.eval, Act.put]) rfl (fun j u hj => by match j, hj with | 0, hj => (simp at hj; subst hj; simp [Addr.add]) | j + 1, hj => (simp at hj)) (by simp [Value.oneCell']) (by unfold maxLen; omega) (by omega) (by simp; omega) ?_
      intro v' w3 ho3 hg3
      have HB3 : Below w.heap.size w w3 := ((hbel.drew).alloc hwz _).grown hg3 (by simp; omega) (fun k hk => (hown.lt k hk).1)
      have hS3 := (show w3.cell? ⟨g, off + k * 7 + 2, none⟩ = some (.int .i64 (tn : Int)) ∧ w3.cell? ⟨g, off + k * 7 + 1, none⟩ = some (.int .i64 (fn : Int)) ∧ w3.cell? ⟨lb, lo + tn, none⟩ = some (.int .i64 y) ∧ w3.cell? ⟨lb, lo + fn, none⟩ = some (.int .i64 z) ∧ w3.cell? ⟨tb, to + k, none⟩ = some (.int .i64 x) ∧ Below w.heap.size w w3 from ⟨cell_keep d0 (HB3), cell_keep d1 (HB3), cell_keep d2 (HB3), cell_keep d3 (HB3), cell_keep d4 (HB3), HB3⟩)
      refine hK _ _ hS3 ?_
      clear hK K
      refine gTake 23 (v := ?_) rfl (by kernel_rfl) (by kernel_rfl) (by kernel_rfl) (fun _ _ _ h => h) (by kernel_rfl) ?_ hS3 ?_
      rotate_left
      · (intro W hW; clear hW; go_simp; try with_reducible rfl)
      refine wpAnyH_done (by kernel_rfl) ?_ _
      go_simp
      have HO3 := Lib.hid (show w3.ownsRow w.heap.size 2 1 v' (k + 1) (intsV (draT xs lv tp (k + 1))) by rw [HN.out, HD.out]; simpa [intsV] using ho3)
      have HB4 := Lib.hid HB3
      clear ho3 hg3 HB3 hS0 hS1 hS2 hown hbel
      go_wp2
      go_roundw
      case rel => exact ⟨k + 1, by omega, by go_num, HO3.out, HB4.out⟩
      case measure => simp [intOf]; omega
    · obtain rfl : k = xs.length := by omega
      have HO := Lib.hid hown
      clear hown
      go_wp2
      go_ret
      exact ⟨_, rfl, by unfold OwnI; rw [draT_len]; exact HO.out, hbel⟩
end Go.Proofs.Ytjooebiiceillaa
