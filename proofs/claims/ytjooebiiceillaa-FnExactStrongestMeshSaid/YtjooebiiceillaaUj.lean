/-
  Contracts of chapter 4: the first shortest walk along some airways; the model's. Conditions: those that each theorem states.
-/
import Derived.Test.YtjooebiiceillaaUh
import Derived.Test.YtjooebiiceillaaUe
import Derived.Test.YtjooebiiceillaaWa
namespace Go.Proofs.Ytjooebiiceillaa
open Go.RowKit
set_option linter.unusedVariables false
set_option linter.unusedSimpArgs false

/-- The ends of the airways of a list, in order. -/
def enL (xs : List Aw) (ls : List Int) : List (Int × Int) := ls.map (endsOf xs)
theorem enL_in {Jn : Nat} {xs : List Aw} {ls : List Int} (hok : mineOk (Jn : Int) xs = true) (hls : ∀ y ∈ ls, 0 ≤ y ∧ y < (xs.length : Int)) : ∀ e ∈ enL xs ls, (0 ≤ e.1 ∧ e.1 < (Jn : Int)) ∧ (0 ≤ e.2 ∧ e.2 < (Jn : Int)) := fun e he => by
  obtain ⟨y, hy, rfl⟩ := List.mem_map.1 he
  have h := hls y hy
  obtain ⟨q, rfl⟩ : ∃ q : Nat, y = q := ⟨y.toNat, by omega⟩
  have := ends_in hok (show q < xs.length by omega)
  unfold endsOf
  rw [Int.toNat_natCast, getD_of_lt (show q < xs.length by omega)]
  exact ⟨this.1, this.2.1⟩
theorem partsL_set {Jn b : Nat} {D : Int → Int} (v : Int) (h : b < Jn) : (intsV (partsL Jn D)).set b (.int .i64 v) = intsV (partsL Jn (fun j => if j = (b : Int) then v else D j)) := by
  unfold intsV
  rw [← List.map_set]
  congr 1
  apply List.ext_getElem (by simp [partsL])
  intro j h1 h2
  simp only [List.getElem_set, partsL, List.getElem_map, List.getElem_range]
  by_cases e : b = j
  · subst e; rw [if_pos rfl, if_pos rfl]
  · rw [if_neg e, if_neg (by omega)]
theorem partsL_repl (Jn : Nat) (c : Int) : partsL Jn (fun _ => c) = List.replicate Jn c := by
  apply List.ext_getElem (by simp [partsL])
  intro j h1 h2
  simp [partsL]
theorem upd_A {F : Int → Int} {s f t : Int} (h : F f = s ∧ F t < 0) (hs : 0 ≤ s) (hne : f ≠ t) : updE F s f t = fun j => if j = t then s + 1 else F j := by
  unfold updE
  have e1 : updA F s f t = fun j => if j = t then s + 1 else F j := by unfold updA; rw [if_pos h]
  rw [e1]
  unfold updA
  rw [if_neg]
  simp only [if_true]
  omega
theorem upd_C {F : Int → Int} {s f t : Int} (h : ¬ (F f = s ∧ F t < 0)) (h2 : F t = s ∧ F f < 0) : updE F s f t = fun j => if j = f then s + 1 else F j := by
  unfold updE
  have e1 : updA F s f t = F := by unfold updA; rw [if_neg h]
  rw [e1]
  unfold updA
  rw [if_pos h2]
theorem upd_N {F : Int → Int} {s f t : Int} (h : ¬ (F f = s ∧ F t < 0)) (h2 : ¬ (F t = s ∧ F f < 0)) : updE F s f t = F := by
  unfold updE
  have e1 : updA F s f t = F := by unfold updA; rw [if_neg h]
  rw [e1]
  unfold updA
  rw [if_neg h2]
/-- What l04Walk finds. -/
def levD (Jn : Nat) (xs : List Aw) (ls : List Int) (to : Int) : Int → Int := lev (enL xs ls) to Jn
def wlkR (Jn : Nat) (xs : List Aw) (ls : List Int) (from_ to : Int) : List Int := if 0 ≤ levD Jn xs ls to from_ then pathN (endsOf xs) (levD Jn xs ls to) ls (levD Jn xs ls to from_).toNat from_ else []
theorem levD_dist {Jn : Nat} {xs : List Aw} {ls : List Int} {to : Int} (hok : mineOk (Jn : Int) xs = true) (hls : ∀ y ∈ ls, 0 ≤ y ∧ y < (xs.length : Int)) (ht : 0 ≤ to ∧ to < (Jn : Int)) : Dist (enL xs ls) to (levD Jn xs ls to) := lev_dist (enL_in hok hls) ht
theorem levD_bd (Jn : Nat) (xs : List Aw) (ls : List Int) (to j : Int) : -1 ≤ levD Jn xs ls to j ∧ levD Jn xs ls to j ≤ Jn := lev_ge _ _ _ _
theorem take_snoc {α : Type} {l : List α} {i : Nat} (h : i < l.length) : l.take (i + 1) = l.take i ++ [l[i]] := List.take_succ_eq_append_getElem h
theorem ret_wb {v : Value} {b b' : Bool} (h : b = b') : Ending.returned (.tuple #[v, .bool b]) = .returned (.tuple #[v, .bool b']) := by rw [h]
theorem own_leW {w : World} {B B' : Nat} {v : Value} {xs : List Int} (h : OwnI w B v xs) (hb : B' ≤ B) : OwnI w B' v xs := by
  obtain ⟨hl, h⟩ := h
  refine ⟨hl, ?_⟩
  rcases h with h | ⟨g, cap, cur, e, hg, r⟩
  · exact .inl h
  · exact .inr ⟨g, cap, cur, e, Nat.le_trans hb hg, r⟩
set_option maxHeartbeats 8000000 in
set_option maxRecDepth 100000 in
theorem l04Walk_any (b cap Jn : Nat) (A : Option Addr) (xs : List Aw) (v : Value) (ls : List Int) (fr to : Int) (w : World) (hJ : w.cell? ⟨b, 0, none⟩ = some (.int .i64 (Jn : Int))) (hA : w.cell? ⟨b, 1, none⟩ = some (.slice A xs.length cap)) (hr : AwR w A xs) (hv : RowW .i64 w v ls)
    (hls : ∀ y ∈ ls, 0 ≤ y ∧ y < (xs.length : Int)) (hll : ls.length ≤ 1000) (hok : mineOk (Jn : Int) xs = true) (hf : 0 ≤ fr ∧ fr < (Jn : Int)) (ht : 0 ≤ to ∧ to < (Jn : Int)) :
    Calls Try.prog 96 #[.pointer (some ⟨b, 0, none⟩), v, .int .i64 fr, .int .i64 to] w fun e w' => ∃ u, e = .returned (.tuple #[u, .bool (decide (0 ≤ levD Jn xs ls to fr))]) ∧ OwnI w' w.heap.size u (wlkR Jn xs ls fr to) ∧ Below w.heap.size w w' := by
  obtain ⟨hj, -, hn⟩ := mineOk_iff.1 hok
  obtain ⟨VF, vcap, rfl, _⟩ := id hv
  have hbl := World.block_lt_of_cell? _ _ hJ
  have HM := Lib.hid (And.intro hJ hA)
  have HR := Lib.hid hr
  have HV := Lib.hid hv
  have HL := Lib.hid hls
  have HOK := Lib.hid hok
  have HDI := Lib.hid (levD_dist hok hls ht)
  have HEI := Lib.hid (enL_in hok hls)
  obtain ⟨i0, hi, hz0, hz1, hz2⟩ := info_parts info_i64
  obtain ⟨frn, rfl⟩ : ∃ n : Nat, fr = n := ⟨fr.toNat, by omega⟩
  obtain ⟨ton, rfl⟩ : ∃ n : Nat, to = n := ⟨to.toNat, by omega⟩
  have hfJ : frn < Jn := by omega
  have htJ : ton < Jn := by omega
  have hfJI : (frn : Int) < (Jn : Int) := by omega
  have htJI : (ton : Int) < (Jn : Int) := by omega
  clear hJ hA hr hv hls hok hf ht
  go_enter Try.func96, Try.ntmps96
  go_wp2
  have HC1 := Lib.hid (below_box w (.cells #[] 2))
  go_loopw [10, 11] (fun out i wr => ∃ k : Nat, k ≤ Jn ∧ i = .int .i64 k ∧ wr.ownsRow w.heap.size 2 1 out k (intsV (partsL k (fun _ => -1))) ∧ Below w.heap.size w wr) (fun out i wr => Jn - (intOf i).toNat)
  case atStart => exact ⟨0, by omega, rfl, World.ownsRow_lit _ _ 0 (Nat.le_refl _) (by simp [maxLen]) rfl, HC1.out⟩
  case round =>
    obtain ⟨k, hk, rfl, hown, hbel⟩ := hrel
    have hm := (hbel.cell (p := ⟨b, 0, none⟩) hbl).trans HM.out.1
    have HO := Lib.hid hown
    have HBL := Lib.hid hbel
    have hwz := hbel.size
    clear hown hbel
    by_cases hlt : k < Jn
    · go_wp2_with (at_builtin; refine wpList_append_own _ rfl _ _ 30 rfl w.heap.size 2 i0 (.int .i64 0) 1 8 Try.underlying30 hi hz0 hz1 hz2 rfl (by decide) _ _ _ rfl (HO.out.alloc _) ⟨wr.heap.size, 0, none⟩ 1 1 [.int .i64 (-1)] rfl rfl ?c1z ?c2z ?c3z ?c4z ?c5z ?_)
      try (case c1z => intro j u hj; match j, hj with | 0, hj => (simp at hj; subst hj; simp [Addr.add]) | j + 1, hj => (simp at hj))
      try (case c2z => simp [Value.oneCell'])
      try (case c3z => unfold maxLen; omega)
      try (case c4z => omega)
      try (case c5z => first | omega | (simp; omega))
      intro v3 w3 ho3 hg3 _
      have HO3 := Lib.hid (show w3.ownsRow w.heap.size 2 1 v3 (k + 1) (intsV (partsL (k + 1) (fun _ => -1))) by rw [partsL_snoc]; simpa [intsV] using ho3)
      have HB3 := Lib.hid ((HBL.out.alloc HBL.out.size _).grown hg3 (by simp; omega) (fun k hk => (HO.out.lt k hk).1))
      clear ho3 hg3
      go_wp2
      go_roundw
      case rel => exact ⟨k + 1, by omega, by go_num, HO3.out, HB3.out⟩
      case measure => simp [intOf]; omega
    · obtain rfl : k = Jn := by omega
      have HOW := Lib.hid (show OwnI wr w.heap.size _ (partsL k (fun _ => -1)) by unfold OwnI; rw [partsL_len]; exact HO.out)
      obtain ⟨g, gcap, hge, hgB⟩ : ∃ g gcap, u10 = .slice (some ⟨g, 0, none⟩) k gcap ∧ w.heap.size ≤ g := by
        rcases HOW.out.2 with ⟨-, h0⟩ | ⟨g, cap, cur, e, hg, -⟩
        · rw [partsL_len] at h0; omega
        · rw [partsL_len] at e; exact ⟨g, cap, e, hg⟩
      subst hge
      have d0 : wr.cell? ⟨g, ton, none⟩ = some (.int .i64 (-1)) := by rw [HO.out.cellAt ton (by omega), partsL_at _ htJ]
      have z0 := HO.out.frozenAt ton
      have HO1 := Lib.hid (show (wr.setCell ⟨g, ton, none⟩ (.int .i64 0)).ownsRow w.heap.size 2 1 (.slice (some ⟨g, 0, none⟩) k gcap) k (intsV (partsL k (lev (enL xs ls) ton 0))) by
        have h := (HO.out.stored ton (.int .i64 0)).1
        rw [partsL_set _ htJ] at h
        exact h)
      have HB1 := Lib.hid (HBL.out.setCell (p := ⟨g, ton, none⟩) (by show w.heap.size ≤ g; omega) (.int .i64 0))
      go_wp2
      clear HO HOW hlt d0 z0
      go_loopw [12] (fun i wr => ∃ s : Nat, s ≤ k ∧ i = .int .i64 s ∧ wr.ownsRow w.heap.size 2 1 (.slice (some ⟨g, 0, none⟩) k gcap) k (intsV (partsL k (lev (enL xs ls) ton s))) ∧ Below w.heap.size w wr) (fun i wr => k - (intOf i).toNat)
      case atStart => exact ⟨0, by omega, rfl, HO1.out, HB1.out⟩
      case round =>
        obtain ⟨wo, rfl⟩ : ∃ wo : World, wo = wr := ⟨_, rfl⟩
        obtain ⟨s, hs, rfl, hown, hbel⟩ := hrel
        have hm := (hbel.cell (p := ⟨b, 0, none⟩) hbl).trans HM.out.1
        have hsb : s ≤ 16 := by omega
        by_cases hlt : s < k
        · have HO2 := Lib.hid (show wo.ownsRow w.heap.size 2 1 (.slice (some ⟨g, 0, none⟩) k gcap) k (intsV (partsL k (part (lev (enL xs ls) ton s) s ((enL xs ls).take 0)))) by
            rw [List.take_zero, show part (lev (enL xs ls) ton s) (s : Int) [] = lev (enL xs ls) ton s from funext (lev_start _ _ _)]; exact hown)
          have HB2 := Lib.hid hbel
          have hsk : (s : Int) < (k : Int) := by omega
          clear hown hbel
          go_wp2
          clear hm
          go_loopw [13] (fun q wr => ∃ i : Nat, i ≤ ls.length ∧ q = .int .i64 i ∧ wr.ownsRow w.heap.size 2 1 (.slice (some ⟨g, 0, none⟩) k gcap) k (intsV (partsL k (part (lev (enL xs ls) ton s) s ((enL xs ls).take i)))) ∧ Below w.heap.size w wr) (fun q wr => ls.length - (intOf q).toNat)
          case atStart => exact ⟨0, by omega, rfl, HO2.out, HB2.out⟩
          case round =>
            obtain ⟨i, hi', rfl, hown, hbel⟩ := hrel
            by_cases hil : i < ls.length
            · obtain ⟨fb, fo, rfl, -, hcl⟩ := RowW.cell (HV.out.below hbel) hil
              rw [show ls.getD i 0 = ls[i] by simp [List.getD, hil]] at hcl
              have hix := HL.out _ (List.getElem_mem hil)
              have HTK := Lib.hid (show (enL xs ls).take (i + 1) = (enL xs ls).take i ++ [endsOf xs ls[i]] by unfold enL; rw [take_snoc (by rw [List.length_map]; exact hil), List.getElem_map])
              generalize ls[i] = y at *
              obtain ⟨ix, rfl⟩ : ∃ ix : Nat, y = ix := ⟨y.toNat, by omega⟩
              have hixl : ix < xs.length := by omega
              obtain ⟨ga, off, rfl, hrg⟩ := HR.out.below hbel ix hixl
              obtain ⟨⟨c0, c1', c2', c3'⟩, c4', c5', c6'⟩ := lay_row hrg
              have hgal : ga < w.heap.size := by
                obtain ⟨ga', off', e', hrg'⟩ := HR.out ix hixl
                injection e' with e'
                injection e' with e1 e2
                rw [e1]
                exact World.block_lt_of_cell? _ _ (lay_row hrg').1.1
              have hgan : ¬ (ga = g) := by omega
              have hgan2 : ¬ (g = ga) := by omega
              have hen := ends_in HOK.out hixl
              have HGD := Lib.hid (show endsOf xs (ix : Int) = (xs[ix].f, xs[ix].t) by unfold endsOf; rw [Int.toNat_natCast, getD_of_lt hixl])
              rw [HGD.out] at HTK
              have hm1 := (hbel.cell (p := ⟨b, 1, none⟩) hbl).trans HM.out.2
              generalize xs[ix] = a at *
              obtain ⟨sa, f, t, l, se, frc, sh⟩ := a
              dsimp only at c0 c1' c2' c3' c4' c5' c6' hen HTK
              clear hrg c0 c3' c4' c5' c6'
              obtain ⟨fn, rfl⟩ : ∃ fn : Nat, f = fn := ⟨f.toNat, by omega⟩
              obtain ⟨tn, rfl⟩ : ∃ tn : Nat, t = tn := ⟨t.toNat, by omega⟩
              have hf1 : fn < k := by omega
              have ht1 : tn < k := by omega
              have hne : (fn : Int) ≠ (tn : Int) := hen.2.2
              have hfI : (fn : Int) < (k : Int) := by omega
              have htI : (tn : Int) < (k : Int) := by omega
              have hixI : (ix : Int) < (xs.length : Int) := by omega
              have hiI : (i : Int) < (ls.length : Int) := by omega
              have HPS := Lib.hid (show updE (part (lev (enL xs ls) ton s) s ((enL xs ls).take i)) s fn tn = part (lev (enL xs ls) ton s) s ((enL xs ls).take (i + 1)) by rw [HTK.out]; exact part_snoc (by omega) _ _ _ hne)
              have hFb : ∀ j, part (lev (enL xs ls) ton s) s ((enL xs ls).take i) j ≤ (s : Int) + 1 := fun j => by
                have := lev_ge (enL xs ls) ton s j
                unfold part
                split
                · omega
                · split <;> omega
              clear hen hix
              obtain ⟨F, hF⟩ : ∃ F, part (lev (enL xs ls) ton s) s ((enL xs ls).take i) = F := ⟨_, rfl⟩
              rw [hF] at hown HPS
              clear hF hFb
              go_wp2
              go_quiet (fail)
              obtain ⟨W1, hW1⟩ : ∃ x, x = wr.drewN nq := ⟨_, rfl⟩
              have q1 : W1.cell? ⟨ga, off + ix * 7 + 1, none⟩ = some (.int .i64 (fn : Int)) := by rw [hW1]; exact c1'
              have q2 : W1.cell? ⟨ga, off + ix * 7 + 2, none⟩ = some (.int .i64 (tn : Int)) := by rw [hW1]; exact c2'
              have HO := Lib.hid (show W1.ownsRow w.heap.size 2 1 (.slice (some ⟨g, 0, none⟩) k gcap) k (intsV (partsL k F)) by rw [hW1]; exact hown)
              have HB := Lib.hid (show Below w.heap.size w W1 by rw [hW1]; exact below_drewN' hbel _)
              have d1 : W1.cell? ⟨g, fn, none⟩ = some (.int .i64 (F fn)) := by rw [HO.out.cellAt fn (by omega), partsL_at _ hf1]
              have d2 : W1.cell? ⟨g, tn, none⟩ = some (.int .i64 (F tn)) := by rw [HO.out.cellAt tn (by omega), partsL_at _ ht1]
              have z1 := HO.out.frozenAt fn
              have z2 := HO.out.frozenAt tn
              rw [← hW1]
              clear hW1 hown hbel c1' c2' hm1 hcl hgal
              by_cases c1 : F (fn : Int) = (s : Int)
              · by_cases c2 : F (tn : Int) < 0
                · have HU := Lib.hid (HPS.out.symm.trans (upd_A ⟨c1, c2⟩ (by omega) hne))
                  generalize hpf : F (fn : Int) = p at *
                  generalize hpt : F (tn : Int) = r at *
                  have e1 : (p == (s : Int)) = true := by simp [c1]
                  have e2 : decide (r < 0) = true := decide_eq_true c2
                  have e3 : ((s : Int) + 1 == (s : Int)) = false := by simp; omega
                  have e3b : ¬ ((s : Int) + 1 = (s : Int)) := by omega
                  have hd2s : (W1.setCell ⟨g, tn, none⟩ (.int .i64 ((s : Int) + 1))).cell? ⟨g, tn, none⟩ = some (.int .i64 ((s : Int) + 1)) := World.cell?_setCell_same' _ _ _ (by rw [d2]; rfl)
                  go_wp2
                  go_roundw
                  case rel => exact ⟨i + 1, by omega, by go_num, by
                    have h := (HO.out.stored tn (.int .i64 ((s : Int) + 1))).1
                    rw [partsL_set _ ht1] at h
                    rw [HU.out]
                    exact h, HB.out.setCell (by show w.heap.size ≤ g; omega) _⟩
                  case measure => simp [intOf]; omega
                · by_cases c3 : F (tn : Int) = (s : Int)
                  · have HU := Lib.hid (HPS.out.symm.trans (upd_N (fun h => c2 h.2) (fun h => by omega)))
                    generalize hpf : F (fn : Int) = p at *
                    generalize hpt : F (tn : Int) = r at *
                    have e1 : (p == (s : Int)) = true := by simp [c1]
                    have e2 : decide (r < 0) = false := decide_eq_false c2
                    have e3 : (r == (s : Int)) = true := by simp [c3]
                    have e4 : decide (p < 0) = false := decide_eq_false (by omega)
                    have e4b : ¬ p < 0 := by omega
                    go_wp2
                    go_roundw
                    case rel => exact ⟨i + 1, by omega, by go_num, by rw [HU.out]; exact HO.out, HB.out⟩
                    case measure => simp [intOf]; omega
                  · have HU := Lib.hid (HPS.out.symm.trans (upd_N (fun h => c2 h.2) (fun h => c3 h.1)))
                    generalize hpf : F (fn : Int) = p at *
                    generalize hpt : F (tn : Int) = r at *
                    have e1 : (p == (s : Int)) = true := by simp [c1]
                    have e2 : decide (r < 0) = false := decide_eq_false c2
                    have e3 : (r == (s : Int)) = false := by simp [c3]
                    go_wp2
                    go_roundw
                    case rel => exact ⟨i + 1, by omega, by go_num, by rw [HU.out]; exact HO.out, HB.out⟩
                    case measure => simp [intOf]; omega
              · by_cases c3 : F (tn : Int) = (s : Int)
                · by_cases c4 : F (fn : Int) < 0
                  · have HU := Lib.hid (HPS.out.symm.trans (upd_C (fun h => c1 h.1) ⟨c3, c4⟩))
                    generalize hpf : F (fn : Int) = p at *
                    generalize hpt : F (tn : Int) = r at *
                    have e1 : (p == (s : Int)) = false := by simp [c1]
                    have e3 : (r == (s : Int)) = true := by simp [c3]
                    have e4 : decide (p < 0) = true := decide_eq_true c4
                    go_wp2
                    go_roundw
                    case rel => exact ⟨i + 1, by omega, by go_num, by
                      have h := (HO.out.stored fn (.int .i64 ((s : Int) + 1))).1
                      rw [partsL_set _ hf1] at h
                      rw [HU.out]
                      exact h, HB.out.setCell (by show w.heap.size ≤ g; omega) _⟩
                    case measure => simp [intOf]; omega
                  · have HU := Lib.hid (HPS.out.symm.trans (upd_N (fun h => c1 h.1) (fun h => c4 h.2)))
                    generalize hpf : F (fn : Int) = p at *
                    generalize hpt : F (tn : Int) = r at *
                    have e1 : (p == (s : Int)) = false := by simp [c1]
                    have e3 : (r == (s : Int)) = true := by simp [c3]
                    have e4 : decide (p < 0) = false := decide_eq_false c4
                    go_wp2
                    go_roundw
                    case rel => exact ⟨i + 1, by omega, by go_num, by rw [HU.out]; exact HO.out, HB.out⟩
                    case measure => simp [intOf]; omega
                · have HU := Lib.hid (HPS.out.symm.trans (upd_N (fun h => c1 h.1) (fun h => c3 h.1)))
                  generalize hpf : F (fn : Int) = p at *
                  generalize hpt : F (tn : Int) = r at *
                  have e1 : (p == (s : Int)) = false := by simp [c1]
                  have e3 : (r == (s : Int)) = false := by simp [c3]
                  go_wp2
                  go_roundw
                  case rel => exact ⟨i + 1, by omega, by go_num, by rw [HU.out]; exact HO.out, HB.out⟩
                  case measure => simp [intOf]; omega
            · obtain rfl : i = ls.length := by omega
              have HO := Lib.hid (show wr.ownsRow w.heap.size 2 1 (.slice (some ⟨g, 0, none⟩) k gcap) k (intsV (partsL k (lev (enL xs ls) ton (s + 1)))) by
                rw [lev]
                have h := hown
                rwa [List.take_of_length_le (by unfold enL; rw [List.length_map]; exact Nat.le_refl _)] at h)
              have HB := Lib.hid hbel
              clear hown hbel
              go_wp2
              go_roundw
              case rel => exact ⟨s + 1, by omega, by go_num, HO.out, HB.out⟩
              case measure => simp [intOf]; omega
        · obtain rfl : s = k := by omega
          have HFR0 := Lib.hid (show wo.ownsRow w.heap.size 2 1 (.slice (some ⟨g, 0, none⟩) s gcap) s (intsV (partsL s (levD s xs ls ton))) from hown)
          have HBF := Lib.hid hbel
          have hwo : w.heap.size ≤ wo.heap.size := hbel.size
          have dfr : wo.cell? ⟨g, frn, none⟩ = some (.int .i64 (levD s xs ls ton frn)) := by rw [HFR0.out.cellAt frn (by omega), partsL_at _ hfJ]
          have hgwo : g < wo.heap.size := World.block_lt_of_cell? _ _ dfr
          have hmN := hm
          have hLB := levD_bd s xs ls ton
          clear hown hbel hlt HO1 HB1
          have HEP := Lib.hid (fun (h : 0 ≤ levD s xs ls ton frn) => show wlkR s xs ls frn ton = pathN (endsOf xs) (levD s xs ls ton) ls (levD s xs ls ton frn).toNat frn by unfold wlkR; rw [if_pos h])
          have HEN := Lib.hid (fun (h : ¬ 0 ≤ levD s xs ls ton frn) => show wlkR s xs ls frn ton = [] by unfold wlkR; rw [if_neg h])
          generalize hRR : wlkR s xs ls frn ton = R at *
          obtain ⟨D, hDD⟩ : ∃ D, levD s xs ls ton = D := ⟨_, rfl⟩
          rw [hDD] at dfr HFR0 HDI HEP HEN hLB
          have HDD := Lib.hid hDD
          have HRR := Lib.hid hRR
          clear hDD hRR
          have hLBf := hLB (frn : Int)
          by_cases h0 : 0 ≤ D (frn : Int)
          · have HE := Lib.hid (HEP.out h0)
            have h0d : decide (D (frn : Int) < 0) = false := decide_eq_false (by omega)
            have h0n : ¬ D (frn : Int) < 0 := by omega
            have hdt : decide (0 ≤ D (frn : Int)) = true := decide_eq_true h0
            have HDT := Lib.hid hdt
            clear hdt
            have HFA := Lib.hid (fun (w3 : World) (h3 : Below wo.heap.size wo w3) => show w3.ownsRow w.heap.size 2 1 (.slice (some ⟨g, 0, none⟩) s gcap) s (intsV (partsL s D)) from own_below HFR0.out h3)
            have HBO0 := Lib.hid (below_box wo (.cells #[] 2))
            have HQQ := Lib.hid (show D (frn : Int) = ((D (frn : Int)).toNat : Int) by omega)
            generalize hN : (D (frn : Int)).toNat = N at *
            have hN16 : N ≤ 16 := by omega
            go_wp2
            clear dfr hmN hm
            go_loopw [15, 16] (fun out at_ wr => ∃ (n a : Nat) (pre : List Int), at_ = .int .i64 (a : Int) ∧ a < s ∧ Hid (D (a : Int) = (n : Int)) ∧ Hid (pre ++ pathN (endsOf xs) D ls n a = pathN (endsOf xs) D ls N frn) ∧ pre.length + n ≤ 16 ∧ wr.ownsRow wo.heap.size 2 1 out pre.length (intsV pre) ∧ Hid (wr.ownsRow w.heap.size 2 1 (.slice (some ⟨g, 0, none⟩) s gcap) s (intsV (partsL s D))) ∧ Hid (Below w.heap.size w wr) ∧ Hid (Below wo.heap.size wo wr)) (fun out at_ wr => (D (intOf at_)).toNat)
            case atStart => exact ⟨N, frn, [], rfl, hfJ, HQQ, Lib.hid rfl, by simp; omega, World.ownsRow_lit _ _ 0 (Nat.le_refl _) (by simp [maxLen]) rfl, Lib.hid (HFA.out _ HBO0.out), Lib.hid (HBF.out.trans (HBO0.out.mono HBF.out.size)), HBO0⟩
            case round =>
              obtain ⟨wp, rfl⟩ : ∃ wp : World, wp = wr := ⟨_, rfl⟩
              obtain ⟨uo, rfl⟩ : ∃ uo : Value, uo = u15 := ⟨_, rfl⟩
              obtain ⟨n, a, pre, rfl, has, HDA, HPT, hpl, hop, HFR, HBP, HBQ⟩ := hrel
              have HOP := Lib.hid hop
              clear hop
              by_cases hat : a = ton
              · have hn0 : n = 0 := by
                  have h1 := HDI.out.zero
                  have h2 := HDA.out
                  rw [hat] at h2
                  omega
                have HRE := Lib.hid (show R = pre by
                  rw [HE.out, ← HPT.out, hn0, pathN, List.append_nil])
                have hat2 : ((a : Int) != (ton : Int)) = false := by simp; omega
                have hat3 : (a : Int) = (ton : Int) := by omega
                clear hn0
                subst hat
                go_wp2
                go_ret2
                exact ⟨_, by first | rfl | exact ret_wb (by rw [HDD.out, HDT.out]) | exact ret_wb HDT.out.symm, by first | (rw [HRR.out, HRE.out]; exact own_leW HOP.out hwo) | (rw [HRE.out]; exact own_leW HOP.out hwo), HBP.out⟩
              · obtain ⟨n, rfl⟩ : ∃ n' : Nat, n = n' + 1 := by
                  cases n with
                  | zero =>
                    exfalso
                    have h1 := HDI.out.eq_to (j := (a : Int)) (by have := HDA.out; omega)
                    omega
                  | succ n => exact ⟨n, rfl⟩
                replace HDA := Lib.hid (show D (a : Int) = (n : Int) + 1 from HDA.out)
                obtain ⟨ki, bb, hst, -, -, -⟩ := stp_some HDI.out HDA.out
                have HST := Lib.hid hst
                have hat2 : ((a : Int) != (ton : Int)) = true := by simp; omega
                have hat3 : ¬ (a : Int) = (ton : Int) := by omega
                clear hst
                go_wp2
                go_loopw [15, 16, 17] (fun out at_ q wr => ∃ (i m : Nat), i ≤ ls.length ∧ q = .int .i64 (i : Int) ∧ out = uo ∧ at_ = .int .i64 (a : Int) ∧ Hid (stp (endsOf xs) D a ls = stp (endsOf xs) D a (ls.drop i)) ∧ Hid (wr = wp.drewN m)) (fun out at_ q wr => ls.length - (intOf q).toNat)
                case atStart => exact ⟨0, 0, by omega, rfl, rfl, rfl, Lib.hid (by rw [List.drop_zero]), Lib.hid rfl⟩
                case round =>
                  obtain ⟨i, m, hi', rfl, rfl, rfl, HSD, hwr⟩ := hrel
                  have HBW := Lib.hid (show Below w.heap.size w wr by rw [hwr.out]; exact below_drewN' HBP.out _)
                  have HFW := Lib.hid (show wr.ownsRow w.heap.size 2 1 (.slice (some ⟨g, 0, none⟩) s gcap) s (intsV (partsL s D)) by rw [hwr.out]; exact HFR.out)
                  by_cases hil : i < ls.length
                  · obtain ⟨fb, fo, rfl, -, hcl⟩ := RowW.cell (HV.out.below HBW.out) hil
                    rw [show ls.getD i 0 = ls[i] by simp [List.getD, hil]] at hcl
                    have hix := HL.out _ (List.getElem_mem hil)
                    have HSL0 := Lib.hid (HSD.out.trans (by rw [List.drop_eq_getElem_cons hil]))
                    have hmem := List.getElem_mem hil
                    generalize ls[i] = y at *
                    obtain ⟨ix, rfl⟩ : ∃ ix : Nat, y = ix := ⟨y.toNat, by omega⟩
                    have HSL := Lib.hid (show stp (endsOf xs) D a ls = stp (endsOf xs) D a ((ix : Int) :: ls.drop (i + 1)) from HSL0.out)
                    clear HSL0
                    have hixl : ix < xs.length := by omega
                    obtain ⟨ga, off, rfl, hrg⟩ := HR.out ix hixl
                    obtain ⟨⟨c0, c1', c2', c3'⟩, c4', c5', c6'⟩ := lay_row hrg
                    have hgal : ga < w.heap.size := World.block_lt_of_cell? _ _ c0
                    have hen := ends_in HOK.out hixl
                    have HGD := Lib.hid (show endsOf xs (ix : Int) = (xs[ix].f, xs[ix].t) by unfold endsOf; rw [Int.toNat_natCast, getD_of_lt hixl])
                    have hm1 := (HBW.out.cell (p := ⟨b, 1, none⟩) hbl).trans HM.out.2
                    generalize xs[ix] = aw at *
                    obtain ⟨sa, f, t, l, se, frc, sh⟩ := aw
                    dsimp only at c0 c1' c2' c3' c4' c5' c6' hen HGD
                    clear hrg c0 c3' c4' c5' c6'
                    obtain ⟨fn, rfl⟩ : ∃ fn : Nat, f = fn := ⟨f.toNat, by omega⟩
                    obtain ⟨tn, rfl⟩ : ∃ tn : Nat, t = tn := ⟨t.toNat, by omega⟩
                    have hf1 : fn < s := by omega
                    have ht1 : tn < s := by omega
                    have hnft : ¬ fn = tn := by have := hen.2.2; omega
                    have hfI : (fn : Int) < (s : Int) := by omega
                    have htI : (tn : Int) < (s : Int) := by omega
                    have haI : (a : Int) < (s : Int) := by omega
                    have hixI : (ix : Int) < (xs.length : Int) := by omega
                    have hiI : (i : Int) < (ls.length : Int) := by omega
                    have HQ1 := Lib.hid c1'
                    have HQ2 := Lib.hid c2'
                    have q1 := (HBW.out.cell (p := ⟨ga, off + ix * 7 + 1, none⟩) hgal).trans c1'
                    have q2 := (HBW.out.cell (p := ⟨ga, off + ix * 7 + 2, none⟩) hgal).trans c2'
                    have dF : wr.cell? ⟨g, fn, none⟩ = some (.int .i64 (D fn)) := by rw [HFW.out.cellAt fn (by omega), partsL_at _ hf1]
                    have dT : wr.cell? ⟨g, tn, none⟩ = some (.int .i64 (D tn)) := by rw [HFW.out.cellAt tn (by omega), partsL_at _ ht1]
                    have dA : wr.cell? ⟨g, a, none⟩ = some (.int .i64 ((n : Int) + 1)) := by rw [HFW.out.cellAt a (by omega), partsL_at _ has, HDA.out]
                    have hwn1 : IntKind.i64.wrap (n : Int) = (n : Int) := IntWalk.i64_in _ (by omega)
                    have hwn2 : IntKind.i64.wrap ((n : Int) + 1 - 1) = (n : Int) := by rw [IntWalk.i64_in _ (by omega)]; omega
                    have hWD0 := Lib.hid (show ∃ m, wr = wp.drewN m from ⟨m, hwr.out⟩)
                    have hDA2 : D (a : Int) = (n : Int) + 1 := HDA.out
                    clear c1' c2' hen hix hmem HSD
                    go_wp2_with fail
                    go_quiet (fail)
                    obtain ⟨W1, hW1⟩ : ∃ x, x = wr.drewN nq := ⟨_, rfl⟩
                    have q1_1 : W1.cell? ⟨ga, off + ix * 7 + 1, none⟩ = some (.int .i64 (fn : Int)) := by rw [hW1]; exact q1
                    have q2_1 : W1.cell? ⟨ga, off + ix * 7 + 2, none⟩ = some (.int .i64 (tn : Int)) := by rw [hW1]; exact q2
                    have dF_1 : W1.cell? ⟨g, fn, none⟩ = some (.int .i64 (D fn)) := by rw [hW1]; exact dF
                    have dT_1 : W1.cell? ⟨g, tn, none⟩ = some (.int .i64 (D tn)) := by rw [hW1]; exact dT
                    have dA_1 : W1.cell? ⟨g, a, none⟩ = some (.int .i64 ((n : Int) + 1)) := by rw [hW1]; exact dA
                    have hcl_1 : W1.cell? ⟨fb, fo + i, none⟩ = some (.int .i64 (ix : Int)) := by rw [hW1]; exact hcl
                    have hm1_1 : W1.cell? ⟨b, 1, none⟩ = some (.slice (some ⟨ga, off, none⟩) xs.length cap) := by rw [hW1]; exact hm1
                    have hWD1 := Lib.hid (show ∃ m, W1 = wp.drewN m from by obtain ⟨m, hm⟩ := hWD0.out; exact ⟨m + nq, by rw [hW1, hm]; exact World.drewN_drewN _ _ _⟩)
                    rw [← hW1]
                    clear hW1 q1 q2 dF dT dA hcl hm1
                    by_cases c1 : fn = a
                    · by_cases c2 : D (tn : Int) = (n : Int)
                      · have HHT := Lib.hid (show hit D a (endsOf xs (ix : Int)) = some true by unfold hit; rw [HGD.out, if_pos ⟨by simp only; omega, by simp only; omega⟩])
                        have HDE : D (tn : Int) = (n : Int) := c2
                        have e1 : ((fn : Int) == (a : Int)) = true := by simp; omega
                        have e2 : (D (tn : Int) == (n : Int)) = true := by simp [c2]
                        go_wp2_with fail
                        go_quiet (fail)
                        obtain ⟨W2, hW2⟩ : ∃ x, x = W1.drewN nq := ⟨_, rfl⟩
                        have q1_2 : W2.cell? ⟨ga, off + ix * 7 + 1, none⟩ = some (.int .i64 (fn : Int)) := by rw [hW2]; exact q1_1
                        have q2_2 : W2.cell? ⟨ga, off + ix * 7 + 2, none⟩ = some (.int .i64 (tn : Int)) := by rw [hW2]; exact q2_1
                        have dF_2 : W2.cell? ⟨g, fn, none⟩ = some (.int .i64 (D fn)) := by rw [hW2]; exact dF_1
                        have dT_2 : W2.cell? ⟨g, tn, none⟩ = some (.int .i64 (D tn)) := by rw [hW2]; exact dT_1
                        have dA_2 : W2.cell? ⟨g, a, none⟩ = some (.int .i64 ((n : Int) + 1)) := by rw [hW2]; exact dA_1
                        have hcl_2 : W2.cell? ⟨fb, fo + i, none⟩ = some (.int .i64 (ix : Int)) := by rw [hW2]; exact hcl_1
                        have hm1_2 : W2.cell? ⟨b, 1, none⟩ = some (.slice (some ⟨ga, off, none⟩) xs.length cap) := by rw [hW2]; exact hm1_1
                        have hWD2 := Lib.hid (show ∃ m, W2 = wp.drewN m from by obtain ⟨m, hm⟩ := hWD1.out; exact ⟨m + nq, by rw [hW2, hm]; exact World.drewN_drewN _ _ _⟩)
                        rw [← hW2]
                        clear hW2 q1_1 q2_1 dF_1 dT_1 dA_1 hcl_1 hm1_1
                        have HST2 := Lib.hid (show stp (endsOf xs) D a ls = some ((ix : Int), true) from HSL.out.trans (stp_hit HHT.out))
                        have HPN := Lib.hid (show pathN (endsOf xs) D ls (n + 1) a = ((ix : Int) + 1) :: pathN (endsOf xs) D ls n (tn : Int) by
                          rw [pathN_step HST2.out]
                          unfold sgnZ endZ
                          rw [HGD.out]
                          simp)
                        obtain ⟨mm, hmm⟩ := hWD2.out
                        have HOPk := Lib.hid (show W2.ownsRow wo.heap.size 2 1 u15 pre.length (intsV pre) by rw [hmm]; exact HOP.out)
                        have HFk := Lib.hid (show W2.ownsRow w.heap.size 2 1 (.slice (some ⟨g, 0, none⟩) s gcap) s (intsV (partsL s D)) by rw [hmm]; exact HFR.out)
                        have HBk := Lib.hid (show Below w.heap.size w W2 by rw [hmm]; exact below_drewN' HBP.out _)
                        have HBo := Lib.hid (show Below wo.heap.size wo W2 by rw [hmm]; exact below_drewN' HBQ.out _)
                        clear hmm
                        have hwz := HBo.out.size
                        have hwix : IntKind.i64.wrap ((ix : Int) + 1) = (ix : Int) + 1 := IntWalk.i64_in _ (by omega)
                        have hwix2 : IntKind.i64.wrap (-(ix : Int)) = -(ix : Int) := IntWalk.i64_in _ (by omega)
                        have hwix3 : IntKind.i64.wrap (-(ix : Int) - 1) = -(ix : Int) - 1 := IntWalk.i64_in _ (by omega)
                        go_wp2_with (at_builtin; refine wpList_append_own _ rfl _ _ 30 rfl wo.heap.size 2 i0 (.int .i64 0) 1 8 Try.underlying30 hi hz0 hz1 hz2 rfl (by decide) _ _ _ rfl (HOPk.out.alloc _) ⟨W2.heap.size, 0, none⟩ 1 1 [.int .i64 ((ix : Int) + 1)] rfl rfl ?c1z ?c2z ?c3z ?c4z ?c5z ?_)
                        try (case c1z => intro j u hj; match j, hj with | 0, hj => (simp at hj; subst hj; simp [Addr.add]) | j + 1, hj => (simp at hj))
                        try (case c2z => simp [Value.oneCell'])
                        try (case c3z => unfold maxLen; omega)
                        try (case c4z => omega)
                        try (case c5z => first | omega | (simp; omega))
                        intro v3 w3 ho3 hg3 _
                        have HO3 := Lib.hid (show w3.ownsRow wo.heap.size 2 1 v3 (pre ++ [(ix : Int) + 1]).length (intsV (pre ++ [(ix : Int) + 1])) by rw [List.length_append, ints_snocY]; exact ho3)
                        have HB3o := Lib.hid (show Below wo.heap.size wo w3 from (HBo.out.alloc HBo.out.size _).grown hg3 (by simp; omega) (fun k hk => (HOPk.out.lt k hk).1))
                        have HB3 := Lib.hid (show Below w.heap.size w w3 from (HBk.out.alloc HBk.out.size _).grown hg3 (by simp; omega) (fun k hk => Nat.le_trans hwo (HOPk.out.lt k hk).1))
                        have HF3 := Lib.hid (show w3.ownsRow w.heap.size 2 1 (.slice (some ⟨g, 0, none⟩) s gcap) s (intsV (partsL s D)) from HFA.out w3 HB3o.out)
                        have p1 : w3.cell? ⟨ga, off + ix * 7 + 1, none⟩ = some (.int .i64 (fn : Int)) := (HB3.out.cell (p := ⟨ga, off + ix * 7 + 1, none⟩) hgal).trans HQ1.out
                        have p2 : w3.cell? ⟨ga, off + ix * 7 + 2, none⟩ = some (.int .i64 (tn : Int)) := (HB3.out.cell (p := ⟨ga, off + ix * 7 + 2, none⟩) hgal).trans HQ2.out
                        clear ho3 hg3 q1_2 q2_2 dF_2 dT_2 dA_2 hcl_2 hm1_2
                        go_wp2
                        go_roundw
                        case rel => exact ⟨n, tn, pre ++ [(ix : Int) + 1], rfl, ht1, Lib.hid HDE, Lib.hid (by rw [← HPT.out, HPN.out, List.append_assoc]; rfl), by rw [List.length_append]; simp only [List.length_cons, List.length_nil]; omega, HO3.out, HF3, HB3, HB3o⟩
                        case measure => simp only [intOf]; rw [HDE, HDA.out]; omega
                      · have HHT := Lib.hid (show hit D a (endsOf xs (ix : Int)) = none by unfold hit; rw [HGD.out, if_neg (fun h => c2 (by have := h.2; simp only at this; omega)), if_neg (fun h => by have := h.1; simp only at this; omega)])
                        have e1 : ((fn : Int) == (a : Int)) = true := by simp; omega
                        have e2 : (D (tn : Int) == (n : Int)) = false := by simp [c2]
                        have e3 : ((tn : Int) == (a : Int)) = false := by simp; omega
                        have e3b : ¬ (tn : Int) = (a : Int) := by omega
                        go_wp2_with fail
                        go_quiet (fail)
                        obtain ⟨W2, hW2⟩ : ∃ x, x = W1.drewN nq := ⟨_, rfl⟩
                        have q1_2 : W2.cell? ⟨ga, off + ix * 7 + 1, none⟩ = some (.int .i64 (fn : Int)) := by rw [hW2]; exact q1_1
                        have q2_2 : W2.cell? ⟨ga, off + ix * 7 + 2, none⟩ = some (.int .i64 (tn : Int)) := by rw [hW2]; exact q2_1
                        have dF_2 : W2.cell? ⟨g, fn, none⟩ = some (.int .i64 (D fn)) := by rw [hW2]; exact dF_1
                        have dT_2 : W2.cell? ⟨g, tn, none⟩ = some (.int .i64 (D tn)) := by rw [hW2]; exact dT_1
                        have dA_2 : W2.cell? ⟨g, a, none⟩ = some (.int .i64 ((n : Int) + 1)) := by rw [hW2]; exact dA_1
                        have hcl_2 : W2.cell? ⟨fb, fo + i, none⟩ = some (.int .i64 (ix : Int)) := by rw [hW2]; exact hcl_1
                        have hm1_2 : W2.cell? ⟨b, 1, none⟩ = some (.slice (some ⟨ga, off, none⟩) xs.length cap) := by rw [hW2]; exact hm1_1
                        have hWD2 := Lib.hid (show ∃ m, W2 = wp.drewN m from by obtain ⟨m, hm⟩ := hWD1.out; exact ⟨m + nq, by rw [hW2, hm]; exact World.drewN_drewN _ _ _⟩)
                        rw [← hW2]
                        clear hW2 q1_1 q2_1 dF_1 dT_1 dA_1 hcl_1 hm1_1
                        go_wp2_with fail
                        go_quiet (fail)
                        obtain ⟨W3, hW3⟩ : ∃ x, x = W2.drewN nq := ⟨_, rfl⟩
                        have q1_3 : W3.cell? ⟨ga, off + ix * 7 + 1, none⟩ = some (.int .i64 (fn : Int)) := by rw [hW3]; exact q1_2
                        have q2_3 : W3.cell? ⟨ga, off + ix * 7 + 2, none⟩ = some (.int .i64 (tn : Int)) := by rw [hW3]; exact q2_2
                        have dF_3 : W3.cell? ⟨g, fn, none⟩ = some (.int .i64 (D fn)) := by rw [hW3]; exact dF_2
                        have dT_3 : W3.cell? ⟨g, tn, none⟩ = some (.int .i64 (D tn)) := by rw [hW3]; exact dT_2
                        have dA_3 : W3.cell? ⟨g, a, none⟩ = some (.int .i64 ((n : Int) + 1)) := by rw [hW3]; exact dA_2
                        have hcl_3 : W3.cell? ⟨fb, fo + i, none⟩ = some (.int .i64 (ix : Int)) := by rw [hW3]; exact hcl_2
                        have hm1_3 : W3.cell? ⟨b, 1, none⟩ = some (.slice (some ⟨ga, off, none⟩) xs.length cap) := by rw [hW3]; exact hm1_2
                        have hWD3 := Lib.hid (show ∃ m, W3 = wp.drewN m from by obtain ⟨m, hm⟩ := hWD2.out; exact ⟨m + nq, by rw [hW3, hm]; exact World.drewN_drewN _ _ _⟩)
                        rw [← hW3]
                        clear hW3 q1_2 q2_2 dF_2 dT_2 dA_2 hcl_2 hm1_2
                        go_wp2
                        go_roundw
                        case rel => obtain ⟨mm, hmm⟩ := hWD3.out; exact ⟨i + 1, mm, by omega, by go_num, rfl, rfl, Lib.hid (HSL.out.trans (stp_miss HHT.out)), Lib.hid hmm⟩
                        case measure => simp [intOf]; omega
                    · by_cases c3 : tn = a
                      · by_cases c4 : D (fn : Int) = (n : Int)
                        · have HHT := Lib.hid (show hit D a (endsOf xs (ix : Int)) = some false by unfold hit; rw [HGD.out, if_neg (fun h => c1 (by have := h.1; simp only at this; omega)), if_pos ⟨by simp only; omega, by simp only; omega⟩])
                          have HDE : D (fn : Int) = (n : Int) := c4
                          have e1 : ((fn : Int) == (a : Int)) = false := by simp; omega
                          have e1b : ¬ (fn : Int) = (a : Int) := by omega
                          have e3 : ((tn : Int) == (a : Int)) = true := by simp; omega
                          have e4 : (D (fn : Int) == (n : Int)) = true := by simp [c4]
                          go_wp2_with fail
                          go_quiet (fail)
                          obtain ⟨W2, hW2⟩ : ∃ x, x = W1.drewN nq := ⟨_, rfl⟩
                          have q1_2 : W2.cell? ⟨ga, off + ix * 7 + 1, none⟩ = some (.int .i64 (fn : Int)) := by rw [hW2]; exact q1_1
                          have q2_2 : W2.cell? ⟨ga, off + ix * 7 + 2, none⟩ = some (.int .i64 (tn : Int)) := by rw [hW2]; exact q2_1
                          have dF_2 : W2.cell? ⟨g, fn, none⟩ = some (.int .i64 (D fn)) := by rw [hW2]; exact dF_1
                          have dT_2 : W2.cell? ⟨g, tn, none⟩ = some (.int .i64 (D tn)) := by rw [hW2]; exact dT_1
                          have dA_2 : W2.cell? ⟨g, a, none⟩ = some (.int .i64 ((n : Int) + 1)) := by rw [hW2]; exact dA_1
                          have hcl_2 : W2.cell? ⟨fb, fo + i, none⟩ = some (.int .i64 (ix : Int)) := by rw [hW2]; exact hcl_1
                          have hm1_2 : W2.cell? ⟨b, 1, none⟩ = some (.slice (some ⟨ga, off, none⟩) xs.length cap) := by rw [hW2]; exact hm1_1
                          have hWD2 := Lib.hid (show ∃ m, W2 = wp.drewN m from by obtain ⟨m, hm⟩ := hWD1.out; exact ⟨m + nq, by rw [hW2, hm]; exact World.drewN_drewN _ _ _⟩)
                          rw [← hW2]
                          clear hW2 q1_1 q2_1 dF_1 dT_1 dA_1 hcl_1 hm1_1
                          go_wp2_with fail
                          go_quiet (fail)
                          obtain ⟨W3, hW3⟩ : ∃ x, x = W2.drewN nq := ⟨_, rfl⟩
                          have q1_3 : W3.cell? ⟨ga, off + ix * 7 + 1, none⟩ = some (.int .i64 (fn : Int)) := by rw [hW3]; exact q1_2
                          have q2_3 : W3.cell? ⟨ga, off + ix * 7 + 2, none⟩ = some (.int .i64 (tn : Int)) := by rw [hW3]; exact q2_2
                          have dF_3 : W3.cell? ⟨g, fn, none⟩ = some (.int .i64 (D fn)) := by rw [hW3]; exact dF_2
                          have dT_3 : W3.cell? ⟨g, tn, none⟩ = some (.int .i64 (D tn)) := by rw [hW3]; exact dT_2
                          have dA_3 : W3.cell? ⟨g, a, none⟩ = some (.int .i64 ((n : Int) + 1)) := by rw [hW3]; exact dA_2
                          have hcl_3 : W3.cell? ⟨fb, fo + i, none⟩ = some (.int .i64 (ix : Int)) := by rw [hW3]; exact hcl_2
                          have hm1_3 : W3.cell? ⟨b, 1, none⟩ = some (.slice (some ⟨ga, off, none⟩) xs.length cap) := by rw [hW3]; exact hm1_2
                          have hWD3 := Lib.hid (show ∃ m, W3 = wp.drewN m from by obtain ⟨m, hm⟩ := hWD2.out; exact ⟨m + nq, by rw [hW3, hm]; exact World.drewN_drewN _ _ _⟩)
                          rw [← hW3]
                          clear hW3 q1_2 q2_2 dF_2 dT_2 dA_2 hcl_2 hm1_2
                          have HST2 := Lib.hid (show stp (endsOf xs) D a ls = some ((ix : Int), false) from HSL.out.trans (stp_hit HHT.out))
                          have HPN := Lib.hid (show pathN (endsOf xs) D ls (n + 1) a = (-(ix : Int) - 1) :: pathN (endsOf xs) D ls n (fn : Int) by
                            rw [pathN_step HST2.out]
                            unfold sgnZ endZ
                            rw [HGD.out]
                            simp)
                          obtain ⟨mm, hmm⟩ := hWD3.out
                          have HOPk := Lib.hid (show W3.ownsRow wo.heap.size 2 1 u15 pre.length (intsV pre) by rw [hmm]; exact HOP.out)
                          have HFk := Lib.hid (show W3.ownsRow w.heap.size 2 1 (.slice (some ⟨g, 0, none⟩) s gcap) s (intsV (partsL s D)) by rw [hmm]; exact HFR.out)
                          have HBk := Lib.hid (show Below w.heap.size w W3 by rw [hmm]; exact below_drewN' HBP.out _)
                          have HBo := Lib.hid (show Below wo.heap.size wo W3 by rw [hmm]; exact below_drewN' HBQ.out _)
                          clear hmm
                          have hwz := HBo.out.size
                          have hwix : IntKind.i64.wrap ((ix : Int) + 1) = (ix : Int) + 1 := IntWalk.i64_in _ (by omega)
                          have hwix2 : IntKind.i64.wrap (-(ix : Int)) = -(ix : Int) := IntWalk.i64_in _ (by omega)
                          have hwix3 : IntKind.i64.wrap (-(ix : Int) - 1) = -(ix : Int) - 1 := IntWalk.i64_in _ (by omega)
                          go_wp2_with (at_builtin; refine wpList_append_own _ rfl _ _ 30 rfl wo.heap.size 2 i0 (.int .i64 0) 1 8 Try.underlying30 hi hz0 hz1 hz2 rfl (by decide) _ _ _ rfl (HOPk.out.alloc _) ⟨W3.heap.size, 0, none⟩ 1 1 [.int .i64 (-(ix : Int) - 1)] rfl rfl ?c1z ?c2z ?c3z ?c4z ?c5z ?_)
                          try (case c1z => intro j u hj; match j, hj with | 0, hj => (simp at hj; subst hj; simp [Addr.add]) | j + 1, hj => (simp at hj))
                          try (case c2z => simp [Value.oneCell'])
                          try (case c3z => unfold maxLen; omega)
                          try (case c4z => omega)
                          try (case c5z => first | omega | (simp; omega))
                          intro v3 w3 ho3 hg3 _
                          have HO3 := Lib.hid (show w3.ownsRow wo.heap.size 2 1 v3 (pre ++ [-(ix : Int) - 1]).length (intsV (pre ++ [-(ix : Int) - 1])) by rw [List.length_append, ints_snocY]; exact ho3)
                          have HB3o := Lib.hid (show Below wo.heap.size wo w3 from (HBo.out.alloc HBo.out.size _).grown hg3 (by simp; omega) (fun k hk => (HOPk.out.lt k hk).1))
                          have HB3 := Lib.hid (show Below w.heap.size w w3 from (HBk.out.alloc HBk.out.size _).grown hg3 (by simp; omega) (fun k hk => Nat.le_trans hwo (HOPk.out.lt k hk).1))
                          have HF3 := Lib.hid (show w3.ownsRow w.heap.size 2 1 (.slice (some ⟨g, 0, none⟩) s gcap) s (intsV (partsL s D)) from HFA.out w3 HB3o.out)
                          have p1 : w3.cell? ⟨ga, off + ix * 7 + 1, none⟩ = some (.int .i64 (fn : Int)) := (HB3.out.cell (p := ⟨ga, off + ix * 7 + 1, none⟩) hgal).trans HQ1.out
                          have p2 : w3.cell? ⟨ga, off + ix * 7 + 2, none⟩ = some (.int .i64 (tn : Int)) := (HB3.out.cell (p := ⟨ga, off + ix * 7 + 2, none⟩) hgal).trans HQ2.out
                          clear ho3 hg3 q1_3 q2_3 dF_3 dT_3 dA_3 hcl_3 hm1_3
                          go_wp2
                          go_roundw
                          case rel => exact ⟨n, fn, pre ++ [-(ix : Int) - 1], rfl, hf1, Lib.hid HDE, Lib.hid (by rw [← HPT.out, HPN.out, List.append_assoc]; rfl), by rw [List.length_append]; simp only [List.length_cons, List.length_nil]; omega, HO3.out, HF3, HB3, HB3o⟩
                          case measure => simp only [intOf]; rw [HDE, HDA.out]; omega
                        · have HHT := Lib.hid (show hit D a (endsOf xs (ix : Int)) = none by unfold hit; rw [HGD.out, if_neg (fun h => c1 (by have := h.1; simp only at this; omega)), if_neg (fun h => c4 (by have := h.2; simp only at this; omega))])
                          have e1 : ((fn : Int) == (a : Int)) = false := by simp; omega
                          have e1b : ¬ (fn : Int) = (a : Int) := by omega
                          have e3 : ((tn : Int) == (a : Int)) = true := by simp; omega
                          have e4 : (D (fn : Int) == (n : Int)) = false := by simp [c4]
                          go_wp2_with fail
                          go_quiet (fail)
                          obtain ⟨W2, hW2⟩ : ∃ x, x = W1.drewN nq := ⟨_, rfl⟩
                          have q1_2 : W2.cell? ⟨ga, off + ix * 7 + 1, none⟩ = some (.int .i64 (fn : Int)) := by rw [hW2]; exact q1_1
                          have q2_2 : W2.cell? ⟨ga, off + ix * 7 + 2, none⟩ = some (.int .i64 (tn : Int)) := by rw [hW2]; exact q2_1
                          have dF_2 : W2.cell? ⟨g, fn, none⟩ = some (.int .i64 (D fn)) := by rw [hW2]; exact dF_1
                          have dT_2 : W2.cell? ⟨g, tn, none⟩ = some (.int .i64 (D tn)) := by rw [hW2]; exact dT_1
                          have dA_2 : W2.cell? ⟨g, a, none⟩ = some (.int .i64 ((n : Int) + 1)) := by rw [hW2]; exact dA_1
                          have hcl_2 : W2.cell? ⟨fb, fo + i, none⟩ = some (.int .i64 (ix : Int)) := by rw [hW2]; exact hcl_1
                          have hm1_2 : W2.cell? ⟨b, 1, none⟩ = some (.slice (some ⟨ga, off, none⟩) xs.length cap) := by rw [hW2]; exact hm1_1
                          have hWD2 := Lib.hid (show ∃ m, W2 = wp.drewN m from by obtain ⟨m, hm⟩ := hWD1.out; exact ⟨m + nq, by rw [hW2, hm]; exact World.drewN_drewN _ _ _⟩)
                          rw [← hW2]
                          clear hW2 q1_1 q2_1 dF_1 dT_1 dA_1 hcl_1 hm1_1
                          go_wp2_with fail
                          go_quiet (fail)
                          obtain ⟨W3, hW3⟩ : ∃ x, x = W2.drewN nq := ⟨_, rfl⟩
                          have q1_3 : W3.cell? ⟨ga, off + ix * 7 + 1, none⟩ = some (.int .i64 (fn : Int)) := by rw [hW3]; exact q1_2
                          have q2_3 : W3.cell? ⟨ga, off + ix * 7 + 2, none⟩ = some (.int .i64 (tn : Int)) := by rw [hW3]; exact q2_2
                          have dF_3 : W3.cell? ⟨g, fn, none⟩ = some (.int .i64 (D fn)) := by rw [hW3]; exact dF_2
                          have dT_3 : W3.cell? ⟨g, tn, none⟩ = some (.int .i64 (D tn)) := by rw [hW3]; exact dT_2
                          have dA_3 : W3.cell? ⟨g, a, none⟩ = some (.int .i64 ((n : Int) + 1)) := by rw [hW3]; exact dA_2
                          have hcl_3 : W3.cell? ⟨fb, fo + i, none⟩ = some (.int .i64 (ix : Int)) := by rw [hW3]; exact hcl_2
                          have hm1_3 : W3.cell? ⟨b, 1, none⟩ = some (.slice (some ⟨ga, off, none⟩) xs.length cap) := by rw [hW3]; exact hm1_2
                          have hWD3 := Lib.hid (show ∃ m, W3 = wp.drewN m from by obtain ⟨m, hm⟩ := hWD2.out; exact ⟨m + nq, by rw [hW3, hm]; exact World.drewN_drewN _ _ _⟩)
                          rw [← hW3]
                          clear hW3 q1_2 q2_2 dF_2 dT_2 dA_2 hcl_2 hm1_2
                          go_wp2
                          go_roundw
                          case rel => obtain ⟨mm, hmm⟩ := hWD3.out; exact ⟨i + 1, mm, by omega, by go_num, rfl, rfl, Lib.hid (HSL.out.trans (stp_miss HHT.out)), Lib.hid hmm⟩
                          case measure => simp [intOf]; omega
                      · have HHT := Lib.hid (show hit D a (endsOf xs (ix : Int)) = none by unfold hit; rw [HGD.out, if_neg (fun h => c1 (by have := h.1; simp only at this; omega)), if_neg (fun h => c3 (by have := h.1; simp only at this; omega))])
                        have e1 : ((fn : Int) == (a : Int)) = false := by simp; omega
                        have e1b : ¬ (fn : Int) = (a : Int) := by omega
                        have e3 : ((tn : Int) == (a : Int)) = false := by simp; omega
                        have e3b : ¬ (tn : Int) = (a : Int) := by omega
                        go_wp2_with fail
                        go_quiet (fail)
                        obtain ⟨W2, hW2⟩ : ∃ x, x = W1.drewN nq := ⟨_, rfl⟩
                        have q1_2 : W2.cell? ⟨ga, off + ix * 7 + 1, none⟩ = some (.int .i64 (fn : Int)) := by rw [hW2]; exact q1_1
                        have q2_2 : W2.cell? ⟨ga, off + ix * 7 + 2, none⟩ = some (.int .i64 (tn : Int)) := by rw [hW2]; exact q2_1
                        have dF_2 : W2.cell? ⟨g, fn, none⟩ = some (.int .i64 (D fn)) := by rw [hW2]; exact dF_1
                        have dT_2 : W2.cell? ⟨g, tn, none⟩ = some (.int .i64 (D tn)) := by rw [hW2]; exact dT_1
                        have dA_2 : W2.cell? ⟨g, a, none⟩ = some (.int .i64 ((n : Int) + 1)) := by rw [hW2]; exact dA_1
                        have hcl_2 : W2.cell? ⟨fb, fo + i, none⟩ = some (.int .i64 (ix : Int)) := by rw [hW2]; exact hcl_1
                        have hm1_2 : W2.cell? ⟨b, 1, none⟩ = some (.slice (some ⟨ga, off, none⟩) xs.length cap) := by rw [hW2]; exact hm1_1
                        have hWD2 := Lib.hid (show ∃ m, W2 = wp.drewN m from by obtain ⟨m, hm⟩ := hWD1.out; exact ⟨m + nq, by rw [hW2, hm]; exact World.drewN_drewN _ _ _⟩)
                        rw [← hW2]
                        clear hW2 q1_1 q2_1 dF_1 dT_1 dA_1 hcl_1 hm1_1
                        go_wp2_with fail
                        go_quiet (fail)
                        obtain ⟨W3, hW3⟩ : ∃ x, x = W2.drewN nq := ⟨_, rfl⟩
                        have q1_3 : W3.cell? ⟨ga, off + ix * 7 + 1, none⟩ = some (.int .i64 (fn : Int)) := by rw [hW3]; exact q1_2
                        have q2_3 : W3.cell? ⟨ga, off + ix * 7 + 2, none⟩ = some (.int .i64 (tn : Int)) := by rw [hW3]; exact q2_2
                        have dF_3 : W3.cell? ⟨g, fn, none⟩ = some (.int .i64 (D fn)) := by rw [hW3]; exact dF_2
                        have dT_3 : W3.cell? ⟨g, tn, none⟩ = some (.int .i64 (D tn)) := by rw [hW3]; exact dT_2
                        have dA_3 : W3.cell? ⟨g, a, none⟩ = some (.int .i64 ((n : Int) + 1)) := by rw [hW3]; exact dA_2
                        have hcl_3 : W3.cell? ⟨fb, fo + i, none⟩ = some (.int .i64 (ix : Int)) := by rw [hW3]; exact hcl_2
                        have hm1_3 : W3.cell? ⟨b, 1, none⟩ = some (.slice (some ⟨ga, off, none⟩) xs.length cap) := by rw [hW3]; exact hm1_2
                        have hWD3 := Lib.hid (show ∃ m, W3 = wp.drewN m from by obtain ⟨m, hm⟩ := hWD2.out; exact ⟨m + nq, by rw [hW3, hm]; exact World.drewN_drewN _ _ _⟩)
                        rw [← hW3]
                        clear hW3 q1_2 q2_2 dF_2 dT_2 dA_2 hcl_2 hm1_2
                        go_wp2
                        go_roundw
                        case rel => obtain ⟨mm, hmm⟩ := hWD3.out; exact ⟨i + 1, mm, by omega, by go_num, rfl, rfl, Lib.hid (HSL.out.trans (stp_miss HHT.out)), Lib.hid hmm⟩
                        case measure => simp [intOf]; omega
                  · exfalso
                    have h1 := HSD.out
                    rw [HST.out, List.drop_of_length_le (by omega)] at h1
                    cases h1
          · have HE := Lib.hid (HEN.out h0)
            have h0d : decide (D (frn : Int) < 0) = true := decide_eq_true (by omega)
            have h0n : D (frn : Int) < 0 := by omega
            have hdt : decide (0 ≤ D (frn : Int)) = false := decide_eq_false h0
            have HDT := Lib.hid hdt
            clear hdt
            go_wp2
            go_ret2
            exact ⟨_, by first | rfl | exact ret_wb (by rw [HDD.out, HDT.out]) | exact ret_wb HDT.out.symm, by first | (rw [HRR.out, HE.out]; exact World.ownsRow_nil _ _ _ _) | (rw [HE.out]; exact World.ownsRow_nil _ _ _ _), HBF.out⟩
end Go.Proofs.Ytjooebiiceillaa
