/-
  Contracts of chapter 4: distances through open airways; the program's. Conditions: those that each theorem states.
-/
import Derived.Test.YtjooebiiceillaaUk
import Derived.Test.YtjooebiiceillaaUj
import Derived.Test.YtjooebiiceillaaYf
import Derived.Test.YtjooebiiceillaaQl
namespace Go.Proofs.Ytjooebiiceillaa
open Go.RowKit
set_option linter.unusedVariables false
set_option linter.unusedSimpArgs false

theorem beyond_any (s : ByteArray) (f t l se fr sh x : Int) (w : World) (hf : 0 ≤ f ∧ f ≤ 1000) (ht : 0 ≤ t ∧ t ≤ 1000) (hx : 0 ≤ x ∧ x ≤ 1000) :
    Calls Try.prog 122 #[.agg #[.string s, .int .i64 f, .int .i64 t, .int .i64 l, .int .i64 se, .int .i64 fr, .int .i64 sh], .int .i64 x] w fun e w' => e = .returned (.int .i64 (f + t - x)) ∧ Below w.heap.size w w' := by
  have hw1 : IntKind.i64.wrap (f + t) = f + t := IntWalk.i64_in _ (by omega)
  have hw2 : IntKind.i64.wrap (f + t - x) = f + t - x := IntWalk.i64_in _ (by omega)
  go_enter Try.func122, Try.ntmps122
  go_wp2
  go_ret
  exact ⟨rfl, (by repeat (first | (with_reducible exact Below.refl _ _) | (with_reducible refine below_drewN' ?_ _) | (with_reducible refine Below.alloc ?_ (by simp <;> omega) _) | (with_reducible refine Below.setCell ?_ (by simp) _)))⟩
/-- Whether an airway has an end at a junction. -/
def endK (xs : List Aw) (x : Int) (k : Nat) : Bool := decide ((xs.getD k Aw.none).f = x) || decide ((xs.getD k Aw.none).t = x)
/-- The open airways at a junction. -/
def opnL (xs : List Aw) (op : Nat → Bool) (x : Int) : List Int := ixT (fun k => op k && endK xs x k) xs.length
theorem ixT_filter (op q : Nat → Bool) : ∀ n, ixT (fun k => op k && q k) n = (ixT op n).filter (fun y => q y.toNat)
  | 0 => rfl
  | n + 1 => by
    rw [ixT, ixT, ixT_filter op q n]
    cases h1 : op n <;> cases h2 : q n <;> simp [h2]
theorem opnL_filter (xs : List Aw) (op : Nat → Bool) (x : Int) : opnL xs op x = (ixT op xs.length).filter (fun k => decide ((endsOf xs k).1 = x) || decide ((endsOf xs k).2 = x)) := ixT_filter op (endK xs x) xs.length
theorem opnL_mem {xs : List Aw} {op : Nat → Bool} {x y : Int} (h : y ∈ opnL xs op x) : (0 ≤ y ∧ y < (xs.length : Int)) ∧ endsOf xs y ∈ enL xs (ixT op xs.length) ∧ ((endsOf xs y).1 = x ∨ (endsOf xs y).2 = x) := by
  rw [opnL_filter, List.mem_filter] at h
  refine ⟨ixT_mem _ _ _ h.1, List.mem_map.2 ⟨y, h.1, rfl⟩, by simpa using h.2⟩
theorem opnL_len (xs : List Aw) (op : Nat → Bool) (x : Int) : (opnL xs op x).length ≤ xs.length := ixT_len _ _
/-- Who lies beside a junction is the other end of an open airway there. -/
theorem opnL_adj {xs : List Aw} {op : Nat → Bool} {x y : Int} (h : adj (enL xs (ixT op xs.length)) x y) : ∃ k : Nat, k < (opnL xs op x).length ∧ ((endsOf xs ((opnL xs op x).getD k 0)).1 + (endsOf xs ((opnL xs op x).getD k 0)).2 - x = y) := by
  have key : ∃ z, z ∈ opnL xs op x ∧ (endsOf xs z).1 + (endsOf xs z).2 - x = y := by
    rcases h with q | q
    · obtain ⟨z, hz, e⟩ := List.mem_map.1 q
      refine ⟨z, ?_, by rw [e]; simp only; omega⟩
      rw [opnL_filter, List.mem_filter]
      exact ⟨hz, by rw [e]; simp⟩
    · obtain ⟨z, hz, e⟩ := List.mem_map.1 q
      refine ⟨z, ?_, by rw [e]; simp only; omega⟩
      rw [opnL_filter, List.mem_filter]
      exact ⟨hz, by rw [e]; simp⟩
  obtain ⟨z, hz, e⟩ := key
  obtain ⟨k, hk, e2⟩ := List.mem_iff_getElem.1 hz
  exact ⟨k, hk, by rw [show (opnL xs op x).getD k 0 = z by simp [List.getD, hk, e2]]; exact e⟩
theorem own_off {w w' : World} {B : Nat} {v u : Value} {xs : List Int} (h : OwnI w B v xs) (hne : ∀ g, v.ownBlock = some g → u.ownBlock ≠ some g) (hg : w.grownBy w' u.ownBlock) : OwnI w' B v xs := by
  refine h.kept hg ?_
  cases e : v.ownBlock with
  | none => exact Or.inl rfl
  | some k => exact Or.inr fun e2 => hne k e e2.symm
theorem grown_setL (w : World) (p : Addr) (u : Value) : w.grownBy (w.setCell p u) (some p.block) :=
  ⟨rfl, rfl, rfl, by simp, fun k _ hk => heap_setCell_other w p k u (fun e => hk (by simp [e]))⟩
theorem own_setLow {w : World} {B : Nat} {v : Value} {xs : List Int} (h : OwnI w B v xs) {p : Addr} (hp : p.block < B) (u : Value) : OwnI (w.setCell p u) B v xs := by
  refine h.kept (grown_setL w p u) ?_
  cases e : v.ownBlock with
  | none => exact Or.inl rfl
  | some q =>
    refine Or.inr fun e2 => ?_
    have := (World.ownsRow.lt h q e).1
    injection e2 with e2
    omega
theorem encL_set {Jn b : Nat} {D : Int → Int} {d : Int} (h : b < Jn) (h0 : 0 ≤ d) : (intsV (partsL Jn (fun j => encD (D j)))).set b (.int .i64 d) = intsV (partsL Jn (fun j => encD (if j = (b : Int) then d else D j))) := by
  rw [partsL_set _ h]
  congr 2
  funext j
  by_cases e : j = (b : Int)
  · rw [if_pos e, if_pos e, encD_of h0]
  · rw [if_neg e, if_neg e]
set_option maxHeartbeats 8000000 in
set_option maxRecDepth 100000 in
theorem distancesTo_any (op : Nat → Bool) (Jn : Nat) (A : Option Addr) (cap : Nat) (CV : Value) (xs : List Aw) (ton : Nat) (w : World) (hr : AwR w A xs) (hok : mineOk (Jn : Int) xs = true) (htJ : ton < Jn) (hcv : CV.oneCell' = true)
    (HO : ∀ (W : World) (x : Nat), x < Jn → Below w.heap.size w W → Calls Try.prog 121 #[.agg #[.int .i64 (Jn : Int), .slice A xs.length cap, CV], .int .i64 (x : Int)] W fun e w' => ∃ v, e = .returned v ∧ OwnI w' W.heap.size v (opnL xs op x) ∧ Below W.heap.size W w') :
    Calls Try.prog 120 #[.agg #[.int .i64 (Jn : Int), .slice A xs.length cap, CV], .int .i64 (ton : Int)] w fun e w' => e = .returned (.slice (some ⟨w.heap.size + 1 + 1, 0, none⟩) Jn Jn) ∧ OwnI w' w.heap.size (.slice (some ⟨w.heap.size + 1 + 1, 0, none⟩) Jn Jn) (partsL Jn (fun j => encD (levD Jn xs (ixT op xs.length) ton j))) ∧ Below w.heap.size w w' := by
  obtain ⟨hj, -, hn⟩ := mineOk_iff.1 hok
  obtain ⟨i0, hi, hz0, hz1, hz2⟩ := info_parts info_i64
  have HBN := Lib.hid (below_box w (.cells #[.int .i64 (Jn : Int), .slice A xs.length cap, CV] 96))
  have HR := Lib.hid (hr.below HBN.out)
  have HOK := Lib.hid hok
  have HOP := Lib.hid HO
  have hNs : (w.alloc (.cells #[.int .i64 (Jn : Int), .slice A xs.length cap, CV] 96)).heap.size = w.heap.size + 1 := by simp
  have hW1s : ((w.alloc (.cells #[.int .i64 (Jn : Int), .slice A xs.length cap, CV] 96)).alloc (.cells #[.int .i64 16] 2)).heap.size = w.heap.size + 1 + 1 := by simp
  have HRP := Lib.hid (repeat_any (.slice (some ⟨w.heap.size + 1, 0, none⟩) 1 1) 16 Jn ((w.alloc (.cells #[.int .i64 (Jn : Int), .slice A xs.length cap, CV] 96)).alloc (.cells #[.int .i64 16] 2)) (row_here .i64 (w.alloc (.cells #[.int .i64 (Jn : Int), .slice A xs.length cap, CV] 96)) [16] 2 _ 1 1 (by simp) rfl) (by omega) (by omega))
  rw [hW1s] at HRP
  have HND := Lib.hid (levD_dist (ls := ixT op xs.length) (to := (ton : Int)) hok (fun y hy => ixT_mem _ _ _ hy) (by omega))
  have k0 : (w.alloc (.cells #[.int .i64 (Jn : Int), .slice A xs.length cap, CV] 96)).cell? ⟨w.heap.size, 0, none⟩ = some (.int .i64 (Jn : Int)) := by simp
  have k1 : (w.alloc (.cells #[.int .i64 (Jn : Int), .slice A xs.length cap, CV] 96)).cell? ⟨w.heap.size, 1, none⟩ = some (.slice A xs.length cap) := by simp
  have k2 : (w.alloc (.cells #[.int .i64 (Jn : Int), .slice A xs.length cap, CV] 96)).cell? ⟨w.heap.size, 2, none⟩ = some CV := by simp
  have HKN := Lib.hid (And.intro k0 (And.intro k1 k2))
  clear hr hok HO k0 k1 k2
  go_enter Try.func120, Try.ntmps120
  go_wp2_with fail
  (with_reducible refine (HRP.out).mono ?_)
  rintro e W2 ⟨rfl, hown, hb⟩
  have HB1 := Lib.hid (show Below (w.heap.size + 1) (w.alloc (.cells #[.int .i64 (Jn : Int), .slice A xs.length cap, CV] 96)) W2 from (show Below (w.heap.size + 1) (w.alloc (.cells #[.int .i64 (Jn : Int), .slice A xs.length cap, CV] 96)) ((w.alloc (.cells #[.int .i64 (Jn : Int), .slice A xs.length cap, CV] 96)).alloc (.cells #[.int .i64 16] 2)) from (Below.refl _ _).alloc (by simp) _).trans (hb.mono (by omega)))
  have d0 : W2.cell? ⟨w.heap.size + 1 + 1, ton, none⟩ = some (.int .i64 16) := by rw [hown.cellAt ton (by omega)]; simp [intsV, List.getElem?_replicate, htJ]
  have z0 := hown.frozenAt ton
  have hW2 : w.heap.size + 1 + 1 < W2.heap.size := World.block_lt_of_cell? _ _ d0
  have HL0 := Lib.hid (show OwnI (W2.setCell ⟨w.heap.size + 1 + 1, ton, none⟩ (.int .i64 0)) w.heap.size (.slice (some ⟨w.heap.size + 1 + 1, 0, none⟩) Jn Jn) (partsL Jn (fun j => encD (if j = (ton : Int) then 0 else -1))) by
    have h := (hown.stored ton (.int .i64 0)).1
    rw [show List.replicate Jn (16 : Int) = partsL Jn (fun j => encD ((fun _ => -1) j)) from (partsL_repl Jn 16).symm, encL_set (D := fun _ => -1) htJ (by omega)] at h
    exact own_leW (show OwnI _ (w.heap.size + 1 + 1) _ _ by unfold OwnI; rw [partsL_len]; exact h) (by omega))
  have hJt : (ton : Int) < (Jn : Int) := by omega
  clear hown hb
  go_wp2
  have hWR : (W2.setCell ⟨w.heap.size + 1 + 1, ton, none⟩ (.int .i64 0)).heap.size = W2.heap.size := by simp
  have HRW0 := Lib.hid (show OwnI ((W2.setCell ⟨w.heap.size + 1 + 1, ton, none⟩ (.int .i64 0)).alloc (.cells #[.int .i64 (ton : Int)] 2)) W2.heap.size (.slice (some ⟨W2.heap.size, 0, none⟩) 1 1) [(ton : Int)] by
    have h := World.ownsRow_lit (base := W2.heap.size) (e := 2) (size := 1) (W2.setCell ⟨w.heap.size + 1 + 1, ton, none⟩ (.int .i64 0)) #[.int .i64 (ton : Int)] 1 (by simp) (by unfold maxLen; omega) rfl
    rw [hWR] at h
    exact h)
  have HL1 := Lib.hid (HL0.out.below (below_box (W2.setCell ⟨w.heap.size + 1 + 1, ton, none⟩ (.int .i64 0)) (.cells #[.int .i64 (ton : Int)] 2)))
  have HB2 := Lib.hid (show Below (w.heap.size + 1) (w.alloc (.cells #[.int .i64 (Jn : Int), .slice A xs.length cap, CV] 96)) ((W2.setCell ⟨w.heap.size + 1 + 1, ton, none⟩ (.int .i64 0)).alloc (.cells #[.int .i64 (ton : Int)] 2)) from (HB1.out.setCell (p := ⟨w.heap.size + 1 + 1, ton, none⟩) (by show w.heap.size + 1 ≤ w.heap.size + 1 + 1; omega) _).alloc (by simp; omega) _)
  have HBR0 := Lib.hid (Brd.start (E := enL xs (ixT op xs.length)) (to := (ton : Int)) (J := Jn) (by omega))
  obtain ⟨B2, hB2e⟩ : ∃ B2, W2.heap.size = B2 := ⟨_, rfl⟩
  rw [hB2e] at HRW0 hW2
  have HB2E := Lib.hid hB2e
  clear hB2e
  clear d0 z0 HL0 hWR
  go_loopw [6, 7] (fun rv iv wr => ∃ (D : Int → Int) (rw_ : List Int) (i : Nat), i ≤ rw_.length ∧ rw_.length ≤ Jn ∧ iv = .int .i64 (i : Int) ∧ Hid (Brd (enL xs (ixT op xs.length)) ton Jn D rw_ i) ∧ (∃ ra rc, rv = .slice ra rw_.length rc) ∧ Hid (OwnI wr B2 rv rw_) ∧ Hid (OwnI wr w.heap.size (.slice (some ⟨w.heap.size + 1 + 1, 0, none⟩) Jn Jn) (partsL Jn (fun j => encD (D j)))) ∧ Hid (Below (w.heap.size + 1) (w.alloc (.cells #[.int .i64 (Jn : Int), .slice A xs.length cap, CV] 96)) wr)) (fun rv iv wr => Jn - (intOf iv).toNat)
  case atStart => exact ⟨_, [(ton : Int)], 0, by simp, by simp; omega, rfl, HBR0, ⟨_, _, rfl⟩, by rw [HB2E.out]; exact HRW0, HL1, HB2⟩
  case round =>
    obtain ⟨wo, rfl⟩ : ∃ wo : World, wo = wr := ⟨_, rfl⟩
    obtain ⟨D, rw_, i, hi', hrJ, rfl, HBR, ⟨ra, rc, rfl⟩, HRO, HLF, HBW⟩ := hrel
    by_cases hlt : i < rw_.length
    · obtain ⟨rb, ro, rfl, -, hcr⟩ := RowW.cell (RowW.of_ownI HRO.out) hlt
      have hin := HBR.out.inJ i hlt
      obtain ⟨hn_, hhn⟩ : ∃ h : Nat, rw_.getD i 0 = (h : Int) := ⟨(rw_.getD i 0).toNat, by omega⟩
      have HHN := Lib.hid hhn
      rw [hhn] at hcr hin
      have hhJ : hn_ < Jn := by omega
      have hhD := Lib.hid hin.2.2
      have b0 := (HBW.out.cell (p := ⟨w.heap.size, 0, none⟩) (by show w.heap.size < w.heap.size + 1; omega)).trans HKN.out.1
      have b1 := (HBW.out.cell (p := ⟨w.heap.size, 1, none⟩) (by show w.heap.size < w.heap.size + 1; omega)).trans HKN.out.2.1
      have b2 := (HBW.out.cell (p := ⟨w.heap.size, 2, none⟩) (by show w.heap.size < w.heap.size + 1; omega)).trans HKN.out.2.2
      have HBw := Lib.hid (show Below w.heap.size w wo from HBN.out.trans (HBW.out.mono (Nat.le_succ _)))
      have hlI : (i : Int) < (rw_.length : Int) := by omega
      have hhI : (hn_ : Int) < (Jn : Int) := by omega
      clear hhn hin
      go_wp2_with fail
      (with_reducible refine (HOP.out wo hn_ hhJ HBw.out).mono ?_)
      rintro e w3 ⟨vL, rfl, hol, hd3⟩
      obtain ⟨la, lc, rfl⟩ := hol.form
      have hwos : wo.heap.size ≤ w3.heap.size := hd3.size
      have HOL0 := Lib.hid hol
      have HRO3 := Lib.hid (HRO.out.below hd3)
      have HLF3 := Lib.hid (HLF.out.below hd3)
      have HB3 := Lib.hid (show Below (w.heap.size + 1) (w.alloc (.cells #[.int .i64 (Jn : Int), .slice A xs.length cap, CV] 96)) w3 from HBW.out.trans (hd3.mono (by have := HBW.out.size; rw [hNs] at this; exact this)))
      have HNE := Lib.hid (show ∀ g, (Value.slice la (opnL xs op (hn_ : Int)).length lc).ownBlock = some g → (Value.slice (some ⟨rb, ro, none⟩) rw_.length rc).ownBlock ≠ some g from fun g h1 h2 => by
        have a := (hol.lt g h1).1
        have b := (HRO.out.lt g h2).2
        omega)
      have hlen24 := opnL_len xs op (hn_ : Int)
      have HLM := Lib.hid (fun y (hy : y ∈ opnL xs op (hn_ : Int)) => opnL_mem hy)
      have HLA := Lib.hid (fun y (hy : adj (enL xs (ixT op xs.length)) (hn_ : Int) y) => opnL_adj hy)
      have HB2w := Lib.hid (show B2 ≤ wo.heap.size from by have := (HRO.out.lt rb rfl).2; have := (HRO.out.lt rb rfl).1; omega)
      clear hol hd3 b0 b1 b2 hcr
      obtain ⟨Lh, hLh⟩ : ∃ Lh, opnL xs op (hn_ : Int) = Lh := ⟨_, rfl⟩
      rw [hLh] at HOL0 HNE hlen24 HLM HLA ⊢
      clear hLh
      go_wp2
      go_loopw [6, 36] (fun rv kv wr => ∃ (D : Int → Int) (rw_ : List Int) (k : Nat), k ≤ Lh.length ∧ i < rw_.length ∧ rw_.length ≤ Jn ∧ kv = .int .i64 (k : Int) ∧ Hid (Brd (enL xs (ixT op xs.length)) ton Jn D rw_ i) ∧ Hid (rw_.getD i 0 = (hn_ : Int)) ∧ Hid (0 ≤ D (hn_ : Int)) ∧ (∃ ra rc, rv = .slice ra rw_.length rc) ∧ Hid (OwnI wr B2 rv rw_) ∧ Hid (OwnI wr w.heap.size (.slice (some ⟨w.heap.size + 1 + 1, 0, none⟩) Jn Jn) (partsL Jn (fun j => encD (D j)))) ∧ Hid (OwnI wr wo.heap.size (.slice la Lh.length lc) Lh) ∧ Hid (∀ g, (Value.slice la Lh.length lc).ownBlock = some g → rv.ownBlock ≠ some g) ∧ Hid (Below (w.heap.size + 1) (w.alloc (.cells #[.int .i64 (Jn : Int), .slice A xs.length cap, CV] 96)) wr) ∧ Hid (∀ q : Nat, q < k → 0 ≤ D ((endsOf xs (Lh.getD q 0)).1 + (endsOf xs (Lh.getD q 0)).2 - (hn_ : Int)))) (fun rv kv wr => Lh.length - (intOf kv).toNat)
      case atStart => exact ⟨D, rw_, 0, by omega, hlt, hrJ, rfl, HBR, HHN, hhD, ⟨_, _, rfl⟩, HRO3, HLF3, HOL0, HNE, HB3, Lib.hid (fun q h => absurd h (by omega))⟩
      case round =>
        clear HBR HHN hhD HRO HLF HBW HRO3 HLF3 HOL0 HNE HB3 hlt hrJ hlI hi'
        obtain ⟨D, rw_, k, hk, hlt, hrJ, rfl, HBR, HHN, hhD, ⟨ra, rc, rfl⟩, HRO, HLF, HOL, HNE, HBW, HPQ⟩ := hrel
        by_cases hkl : k < Lh.length
        · obtain ⟨lb, lo, rfl, -, hcl⟩ := RowW.cell (RowW.of_ownI HOL.out) hkl
          have hmem := HLM.out _ (show Lh.getD k 0 ∈ Lh by rw [show Lh.getD k 0 = Lh[k] by simp [List.getD, hkl]]; exact List.getElem_mem hkl)
          have HPQ1 := Lib.hid (fun (D' : Int → Int) (h : ∀ q : Nat, q < k → 0 ≤ D' ((endsOf xs (Lh.getD q 0)).1 + (endsOf xs (Lh.getD q 0)).2 - (hn_ : Int))) (h2 : 0 ≤ D' ((endsOf xs (Lh.getD k 0)).1 + (endsOf xs (Lh.getD k 0)).2 - (hn_ : Int))) => show ∀ q : Nat, q < k + 1 → 0 ≤ D' ((endsOf xs (Lh.getD q 0)).1 + (endsOf xs (Lh.getD q 0)).2 - (hn_ : Int)) from fun q hq => by
            by_cases e : q = k
            · subst e; exact h2
            · exact h q (by omega))
          obtain ⟨y, hy⟩ : ∃ y, Lh.getD k 0 = y := ⟨_, rfl⟩
          rw [hy] at hcl hmem HPQ1
          obtain ⟨ix, rfl⟩ : ∃ ix : Nat, y = ix := ⟨y.toNat, by omega⟩
          have hixl : ix < xs.length := by omega
          obtain ⟨ga, off, rfl, hrg⟩ := HR.out ix hixl
          obtain ⟨⟨c0, c1, c2, c3⟩, c4, c5, c6⟩ := lay_row hrg
          have hgal : ga < w.heap.size + 1 := by have := World.block_lt_of_cell? _ _ c0; rw [hNs] at this; exact this
          have hen := ends_in HOK.out hixl
          have HGD := Lib.hid (show endsOf xs (ix : Int) = (xs[ix].f, xs[ix].t) by unfold endsOf; rw [Int.toNat_natCast, getD_of_lt hixl])
          rw [HGD.out] at hmem HPQ1
          have e0 := (HBW.out.cell (p := ⟨ga, off + ix * 7, none⟩) hgal).trans c0
          have e1 := (HBW.out.cell (p := ⟨ga, off + ix * 7 + 1, none⟩) hgal).trans c1
          have e2 := (HBW.out.cell (p := ⟨ga, off + ix * 7 + 2, none⟩) hgal).trans c2
          have e3 := (HBW.out.cell (p := ⟨ga, off + ix * 7 + 3, none⟩) hgal).trans c3
          have e4 := (HBW.out.cell (p := ⟨ga, off + ix * 7 + 4, none⟩) hgal).trans c4
          have e5 := (HBW.out.cell (p := ⟨ga, off + ix * 7 + 5, none⟩) hgal).trans c5
          have e6 := (HBW.out.cell (p := ⟨ga, off + ix * 7 + 6, none⟩) hgal).trans c6
          have b1 := (HBW.out.cell (p := ⟨w.heap.size, 1, none⟩) (by show w.heap.size < w.heap.size + 1; omega)).trans HKN.out.2.1
          generalize xs[ix] = aw at *
          obtain ⟨sa, f, t, l, se, frc, sh⟩ := aw
          dsimp only at e0 e1 e2 e3 e4 e5 e6 hen hmem HPQ1 HGD
          clear hrg c0 c1 c2 c3 c4 c5 c6 hy
          obtain ⟨fn, rfl⟩ : ∃ fn : Nat, f = fn := ⟨f.toNat, by omega⟩
          obtain ⟨tn, rfl⟩ : ∃ tn : Nat, t = tn := ⟨t.toNat, by omega⟩
          obtain ⟨yn, hyn⟩ : ∃ yn : Nat, (fn : Int) + (tn : Int) - (hn_ : Int) = (yn : Int) := ⟨((fn : Int) + (tn : Int) - (hn_ : Int)).toNat, by rcases hmem.2.2 with h | h <;> omega⟩
          have hyJ : yn < Jn := by rcases hmem.2.2 with h | h <;> omega
          have HADJ := Lib.hid (show adj (enL xs (ixT op xs.length)) (hn_ : Int) (yn : Int) from by
            rcases hmem.2.2 with h | h
            · left; rw [← hyn, ← h]; rw [show (fn : Int) + (tn : Int) - (fn : Int) = tn by omega]; exact hmem.2.1
            · right; rw [← hyn, ← h]; rw [show (fn : Int) + (tn : Int) - (tn : Int) = fn by omega]; exact hmem.2.1)
          rw [hyn] at HPQ1
          have HBY := Lib.hid (fun (W : World) => beyond_any sa (fn : Int) (tn : Int) l se frc sh (hn_ : Int) W (by omega) (by omega) (by omega))
          rw [hyn] at HBY
          have hixI : (ix : Int) < (xs.length : Int) := by omega
          have hkI : (k : Int) < (Lh.length : Int) := by omega
          have hyI : (yn : Int) < (Jn : Int) := by omega
          have hhI : (hn_ : Int) < (Jn : Int) := by omega
          have HHE := Lib.hid (show encD (D (hn_ : Int)) = D (hn_ : Int) from encD_of hhD.out)
          have hdl := HBR.out.lt (hn_ : Int)
          have hdl0 := hhD.out
          have hyl := HBR.out.lt (yn : Int)
          clear hen hmem hyn
          go_wp2_with fail
          (with_reducible refine (HBY.out _).mono ?_)
          rintro e w4 ⟨rfl, hd4⟩
          have HRO4 := Lib.hid (HRO.out.below hd4)
          have HLF4 := Lib.hid (HLF.out.below hd4)
          have HOL4 := Lib.hid (HOL.out.below hd4)
          have HB4 := Lib.hid (show Below (w.heap.size + 1) (w.alloc (.cells #[.int .i64 (Jn : Int), .slice (some ⟨ga, off, none⟩) xs.length cap, CV] 96)) w4 from HBW.out.trans (hd4.mono (by have := HBW.out.size; rw [hNs] at this; exact this)))
          have HLW := Lib.hid (show w4.ownsRow w.heap.size 2 1 (.slice (some ⟨w.heap.size + 1 + 1, 0, none⟩) Jn Jn) Jn (intsV (partsL Jn (fun j => encD (D j)))) from by
            have h := HLF4.out
            unfold OwnI at h
            rw [partsL_len] at h
            exact h)
          have dY : w4.cell? ⟨w.heap.size + 1 + 1, yn, none⟩ = some (.int .i64 (encD (D yn))) := by rw [HLW.out.cellAt yn (by omega), partsL_at _ hyJ]
          have dH : w4.cell? ⟨w.heap.size + 1 + 1, hn_, none⟩ = some (.int .i64 (D hn_)) := by rw [HLW.out.cellAt hn_ (by omega), partsL_at _ hhJ, HHE.out]
          have zY := HLW.out.frozenAt yn
          clear hd4 e0 e1 e2 e3 e4 e5 e6 b1 hcl
          by_cases hyD : D (yn : Int) < 0
          · have HEN := Lib.hid (show encD (D (yn : Int)) = 16 from encD_neg hyD)
            rw [HEN.out] at dY
            have HBF := Lib.hid (HBR.out.found hlt hyD (by omega) (by rw [HHN.out]; exact HADJ.out))
            rw [HHN.out] at HBF
            have hwd : IntKind.i64.wrap (D (hn_ : Int) + 1) = D (hn_ : Int) + 1 := IntWalk.i64_in _ (by omega)
            have HST := Lib.hid (show OwnI (w4.setCell ⟨w.heap.size + 1 + 1, yn, none⟩ (.int .i64 (D (hn_ : Int) + 1))) w.heap.size (.slice (some ⟨w.heap.size + 1 + 1, 0, none⟩) Jn Jn) (partsL Jn (fun j => encD (if j = (yn : Int) then D (hn_ : Int) + 1 else D j))) by
              have h := HLF4.out
              unfold OwnI at h
              rw [partsL_len] at h
              have h2 := (h.stored yn (.int .i64 (D (hn_ : Int) + 1))).1
              rw [encL_set hyJ (by omega)] at h2
              unfold OwnI
              rw [partsL_len]
              exact h2)
            have HRO5 := Lib.hid (own_setLow HRO4.out (p := ⟨w.heap.size + 1 + 1, yn, none⟩) (by show w.heap.size + 1 + 1 < B2; omega) (.int .i64 (D (hn_ : Int) + 1)))
            have HOL5 := Lib.hid (own_setLow HOL4.out (p := ⟨w.heap.size + 1 + 1, yn, none⟩) (by show w.heap.size + 1 + 1 < wo.heap.size; have := HB2w.out; omega) (.int .i64 (D (hn_ : Int) + 1)))
            have HB5 := Lib.hid (HB4.out.setCell (p := ⟨w.heap.size + 1 + 1, yn, none⟩) (by show w.heap.size + 1 ≤ w.heap.size + 1 + 1; omega) (.int .i64 (D (hn_ : Int) + 1)))
            have HHP := Lib.hid (show 0 ≤ (if (hn_ : Int) = (yn : Int) then D (hn_ : Int) + 1 else D (hn_ : Int)) by split <;> omega)
            have HPN := Lib.hid (HPQ1.out (fun j => if j = (yn : Int) then D (hn_ : Int) + 1 else D j) (fun q hq => by
              have := HPQ.out q hq
              show 0 ≤ (if _ = (yn : Int) then D (hn_ : Int) + 1 else D _)
              split
              · omega
              · exact this) (by show 0 ≤ (if (yn : Int) = (yn : Int) then D (hn_ : Int) + 1 else D (yn : Int)); rw [if_pos rfl]; omega))
            have hlen2 := HBF.out.le
            rw [List.length_append] at hlen2
            simp only [List.length_cons, List.length_nil] at hlen2
            have hB2y : B2 ≤ w4.heap.size := by
              have h1 := HB2w.out
              have h2 := HOL4.out.lt lb rfl
              omega
            go_wp2_with (at_builtin; refine wpList_append_own_at _ rfl _ _ 30 rfl B2 2 i0 (.int .i64 0) 1 8 Try.underlying30 hi hz0 hz1 hz2 rfl (by decide) _ _ _ rfl (World.ownsRow.alloc HRO5.out _) ⟨w4.heap.size, 0, none⟩ 1 1 [.int .i64 (yn : Int)] rfl rfl (by have := cell_one_new (w4.setCell ⟨w.heap.size + 1 + 1, yn, none⟩ (.int .i64 (D (hn_ : Int) + 1))) (.int .i64 (yn : Int)) 2; simpa using this) ?c2z ?c3z ?c4z ?c5z ?_)
            try (case c1z => intro j u hj; match j, hj with | 0, hj => (simp at hj; subst hj; simp [Addr.add]) | j + 1, hj => (simp at hj))
            try (case c2z => simp [Value.oneCell'])
            try (case c3z => unfold maxLen; omega)
            try (case c4z => omega)
            try (case c5z => first | omega | (simp; omega))
            intro v5 w5 ho5 hg5 _ hl5
            obtain ⟨ra5, rc5, rfl⟩ : ∃ ra5 rc5, v5 = .slice ra5 (rw_.length + 1) rc5 := by
              obtain ⟨a5, c5, e5⟩ := (show OwnI w5 B2 v5 (rw_ ++ [(yn : Int)]) from by unfold OwnI; rw [List.length_append, ints_snocY]; exact ho5).form
              exact ⟨a5, c5, by rw [e5, List.length_append]; rfl⟩
            have HRO6 := Lib.hid (show OwnI w5 B2 (.slice ra5 (rw_.length + 1) rc5) (rw_ ++ [(yn : Int)]) from by unfold OwnI; rw [List.length_append, ints_snocY]; exact ho5)
            have hrlt := (HRO5.out.lt)
            have HLF6 := Lib.hid (own_off (HST.out.below (below_box _ _)) (fun g h1 h2 => by
              have q1 := (hrlt g h2).1
              simp only [Value.ownBlock, Option.some.injEq] at h1
              omega) hg5)
            have HOL6 := Lib.hid (own_off (HOL5.out.below (below_box _ _)) HNE.out hg5)
            have HNE6 := Lib.hid (show ∀ g, (Value.slice (some ⟨lb, lo, none⟩) Lh.length lc).ownBlock = some g → (Value.slice ra5 (rw_.length + 1) rc5).ownBlock ≠ some g from fun g h1 h2 => by
              rcases hl5 with h | h
              · exact HNE.out g h1 (h ▸ h2)
              · have q := (HOL5.out.lt g h1).2
                rw [h] at h2
                injection h2 with h2
                try simp at q
                try simp at h2
                omega)
            have HB6 := Lib.hid ((HB5.out.alloc (by have := HB5.out.size; rw [hNs] at this; exact this) (.cells #[.int .i64 (yn : Int)] 2)).grown hg5 (by have := HB5.out.size; simp at this ⊢; omega) (fun g h2 => by have := (hrlt g h2).1; omega))
            clear ho5 hg5 hl5 hrlt
            go_wp2
            go_roundw
            case rel => exact ⟨_, rw_ ++ [(yn : Int)], k + 1, by omega, by rw [List.length_append]; omega, by rw [List.length_append]; exact hlen2, by go_num, HBF, Lib.hid (by rw [getD_snoc, if_pos hlt]; exact HHN.out), HHP, ⟨_, _, by rw [List.length_append]; rfl⟩, HRO6, HLF6, HOL6, HNE6, HB6, Lib.hid HPN.out⟩
            case measure => simp [intOf]; omega
          · have HEN := Lib.hid (show encD (D (yn : Int)) = D (yn : Int) from encD_of (by omega))
            rw [HEN.out] at dY
            have hy16 : ¬ D (yn : Int) = 16 := by omega
            have hy17 : (D (yn : Int) == 16) = false := by simp; omega
            have HPN := Lib.hid (HPQ1.out D HPQ.out (by omega))
            go_wp2
            go_roundw
            case rel => exact ⟨D, rw_, k + 1, by omega, hlt, hrJ, by go_num, HBR, HHN, hhD, ⟨_, _, rfl⟩, HRO4, HLF4, HOL4, HNE, HB4, Lib.hid HPN.out⟩
            case measure => simp [intOf]; omega
        · obtain rfl : k = Lh.length := by omega
          have HNX := Lib.hid (HBR.out.next hlt (fun y hy => by
            rw [HHN.out] at hy ⊢
            obtain ⟨q, hq, e⟩ := HLA.out y hy
            have h0 := HPQ.out q hq
            rw [e] at h0
            have h1 := HBR.out.known hlt h0
            rw [HHN.out] at h1
            exact ⟨h0, h1⟩))
          go_wp2
          go_roundw
          case rel => exact ⟨D, rw_, i + 1, by omega, hrJ, by go_num, HNX, ⟨_, _, rfl⟩, HRO, HLF, HBW⟩
          case measure => simp [intOf]; omega
    · obtain rfl : i = rw_.length := by omega
      have HDE := Lib.hid (show D = levD Jn xs (ixT op xs.length) ton from HBR.out.dist.uniq HND.out)
      go_wp2
      go_ret
      exact ⟨rfl, by rw [← HDE.out]; exact HLF.out, HBN.out.trans (HBW.out.mono (Nat.le_succ _))⟩
end Go.Proofs.Ytjooebiiceillaa
