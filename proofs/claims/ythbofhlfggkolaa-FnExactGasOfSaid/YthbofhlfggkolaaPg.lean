/-
  Contracts of chapter 13: how much gas comes into airways; the model's and the program's. Conditions: those that each theorem states.
-/
import Derived.Test.YthbofhlfggkolaaPv
import Derived.Test.YthbofhlfggkolaaWa
import Derived.Test.YthbofhlfggkolaaZg
namespace Go.Proofs.Ythbofhlfggkolaa
open Go.RowKit
set_option linter.unusedVariables false
set_option linter.unusedSimpArgs false

/-- How much gas the first i sources let into an airway. -/
def gaK (ss : List So) (k : Nat) : Nat → Int
  | 0 => 0
  | i + 1 => gaK ss k i + if (soG ss i).a = (k : Int) then (soG ss i).r else 0
/-- .. into each of n airways. -/
def gaL (ss : List So) (n i : Nat) : List Int := (List.range n).map (fun k => gaK ss k i)
theorem gaL_len (ss : List So) (n i : Nat) : (gaL ss n i).length = n := by simp [gaL]
theorem gaL_at {ss : List So} {n i k : Nat} (h : k < n) : (intsV (gaL ss n i))[k]? = some (.int .i64 (gaK ss k i)) := by
  simp [intsV, gaL, h]
theorem so_bd {n : Nat} {ss : List So} (h : ssOk n ss = true) {i : Nat} (hi : i < ss.length) : (0 ≤ (soG ss i).a ∧ (soG ss i).a < (n : Int)) ∧ 0 ≤ (soG ss i).r ∧ (soG ss i).r ≤ 10000000 := by
  have h1 := ssOk_each h hi
  rw [soG_lt hi]
  have h2 := soOk_bd (show soOk ss[i].s ss[i].a ss[i].r = true from h1.1)
  omega
theorem gaK_bd {n : Nat} {ss : List So} (h : ssOk n ss = true) (k : Nat) : ∀ i, i ≤ ss.length → 0 ≤ gaK ss k i ∧ gaK ss k i ≤ 10000000 * (i : Int)
  | 0, _ => by simp [gaK]
  | i + 1, hi => by
    have ih := gaK_bd h k i (by omega)
    have hd := so_bd h (i := i) (by omega)
    unfold gaK
    split <;> omega
theorem gaL_put {ss : List So} {n i an : Nat} (h : (soG ss i).a = (an : Int)) (hn : an < n) : (intsV (gaL ss n i)).set an (.int .i64 (gaK ss an i + (soG ss i).r)) = intsV (gaL ss n (i + 1)) := by
  apply List.ext_getElem (by simp [intsV, gaL])
  intro j h1 h2
  simp only [intsV, gaL, List.getElem_set, List.getElem_map, List.getElem_range, gaK]
  by_cases e : an = j
  · subst e; simp [h]
  · rw [if_neg e, if_neg (by omega)]; simp
/-- What GasOf returns. -/
def goA (J : Int) (xs : List Aw) (ss : List So) (k : Int) : Int := if svOk J xs ss then (if inB k 0 ((xs.length : Int) - 1) then gaK ss k.toNat ss.length else 0) else 0
def goB (J : Int) (xs : List Aw) (ss : List So) (k : Int) : Int := if svOk J xs ss then (if inB k 0 ((xs.length : Int) - 1) then 0 else 2) else 1
set_option maxHeartbeats 1000000 in
theorem l13Gas_any (D : Option Addr) (dcap : Nat) (ss : List So) (an n : Nat) (w : World) (hd : SoR w D ss) (hok : ssOk n ss = true) :
    Calls Try.prog 57 #[.slice D ss.length dcap, .int .i64 (an : Int)] w fun e w' => e = .returned (.int .i64 (gaK ss an ss.length)) ∧ w = w' := by
  have h8 := (ssOk_iff.1 hok).2
  have HOK := Lib.hid hok
  have HD := Lib.hid hd
  clear hd hok
  go_enter Try.func57, Try.ntmps57
  go_wp2
  go_loop [5, 6] (fun x y => ∃ k : Nat, k ≤ ss.length ∧ x = .int .i64 (gaK ss an k) ∧ y = .int .i64 k) (fun x y => ss.length - (intOf y).toNat)
  case atStart => exact ⟨0, by omega, rfl, rfl⟩
  case round =>
    obtain ⟨k, hk, rfl, rfl⟩ := hrel
    by_cases hlt : k < ss.length
    · obtain ⟨bd, off, rfl, hrg⟩ := HD.out k hlt
      obtain ⟨c0, c1, c2⟩ := so_lay hrg
      have hb := gaK_bd HOK.out an k (by omega)
      have hs := so_bd HOK.out hlt
      have HN := Lib.hid (show gaK ss an (k + 1) = gaK ss an k + if (soG ss k).a = (an : Int) then (soG ss k).r else 0 from rfl)
      rw [soG_lt hlt] at hs HN
      clear hrg
      generalize ss[k] = d at *
      obtain ⟨s, a, r⟩ := d
      dsimp only at c0 c1 c2 hs
      have HM := Lib.hid (show gaK ss an (k + 1) = gaK ss an k + if a = (an : Int) then r else 0 from HN.out)
      clear HN
      generalize gaK ss an k = z at *
      by_cases hak : a = (an : Int)
      · rw [if_pos hak] at HM
        subst hak
        go_wp2
        go_round
        case rel => exact ⟨k + 1, by omega, by rw [HM.out], by go_num⟩
        case measure => simp [intOf]; omega
      · rw [if_neg hak] at HM
        go_wp2
        go_round
        case rel => exact ⟨k + 1, by omega, by rw [HM.out]; simp, by go_num⟩
        case measure => simp [intOf]; omega
    · obtain rfl : k = ss.length := by omega
      go_wp2
      go_ret
      exact ⟨rfl, rfl⟩
set_option maxHeartbeats 2000000 in
theorem gasFrom_any (J : Int) (A : Option Addr) (cap : Nat) (xs : List Aw) (D : Option Addr) (dcap : Nat) (ss : List So) (w : World) (hn : xs.length ≤ 24) (hd : SoR w D ss) (hok : ssOk xs.length ss = true) :
    Calls Try.prog 59 #[.agg #[.int .i64 J, .slice A xs.length cap], .slice D ss.length dcap] w fun e w' => ∃ u, e = .returned u ∧ OwnI w' w.heap.size u (gaL ss xs.length ss.length) ∧ Below w.heap.size w w' := by
  have h8 := (ssOk_iff.1 hok).2
  have HOK := Lib.hid hok
  have HB0 := Lib.hid (below_box w (.cells #[.int .i64 J, .slice A xs.length cap] 31))
  have HD := Lib.hid (hd.below HB0.out)
  have hsz : w.heap.size < (w.alloc (.cells #[.int .i64 J, .slice A xs.length cap] 31)).heap.size := by simp
  have hmk := run_make_row' (P := Try.prog) 43 2 (.int .i64 0) 8 Try.underlying43 info_i64 rfl .i64 .i64 xs.length (by omega) (by omega)
  clear hd hok
  go_enter Try.func59, Try.ntmps59
  go_wp2_with fail
  clear hmk
  have hWC : (w.alloc (.cells #[.int .i64 J, .slice A xs.length cap] 31)).heap.size = w.heap.size + 1 := by simp
  generalize w.alloc (.cells #[.int .i64 J, .slice A xs.length cap] 31) = WC at *
  generalize hN : xs.length = N at *
  have HNN := Lib.hid hN
  clear hN
  go_loopw [14] (fun i wr => ∃ k : Nat, k ≤ ss.length ∧ i = .int .i64 k ∧ Hid (wr.ownsRow w.heap.size 2 1 (.slice (some ⟨w.heap.size + 1, 0, none⟩) N N) N (intsV (gaL ss N k))) ∧ Hid (Below WC.heap.size WC wr)) (fun i wr => ss.length - (intOf i).toNat)
  case atStart =>
    refine ⟨0, by omega, rfl, Lib.hid ?_, Lib.hid ((Below.refl _ _).alloc (Nat.le_refl _) _)⟩
    have h := World.ownsRow_lit (base := w.heap.size) (e := 2) (size := 1) WC (madeCells #[.int .i64 0] N) N (by omega) (by unfold maxLen; omega) (by simp [madeCells])
    have e : (madeCells #[.int .i64 0] N).toList = intsV (gaL ss N 0) := by
      have e2 : gaL ss N 0 = List.replicate N 0 := by
        apply List.ext_getElem (by simp [gaL])
        intro j h1 h2
        simp [gaL, gaK]
      rw [e2]
      simp [madeCells, intsV, Nat.mod_one, List.map_const']
    rw [e, hWC] at h
    exact h
  case round =>
    obtain ⟨k, hk, rfl, HO, HB⟩ := hrel
    obtain ⟨wo, rfl⟩ : ∃ wo : World, wo = wr := ⟨_, rfl⟩
    have hwz := HB.out.size
    by_cases hlt : k < ss.length
    · obtain ⟨bd, off, rfl, hrg⟩ := (HD.out.below HB.out) k hlt
      obtain ⟨c0, c1, c2⟩ := so_lay hrg
      have hs := so_bd HOK.out hlt
      obtain ⟨an, han⟩ : ∃ an : Nat, (soG ss k).a = an := ⟨(soG ss k).a.toNat, by omega⟩
      have hb := gaK_bd HOK.out an k (by omega)
      have hanx : an < N := by omega
      have HPUT := Lib.hid (gaL_put (n := N) han hanx)
      have d1 : wo.cell? ⟨w.heap.size + 1, an, none⟩ = some (.int .i64 (gaK ss an k)) := by rw [HO.out.cellAt an (by omega), gaL_at hanx]
      have d3 := HO.out.frozenAt an
      have hs1 : w.heap.size + 1 < wo.heap.size := World.block_lt_of_cell? _ _ d1
      rw [soG_lt hlt] at hs han HPUT
      clear hrg
      generalize ss[k] = d at *
      obtain ⟨s, a, r⟩ := d
      dsimp only at c0 c1 c2 hs han
      subst han
      have HP2 := Lib.hid (show (intsV (gaL ss N k)).set an (.int .i64 (gaK ss an k + r)) = intsV (gaL ss N (k + 1)) from HPUT.out)
      clear HPUT
      generalize gaK ss an k = z at *
      go_wp2_with fail
      have q1 : (wo.alloc (.cells #[.string s, .int .i64 (an : Int), .int .i64 r] 67)).cell? ⟨wo.heap.size, 1, none⟩ = some (.int .i64 (an : Int)) := by simp
      have q2 : (wo.alloc (.cells #[.string s, .int .i64 (an : Int), .int .i64 r] 67)).cell? ⟨wo.heap.size, 2, none⟩ = some (.int .i64 r) := by simp
      have HBA := below_box wo (.cells #[.string s, .int .i64 (an : Int), .int .i64 r] 67)
      have hsa : (wo.alloc (.cells #[.string s, .int .i64 (an : Int), .int .i64 r] 67)).heap.size = wo.heap.size + 1 := by simp
      have q3 := (HBA.cell (World.block_lt_of_cell? _ _ d1)).trans d1
      have q5 := (HBA.frozen (World.block_lt_of_cell? _ _ d1)).trans d3
      have HO1 := Lib.hid (own_below HO.out HBA)
      have HB1 := Lib.hid (HB.out.alloc HB.out.size (.cells #[.string s, .int .i64 (an : Int), .int .i64 r] 67))
      have hne1 : w.heap.size + 1 ≠ wo.heap.size := by omega
      generalize wo.heap.size = m at *
      generalize wo.alloc (.cells #[.string s, .int .i64 (an : Int), .int .i64 r] 67) = W1 at *
      clear d1 d3 c0 c1 c2 HBA HO HB
      have t0 : (an : Int) < (N : Int) := by omega
      go_region
      go_wp2
      go_roundw
      case rel =>
        refine ⟨k + 1, by omega, by go_num, Lib.hid ?_, Lib.hid (Below.drew (HB1.out.setCell (by show WC.heap.size ≤ w.heap.size + 1; omega) _))⟩
        have h := (HO1.out.stored an (.int .i64 (z + r))).1
        rw [HP2.out] at h
        exact h
      case measure => simp [intOf]; omega
    · obtain rfl : k = ss.length := by omega
      go_wp2
      go_ret
      exact ⟨.slice (some ⟨w.heap.size + 1, 0, none⟩) N N, rfl, by unfold OwnI; rw [gaL_len, HNN.out]; exact HO.out, HB0.out.trans (HB.out.mono (by omega))⟩
set_option maxHeartbeats 1000000 in
theorem sGasOf_any (J : Int) (A : Option Addr) (cap : Nat) (xs : List Aw) (D : Option Addr) (dcap : Nat) (ss : List So) (k : Int) (w : World) (hr : AwR w A xs) (hs : ∀ a ∈ xs, a.s.size ≤ maxLen) (hl : xs.length ≤ 1048576)
    (hd : SoR w D ss) (hds : ∀ d ∈ ss, d.s.size ≤ maxLen) (hdl : ss.length ≤ 1048576) :
    Calls Try.prog 21 #[.agg #[.int .i64 J, .slice A xs.length cap], .slice D ss.length dcap, .int .i64 k] w fun e w' => e = .returned (.tuple #[.int .i64 (goA J xs ss k), .int .i64 (goB J xs ss k)]) ∧ Below w.heap.size w w' := by
  have HB := Lib.hid (below_box w (.cells #[.int .i64 J, .slice A xs.length cap] 31))
  have HM := Lib.hid (l04Ok_any w.heap.size J A cap xs (w.alloc (.cells #[.int .i64 J, .slice A xs.length cap] 31)) (by simp) (by simp) (hr.below HB.out) hs hl)
  have HD := Lib.hid hd
  have HDS := Lib.hid hds
  clear hr hs hd hds
  cases hok : mineOk J xs
  · have HE := Lib.hid (show goA J xs ss k = 0 ∧ goB J xs ss k = 1 by simp [goA, goB, svOk, hok])
    go_enter Try.func21, Try.ntmps21
    go_wp2_with fail
    (with_reducible refine (HM.out).mono ?_)
    rintro e w1 ⟨rfl, n, rfl⟩
    rw [hok]
    go_wp2
    go_ret2
    exact ⟨ret_two HE.out.1.symm HE.out.2.symm, below_drewN' HB.out n⟩
  · have hn := (mineOk_iff.1 hok).2.2
    have HST := Lib.hid (fun (W : World) (h : Below w.heap.size w W) => show SoR W D ss from HD.out.below h)
    cases hsk : ssOk xs.length ss
    · have HE := Lib.hid (show goA J xs ss k = 0 ∧ goB J xs ss k = 1 by simp [goA, goB, svOk, hok, hsk])
      go_enter Try.func21, Try.ntmps21
      go_wp2_with fail
      (with_reducible refine (HM.out).mono ?_)
      rintro e w1 ⟨rfl, n, hw1⟩
      have HB1 := Lib.hid (show Below w.heap.size w w1 from hw1 ▸ below_drewN' HB.out n)
      have hA := (show w1.cell? ⟨w.heap.size, 1, none⟩ = some (.slice A xs.length cap) by rw [hw1]; show (w.alloc (.cells #[.int .i64 J, .slice A xs.length cap] 31)).cell? _ = _; simp)
      clear hw1
      rw [hok]
      go_wp2_with fail
      (with_reducible refine (l13List_any w.heap.size A cap xs D dcap ss w1 hA hl (HD.out.below HB1.out) HDS.out hdl).mono ?_)
      rintro e w2 ⟨rfl, hd2⟩
      have HB2 := Lib.hid (HB1.out.trans (hd2.mono HB1.out.size))
      have hA2 := cellK hA hd2
      clear hd2 hA
      rw [hsk]
      go_wp2
      go_ret2
      exact ⟨ret_two HE.out.1.symm HE.out.2.symm, HB2.out⟩
    · cases hik : inB k 0 ((xs.length : Int) - 1)
      · have HE := Lib.hid (show goA J xs ss k = 0 ∧ goB J xs ss k = 2 by simp [goA, goB, svOk, hok, hsk, hik])
        go_enter Try.func21, Try.ntmps21
        go_wp2_with fail
        (with_reducible refine (HM.out).mono ?_)
        rintro e w1 ⟨rfl, n, hw1⟩
        have HB1 := Lib.hid (show Below w.heap.size w w1 from hw1 ▸ below_drewN' HB.out n)
        have hA := (show w1.cell? ⟨w.heap.size, 1, none⟩ = some (.slice A xs.length cap) by rw [hw1]; show (w.alloc (.cells #[.int .i64 J, .slice A xs.length cap] 31)).cell? _ = _; simp)
        clear hw1
        rw [hok]
        go_wp2_with fail
        (with_reducible refine (l13List_any w.heap.size A cap xs D dcap ss w1 hA hl (HD.out.below HB1.out) HDS.out hdl).mono ?_)
        rintro e w2 ⟨rfl, hd2⟩
        have HB2 := Lib.hid (HB1.out.trans (hd2.mono HB1.out.size))
        have hA2 := cellK hA hd2
        clear hd2 hA
        rw [hsk]
        go_wp2_with fail
        (with_reducible refine (l00In_any _ _ _ _).mono ?_)
        rintro e w' ⟨rfl, rfl⟩
        rw [hik]
        go_wp2
        go_ret2
        exact ⟨ret_two HE.out.1.symm HE.out.2.symm, HB2.out⟩
      · have hkb := inB_iff.1 hik
        obtain ⟨kn, rfl⟩ := Int.eq_ofNat_of_zero_le hkb.1
        have HE := Lib.hid (show goA J xs ss (kn : Int) = gaK ss kn ss.length ∧ goB J xs ss (kn : Int) = 0 by simp [goA, goB, svOk, hok, hsk, hik])
        go_enter Try.func21, Try.ntmps21
        go_wp2_with fail
        (with_reducible refine (HM.out).mono ?_)
        rintro e w1 ⟨rfl, n, hw1⟩
        have HB1 := Lib.hid (show Below w.heap.size w w1 from hw1 ▸ below_drewN' HB.out n)
        have hA := (show w1.cell? ⟨w.heap.size, 1, none⟩ = some (.slice A xs.length cap) by rw [hw1]; show (w.alloc (.cells #[.int .i64 J, .slice A xs.length cap] 31)).cell? _ = _; simp)
        clear hw1
        rw [hok]
        go_wp2_with fail
        (with_reducible refine (l13List_any w.heap.size A cap xs D dcap ss w1 hA hl (HD.out.below HB1.out) HDS.out hdl).mono ?_)
        rintro e w2 ⟨rfl, hd2⟩
        have HB2 := Lib.hid (HB1.out.trans (hd2.mono HB1.out.size))
        have hA2 := cellK hA hd2
        clear hd2 hA
        rw [hsk]
        go_wp2_with fail
        (with_reducible refine (l00In_any _ _ _ _).mono ?_)
        rintro e w' ⟨rfl, rfl⟩
        rw [hik]
        go_wp2_with fail
        (with_reducible refine (l13Gas_any D dcap ss kn xs.length _ (HST.out _ HB2.out) hsk).mono ?_)
        rintro e w' ⟨rfl, rfl⟩
        go_wp2
        go_ret2
        exact ⟨ret_two HE.out.1.symm HE.out.2.symm, HB2.out⟩
theorem gaL_form {w : World} {B : Nat} {u : Value} {ss : List So} {n i k : Nat} (h : OwnI w B u (gaL ss n i)) (hx : k < n) :
    ∃ g cap, u = .slice (some ⟨g, 0, none⟩) n cap ∧ w.cell? ⟨g, k, none⟩ = some (.int .i64 (gaK ss k i)) := by
  have h' := h
  unfold OwnI at h'
  rw [gaL_len] at h'
  rcases h'.2 with ⟨-, h0⟩ | ⟨g, cap, cur, rfl, -⟩
  · omega
  · exact ⟨g, cap, rfl, by rw [World.ownsRow.cellAt h' k (by omega), gaL_at hx]⟩
theorem areIdx_one (n : Nat) (x : Int) (W : World) (T : TypeId) (b : Nat) (hb : b = W.heap.size) (hn : n ≤ 1048576) :
    Calls Try.prog 58 #[.int .i64 n, .slice (some ⟨b, 0, none⟩) 1 1] (W.alloc (.cells #[.int .i64 x] T)) fun e w' => e = .returned (.bool (inB x 0 ((n : Int) - 1))) ∧ Below W.heap.size W w' := by
  have h := areIdx_any n (.slice (some ⟨b, 0, none⟩) 1 1) [x] _ (row_here .i64 W [x] T b 1 1 hb rfl) (by simp) hn
  have e : risR 0 ((n : Int) - 1) [x] = inB x 0 ((n : Int) - 1) := by unfold risR; rw [allR_one]; simp [incB]
  rw [e] at h
  exact h.mono fun _ _ ⟨a, q⟩ => ⟨a, q ▸ below_box _ _⟩
set_option maxHeartbeats 1000000 in
theorem iGasOf_any (J : Int) (A : Option Addr) (cap : Nat) (xs : List Aw) (D : Option Addr) (dcap : Nat) (ss : List So) (k : Int) (w : World) (hr : AwR w A xs) (hs : ∀ a ∈ xs, a.s.size ≤ maxLen) (hl : xs.length ≤ 1048576)
    (hd : SoR w D ss) (hds : ∀ d ∈ ss, d.s.size ≤ maxLen) (hdl : ss.length ≤ 1048576) :
    Calls Try.prog 22 #[.agg #[.int .i64 J, .slice A xs.length cap], .slice D ss.length dcap, .int .i64 k] w fun e w' => e = .returned (.tuple #[.int .i64 (goA J xs ss k), .int .i64 (goB J xs ss k)]) ∧ Below w.heap.size w w' := by
  have HB := Lib.hid (below_box w (.cells #[.int .i64 J, .slice A xs.length cap] 31))
  have HM := Lib.hid (iValidSources_any J A cap xs D dcap ss (w.alloc (.cells #[.int .i64 J, .slice A xs.length cap] 31)) (hr.below HB.out) hs hl (hd.below HB.out) hds hdl)
  have HD := Lib.hid hd
  clear hr hs hd hds
  cases hok : svOk J xs ss
  · have HE := Lib.hid (show goA J xs ss k = 0 ∧ goB J xs ss k = 1 by simp [goA, goB, hok])
    go_enter Try.func22, Try.ntmps22
    go_wp2_with fail
    (with_reducible refine (HM.out).mono ?_)
    rintro e w1 ⟨rfl, hd1⟩
    rw [hok]
    go_wp2
    go_ret2
    exact ⟨ret_two HE.out.1.symm HE.out.2.symm, HB.out.trans (hd1.mono HB.out.size)⟩
  · obtain ⟨hmo, hsk⟩ := sv_two hok
    have hn := (mineOk_iff.1 hmo).2.2
    clear hmo
    cases hik : inB k 0 ((xs.length : Int) - 1)
    · have HE := Lib.hid (show goA J xs ss k = 0 ∧ goB J xs ss k = 2 by simp [goA, goB, hok, hik])
      go_enter Try.func22, Try.ntmps22
      go_wp2_with fail
      (with_reducible refine (HM.out).mono ?_)
      rintro e w1 ⟨rfl, hd1⟩
      have HB1 := Lib.hid (HB.out.trans (hd1.mono HB.out.size))
      have k0 : w1.cell? ⟨w.heap.size, 0, none⟩ = some (.int .i64 J) := (hd1.cell (by simp)).trans (by simp)
      have k1 : w1.cell? ⟨w.heap.size, 1, none⟩ = some (.slice A xs.length cap) := (hd1.cell (by simp)).trans (by simp)
      clear hd1
      rw [hok]
      go_wp2_with fail
      (with_reducible refine (areIdx_one xs.length k w1 _ _ (by simp) (by omega)).mono ?_)
      rintro e w2 ⟨rfl, hd2⟩
      have HB2 := Lib.hid (HB1.out.trans (hd2.mono HB1.out.size))
      have m0 := cellK k0 hd2
      have m1 := cellK k1 hd2
      clear hd2 k0 k1
      rw [hik]
      go_wp2
      go_ret2
      exact ⟨ret_two HE.out.1.symm HE.out.2.symm, HB2.out⟩
    · have hkb := inB_iff.1 hik
      obtain ⟨kn, rfl⟩ := Int.eq_ofNat_of_zero_le hkb.1
      have HE := Lib.hid (show goA J xs ss (kn : Int) = gaK ss kn ss.length ∧ goB J xs ss (kn : Int) = 0 by simp [goA, goB, hok, hik])
      go_enter Try.func22, Try.ntmps22
      go_wp2_with fail
      (with_reducible refine (HM.out).mono ?_)
      rintro e w1 ⟨rfl, hd1⟩
      have HB1 := Lib.hid (HB.out.trans (hd1.mono HB.out.size))
      have k0 : w1.cell? ⟨w.heap.size, 0, none⟩ = some (.int .i64 J) := (hd1.cell (by simp)).trans (by simp)
      have k1 : w1.cell? ⟨w.heap.size, 1, none⟩ = some (.slice A xs.length cap) := (hd1.cell (by simp)).trans (by simp)
      clear hd1
      rw [hok]
      go_wp2_with fail
      (with_reducible refine (areIdx_one xs.length (kn : Int) w1 _ _ (by simp) (by omega)).mono ?_)
      rintro e w2 ⟨rfl, hd2⟩
      have HB2 := Lib.hid (HB1.out.trans (hd2.mono HB1.out.size))
      have m0 := cellK k0 hd2
      have m1 := cellK k1 hd2
      clear hd2 k0 k1
      rw [hik]
      go_wp2_with fail
      (with_reducible refine (gasFrom_any J A cap xs D dcap ss _ hn (HD.out.below HB2.out) hsk).mono ?_)
      rintro e w3 ⟨u, rfl, ho, hd3⟩
      have HB3 := Lib.hid (HB2.out.trans (hd3.mono HB2.out.size))
      have hkn : kn < xs.length := by omega
      obtain ⟨g, vc, rfl, hcu⟩ := gaL_form ho hkn
      clear ho hd3
      go_wp2
      go_ret2
      exact ⟨ret_two HE.out.1.symm HE.out.2.symm, HB3.out⟩
end Go.Proofs.Ythbofhlfggkolaa
