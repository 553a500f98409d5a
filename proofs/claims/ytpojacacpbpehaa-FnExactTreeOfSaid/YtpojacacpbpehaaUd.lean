/-
  Contracts of chapter 4: the parts of a mine; the model's and the program's. Conditions: those that each theorem states.
-/
import Derived.Test.YtpojacacpbpehaaUc
namespace Go.Proofs.Ytpojacacpbpehaa
open Go.RowKit
set_option linter.unusedVariables false
set_option linter.unusedSimpArgs false

/-- The ends of the first k airways, the last one first. -/
def es2 (xs : List Aw) (k : Nat) : List (Int × Int) := ((xs.take k).map (fun a => (a.f, a.t))).reverse
theorem es2_snoc {xs : List Aw} {k : Nat} (h : k < xs.length) : es2 xs (k + 1) = (xs[k].f, xs[k].t) :: es2 xs k := by
  unfold es2
  rw [List.take_succ_eq_append_getElem h, List.map_append, List.reverse_append]
  rfl
def allI (n : Nat) : List Int := ixT (fun (k : Nat) => !(decide ((k : Int) = -1))) n
theorem allI_succ (n : Nat) : allI (n + 1) = allI n ++ [(n : Int)] := by
  unfold allI
  exact ixT_yes (by rw [decide_eq_false (by omega)]; rfl)
theorem allI_len : ∀ n, (allI n).length = n
  | 0 => rfl
  | n + 1 => by rw [allI_succ, List.length_append, allI_len n]; rfl
theorem allI_mem : ∀ n y, y ∈ allI n → 0 ≤ y ∧ y < (n : Int)
  | 0, y, h => by simp [allI, ixT] at h
  | n + 1, y, h => by
    rw [allI_succ, List.mem_append, List.mem_singleton] at h
    rcases h with h | h
    · have := allI_mem n y h; omega
    · omega
theorem allI_ends (xs : List Aw) : ∀ n, n ≤ xs.length → (allI n).map (endsOf xs) = (xs.take n).map (fun a => (a.f, a.t))
  | 0, _ => by simp [allI, ixT]
  | n + 1, h => by
    rw [allI_succ, List.map_append, allI_ends xs n (by omega), List.take_succ_eq_append_getElem (by omega), List.map_append]
    congr 1
    simp [endsOf, List.getElem?_eq_getElem (show n < xs.length by omega)]
theorem labT_all (xs : List Aw) : labT xs (allI xs.length) (allI xs.length).length = labsE (es2 xs xs.length) := by
  unfold labT esOf es2
  rw [List.take_length, allI_ends xs _ (Nat.le_refl _)]
theorem es2_nn {J : Int} {xs : List Aw} (h : mineOk J xs = true) (k : Nat) : ∀ e ∈ es2 xs k, 0 ≤ e.1 ∧ 0 ≤ e.2 := by
  intro e he
  unfold es2 at he
  rw [List.mem_reverse, List.mem_map] at he
  obtain ⟨a, ha, rfl⟩ := he
  obtain ⟨j, hj, rfl⟩ := List.mem_iff_getElem.1 (List.mem_of_mem_take ha)
  have := ends_inU h hj
  exact ⟨this.1.1, this.2.1⟩
/-- What PartsOf returns. -/
def paB (J : Int) (xs : List Aw) : Int := if mineOk J xs then 0 else 1
def paR (J : Int) (xs : List Aw) : List Int := if mineOk J xs then partsL J.toNat (labsE (es2 xs xs.length)) else []
theorem paR_len (J : Int) (xs : List Aw) : (paR J xs).length ≤ 1048576 := by
  unfold paR
  split
  · rename_i h
    have := (mineOk_iff.1 h).1
    rw [partsL_len]; omega
  · simp
theorem ret_vp {v : Value} {b b' : Int} (h : b = b') : Ending.returned (.tuple #[v, .int .i64 b]) = .returned (.tuple #[v, .int .i64 b']) := by rw [h]
theorem own_nilp (w : World) (B : Nat) : OwnI w B (.slice none 0 0) [] := World.ownsRow_nil _ _ _ _
theorem own_lep {w : World} {B B' : Nat} {v : Value} {xs : List Int} (h : OwnI w B v xs) (hb : B' ≤ B) : OwnI w B' v xs := by
  obtain ⟨hl, h⟩ := h
  refine ⟨hl, ?_⟩
  rcases h with h | ⟨g, cap, cur, e, hg, r⟩
  · exact .inl h
  · exact .inr ⟨g, cap, cur, e, Nat.le_trans hb hg, r⟩
set_option maxHeartbeats 1000000 in
set_option maxRecDepth 100000 in
theorem sPartsOf_any (J : Int) (A : Option Addr) (cap : Nat) (xs : List Aw) (w : World) (hr : AwR w A xs) (hs : ∀ a ∈ xs, a.s.size ≤ maxLen) (hl : xs.length ≤ 1048576) :
    Calls Try.prog 10 #[.agg #[.int .i64 J, .slice A xs.length cap]] w fun e w' => ∃ v, e = .returned (.tuple #[v, .int .i64 (paB J xs)]) ∧ OwnI w' w.heap.size v (paR J xs) ∧ Below w.heap.size w w' := by
  have HB0 := Lib.hid (below_box w (.cells #[.int .i64 J, .slice A xs.length cap] 31))
  have HOKC := Lib.hid (l04Ok_any w.heap.size J A cap xs (w.alloc (.cells #[.int .i64 J, .slice A xs.length cap] 31)) (by simp) (by simp) (hr.below HB0.out) hs hl)
  have HK := Lib.hid (show (w.alloc (.cells #[.int .i64 J, .slice A xs.length cap] 31)).cell? ⟨w.heap.size, 0, none⟩ = some (.int .i64 J) ∧ (w.alloc (.cells #[.int .i64 J, .slice A xs.length cap] 31)).cell? ⟨w.heap.size, 1, none⟩ = some (.slice A xs.length cap) ∧ AwR (w.alloc (.cells #[.int .i64 J, .slice A xs.length cap] 31)) A xs from ⟨by simp, by simp, hr.below HB0.out⟩)
  clear hr hs
  cases hok : mineOk J xs
  · have HE := Lib.hid (show paB J xs = 1 ∧ paR J xs = [] by simp [paB, paR, hok])
    go_enter Try.func10, Try.ntmps10
    go_wp2_with fail
    (with_reducible refine (HOKC.out).mono ?_)
    rintro e w1 ⟨rfl, n, rfl⟩
    rw [hok]
    have HK1 := Lib.hid (show ((w.alloc (.cells #[.int .i64 J, .slice A xs.length cap] 31)).drewN n).cell? ⟨w.heap.size, 0, none⟩ = some (.int .i64 J) ∧ ((w.alloc (.cells #[.int .i64 J, .slice A xs.length cap] 31)).drewN n).cell? ⟨w.heap.size, 1, none⟩ = some (.slice A xs.length cap) ∧ AwR ((w.alloc (.cells #[.int .i64 J, .slice A xs.length cap] 31)).drewN n) A xs from HK.out)
    have HB1 := Lib.hid (show Below w.heap.size w ((w.alloc (.cells #[.int .i64 J, .slice A xs.length cap] 31)).drewN n) from below_drewN' HB0.out n)
    generalize (w.alloc (.cells #[.int .i64 J, .slice A xs.length cap] 31)).drewN n = W1 at *
    go_wp2
    go_ret2
    exact ⟨_, ret_vp HE.out.1.symm, by rw [HE.out.2]; exact own_nilp _ _, HB1.out⟩
  · obtain ⟨hj, -, h24⟩ := mineOk_iff.1 hok
    obtain ⟨Jn, rfl⟩ : ∃ Jn : Nat, J = Jn := ⟨J.toNat, by omega⟩
    have HOK := Lib.hid hok
    have HE := Lib.hid (show paB (Jn : Int) xs = 0 ∧ paR (Jn : Int) xs = partsL Jn (labT xs (allI xs.length) (allI xs.length).length) by rw [labT_all]; simp [paB, paR, hok])
    have HAL := Lib.hid (And.intro (allI_mem xs.length) (show (allI xs.length).length ≤ 1000 by rw [allI_len]; omega))
    go_enter Try.func10, Try.ntmps10
    go_wp2_with fail
    (with_reducible refine (HOKC.out).mono ?_)
    rintro e w1 ⟨rfl, n, rfl⟩
    rw [hok]
    have HK1 := Lib.hid (show ((w.alloc (.cells #[.int .i64 (Jn : Int), .slice A xs.length cap] 31)).drewN n).cell? ⟨w.heap.size, 0, none⟩ = some (.int .i64 (Jn : Int)) ∧ ((w.alloc (.cells #[.int .i64 (Jn : Int), .slice A xs.length cap] 31)).drewN n).cell? ⟨w.heap.size, 1, none⟩ = some (.slice A xs.length cap) ∧ AwR ((w.alloc (.cells #[.int .i64 (Jn : Int), .slice A xs.length cap] 31)).drewN n) A xs from HK.out)
    have HB1 := Lib.hid (show Below w.heap.size w ((w.alloc (.cells #[.int .i64 (Jn : Int), .slice A xs.length cap] 31)).drewN n) from below_drewN' HB0.out n)
    generalize (w.alloc (.cells #[.int .i64 (Jn : Int), .slice A xs.length cap] 31)).drewN n = W1 at *
    have hw1 : w.heap.size < W1.heap.size := World.block_lt_of_cell? _ _ HK1.out.1
    go_wp2_with (first
      | (go_at_call 35; refine (l04All_any w.heap.size xs.length cap A (-1) _ HK1.out.2.1 (by omega)).mono ?_; rintro e w2 ⟨u, rfl, ho, hd2⟩; have HO2 := Lib.hid (show OwnI w2 W1.heap.size u (allI xs.length) from ho); have HB2 := Lib.hid hd2; clear ho hd2)
      | (go_at_call 34; refine (l04Parts_any w.heap.size cap Jn A xs _ (allI xs.length) _ ((HB2.out.cell (p := ⟨w.heap.size, 0, none⟩) hw1).trans HK1.out.1) ((HB2.out.cell (p := ⟨w.heap.size, 1, none⟩) hw1).trans HK1.out.2.1) (HK1.out.2.2.below HB2.out) (RowW.of_ownI HO2.out) HAL.out.1 HAL.out.2 HOK.out).mono ?_; rintro e w3 ⟨u3, rfl, ho, hd3⟩; have HO3 := Lib.hid ho; have HB3 := Lib.hid (HB2.out.trans (hd3.mono HB2.out.size)); have hz2 := HB2.out.size; clear ho hd3))
    go_ret2
    exact ⟨_, ret_vp HE.out.1.symm, by rw [HE.out.2]; exact own_lep HO3.out (by omega), HB1.out.trans (HB3.out.mono HB1.out.size)⟩
set_option maxHeartbeats 4000000 in
set_option maxRecDepth 100000 in
theorem iPartsOf_any (J : Int) (A : Option Addr) (cap : Nat) (xs : List Aw) (w : World) (hr : AwR w A xs) (hs : ∀ a ∈ xs, a.s.size ≤ maxLen) (hl : xs.length ≤ 1048576) :
    Calls Try.prog 12 #[.agg #[.int .i64 J, .slice A xs.length cap]] w fun e w' => ∃ v, e = .returned (.tuple #[v, .int .i64 (paB J xs)]) ∧ OwnI w' w.heap.size v (paR J xs) ∧ Below w.heap.size w w' := by
  have HB0 := Lib.hid (below_box w (.cells #[.int .i64 J, .slice A xs.length cap] 31))
  have HK0 := Lib.hid (show (w.alloc (.cells #[.int .i64 J, .slice A xs.length cap] 31)).cell? ⟨w.heap.size, 0, none⟩ = some (.int .i64 J) ∧ (w.alloc (.cells #[.int .i64 J, .slice A xs.length cap] 31)).cell? ⟨w.heap.size, 1, none⟩ = some (.slice A xs.length cap) ∧ AwR (w.alloc (.cells #[.int .i64 J, .slice A xs.length cap] 31)) A xs from ⟨by simp, by simp, hr.below HB0.out⟩)
  have HS0 := Lib.hid hs
  have c0 := HK0.out.1
  have c1 := HK0.out.2.1
  clear hr hs
  cases hok : mineOk J xs
  · have HE := Lib.hid (show paB J xs = 1 ∧ paR J xs = [] by simp [paB, paR, hok])
    go_enter Try.func12, Try.ntmps12
    go_wp2_with (go_at_call 37; refine (iValidMine_any J A cap xs _ HK0.out.2.2 HS0.out hl).mono ?_; rintro e w1 ⟨rfl, hd1⟩; rw [hok]; have HB1 := Lib.hid (HB0.out.trans (hd1.mono HB0.out.size)); have HK1 := Lib.hid (show w1.cell? ⟨w.heap.size, 0, none⟩ = some (.int .i64 J) ∧ w1.cell? ⟨w.heap.size, 1, none⟩ = some (.slice A xs.length cap) ∧ AwR w1 A xs from ⟨cell_keep HK0.out.1 hd1, cell_keep HK0.out.2.1 hd1, HK0.out.2.2.below hd1⟩); have c0_1 := HK1.out.1; have c1_1 := HK1.out.2.1; have hw1 : w.heap.size < w1.heap.size := World.block_lt_of_cell? _ _ HK1.out.1; have c1_2 := (World.cell?_alloc_past (.map #[] 0) w.heap.size 1 hw1).trans HK1.out.2.1; clear hd1)
    go_ret2
    exact ⟨_, ret_vp HE.out.1.symm, by rw [HE.out.2]; exact own_nilp _ _, HB1.out⟩
  · obtain ⟨hj, -, h24⟩ := mineOk_iff.1 hok
    obtain ⟨Jn, rfl⟩ : ∃ Jn : Nat, J = Jn := ⟨J.toNat, by omega⟩
    have HOK := Lib.hid hok
    have HE := Lib.hid (show paB (Jn : Int) xs = 0 ∧ paR (Jn : Int) xs = partsL Jn (labsE (es2 xs xs.length)) by simp [paB, paR, hok])
    have HNN := Lib.hid (fun k => es2_nn hok k)
    have hmm := @run_makeMap Try.prog
    have hmk := run_make_row' (P := Try.prog) 26 2 (.int .i64 0) 8 Try.underlying26 info_i64 rfl .i64 .i64 Jn (by omega) (by omega)
    go_enter Try.func12, Try.ntmps12
    go_wp2_with (go_at_call 37; refine (iValidMine_any _ A cap xs _ HK0.out.2.2 HS0.out hl).mono ?_; rintro e w1 ⟨rfl, hd1⟩; rw [hok]; have HB1 := Lib.hid (HB0.out.trans (hd1.mono HB0.out.size)); have HK1 := Lib.hid (show w1.cell? ⟨w.heap.size, 0, none⟩ = some (.int .i64 (Jn : Int)) ∧ w1.cell? ⟨w.heap.size, 1, none⟩ = some (.slice A xs.length cap) ∧ AwR w1 A xs from ⟨cell_keep HK0.out.1 hd1, cell_keep HK0.out.2.1 hd1, HK0.out.2.2.below hd1⟩); have c0_1 := HK1.out.1; have c1_1 := HK1.out.2.1; have hw1 : w.heap.size < w1.heap.size := World.block_lt_of_cell? _ _ HK1.out.1; have c1_2 := (World.cell?_alloc_past (.map #[] 0) w.heap.size 1 hw1).trans HK1.out.2.1; clear hd1)
    clear hmm
    have HM0 := Lib.hid (show (w1.alloc (.map #[] 0)).ownsMap (H := Unit) Try.prog 2 (plainElem Try.prog 2) w1.heap.size 0 (.map []) from World.ownsMap_made (H := Unit) w1 Try.prog 2 (plainElem Try.prog 2))
    have HBM := Lib.hid (below_box w1 (.map #[] 0))
    go_loopw [16] (fun i wr => ∃ (k n' : Nat) (m : DataW Unit), k ≤ xs.length ∧ i = .int .i64 k ∧ n' ≤ k ∧ Hid (MapF m (joinsF (es2 xs k))) ∧ Hid (wr.ownsMap (H := Unit) Try.prog 2 (plainElem Try.prog 2) w1.heap.size n' m) ∧ Hid (Below w1.heap.size w1 wr)) (fun i wr => xs.length - (intOf i).toNat)
    case atStart => exact ⟨0, 0, _, by omega, rfl, by omega, MapF.empty, HM0, HBM⟩
    case round =>
      obtain ⟨k, n', m, hk, rfl, hn', HMF, HO, HB⟩ := hrel
      have HJF := Lib.hid (joinsF_falls (es2 xs k) (HNN.out k))
      by_cases hlt : k < xs.length
      · obtain ⟨g, off, rfl, hrg⟩ := HK1.out.2.2.below HB.out k hlt
        obtain ⟨⟨d0, d1, d2, d3⟩, d4, d5, d6⟩ := lay_row hrg
        have hen := ends_inU HOK.out hlt
        have HES := Lib.hid (show joinsF (es2 xs (k + 1)) = joinF (joinsF (es2 xs k)) xs[k].f xs[k].t by rw [es2_snoc hlt]; rfl)
        generalize xs[k] = a at *
        obtain ⟨sa, f, t, l, se, fr, sh⟩ := a
        dsimp only at d0 d1 d2 d3 d4 d5 d6 hen HES
        clear hrg
        obtain ⟨fn, rfl⟩ : ∃ fn : Nat, f = fn := ⟨f.toNat, by omega⟩
        obtain ⟨tn, rfl⟩ : ∃ tn : Nat, t = tn := ⟨t.toNat, by omega⟩
        have HO2 := Lib.hid (show (wr.alloc (.cells #[.string sa, .int .i64 (fn : Int), .int .i64 (tn : Int), .int .i64 l, .int .i64 se, .int .i64 fr, .int .i64 sh] 58)).ownsMap (H := Unit) Try.prog 2 (plainElem Try.prog 2) w1.heap.size n' m from HO.out.alloc _)
        have HB2 := Lib.hid (show Below w1.heap.size w1 (wr.alloc (.cells #[.string sa, .int .i64 (fn : Int), .int .i64 (tn : Int), .int .i64 l, .int .i64 se, .int .i64 fr, .int .i64 sh] 58)) from HB.out.alloc HB.out.size _)
        have hwz := HB2.out.size
        go_wp2_with (go_at_call 38; refine (gJoin_any w1.heap.size n' m (joinsF (es2 xs k)) fn tn _ HMF.out HJF.out HO2.out (by omega) (by omega) (by omega)).mono ?_; rintro e w3 ⟨rfl, m3, n3, hn3, hm3, ho3, hg3⟩; have HM3 := Lib.hid hm3; have HO3 := Lib.hid ho3; have HB3 := Lib.hid (HB2.out.grown hg3 hwz (fun j hj => by injection hj with hj; omega)); clear hm3 ho3 hg3)
        go_roundw
        case rel => exact ⟨k + 1, n3, m3, by omega, by go_num, by omega, by rw [HES.out]; exact HM3, HO3, HB3⟩
        case measure => simp [intOf]; omega
      · obtain rfl : k = xs.length := by omega
        obtain ⟨wo, rfl⟩ : ∃ wo : World, wo = wr := ⟨_, rfl⟩
        have HRT := Lib.hid (root_joins (es2 xs xs.length) (HNN.out _))
        have HLB := Lib.hid (fun (j : Nat) => labs_le (es2 xs xs.length) (HNN.out _) (x := (j : Int)) (by omega))
        have hm0 : wo.cell? ⟨w.heap.size, 0, none⟩ = some (.int .i64 (Jn : Int)) := (HB.out.cell (p := ⟨w.heap.size, 0, none⟩) hw1).trans HK1.out.1
        have hzr := HB.out.size
        have hmb := HO.out.lt
        have hwr : w.heap.size < wo.heap.size := by omega
        have HRW := Lib.hid (show root (joinsF (es2 xs xs.length)) = labsE (es2 xs xs.length) from root_joins _ (HNN.out _))
        have HFL := Lib.hid (joinsF_falls (es2 xs xs.length) (HNN.out _))
        go_wp2_with fail
        clear hmk HJF HRT
        generalize joinsF (es2 xs xs.length) = F at *
        generalize hlab : labsE (es2 xs xs.length) = lab at *
        go_loopw [32] (fun i wr => ∃ z : Nat, z ≤ Jn ∧ i = .int .i64 z ∧ wr.ownsRow w1.heap.size 2 1 (.slice (some ⟨wo.heap.size, 0, none⟩) Jn Jn) Jn (intsV (midL Jn (fun _ => 0) lab z)) ∧ Hid (wr.ownsMap (H := Unit) Try.prog 2 (plainElem Try.prog 2) w1.heap.size n' m) ∧ Below w1.heap.size w1 wr) (fun i wr => Jn - (intOf i).toNat)
        case atStart =>
          refine ⟨0, by omega, rfl, ?_, Lib.hid (HO.out.alloc _), HB.out.alloc hzr _⟩
          have h := World.ownsRow_lit (base := w1.heap.size) (e := 2) (size := 1) wo (madeCells #[.int .i64 0] Jn) Jn hzr (by unfold maxLen; omega) (by simp [madeCells])
          have e : (madeCells #[.int .i64 0] Jn).toList = intsV (midL Jn (fun _ => 0) lab 0) := by
            rw [midL_zero]
            simp [madeCells, intsV, Nat.mod_one, List.map_const', partsL]
          rw [e] at h
          exact h
        case round =>
          obtain ⟨z, hz, rfl, hown, HOz, hbz⟩ := hrel
          by_cases hzk : z < Jn
          · have dz : wr.cell? ⟨wo.heap.size, z, none⟩ = some (.int .i64 0) := by rw [hown.cellAt z (by omega), midL_at _ _ hzk]
            have fz := hown.frozenAt z
            have hzI : (z : Int) < (Jn : Int) := by omega
            have HP := Lib.hid (midL_put (lab := fun _ => 0) (lab' := lab) hzk)
            have HOw := Lib.hid hown
            have HBz := Lib.hid hbz
            have hne : w1.heap.size ≠ wo.heap.size := by omega
            clear hown hbz
            have HRZ := Lib.hid (show root F (z : Int) = lab (z : Int) by rw [HRW.out])
            go_wp2_with (go_at_call 39; refine (gFirst_any w1.heap.size n' m F z _ HMF.out HFL.out HOz.out (by omega)).mono ?_; rintro e w' ⟨rfl, rfl⟩; rw [HRZ.out])
            go_roundw
            case rel => exact ⟨z + 1, by omega, by go_num, by
              have h := (HOw.out.stored z (.int .i64 (lab (z : Int)))).1
              rwa [HP.out] at h, Lib.hid (HOz.out.setCell hne _), HBz.out.setCell (by show w1.heap.size ≤ wo.heap.size; omega) _⟩
            case measure => simp [intOf]; omega
          · obtain rfl : z = Jn := by omega
            rw [midL_full] at hown
            have HOW := Lib.hid (show OwnI wr w1.heap.size _ (partsL z lab) by unfold OwnI; rw [partsL_len]; exact hown)
            have HBz := Lib.hid hbz
            clear hown hbz
            go_wp2
            go_ret2
            exact ⟨_, ret_vp HE.out.1.symm, by rw [HE.out.2]; exact own_lep HOW.out (by omega), HB1.out.trans (HBz.out.mono HB1.out.size)⟩
end Go.Proofs.Ytpojacacpbpehaa
