/-
  MeshesOf, the model's and the program's. Conditions: those that each theorem states.
-/
import Derived.Test.YtjooebiiceillaaUw
namespace Go.Proofs.Ytjooebiiceillaa
open Go.RowKit
set_option linter.unusedVariables false
set_option linter.unusedSimpArgs false

/-- What MeshesOf returns. -/
def msR (J : Int) (xs : List Aw) : List (List Int) := if mineOk J xs then mshT J.toNat xs xs.length else []
theorem mshT_map (Jn : Nat) (xs : List Aw) : ∀ k, mshT Jn xs k = (ixT (fun (j : Nat) => !(treeP xs j)) k).map (fun y => rowM Jn xs y.toNat)
  | 0 => rfl
  | k + 1 => by
    rw [mshT, ixT, mshT_map Jn xs k]
    cases treeP xs k
    · simp
    · simp
theorem ret_vm {v : Value} {b b' : Int} (h : b = b') : Ending.returned (.tuple #[v, .int .i64 b]) = .returned (.tuple #[v, .int .i64 b']) := by rw [h]
theorem ss_nil (w : World) (B : Nat) : OwnSS w B (.slice none 0 0) [] := ⟨[], World.ownsRow_nil _ _ _ _, OwnRs.nil _ _, fun k h => absurd h (by simp)⟩
set_option maxHeartbeats 1000000 in
theorem sMeshesOf_any (J : Int) (A : Option Addr) (cap : Nat) (xs : List Aw) (w : World) (hr : AwR w A xs) (hs : ∀ a ∈ xs, a.s.size ≤ maxLen) (hl : xs.length ≤ 1048576) :
    Calls Try.prog 41 #[.agg #[.int .i64 J, .slice A xs.length cap]] w fun e w' => ∃ v, e = .returned (.tuple #[v, .int .i64 (paB J xs)]) ∧ OwnSS w' w.heap.size v (msR J xs) ∧ Below w.heap.size w w' := by
  have HB0 := Lib.hid (below_box w (.cells #[.int .i64 J, .slice A xs.length cap] 36))
  have HOKC := Lib.hid (l04Ok_any w.heap.size J A cap xs (w.alloc (.cells #[.int .i64 J, .slice A xs.length cap] 36)) (by simp) (by simp) (hr.below HB0.out) hs hl)
  have HK := Lib.hid (show (w.alloc (.cells #[.int .i64 J, .slice A xs.length cap] 36)).cell? ⟨w.heap.size, 0, none⟩ = some (.int .i64 J) ∧ (w.alloc (.cells #[.int .i64 J, .slice A xs.length cap] 36)).cell? ⟨w.heap.size, 1, none⟩ = some (.slice A xs.length cap) ∧ AwR (w.alloc (.cells #[.int .i64 J, .slice A xs.length cap] 36)) A xs from ⟨by simp, by simp, hr.below HB0.out⟩)
  clear hr hs
  cases hok : mineOk J xs
  · have HE := Lib.hid (show paB J xs = 1 ∧ msR J xs = [] by simp [paB, msR, hok])
    go_enter Try.func41, Try.ntmps41
    go_wp2_with fail
    (with_reducible refine (HOKC.out).mono ?_)
    rintro e w1 ⟨rfl, n, rfl⟩
    rw [hok]
    have HK1 := Lib.hid (show ((w.alloc (.cells #[.int .i64 J, .slice A xs.length cap] 36)).drewN n).cell? ⟨w.heap.size, 0, none⟩ = some (.int .i64 J) ∧ ((w.alloc (.cells #[.int .i64 J, .slice A xs.length cap] 36)).drewN n).cell? ⟨w.heap.size, 1, none⟩ = some (.slice A xs.length cap) ∧ AwR ((w.alloc (.cells #[.int .i64 J, .slice A xs.length cap] 36)).drewN n) A xs from HK.out)
    have HB1 := Lib.hid (show Below w.heap.size w ((w.alloc (.cells #[.int .i64 J, .slice A xs.length cap] 36)).drewN n) from below_drewN' HB0.out n)
    generalize (w.alloc (.cells #[.int .i64 J, .slice A xs.length cap] 36)).drewN n = W1 at *
    go_wp2
    go_ret2
    exact ⟨_, ret_vm HE.out.1.symm, by rw [HE.out.2]; exact ss_nil _ _, HB1.out⟩
  · obtain ⟨hj, -, h24⟩ := mineOk_iff.1 hok
    obtain ⟨Jn, rfl⟩ : ∃ Jn : Nat, J = Jn := ⟨J.toNat, by omega⟩
    have HOK := Lib.hid hok
    have HE := Lib.hid (show paB (Jn : Int) xs = 0 ∧ msR (Jn : Int) xs = mshT Jn xs xs.length by simp [paB, msR, hok])
    go_enter Try.func41, Try.ntmps41
    go_wp2_with fail
    (with_reducible refine (HOKC.out).mono ?_)
    rintro e w1 ⟨rfl, n, rfl⟩
    rw [hok]
    have HK1 := Lib.hid (show ((w.alloc (.cells #[.int .i64 (Jn : Int), .slice A xs.length cap] 36)).drewN n).cell? ⟨w.heap.size, 0, none⟩ = some (.int .i64 (Jn : Int)) ∧ ((w.alloc (.cells #[.int .i64 (Jn : Int), .slice A xs.length cap] 36)).drewN n).cell? ⟨w.heap.size, 1, none⟩ = some (.slice A xs.length cap) ∧ AwR ((w.alloc (.cells #[.int .i64 (Jn : Int), .slice A xs.length cap] 36)).drewN n) A xs from HK.out)
    have HB1 := Lib.hid (show Below w.heap.size w ((w.alloc (.cells #[.int .i64 (Jn : Int), .slice A xs.length cap] 36)).drewN n) from below_drewN' HB0.out n)
    generalize (w.alloc (.cells #[.int .i64 (Jn : Int), .slice A xs.length cap] 36)).drewN n = W1 at *
    go_wp2_with fail
    (with_reducible refine (l04Meshes_any w.heap.size cap Jn A xs _ HK1.out.1 HK1.out.2.1 HK1.out.2.2 HOK.out).mono ?_)
    rintro e w2 ⟨u2, rfl, ho2, hd2⟩
    have HO2 := Lib.hid ho2
    have HB2 := Lib.hid (HB1.out.trans (hd2.mono HB1.out.size))
    clear ho2 hd2
    go_wp2
    go_ret2
    exact ⟨_, ret_vm HE.out.1.symm, by rw [HE.out.2]; exact HO2.out.mono HB1.out.size, HB2.out⟩
set_option maxRecDepth 100000 in
theorem isClosedU_any (J : Int) (A : Option Addr) (n cap b c k : Nat) (m : DataW Unit) (p : Nat → Bool) (w : World) (hm : MapB m p n) (hown : w.ownsMap (H := Unit) Try.prog 2 (plainElem Try.prog 4) b c m) (hk : k < n) (hn : n ≤ 1000) :
    Calls Try.prog 92 #[.agg #[.int .i64 J, .slice A n cap, .map (some b)], .int .i64 (k : Int)] w fun e w' => e = .returned (.bool (p k)) ∧ Below w.heap.size w w' := by
  have hrun := look_bool b c k m p n (w.alloc (.cells #[.int .i64 J, .slice A n cap, .map (some b)] 96)) hm (hown.alloc _) hk hn
  go_enter Try.func92, Try.ntmps92
  go_wp2
  go_ret
  exact ⟨by first | rfl | simp, below_box _ _⟩
set_option maxHeartbeats 2000000 in
set_option maxRecDepth 100000 in
theorem thatClosed (p : Nat → Bool) (J : Int) (A : Option Addr) (n cap b : Nat) (w : World) (hn : n ≤ 1048576)
    (hf : ∀ (k : Nat) (w1 : World), k < n → Below w.heap.size w w1 → Calls Try.prog 92 #[.agg #[.int .i64 J, .slice A n cap, .map (some b)], .int .i64 (k : Int)] w1 fun e w2 => e = .returned (.bool (p k)) ∧ Below w1.heap.size w1 w2) :
    Calls Try.prog 91 #[.agg #[.int .i64 J, .slice A n cap], .func (.func 92) #[.agg #[.int .i64 J, .slice A n cap, .map (some b)]] #[]] w fun e w' => ∃ v, e = .returned v ∧ OwnI w' w.heap.size v (ixT p n) ∧ Below w.heap.size w w' := by
  have HF := Lib.hid hf
  obtain ⟨i0, hi, hz0, hz1, hz2⟩ := info_parts info_i64
  have HB0 := Lib.hid (below_box w (.cells #[.int .i64 J, .slice A n cap] 36))
  clear hf
  go_enter Try.func91, Try.ntmps91
  go_wp2
  go_loopw [5, 10] (fun out i wr => ∃ k : Nat, k ≤ n ∧ i = .int .i64 k ∧ wr.ownsRow w.heap.size 2 1 out (ixT p k).length (intsV (ixT p k)) ∧ Below w.heap.size w wr) (fun out i wr => n - (intOf i).toNat)
  case atStart => exact ⟨0, by omega, rfl, World.ownsRow_nil _ _ _ _, HB0.out⟩
  case round =>
    obtain ⟨k, hk, rfl, hown, hbel⟩ := hrel
    by_cases hlt : k < n
    · have HX := Lib.hid (HF.out k wr hlt hbel)
      have hll := ixT_len p k
      have HO := Lib.hid hown
      have HBL := Lib.hid hbel
      have hwr : w.heap.size ≤ wr.heap.size := hbel.size
      clear hown hbel
      cases he : p k
      · rw [he] at HX
        have HN := Lib.hid (ixT_no he)
        clear he
        go_wp2_with fail
        (with_reducible refine (HX.out).mono ?_)
        rintro e w2 ⟨rfl, hb2⟩
        have HO2 := Lib.hid (own_below HO.out hb2)
        have HB2 := Lib.hid (HBL.out.trans (hb2.mono HBL.out.size))
        clear hb2
        go_wp2
        go_roundw
        case rel => exact ⟨k + 1, by omega, by go_num, by rw [HN.out]; exact HO2.out, HB2.out⟩
        case measure => simp [intOf]; omega
      · rw [he] at HX
        have HN := Lib.hid (ixT_yes he)
        clear he
        go_wp2_with fail
        (with_reducible refine (HX.out).mono ?_)
        rintro e w2 ⟨rfl, hb2⟩
        have HO2 := Lib.hid (own_below HO.out hb2)
        have HB2 := Lib.hid (HBL.out.trans (hb2.mono HBL.out.size))
        have hw2 : w.heap.size ≤ w2.heap.size := HB2.out.size
        clear hb2
        go_wp2_with (first
          | (at_builtin; refine wpList_append_own_at _ rfl _ _ 30 rfl w.heap.size 2 i0 (.int .i64 0) 1 8 Try.underlying30 hi hz0 hz1 hz2 rfl (by decide) _ _ _ rfl (HO2.out.alloc _) ⟨w2.heap.size, 0, none⟩ 1 1 [.int .i64 (k)] rfl rfl ?c1z ?c2z ?c3z ?c4z ?c5z ?_))
        case c1z => intro j u hj; match j, hj with | 0, hj => (simp at hj; subst hj; simp [Addr.add]) | j + 1, hj => (simp at hj)
        case c2z => simp [Value.oneCell']
        case c3z => unfold maxLen; omega
        case c4z => omega
        case c5z => (simp; omega)
        intro v3 w3 ho3 hg3 _ hl3
        have HO3 := Lib.hid ho3
        have HB3 := Lib.hid ((HB2.out.alloc HB2.out.size _).grown hg3 (by simp; omega) (fun k hk => (HO2.out.lt k hk).1))
        clear ho3 hg3 hl3
        go_wp2
        go_roundw
        case rel => exact ⟨k + 1, by omega, by go_num, by rw [HN.out, ints_snocY, List.length_append]; exact HO3.out, HB3.out⟩
        case measure => simp [intOf]; omega
    · obtain rfl : k = n := by omega
      have HO := Lib.hid hown
      have HBL := Lib.hid hbel
      clear hown hbel
      go_wp2
      go_ret
      exact ⟨_, rfl, HO.out, HBL.out⟩
theorem openTree_any (J x : Int) (A : Option Addr) (cap b c : Nat) (m : DataW Unit) (xs : List Aw) (w : World) (hn : xs.length ≤ 1000) (hr : AwR w A xs) (hm : MapB m (fun k => !(treeP xs k)) xs.length) (hown : w.ownsMap (H := Unit) Try.prog 2 (plainElem Try.prog 4) b c m) :
    Calls Try.prog 121 #[.agg #[.int .i64 J, .slice A xs.length cap, .map (some b)], .int .i64 x] w fun e w' => ∃ v, e = .returned v ∧ OwnI w' w.heap.size v (opnL xs (treeP xs) x) ∧ Below w.heap.size w w' := by
  have h := openAtZ_any J x A cap b c m (fun k => !(treeP xs k)) xs w hn hr (MapZ.of hm) hown
  have e : (fun k => !((fun k => !(treeP xs k)) k)) = treeP xs := funext fun k => Bool.not_not _
  rw [e] at h
  exact h
set_option maxHeartbeats 8000000 in
set_option maxRecDepth 100000 in
theorem iMeshesOf_any (J : Int) (A : Option Addr) (cap : Nat) (xs : List Aw) (w : World) (hr : AwR w A xs) (hs : ∀ a ∈ xs, a.s.size ≤ maxLen) (hl : xs.length ≤ 1048576) :
    Calls Try.prog 42 #[.agg #[.int .i64 J, .slice A xs.length cap]] w fun e w' => ∃ v, e = .returned (.tuple #[v, .int .i64 (paB J xs)]) ∧ OwnSS w' w.heap.size v (msR J xs) ∧ Below w.heap.size w w' := by
  obtain ⟨i0, hi, hz0, hz1, hz2⟩ := info_parts info_i64
  obtain ⟨iR, hiR, hzR0, hzR1, hzR2⟩ := info_parts info_rows
  have HB0 := Lib.hid (below_box w (.cells #[.int .i64 J, .slice A xs.length cap] 36))
  have HR0 := Lib.hid (hr.below HB0.out)
  have HV := Lib.hid (iValidMine_any J A cap xs (w.alloc (.cells #[.int .i64 J, .slice A xs.length cap] 36)) HR0.out hs hl)
  have c0 : (w.alloc (.cells #[.int .i64 J, .slice A xs.length cap] 36)).cell? ⟨w.heap.size, 0, none⟩ = some (.int .i64 J) := by simp
  have c1 : (w.alloc (.cells #[.int .i64 J, .slice A xs.length cap] 36)).cell? ⟨w.heap.size, 1, none⟩ = some (.slice A xs.length cap) := by simp
  clear hr hs
  cases hok : mineOk J xs
  · have HE := Lib.hid (show paB J xs = 1 ∧ msR J xs = [] by simp [paB, msR, hok])
    rw [hok] at HV
    go_enter Try.func42, Try.ntmps42
    go_wp2_with fail
    (with_reducible refine (HV.out).mono ?_)
    rintro e w1 ⟨rfl, hb⟩
    go_wp2
    go_ret2
    exact ⟨_, ret_vm HE.out.1.symm, by rw [HE.out.2]; exact ss_nil _ _, HB0.out.trans (hb.mono (by simp))⟩
  · obtain ⟨hj, -, h24⟩ := mineOk_iff.1 hok
    rw [hok] at HV
    obtain ⟨Jn, rfl⟩ : ∃ Jn : Nat, J = Jn := ⟨J.toNat, by omega⟩
    have HOK := Lib.hid hok
    have HE := Lib.hid (show paB (Jn : Int) xs = 0 ∧ msR (Jn : Int) xs = (ixT (fun (j : Nat) => !(treeP xs j)) xs.length).map (fun y => rowM Jn xs y.toNat) by rw [← mshT_map]; simp [paB, msR, hok])
    clear hok
    go_enter Try.func42, Try.ntmps42
    go_wp2_with fail
    (with_reducible refine (HV.out).mono ?_)
    rintro e w1 ⟨rfl, hb⟩
    have HB1 := Lib.hid (HB0.out.trans (hb.mono (by simp)))
    have HR1 := Lib.hid (HR0.out.below hb)
    have d0 := cellK1 c0 hb
    have d1 := cellK1 c1 hb
    clear hb c0 c1
    go_wp2_with fail
    (with_reducible refine (treeOnly_any Jn A cap xs _ HR1.out HOK.out).mono ?_)
    rintro e w2 ⟨tb, tc, tm, rfl, hmb, hom, hd2⟩
    have HMB := Lib.hid hmb
    have HM2 := Lib.hid (fun (o : Obj) => hom.alloc o)
    have HB2 := Lib.hid (fun (o : Obj) => show Below w1.heap.size w1 (w2.alloc o) from hd2.alloc hd2.size o)
    have e0 := cellK1 d0 hd2
    have e1 := cellK1 d1 hd2
    have hq1 : w.heap.size < w2.heap.size := World.block_lt_of_cell? _ _ e0
    have hq3 : ¬ (w.heap.size = w2.heap.size) := by omega
    clear hmb hom hd2 d0 d1
    go_wp2_with fail
    have n0 : (w2.alloc (.cells #[.int .i64 (Jn : Int), .slice A xs.length cap, .map (some tb)] 96)).cell? ⟨w2.heap.size, 0, none⟩ = some (.int .i64 (Jn : Int)) := by simp
    have n1 : (w2.alloc (.cells #[.int .i64 (Jn : Int), .slice A xs.length cap, .map (some tb)] 96)).cell? ⟨w2.heap.size, 1, none⟩ = some (.slice A xs.length cap) := by simp
    have n2 : (w2.alloc (.cells #[.int .i64 (Jn : Int), .slice A xs.length cap, .map (some tb)] 96)).cell? ⟨w2.heap.size, 2, none⟩ = some (.map (some tb)) := by simp
    have e1' := cellK1 e1 (below_box w2 (.cells #[.int .i64 (Jn : Int), .slice A xs.length cap, .map (some tb)] 96))
    (with_reducible refine (thatClosed (fun (j : Nat) => !(treeP xs j)) (Jn : Int) A xs.length cap tb _ hl (fun k w4 hk4 hb4 => isClosedU_any (Jn : Int) A xs.length cap tb tc k tm (fun (j : Nat) => !(treeP xs j)) w4 HMB.out (ownsMap_below (HM2.out _) hb4) hk4 (by omega))).mono ?_)
    rintro e w3 ⟨vL, rfl, hoL, hd3⟩
    obtain ⟨lA, lc, rfl⟩ := hoL.form
    have HL := Lib.hid (RowW.of_ownI hoL)
    have HB3 := Lib.hid (show Below w1.heap.size w1 w3 from (HB2.out (.cells #[.int .i64 (Jn : Int), .slice A xs.length cap, .map (some tb)] 96)).trans (hd3.mono (HB2.out (.cells #[.int .i64 (Jn : Int), .slice A xs.length cap, .map (some tb)] 96)).size))
    have HN3 := Lib.hid (And.intro (cellK1 e1' hd3) (And.intro (cellK1 n0 hd3) (And.intro (cellK1 n1 hd3) (cellK1 n2 hd3))))
    have HM3 := Lib.hid (ownsMap_below (HM2.out (.cells #[.int .i64 (Jn : Int), .slice A xs.length cap, .map (some tb)] 96)) hd3)
    have HR3 := Lib.hid (HR1.out.below HB3.out)
    have HLM := Lib.hid (show ∀ y ∈ (ixT (fun (j : Nat) => !(treeP xs j)) xs.length), ∃ ix : Nat, y = ix ∧ ix < xs.length ∧ treeP xs ix = false from fun y hy => by
      have h1 := ixT_mem _ _ _ hy
      obtain ⟨ix, rfl⟩ : ∃ ix : Nat, y = ix := ⟨y.toNat, by omega⟩
      have h2 := ixT_has (fun (j : Nat) => !(treeP xs j)) ix xs.length
      rw [decide_eq_true hy] at h2
      refine ⟨ix, rfl, by omega, ?_⟩
      have h3 := h2.symm
      rw [Bool.and_eq_true] at h3
      simpa using h3.2)
    have hq4 : w2.heap.size < w3.heap.size := World.block_lt_of_cell? _ _ HN3.out.2.1
    have HLN := Lib.hid (show (ixT (fun (j : Nat) => !(treeP xs j)) xs.length).length ≤ xs.length from ixT_len _ _)
    clear hoL hd3 n0 n1 n2 e0 e1 e1'
    obtain ⟨Ls, hLs⟩ : ∃ Ls, (ixT (fun (j : Nat) => !(treeP xs j)) xs.length) = Ls := ⟨_, rfl⟩
    rw [hLs] at HE HL HLM HLN ⊢
    clear hLs
    go_wp2
    go_loopw [4, 21] (fun out i wr => ∃ k : Nat, k ≤ Ls.length ∧ i = .int .i64 (k : Int) ∧ Hid (OwnSS wr w3.heap.size out ((Ls.take k).map (fun y => rowM Jn xs y.toNat))) ∧ Hid (Below w3.heap.size w3 wr)) (fun out i wr => Ls.length - (intOf i).toNat)
    case atStart => exact ⟨0, by omega, rfl, Lib.hid (by rw [List.take_zero]; exact ss_nil _ _), Lib.hid (Below.refl _ _)⟩
    case round =>
      obtain ⟨k, hk, rfl, HO, HBL⟩ := hrel
      have hwz : w3.heap.size ≤ wr.heap.size := HBL.out.size
      by_cases hlt : k < Ls.length
      · have hkI : (k : Int) < (Ls.length : Int) := by omega
        have hk24 : (k : Int) < 24 := by have := HLN.out; omega
        obtain ⟨la, lf, rfl, -, hcl⟩ := RowW.cell (HL.out.below HBL.out) hlt
        have HTK := Lib.hid (show Ls.take (k + 1) = Ls.take k ++ [Ls.getD k 0] by rw [show Ls.getD k 0 = Ls[k] by simp [List.getD, hlt]]; exact List.take_succ_eq_append_getElem hlt)
        obtain ⟨ix, hy, hix, hp⟩ := HLM.out (Ls.getD k 0) (by rw [show Ls.getD k 0 = Ls[k] by simp [List.getD, hlt]]; exact List.getElem_mem hlt)
        rw [hy] at hcl HTK
        have hllk : ((Ls.take k).map (fun y => rowM Jn xs y.toNat)).length = k := by simp; omega
        have HLK := Lib.hid hllk
        clear hy hllk
        have hixI : (ix : Int) < (xs.length : Int) := by omega
        have HNE := Lib.hid (mesh_ne HOK.out hix hp)
        have HRM := Lib.hid (show rowM Jn xs ix = ((ix : Int) + 1) :: wlkR Jn xs (treeL xs xs.length) xs[ix].t xs[ix].f by unfold rowM; rw [getD_of_lt hix])
        have hen := ends_in HOK.out hix
        have HRW := Lib.hid (HR3.out.below HBL.out)
        have b1 := cellK1 HN3.out.1 HBL.out
        have q0 := cellK1 HN3.out.2.1 HBL.out
        have q1 := cellK1 HN3.out.2.2.1 HBL.out
        have q2 := cellK1 HN3.out.2.2.2 HBL.out
        have HMW := Lib.hid (ownsMap_below HM3.out HBL.out)
        obtain ⟨g, off, rfl, hrg⟩ := HRW.out ix hix
        obtain ⟨⟨d0, d1, d2, d3⟩, d4, d5, d6⟩ := lay_row hrg
        generalize xs[ix] = a at *
        obtain ⟨sa, f, t, l, se, fr, sh⟩ := a
        dsimp only at d0 d1 d2 d3 d4 d5 d6 hen HNE HRM
        clear hrg hp
        obtain ⟨fn, rfl⟩ : ∃ fn : Nat, f = fn := ⟨f.toNat, by omega⟩
        obtain ⟨tn, rfl⟩ : ∃ tn : Nat, t = tn := ⟨t.toNat, by omega⟩
        have hf1 : fn < Jn := by omega
        have ht1 : tn < Jn := by omega
        have hgw : ¬ (w2.heap.size = wr.heap.size) := by omega
        have hgw2 : w2.heap.size < wr.heap.size := by omega
        have hgw3 : w.heap.size < wr.heap.size := by omega
        have HR4 := Lib.hid (fun (o : Obj) => HRW.out.below (below_box wr o))
        have HM4 := Lib.hid (fun (o : Obj) => HMW.out.alloc o)
        go_wp2_with fail
        (with_reducible refine (path_any (treeP xs) Jn (some ⟨g, off, none⟩) cap (.map (some tb)) xs tn fn _ (HR4.out _) HOK.out ht1 hf1 rfl (fun W z _ hbz => openTree_any (Jn : Int) z _ cap tb tc tm xs W (by omega) ((HR4.out _).below hbz) HMB.out (ownsMap_below (HM4.out _) hbz))).mono ?_)
        rintro e w5 ⟨u5, rfl, ho5, hd5⟩
        have HB5 := Lib.hid (show Below wr.heap.size wr w5 from (below_box wr _).trans (hd5.mono (by simp)))
        have HO5 := Lib.hid (show OwnI w5 wr.heap.size u5 (wlkR Jn xs (treeL xs xs.length) tn fn) from own_leW ho5 (by simp))
        have hwl := wlkR_lenV Jn xs (treeL xs xs.length) tn fn
        obtain ⟨ws, hws⟩ : ∃ ws, wlkR Jn xs (treeL xs xs.length) tn fn = ws := ⟨_, rfl⟩
        rw [hws] at HO5 HNE HRM hwl
        clear hws ho5 hd5 d0 d1 d2 d3 d4 d5 d6 b1 q0 q1 q2 hcl
        obtain ⟨vs, hv0, hrs0, hap0⟩ := HO.out
        have HV2 := Lib.hid (And.intro hv0 (And.intro hrs0 hap0))
        clear hv0 hrs0 hap0
        have hpos : 0 < ws.length := List.length_pos_iff.2 HNE.out
        obtain ⟨A5, c5, rfl⟩ := HO5.out.form
        obtain ⟨lb, lo, rfl, -, -⟩ := RowW.cell (RowW.of_ownI HO5.out) (j := 0) hpos
        have HC5 := Lib.hid (show ∀ j, j < ws.length → w5.cell? ⟨lb, lo + j, none⟩ = some (.int .i64 (ws.getD j 0)) from fun j hj => by
          obtain ⟨lb2, lo2, e, -, h⟩ := RowW.cell (RowW.of_ownI HO5.out) hj
          injection e with e
          injection e with e1 e2 e3
          subst e1 e2
          exact h)
        have hsz5 := HB5.out.size
        have hJ16 : Jn ≤ 16 := by omega
        have HLI := Lib.hid (show OwnI (w5.alloc (.cells #[] 2)) w5.heap.size (.slice (some ⟨w5.heap.size, 0, none⟩) 0 0) [] from World.ownsRow_lit _ _ 0 (Nat.le_refl _) (by simp [maxLen]) rfl)
        go_wp2_with fail
        (with_reducible refine (through_any w5.heap.size ix true _ [] _ HLI.out (by simp) (by simp) (by omega)).mono ?_)
        rintro e w7 ⟨u7, rfl, ho7, hd7⟩
        have HX7 := Lib.hid (show Below w5.heap.size w5 w7 from (below_box w5 _).trans hd7)
        have HB7 := Lib.hid (HB5.out.trans (HX7.out.mono hsz5))
        have HO7 := Lib.hid (show w7.ownsRow wr.heap.size 2 1 u7 1 [.int .i64 ((ix : Int) + 1)] from own_leW ho7 hsz5)
        have HC7 := Lib.hid (show ∀ j u, (intsV ws)[j]? = some u → w7.cell? ((⟨lb, lo, none⟩ : Addr).add j) = some u from fun j u hj => by
          have hjl : j < ws.length := by
            have := (List.getElem?_eq_some_iff.1 hj).1
            simpa [intsV] using this
          have hu : u = .int .i64 (ws.getD j 0) := by
            simp [intsV, hjl] at hj
            rw [← hj]; simp [List.getD, hjl]
          rw [hu, show ((⟨lb, lo, none⟩ : Addr).add j) = ⟨lb, lo + j, none⟩ from by simp [Addr.add]]
          exact cellK1 (HC5.out j hjl) HX7.out)
        have hsz7 := HB7.out.size
        clear ho7 hd7
        go_wp2_with (at_builtin; refine wpList_append_own_at _ rfl _ _ 99 rfl wr.heap.size 2 i0 (.int .i64 0) 1 8 Try.underlying99 hi hz0 hz1 hz2 rfl (by decide) _ _ _ rfl HO7.out ⟨lb, lo, none⟩ ws.length c5 (intsV ws) rfl (by simp [intsV]) HC7.out ?c2z ?c3z ?c4z ?c5z ?_)
        case c2z => intro u hu; simp [intsV] at hu; obtain ⟨z, -, rfl⟩ := hu; simp [Value.oneCell']
        case c3z => unfold maxLen; omega
        case c4z => omega
        case c5z => omega
        intro v8 w8 ho8 hg8 _ hm8
        have HB8 := Lib.hid (show Below wr.heap.size wr w8 from HB7.out.grown hg8 hsz7 (fun j hj => (World.ownsRow.lt HO7.out j hj).1))
        have HU8 := Lib.hid (show OwnI w8 wr.heap.size v8 (rowM Jn xs ix) from by
          unfold OwnI
          rw [HRM.out, List.length_cons, Nat.add_comm ws.length 1]
          exact ho8)
        clear ho8 hg8 hm8
        obtain ⟨A8, c8, rfl⟩ := HU8.out.form
        have HV5 := Lib.hid (fun (o : Obj) => own_below HV2.out.1 (HB8.out.alloc HB8.out.size o))
        have hB8s := HB8.out.size
        have hlk2 := HLK.out
        go_wp2_with (at_builtin; refine wpList_append_own_at _ rfl _ _ 53 rfl w3.heap.size 30 iR (.slice none 0 0) 1 24 Try.underlying53 hiR hzR0 hzR1 hzR2 rfl (by decide) _ _ _ rfl (HV5.out _) ⟨w8.heap.size, 0, none⟩ 1 1 [.slice A8 (rowM Jn xs ix).length c8] rfl rfl ?c1z ?c2z ?c3z ?c4z ?c5z ?_)
        case c1z => intro j u hj; match j, hj with | 0, hj => (simp at hj; subst hj; simp [Addr.add]) | j + 1, hj => (simp at hj)
        case c2z => simp [Value.oneCell']
        case c3z => have := HLK.out; have := HLN.out; unfold maxLen; omega
        case c4z => have := HLK.out; have := HLN.out; omega
        case c5z => (simp; omega)
        intro v6 w6 ho6 hg6 _ hm6
        have HS6 := Lib.hid (ss_app HV2.out.1 HV2.out.2.1 HV2.out.2.2 (HB8.out.alloc HB8.out.size _) (World.ownsRow.alloc HU8.out _) hwz (by rw [HLK.out]; exact ho6) hg6 (by rw [World.size_alloc]; exact hm6))
        have HB6 := Lib.hid (show Below w3.heap.size w3 w6 from (HBL.out.trans ((HB8.out.alloc HB8.out.size _).mono hwz)).grown hg6 (by simp; omega) (fun j hj => (World.ownsRow.lt HV2.out.1 j hj).1))
        have HMP := Lib.hid (show (Ls.take (k + 1)).map (fun y => rowM Jn xs y.toNat) = (Ls.take k).map (fun y => rowM Jn xs y.toNat) ++ [rowM Jn xs ix] by rw [HTK.out, List.map_append]; rfl)
        clear ho6 hg6 hm6 hlk2
        go_wp2
        go_roundw
        case rel => exact ⟨k + 1, by omega, by go_num, by rw [HMP.out]; exact HS6, HB6⟩
        case measure => simp [intOf]; omega
      · obtain rfl : k = Ls.length := by omega
        obtain ⟨wo, rfl⟩ : ∃ wo : World, wo = wr := ⟨_, rfl⟩
        have HFI := Lib.hid (show OwnSS wo w3.heap.size u4 (Ls.map (fun y => rowM Jn xs y.toNat)) from by have := HO.out; rwa [List.take_length] at this)
        go_wp2
        go_ret2
        exact ⟨_, ret_vm HE.out.1.symm, by rw [HE.out.2]; exact HFI.out.mono (Nat.le_trans HB1.out.size HB3.out.size), HB1.out.trans ((HB3.out.trans (HBL.out.mono HB3.out.size)).mono HB1.out.size)⟩
end Go.Proofs.Ytjooebiiceillaa
