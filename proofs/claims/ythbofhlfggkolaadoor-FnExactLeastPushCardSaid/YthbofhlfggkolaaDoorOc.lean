/-
  Potentials: the edges of a mine, how low they may lie, and the model's search. Conditions: those that each theorem states.
-/
import Derived.Test.YthbofhlfggkolaaDoorOb
import Derived.Test.YthbofhlfggkolaaDoorZr
import Derived.Deep.RegionWith
import Derived.BigQuiet
namespace Go.Proofs.YthbofhlfggkolaaDoor
open Go.RowKit
set_option linter.unusedVariables false
set_option linter.unusedSimpArgs false

/-- What is pushed too much, and the edges of an airway: along it, and back if there is no regulator. -/
def exF (dr pu : List Int) (i : Nat) : Int := pu.getD i 0 - dr.getD i 0
def eA (xs : List Aw) (ex : Nat → Int) (i : Nat) : Ed := ⟨(xs.getD i Aw.none).f.toNat, (xs.getD i Aw.none).t.toNat, ex i⟩
def eB (xs : List Aw) (ex : Nat → Int) (i : Nat) : Ed := ⟨(xs.getD i Aw.none).t.toNat, (xs.getD i Aw.none).f.toNat, -(ex i)⟩
def edI (xs : List Aw) (ex : Nat → Int) (rg : List Bool) (i : Nat) : List Ed := eA xs ex i :: (if rg.getD i false then [] else [eB xs ex i])
def edT (xs : List Aw) (ex : Nat → Int) (rg : List Bool) : Nat → List Ed
  | 0 => []
  | k + 1 => edT xs ex rg k ++ edI xs ex rg k
theorem edT_ok {J : Int} {xs : List Aw} {ex : Nat → Int} {rg : List Bool} (hok : mineOk J xs = true) : ∀ k, k ≤ xs.length → Ok J.toNat (edT xs ex rg k)
  | 0, _ => fun e he => by cases he
  | k + 1, hk => fun e he => by
    rw [edT] at he
    rcases List.mem_append.1 he with he | he
    · exact edT_ok hok k (by omega) e he
    · have h := ends_in hok (show k < xs.length by omega)
      have hg : xs.getD k Aw.none = xs[k] := getD_of_lt (by omega)
      unfold edI at he
      rcases List.mem_cons.1 he with rfl | he
      · show (xs.getD k Aw.none).f.toNat < _ ∧ (xs.getD k Aw.none).t.toNat < _
        rw [hg]; omega
      · split at he
        · cases he
        · obtain rfl := List.mem_singleton.1 he
          show (xs.getD k Aw.none).t.toNat < _ ∧ (xs.getD k Aw.none).f.toNat < _
          rw [hg]; omega
theorem edT_len (xs : List Aw) (ex : Nat → Int) (rg : List Bool) : ∀ k, (edT xs ex rg k).length ≤ 2 * k
  | 0 => Nat.le_refl _
  | k + 1 => by
    rw [edT, List.length_append]
    have := edT_len xs ex rg k
    have : (edI xs ex rg k).length ≤ 2 := by unfold edI; split <;> simp
    omega
theorem edT_g {xs : List Aw} {ex : Nat → Int} {rg : List Bool} {G : Int} (h : ∀ i, i < xs.length → -G ≤ ex i ∧ ex i ≤ G) : ∀ k, k ≤ xs.length → ∀ e ∈ edT xs ex rg k, -G ≤ e.g ∧ e.g ≤ G
  | 0, _ => fun e he => by cases he
  | k + 1, hk => fun e he => by
    rw [edT] at he
    have h1 := h k (by omega)
    rcases List.mem_append.1 he with he | he
    · exact edT_g h k (by omega) e he
    · unfold edI at he
      rcases List.mem_cons.1 he with rfl | he
      · exact h1
      · split at he
        · cases he
        · obtain rfl := List.mem_singleton.1 he
          show -G ≤ -(ex k) ∧ -(ex k) ≤ G
          omega
theorem reE_low {p : List Int} {e : Ed} {lo G : Int} (hb : e.b < p.length) (hG : 0 ≤ G) (hg : -G ≤ e.g) (h : ∀ v, lo ≤ pv p v) : ∀ v, lo - G ≤ pv (reE p e) v := by
  intro v
  have h1 := h v
  have h2 := h e.a
  unfold reE
  split
  · rw [pv_set hb]; split <;> omega
  · omega
theorem rel_low {J : Nat} {G : Int} (hG : 0 ≤ G) : ∀ (es : List Ed) (p : List Int) (lo : Int), p.length = J → Ok J es → (∀ e ∈ es, -G ≤ e.g ∧ e.g ≤ G) → (∀ v, lo ≤ pv p v) → ∀ v, lo - G * (es.length : Int) ≤ pv (rel p es) v
  | [], p, lo, _, _, _, h, v => by have := h v; simp [rel]; omega
  | e :: es, p, lo, hp, ho, hg, h, v => by
    have h1 := ho e List.mem_cons_self
    have h2 := hg e List.mem_cons_self
    have ih := rel_low hG es (reE p e) (lo - G) (by rw [reE_len, hp]) (fun x hx => ho x (List.mem_cons_of_mem _ hx)) (fun x hx => hg x (List.mem_cons_of_mem _ hx)) (reE_low (by omega) hG h2.1 h) v
    rw [List.length_cons]
    show _ ≤ pv (rel (reE p e) es) v
    have e1 : G * ((es.length + 1 : Nat) : Int) = G * (es.length : Int) + G := by rw [show ((es.length + 1 : Nat) : Int) = (es.length : Int) + 1 by omega, Int.mul_add, Int.mul_one]
    rw [e1]
    omega
theorem pv_rep (J v : Nat) : pv (List.replicate J 0) v = 0 := by
  unfold pv
  by_cases h : v < J
  · simp [List.getD, h]
  · simp [List.getD, h]
theorem it_low {J : Nat} {G : Int} {es : List Ed} (hG : 0 ≤ G) (ho : Ok J es) (hg : ∀ e ∈ es, -G ≤ e.g ∧ e.g ≤ G) : ∀ (n v : Nat), -(G * (es.length : Int)) * (n : Int) ≤ pv (itR es (List.replicate J 0) n) v ∧ pv (itR es (List.replicate J 0) n) v ≤ 0
  | 0, v => by
    show _ ≤ pv (List.replicate J 0) v ∧ pv (List.replicate J 0) v ≤ 0
    rw [pv_rep]; simp
  | n + 1, v => by
    have hl : (itR es (List.replicate J 0) n).length = J := by rw [itR_len]; simp
    have ih := it_low hG ho hg n
    have h1 := rel_low hG es _ _ hl ho hg (fun v => (ih v).1) v
    have h2 := rel_le es _ hl ho v
    have h3 := (ih v).2
    refine ⟨?_, Int.le_trans h2 h3⟩
    show _ ≤ pv (rel (itR es (List.replicate J 0) n) es) v
    have e1 : -(G * (es.length : Int)) * ((n + 1 : Nat) : Int) = -(G * (es.length : Int)) * (n : Int) - G * (es.length : Int) := by
      rw [show ((n + 1 : Nat) : Int) = (n : Int) + 1 by omega, Int.mul_add, Int.mul_one]; omega
    rw [e1]
    exact h1
/-- How low potentials may lie while a mine is searched: 18 rounds of 48 edges, none with more than 2000000. -/
theorem low_all {J : Nat} {es : List Ed} (hl : es.length ≤ 48) (ho : Ok J es) (hg : ∀ e ∈ es, -2000000 ≤ e.g ∧ e.g ≤ 2000000) {n : Nat} (hn : n ≤ 18) : ∀ v, -2000000000 ≤ pv (itR es (List.replicate J 0) n) v ∧ pv (itR es (List.replicate J 0) n) v ≤ 0 := by
  intro v
  have h := it_low (by omega : (0 : Int) ≤ 2000000) ho hg n v
  refine ⟨?_, h.2⟩
  have h1 : 2000000 * (es.length : Int) ≤ 96000000 := by omega
  have h2 : (2000000 * (es.length : Int)) * (n : Int) ≤ 96000000 * 18 := Int.mul_le_mul h1 (by omega) (by omega) (by omega)
  have h3 : -(2000000 * (es.length : Int)) * (n : Int) = -((2000000 * (es.length : Int)) * (n : Int)) := Int.neg_mul _ _
  rw [h3] at h
  omega
theorem still_eq {es : List Ed} {p : List Int} {n : Nat} (h : chg (itR es p n) es = false) : ∀ m, n ≤ m → itR es p m = itR es p n
  | 0, hm => by obtain rfl : n = 0 := by omega
                rfl
  | m + 1, hm => by
    by_cases e : n = m + 1
    · subst e; rfl
    · have ih := still_eq h m (by omega)
      show rel (itR es p m) es = _
      rw [ih]
      exact rel_still es _ h
/-- Whether potentials fit, and which. -/
def ptOk (J : Nat) (es : List Ed) : Bool := !chg (itR es (List.replicate J 0) (J - 1)) es
def ptR (J : Nat) (es : List Ed) : List Int := if ptOk J es then itR es (List.replicate J 0) (J - 1) else []
theorem pt_found {J n : Nat} {es : List Ed} (hJ : 1 ≤ J) (ho : Ok J es) (h : chg (itR es (List.replicate J 0) n) es = false) : ptOk J es = true ∧ ptR J es = itR es (List.replicate J 0) n := by
  have h1 := settles_in hJ ho h
  have h2 : ptOk J es = true := by unfold ptOk; rw [h1]; rfl
  refine ⟨h2, ?_⟩
  unfold ptR
  rw [if_pos h2]
  rcases Nat.le_total n (J - 1) with h3 | h3
  · exact still_eq h _ h3
  · exact (still_eq h1 _ h3).symm
theorem pt_none {J : Nat} {es : List Ed} (h : chg (itR es (List.replicate J 0) (J - 1)) es = true) : ptOk J es = false ∧ ptR J es = [] := by
  have h2 : ptOk J es = false := by unfold ptOk; rw [h]; rfl
  exact ⟨h2, by unfold ptR; rw [h2]; rfl⟩
theorem ptR_len (J : Nat) (es : List Ed) : (ptR J es).length ≤ J := by
  unfold ptR
  split
  · rw [itR_len]; simp
  · simp
/-- The potentials ahead of airway k in round n. -/
def mdP (xs : List Aw) (ex : Nat → Int) (rg : List Bool) (J n k : Nat) : List Int := rel (itR (edT xs ex rg xs.length) (List.replicate J 0) n) (edT xs ex rg k)
def mdC (xs : List Aw) (ex : Nat → Int) (rg : List Bool) (J n k : Nat) : Bool := chg (itR (edT xs ex rg xs.length) (List.replicate J 0) n) (edT xs ex rg k)
theorem mdP_len (xs : List Aw) (ex : Nat → Int) (rg : List Bool) (J n k : Nat) : (mdP xs ex rg J n k).length = J := by unfold mdP; rw [rel_len, itR_len]; simp
theorem mdP_low {J : Int} {xs : List Aw} {ex : Nat → Int} {rg : List Bool} (hok : mineOk J xs = true) (hx : ∀ i, i < xs.length → -2000000 ≤ ex i ∧ ex i ≤ 2000000) {n k : Nat} (hn : n ≤ 18) (hk : k ≤ xs.length) : ∀ v, -4000000000 ≤ pv (mdP xs ex rg J.toNat n k) v ∧ pv (mdP xs ex rg J.toNat n k) v ≤ 0 := by
  intro v
  have h24 := (mineOk_iff.1 hok).2.2
  have hl := edT_len xs ex rg xs.length
  have hlk := edT_len xs ex rg k
  have h1 := low_all (J := J.toNat) (by omega) (edT_ok (ex := ex) (rg := rg) hok xs.length (Nat.le_refl _)) (edT_g hx xs.length (Nat.le_refl _)) hn
  have hp : (itR (edT xs ex rg xs.length) (List.replicate J.toNat 0) n).length = J.toNat := by rw [itR_len]; simp
  have h2 := rel_low (J := J.toNat) (by omega : (0 : Int) ≤ 2000000) (edT xs ex rg k) _ _ hp (edT_ok hok k hk) (edT_g hx k hk) (fun v => (h1 v).1) v
  have h3 := rel_le (J := J.toNat) (edT xs ex rg k) _ hp (edT_ok hok k hk) v
  have h4 := (h1 v).2
  exact ⟨Int.le_trans (by omega) h2, Int.le_trans h3 h4⟩
theorem ints_pv {p : List Int} {v : Nat} (h : v < p.length) : (intsV p)[v]? = some (.int .i64 (pv p v)) := by
  simp [intsV, pv, List.getD, h]
theorem ints_set (p : List Int) (v : Nat) (x : Int) : (intsV p).set v (.int .i64 x) = intsV (p.set v x) := by
  unfold intsV
  rw [← List.map_set]
theorem mdP_zero (xs : List Aw) (ex : Nat → Int) (rg : List Bool) (J n : Nat) : mdP xs ex rg J n 0 = itR (edT xs ex rg xs.length) (List.replicate J 0) n ∧ mdC xs ex rg J n 0 = false := ⟨rfl, rfl⟩
theorem md_reg {xs : List Aw} {ex : Nat → Int} {rg : List Bool} {J n k : Nat} (h : rg.getD k false = true) : mdP xs ex rg J n (k + 1) = reE (mdP xs ex rg J n k) (eA xs ex k) ∧ mdC xs ex rg J n (k + 1) = (mdC xs ex rg J n k || chE (mdP xs ex rg J n k) (eA xs ex k)) := by
  unfold mdP mdC
  rw [edT, rel_app, chg_app]
  unfold edI
  rw [if_pos h]
  exact ⟨rfl, by simp [chg]⟩
theorem md_free {xs : List Aw} {ex : Nat → Int} {rg : List Bool} {J n k : Nat} (h : rg.getD k false = false) : mdP xs ex rg J n (k + 1) = reE (reE (mdP xs ex rg J n k) (eA xs ex k)) (eB xs ex k) ∧ mdC xs ex rg J n (k + 1) = ((mdC xs ex rg J n k || chE (mdP xs ex rg J n k) (eA xs ex k)) || chE (reE (mdP xs ex rg J n k) (eA xs ex k)) (eB xs ex k)) := by
  unfold mdP mdC
  rw [edT, rel_app, chg_app]
  unfold edI
  rw [if_neg (by rw [h]; simp)]
  exact ⟨rfl, by simp [chg, Bool.or_assoc]⟩
theorem own_nilO (w : World) (B : Nat) : OwnI w B (.slice none 0 0) [] := World.ownsRow_nil _ _ _ _
theorem ret_vb {v : Value} {b b' : Bool} (h : b = b') : Ending.returned (.tuple #[v, .bool b]) = .returned (.tuple #[v, .bool b']) := by rw [h]
set_option maxHeartbeats 8000000 in
set_option maxRecDepth 100000 in
theorem l12Fit_any (b : Nat) (J : Int) (A : Option Addr) (cap : Nat) (xs : List Aw) (D : Value) (dr : List Int) (U : Value) (pu : List Int) (G : Option Addr) (gcap : Nat) (rg : List Bool) (w : World) (hJ : w.cell? ⟨b, 0, none⟩ = some (.int .i64 J)) (hA : w.cell? ⟨b, 1, none⟩ = some (.slice A xs.length cap)) (hr : AwR w A xs) (hd : Row .i64 w D dr) (hu : Row .i64 w U pu) (hg : BoR w G rg) (hok : dmC J xs dr pu rg = 0) :
    Calls Tryd.prog 42 #[.pointer (some ⟨b, 0, none⟩), D, U, .slice G rg.length gcap] w fun e w' => ∃ u, e = .returned (.tuple #[u, .bool (ptOk J.toNat (edT xs (exF dr pu) rg xs.length))]) ∧ OwnI w' w.heap.size u (ptR J.toNat (edT xs (exF dr pu) rg xs.length)) ∧ Below w.heap.size w w' := by
  obtain ⟨Jn, rfl⟩ := Int.eq_ofNat_of_zero_le (show 0 ≤ J by have := (mineOk_iff.1 (dmC_ok hok).1).1; omega)
  obtain ⟨hmo, hdo, huo, hgo⟩ := dmC_ok hok
  obtain ⟨D, dcap, rfl⟩ := hd.form
  obtain ⟨U, ucap, rfl⟩ := hu.form
  have h24 := (mineOk_iff.1 hmo).2.2
  have hJb := (mineOk_iff.1 hmo).1
  have hdl := (flOk_iff.1 hdo).1
  have hul := (flOk_iff.1 huo).1
  have HJ := Lib.hid hJ
  have HA := Lib.hid hA
  have HR := Lib.hid hr
  have HD := Lib.hid hd
  have HU := Lib.hid hu
  have HG := Lib.hid hg
  have HL := Lib.hid (And.intro hdl (And.intro hul hgo))
  have hx : ∀ i, i < xs.length → -2000000 ≤ exF dr pu i ∧ exF dr pu i ≤ 2000000 := fun i hi => by
    have h1 := wf_allO hdo (show i < dr.length by omega)
    have h2 := wf_allO huo (show i < pu.length by omega)
    unfold exF
    omega
  have HX := Lib.hid hx
  have HDU := Lib.hid (And.intro hdo huo)
  have HMO := Lib.hid hmo
  have hJ16 : Jn ≤ 16 := by omega
  have hJ1 : 1 ≤ Jn := by omega
  have HMK := Lib.hid (run_make_row' (P := Tryd.prog) 36 2 (.int .i64 0) 8 Tryd.underlying36 info_i64 rfl .i64 .i64 Jn (by omega) (by omega))
  have HEO := Lib.hid (edT_ok (ex := exF dr pu) (rg := rg) hmo xs.length (Nat.le_refl _))
  rw [show ((Jn : Int)).toNat = Jn by simp] at HEO
  clear hJ hA hr hd hu hg hx hdl hul hgo hdo huo hok hmo
  rw [show ((Jn : Int)).toNat = Jn by simp]
  have hmk := HMK.out
  have hjc := HJ.out
  go_enter Tryd.func42, Tryd.ntmps42
  go_wp2
  clear hmk hjc
  go_loopw [11] (fun t wr => ∃ n : Nat, n ≤ Jn + 1 ∧ t = .int .i64 (n : Int) ∧ Hid (∀ m, m < n → chg (itR (edT xs (exF dr pu) rg xs.length) (List.replicate Jn 0) m) (edT xs (exF dr pu) rg xs.length) = true) ∧ wr.ownsRow w.heap.size 2 1 (.slice (some ⟨w.heap.size, 0, none⟩) Jn Jn) Jn (intsV (itR (edT xs (exF dr pu) rg xs.length) (List.replicate Jn 0) n)) ∧ Below w.heap.size w wr) (fun t wr => Jn + 1 - (intOf t).toNat)
  case atStart =>
    refine ⟨0, by omega, rfl, Lib.hid (fun m h => absurd h (by omega)), ?_, (Below.refl _ _).alloc (Nat.le_refl _) _⟩
    have h := World.ownsRow_lit (base := w.heap.size) (e := 2) (size := 1) w (madeCells #[.int .i64 0] Jn) Jn (Nat.le_refl _) (by unfold maxLen; omega) (by simp [madeCells])
    rwa [show (madeCells #[.int .i64 0] Jn).toList = intsV (List.replicate Jn 0) by simp [madeCells, intsV, Nat.mod_one, List.map_const']] at h
  case round =>
    obtain ⟨n, hn, rfl, HT, hown, hbel⟩ := hrel
    have j0 := cellK HJ.out hbel
    by_cases hlt : n ≤ Jn
    · have hnI : (n : Int) ≤ (Jn : Int) := by omega
      have HB0 := Lib.hid hbel
      have HO0 := Lib.hid (show wr.ownsRow w.heap.size 2 1 (.slice (some ⟨w.heap.size, 0, none⟩) Jn Jn) Jn (intsV (mdP xs (exF dr pu) rg Jn n 0)) from hown)
      clear hown hbel
      go_wp2
      clear j0
      go_loopw [12, 13] (fun c i wr => ∃ k : Nat, k ≤ xs.length ∧ i = .int .i64 (k : Int) ∧ c = .bool (mdC xs (exF dr pu) rg Jn n k) ∧ wr.ownsRow w.heap.size 2 1 (.slice (some ⟨w.heap.size, 0, none⟩) Jn Jn) Jn (intsV (mdP xs (exF dr pu) rg Jn n k)) ∧ Below w.heap.size w wr) (fun c i wr => xs.length - (intOf i).toNat)
      case atStart => exact ⟨0, by omega, rfl, rfl, HO0.out, HB0.out⟩
      case round =>
        obtain ⟨k, hk, rfl, rfl, hown, hbel⟩ := hrel
        have HB1 := Lib.hid hbel
        have HO1 := Lib.hid hown
        have m1 := cellK HA.out hbel
        clear hown hbel
        by_cases hlt2 : k < xs.length
        · have hmo := HMO.out
          have he := ends_in hmo hlt2
          obtain ⟨fn, hfn⟩ := Int.eq_ofNat_of_zero_le he.1.1
          obtain ⟨tn, htn⟩ := Int.eq_ofNat_of_zero_le he.2.1.1
          have hfJ : fn < Jn := by omega
          have htJ : tn < Jn := by omega
          have hft : fn ≠ tn := by omega
          obtain ⟨ga, goff, rfl, hrg⟩ := HR.out k hlt2
          obtain ⟨⟨-, D1, D2, -⟩, -⟩ := lay_row hrg
          rw [hfn] at D1
          rw [htn] at D2
          have hl1a := Nat.le_of_eq HL.out.1
          have hl1b := Nat.le_of_eq HL.out.1.symm
          have hl2a := Nat.le_of_eq HL.out.2.1
          have hl2b := Nat.le_of_eq HL.out.2.1.symm
          have hl3a := Nat.le_of_eq HL.out.2.2
          have hl3b := Nat.le_of_eq HL.out.2.2.symm
          obtain ⟨db, dof, ed, -, C0⟩ := Row.cell HD.out (show k < dr.length by omega)
          obtain ⟨ub, uof, eu, -, C1⟩ := Row.cell HU.out (show k < pu.length by omega)
          obtain ⟨rb, rof, er, R0⟩ := HG.out k (by omega)
          subst ed eu er
          have hx := HX.out k hlt2
          have hxe : pu.getD k 0 - dr.getD k 0 = exF dr pu k := rfl
          have hEA : eA xs (exF dr pu) k = ⟨fn, tn, exF dr pu k⟩ := by unfold eA; rw [getD_of_lt hlt2, hfn, htn]; rfl
          have hEB : eB xs (exF dr pu) k = ⟨tn, fn, -(exF dr pu k)⟩ := by unfold eB; rw [getD_of_lt hlt2, hfn, htn]; rfl
          have hlow := mdP_low (rg := rg) hmo HX.out (show n ≤ 18 by omega) (show k ≤ xs.length by omega)
          rw [show ((Jn : Int)).toNat = Jn by simp] at hlow
          have hpl : (mdP xs (exF dr pu) rg Jn n k).length = Jn := mdP_len _ _ _ _ _ _
          have hb1 := hlow fn
          have hb2 := hlow tn
          have hyb := wf_allO HDU.out.1 (show k < dr.length by omega)
          have hzb := wf_allO HDU.out.2 (show k < pu.length by omega)
          obtain ⟨y, hy⟩ : ∃ y, dr.getD k 0 = y := ⟨_, rfl⟩
          obtain ⟨z, hz⟩ : ∃ z, pu.getD k 0 = z := ⟨_, rfl⟩
          rw [hy] at C0 hxe hyb
          rw [hz] at C1 hxe hzb
          rw [← hxe] at hEA hEB
          obtain ⟨p, hp⟩ : ∃ p, mdP xs (exF dr pu) rg Jn n k = p := ⟨_, rfl⟩
          obtain ⟨c, hcc⟩ : ∃ c, mdC xs (exF dr pu) rg Jn n k = c := ⟨_, rfl⟩
          obtain ⟨pf, hpf⟩ : ∃ q, pv p fn = q := ⟨_, rfl⟩
          obtain ⟨pt, hpt⟩ : ∃ q, pv p tn = q := ⟨_, rfl⟩
          have HMR := Lib.hid (fun h => md_reg (xs := xs) (ex := exF dr pu) (rg := rg) (J := Jn) (n := n) (k := k) h)
          have HMF := Lib.hid (fun h => md_free (xs := xs) (ex := exF dr pu) (rg := rg) (J := Jn) (n := n) (k := k) h)
          rw [hp, hcc, hEA] at HMR
          rw [hp, hcc, hEA, hEB] at HMF
          rw [hp] at HO1 hpl hb1 hb2
          rw [hpf] at hb1
          rw [hpt] at hb2
          rw [hcc]
          have hrk : rg.getD k false = rg[k] := by simp [List.getD, show k < rg.length by omega]
          rw [hrk] at HMR HMF
          obtain ⟨r, hr⟩ : ∃ r, rg[k] = r := ⟨_, rfl⟩
          rw [hr] at R0 HMR HMF
          clear hrk hr hy hz hxe hEA hEB hp hcc hlow hfn htn hx he hmo
          have hgaw : ga < w.heap.size := World.block_lt_of_cell? _ _ D1
          have hki : (k : Int) < (xs.length : Int) := by omega
          have hkd : (k : Int) < (dr.length : Int) := by omega
          have hku : (k : Int) < (pu.length : Int) := by omega
          have hkr : (k : Int) < (rg.length : Int) := by omega
          have hfI : (fn : Int) < (Jn : Int) := by omega
          have htI : (tn : Int) < (Jn : Int) := by omega
          have h0k : (0 : Int) ≤ (k : Int) := by omega
          have h0f : (0 : Int) ≤ (fn : Int) := by omega
          have h0t : (0 : Int) ≤ (tn : Int) := by omega
          have hwk : IntKind.i64.wrap (k : Int) = (k : Int) := IntWalk.i64_in _ (by omega)
          have hwf : IntKind.i64.wrap (fn : Int) = (fn : Int) := IntWalk.i64_in _ (by omega)
          have hwt : IntKind.i64.wrap (tn : Int) = (tn : Int) := IntWalk.i64_in _ (by omega)
          have hwx : IntKind.i64.wrap (z - y) = z - y := IntWalk.i64_in _ (by omega)
          have hwa : IntKind.i64.wrap (pf + (z - y)) = pf + (z - y) := IntWalk.i64_in _ (by omega)
          have hwb : IntKind.i64.wrap (pt - (z - y)) = pt - (z - y) := IntWalk.i64_in _ (by omega)
          clear m1
          have j0 := cellK HJ.out HB1.out
          have m1 := cellK HA.out HB1.out
          have d1 := cellK D1 HB1.out
          have d2 := cellK D2 HB1.out
          have c0 := cellK C0 HB1.out
          have c1 := cellK C1 HB1.out
          have r0 := cellK R0 HB1.out
          have o1 : wr.cell? ⟨w.heap.size, fn, none⟩ = some (.int .i64 pf) := by rw [HO1.out.cellAt fn (by omega), ints_pv (by omega), hpf]
          have o2 : wr.cell? ⟨w.heap.size, tn, none⟩ = some (.int .i64 pt) := by rw [HO1.out.cellAt tn (by omega), ints_pv (by omega), hpt]
          have z1 : wr.frozen? ⟨w.heap.size, fn, none⟩ = false := HO1.out.frozenAt fn
          have z2 : wr.frozen? ⟨w.heap.size, tn, none⟩ = false := HO1.out.frozenAt tn
          by_cases h1 : pf + (z - y) < pt
          · have hch : chE p ⟨fn, tn, z - y⟩ = true := by unfold chE; rw [hpf, hpt]; exact decide_eq_true h1
            have hre : reE p ⟨fn, tn, z - y⟩ = p.set tn (pf + (z - y)) := by unfold reE; rw [hch, if_pos rfl, hpf]
            have h1d : decide (pf + (z - y) < pt) = true := decide_eq_true h1
            have HP := Lib.hid (And.intro hch hre)
            clear hch hre
            go_wp2
            go_quiet (fail)
            have HB2 := Lib.hid (below_drewN' HB1.out nq)
            have HO2 := Lib.hid (show (wr.drewN nq).ownsRow w.heap.size 2 1 (.slice (some ⟨w.heap.size, 0, none⟩) Jn Jn) Jn (intsV p) from HO1.out)
            clear j0 m1 d1 d2 c0 c1 r0 o1 o2 z1 z2
            generalize wr.drewN nq = W2 at *
            have j0 := cellK HJ.out HB2.out
            have m1 := cellK HA.out HB2.out
            have d1 := cellK D1 HB2.out
            have d2 := cellK D2 HB2.out
            have c0 := cellK C0 HB2.out
            have c1 := cellK C1 HB2.out
            have r0 := cellK R0 HB2.out
            have o1 : W2.cell? ⟨w.heap.size, fn, none⟩ = some (.int .i64 pf) := by rw [HO2.out.cellAt fn (by omega), ints_pv (by omega), hpf]
            have o2 : W2.cell? ⟨w.heap.size, tn, none⟩ = some (.int .i64 pt) := by rw [HO2.out.cellAt tn (by omega), ints_pv (by omega), hpt]
            have z1 : W2.frozen? ⟨w.heap.size, fn, none⟩ = false := HO2.out.frozenAt fn
            have z2 : W2.frozen? ⟨w.heap.size, tn, none⟩ = false := HO2.out.frozenAt tn
            go_wp2
            go_quiet (fail)
            have HB3 := Lib.hid (below_drewN' HB2.out nq)
            have HO3 := Lib.hid (show (W2.drewN nq).ownsRow w.heap.size 2 1 (.slice (some ⟨w.heap.size, 0, none⟩) Jn Jn) Jn (intsV p) from HO2.out)
            clear j0 m1 d1 d2 c0 c1 r0 o1 o2 z1 z2
            generalize W2.drewN nq = W3 at *
            have j0 := cellK HJ.out HB3.out
            have m1 := cellK HA.out HB3.out
            have d1 := cellK D1 HB3.out
            have d2 := cellK D2 HB3.out
            have c0 := cellK C0 HB3.out
            have c1 := cellK C1 HB3.out
            have r0 := cellK R0 HB3.out
            have o1 : W3.cell? ⟨w.heap.size, fn, none⟩ = some (.int .i64 pf) := by rw [HO3.out.cellAt fn (by omega), ints_pv (by omega), hpf]
            have o2 : W3.cell? ⟨w.heap.size, tn, none⟩ = some (.int .i64 pt) := by rw [HO3.out.cellAt tn (by omega), ints_pv (by omega), hpt]
            have z1 : W3.frozen? ⟨w.heap.size, fn, none⟩ = false := HO3.out.frozenAt fn
            have z2 : W3.frozen? ⟨w.heap.size, tn, none⟩ = false := HO3.out.frozenAt tn
            go_wp2_with fail
            have y1 : W3.drew.cell? ⟨w.heap.size, fn, none⟩ = some (.int .i64 pf) := o1
            have y2 : W3.drew.cell? ⟨w.heap.size, tn, none⟩ = some (.int .i64 pt) := o2
            have y3 : W3.drew.frozen? ⟨w.heap.size, fn, none⟩ = false := z1
            have y4 : W3.drew.frozen? ⟨w.heap.size, tn, none⟩ = false := z2
            refine wp_region_held (S := fun w' => w'.cell? ⟨ga, goff + k * 7 + 1, none⟩ = some (.int .i64 (fn : Int)) ∧ w'.cell? ⟨ga, goff + k * 7 + 2, none⟩ = some (.int .i64 (tn : Int)) ∧ w'.cell? ⟨w.heap.size, fn, none⟩ = some (.int .i64 pf) ∧ Below w.heap.size w w') (by kernel_rfl) ?_
            try (change wpAnyH _ _ _ _ _ _ _ _ (World.drew _))
            have hS0 := (show W3.drew.cell? ⟨ga, goff + k * 7 + 1, none⟩ = some (.int .i64 (fn : Int)) ∧ W3.drew.cell? ⟨ga, goff + k * 7 + 2, none⟩ = some (.int .i64 (tn : Int)) ∧ W3.drew.cell? ⟨w.heap.size, fn, none⟩ = some (.int .i64 pf) ∧ Below w.heap.size w W3.drew from ⟨d1, d2, o1, Below.drew HB3.out⟩)
            refine gTake 0 (v := ?_) rfl (by kernel_rfl) (by kernel_rfl) (by kernel_rfl) (fun _ _ _ h => h) (by kernel_rfl) ?_ hS0 ?_
            rotate_left
            · (intro W hW; clear hW; go_simp; try with_reducible rfl)
            refine gTake 1 (v := ?_) rfl (by kernel_rfl) (by kernel_rfl) (by kernel_rfl) (fun _ _ _ h => h) (by kernel_rfl) ?_ hS0 ?_
            rotate_left
            · (intro W hW; clear hW; go_simp; try with_reducible rfl)
            refine gTake 2 (v := ?_) rfl (by kernel_rfl) (by kernel_rfl) (by kernel_rfl) (fun _ _ _ h => h) (by kernel_rfl) ?_ hS0 ?_
            rotate_left
            · (intro W hW; clear hW; go_simp; try with_reducible rfl)
            refine gTake 3 (v := ?_) rfl (by kernel_rfl) (by kernel_rfl) (by kernel_rfl) (fun _ _ _ h => h) (by kernel_rfl) ?_ hS0 ?_
            rotate_left
            · (intro W hW; clear hW; go_simp; try with_reducible rfl)
            refine gTake 4 (v := ?_) rfl (by kernel_rfl) (by kernel_rfl) (by kernel_rfl) (fun _ _ _ h => h) (by kernel_rfl) ?_ hS0 ?_
            rotate_left
            · (intro W hW; have q0 := hW.1; have q1 := hW.2.1; have q2 := hW.2.2.1; clear hW; go_simp; try with_reducible rfl)
            refine gTake 5 (v := ?_) rfl (by kernel_rfl) (by kernel_rfl) (by kernel_rfl) (fun _ _ _ h => h) (by kernel_rfl) ?_ hS0 ?_
            rotate_left
            · (intro W hW; clear hW; go_simp; try with_reducible rfl)
            refine gTake 6 (v := ?_) rfl (by kernel_rfl) (by kernel_rfl) (by kernel_rfl) (fun _ _ _ h => h) (by kernel_rfl) ?_ hS0 ?_
            rotate_left
            · (intro W hW; clear hW; go_simp; try with_reducible rfl)
            refine gTake 7 (v := ?_) rfl (by kernel_rfl) (by kernel_rfl) (by kernel_rfl) (fun _ _ _ h => h) (by kernel_rfl) ?_ hS0 ?_
            rotate_left
            · (intro W hW; clear hW; go_simp; try with_reducible rfl)
            refine gTake 8 (v := ?_) rfl (by kernel_rfl) (by kernel_rfl) (by kernel_rfl) (fun _ _ _ h => h) (by kernel_rfl) ?_ hS0 ?_
            rotate_left
            · (intro W hW; clear hW; go_simp; try with_reducible rfl)
            refine gTake 9 (v := ?_) rfl (by kernel_rfl) (by kernel_rfl) (by kernel_rfl) (fun _ _ _ h => h) (by kernel_rfl) ?_ hS0 ?_
            rotate_left
            · (intro W hW; have q0 := hW.1; have q1 := hW.2.1; have q2 := hW.2.2.1; clear hW; go_simp; try with_reducible rfl)
            refine gTake 10 (v := ?_) rfl (by kernel_rfl) (by kernel_rfl) (by kernel_rfl) (fun _ _ _ h => h) (by kernel_rfl) ?_ hS0 ?_
            rotate_left
            · (intro W hW; clear hW; go_simp; try with_reducible rfl)
            refine gTake 11 (v := ?_) rfl (by kernel_rfl) (by kernel_rfl) (by kernel_rfl) (fun _ _ _ h => h) (by kernel_rfl) ?_ hS0 ?_
            rotate_left
            · (intro W hW; have q0 := hW.1; have q1 := hW.2.1; have q2 := hW.2.2.1; clear hW; go_simp; try with_reducible rfl)
            refine gTake 12 (v := ?_) rfl (by kernel_rfl) (by kernel_rfl) (by kernel_rfl) (fun _ _ _ h => h) (by kernel_rfl) ?_ hS0 ?_
            rotate_left
            · (intro W hW; clear hW; go_simp; try with_reducible rfl)
            refine gTake 13 (v := ?_) rfl (by kernel_rfl) (by kernel_rfl) (by kernel_rfl) (fun _ _ _ h => h) (by kernel_rfl) ?_ hS0 ?_
            rotate_left
            · (intro W hW; clear hW; go_simp; try with_reducible rfl)
            refine gTake 14 (v := ?_) rfl (by kernel_rfl) (by kernel_rfl) (by kernel_rfl) (fun _ _ _ h => h) (by kernel_rfl) ?_ hS0 ?_
            rotate_left
            · (intro W hW; clear hW; go_simp; try with_reducible rfl)
            refine gOne 15 rfl (by kernel_rfl) (by kernel_rfl) (fun K hK => ?_)
            go_simp
            skip
            have hS1 := (show (W3.drew.setCell ⟨w.heap.size, tn, none⟩ (.int .i64 (pf + (z - y)))).cell? ⟨ga, goff + k * 7 + 1, none⟩ = some (.int .i64 (fn : Int)) ∧ (W3.drew.setCell ⟨w.heap.size, tn, none⟩ (.int .i64 (pf + (z - y)))).cell? ⟨ga, goff + k * 7 + 2, none⟩ = some (.int .i64 (tn : Int)) ∧ (W3.drew.setCell ⟨w.heap.size, tn, none⟩ (.int .i64 (pf + (z - y)))).cell? ⟨w.heap.size, fn, none⟩ = some (.int .i64 pf) ∧ Below w.heap.size w (W3.drew.setCell ⟨w.heap.size, tn, none⟩ (.int .i64 (pf + (z - y)))) from ⟨(World.cell?_setCell_other _ _ _ _ (by intro e; injection e with e1 e2; omega)).trans d1, (World.cell?_setCell_other _ _ _ _ (by intro e; injection e with e1 e2; omega)).trans d2, (World.cell?_setCell_other _ _ _ _ (by intro e; injection e with e1 e2; omega)).trans o1, (Below.drew HB3.out).setCell (Nat.le_refl _) _⟩)
            refine hK _ _ hS1 ?_
            clear hK K
            refine wpAnyH_done (by kernel_rfl) ?_ _
            go_simp
            have HB4 := Lib.hid hS1.2.2.2
            have HO4 := Lib.hid (show (W3.drew.setCell ⟨w.heap.size, tn, none⟩ (.int .i64 (pf + (z - y)))).ownsRow w.heap.size 2 1 (.slice (some ⟨w.heap.size, 0, none⟩) Jn Jn) Jn (intsV (p.set tn (pf + (z - y)))) from by
              have h := ((show W3.drew.ownsRow w.heap.size 2 1 (.slice (some ⟨w.heap.size, 0, none⟩) Jn Jn) Jn (intsV p) from HO3.out).stored tn (.int .i64 (pf + (z - y)))).1
              rwa [ints_set] at h)
            clear hS0 hS1 y1 y2 y3 y4
            clear j0 m1 d1 d2 c0 c1 r0 o1 o2 z1 z2
            have HB4d := Lib.hid (show Below w.heap.size w (W3.setCell ⟨w.heap.size, tn, none⟩ (.int .i64 (pf + (z - y)))).drew from HB4.out)
            have HO4d := Lib.hid (show (W3.setCell ⟨w.heap.size, tn, none⟩ (.int .i64 (pf + (z - y)))).drew.ownsRow w.heap.size 2 1 (.slice (some ⟨w.heap.size, 0, none⟩) Jn Jn) Jn (intsV (p.set tn (pf + (z - y)))) from HO4.out)
            clear HB4 HO4
            generalize (W3.setCell ⟨w.heap.size, tn, none⟩ (.int .i64 (pf + (z - y)))).drew = W4 at *
            have HB4 := Lib.hid HB4d.out
            have HO4 := Lib.hid HO4d.out
            clear HB4d HO4d
            have hlp : (p.set tn (pf + (z - y))).length = Jn := by rw [List.length_set, hpl]
            have hqf : pv (p.set tn (pf + (z - y))) fn = pf := by rw [pv_set (by omega), if_neg hft, hpf]
            have hqt : pv (p.set tn (pf + (z - y))) tn = pf + (z - y) := by rw [pv_set (by omega), if_pos rfl]
            clear hb2 hpt hpf hpl h1 h1d hwb
            generalize hp2 : p.set tn (pf + (z - y)) = p2 at *
            have j0 := cellK HJ.out HB4.out
            have m1 := cellK HA.out HB4.out
            have d1 := cellK D1 HB4.out
            have d2 := cellK D2 HB4.out
            have c0 := cellK C0 HB4.out
            have c1 := cellK C1 HB4.out
            have r0 := cellK R0 HB4.out
            have o1 : W4.cell? ⟨w.heap.size, fn, none⟩ = some (.int .i64 pf) := by rw [HO4.out.cellAt fn (by omega), ints_pv (by omega), hqf]
            have o2 : W4.cell? ⟨w.heap.size, tn, none⟩ = some (.int .i64 (pf + (z - y))) := by rw [HO4.out.cellAt tn (by omega), ints_pv (by omega), hqt]
            have z1 : W4.frozen? ⟨w.heap.size, fn, none⟩ = false := HO4.out.frozenAt fn
            have z2 : W4.frozen? ⟨w.heap.size, tn, none⟩ = false := HO4.out.frozenAt tn
            cases r
            · have HX2 := Lib.hid (show mdP xs (exF dr pu) rg Jn n (k + 1) = p2 ∧ mdC xs (exF dr pu) rg Jn n (k + 1) = true from by
                obtain ⟨e1, e2⟩ := HMF.out rfl
                have hne : chE p2 ⟨tn, fn, -(z - y)⟩ = false := by unfold chE; rw [hqf, hqt]; simp only [decide_eq_false_iff_not]; omega
                rw [HP.out.2] at e1 e2
                rw [HP.out.1] at e2
                rw [hne] at e2
                refine ⟨by rw [e1]; unfold reE; rw [hne]; rfl, by rw [e2]; simp⟩)
              have hwc : IntKind.i64.wrap (pf + (z - y) - (z - y)) = pf := by rw [show pf + (z - y) - (z - y) = pf by omega]; exact IntWalk.i64_in _ (by omega)
              have hn2 : decide (pf < pf) = false := decide_eq_false (by omega)
              have hn3 : ¬ (pf + (z - y) - (z - y) < pf) := by omega
              have hn4 : decide (pf + (z - y) - (z - y) < pf) = false := decide_eq_false hn3
              go_wp2
              go_big_quiet (fail)
              have HB5 := Lib.hid (below_drewN' HB4.out nq)
              have HO5 := Lib.hid (show (W4.drewN nq).ownsRow w.heap.size 2 1 (.slice (some ⟨w.heap.size, 0, none⟩) Jn Jn) Jn (intsV p2) from HO4.out)
              clear j0 m1 d1 d2 c0 c1 r0 o1 o2 z1 z2
              generalize W4.drewN nq = W5 at *
              have j0 := cellK HJ.out HB5.out
              have m1 := cellK HA.out HB5.out
              have d1 := cellK D1 HB5.out
              have d2 := cellK D2 HB5.out
              have c0 := cellK C0 HB5.out
              have c1 := cellK C1 HB5.out
              have r0 := cellK R0 HB5.out
              have o1 : W5.cell? ⟨w.heap.size, fn, none⟩ = some (.int .i64 pf) := by rw [HO5.out.cellAt fn (by omega), ints_pv (by omega), hqf]
              have o2 : W5.cell? ⟨w.heap.size, tn, none⟩ = some (.int .i64 (pf + (z - y))) := by rw [HO5.out.cellAt tn (by omega), ints_pv (by omega), hqt]
              have z1 : W5.frozen? ⟨w.heap.size, fn, none⟩ = false := HO5.out.frozenAt fn
              have z2 : W5.frozen? ⟨w.heap.size, tn, none⟩ = false := HO5.out.frozenAt tn
              go_wp2
              go_roundw
              case rel => exact ⟨k + 1, by omega, by go_num, by rw [HX2.out.2], by rw [HX2.out.1]; exact HO5.out, HB5.out⟩
              case measure => simp [intOf]; omega
            · have HX2 := Lib.hid (show mdP xs (exF dr pu) rg Jn n (k + 1) = p2 ∧ mdC xs (exF dr pu) rg Jn n (k + 1) = true from by
                obtain ⟨e1, e2⟩ := HMR.out rfl
                rw [HP.out.2] at e1
                rw [HP.out.1] at e2
                exact ⟨e1, by rw [e2]; simp⟩)
              go_wp2
              go_big_quiet (fail)
              have HB5 := Lib.hid (below_drewN' HB4.out nq)
              have HO5 := Lib.hid (show (W4.drewN nq).ownsRow w.heap.size 2 1 (.slice (some ⟨w.heap.size, 0, none⟩) Jn Jn) Jn (intsV p2) from HO4.out)
              clear j0 m1 d1 d2 c0 c1 r0 o1 o2 z1 z2
              generalize W4.drewN nq = W5 at *
              have j0 := cellK HJ.out HB5.out
              have m1 := cellK HA.out HB5.out
              have d1 := cellK D1 HB5.out
              have d2 := cellK D2 HB5.out
              have c0 := cellK C0 HB5.out
              have c1 := cellK C1 HB5.out
              have r0 := cellK R0 HB5.out
              have o1 : W5.cell? ⟨w.heap.size, fn, none⟩ = some (.int .i64 pf) := by rw [HO5.out.cellAt fn (by omega), ints_pv (by omega), hqf]
              have o2 : W5.cell? ⟨w.heap.size, tn, none⟩ = some (.int .i64 (pf + (z - y))) := by rw [HO5.out.cellAt tn (by omega), ints_pv (by omega), hqt]
              have z1 : W5.frozen? ⟨w.heap.size, fn, none⟩ = false := HO5.out.frozenAt fn
              have z2 : W5.frozen? ⟨w.heap.size, tn, none⟩ = false := HO5.out.frozenAt tn
              go_wp2
              go_roundw
              case rel => exact ⟨k + 1, by omega, by go_num, by rw [HX2.out.2], by rw [HX2.out.1]; exact HO5.out, HB5.out⟩
              case measure => simp [intOf]; omega
          · have hch : chE p ⟨fn, tn, z - y⟩ = false := by unfold chE; rw [hpf, hpt]; exact decide_eq_false h1
            have hre : reE p ⟨fn, tn, z - y⟩ = p := by unfold reE; rw [hch]; rfl
            have h1d : decide (pf + (z - y) < pt) = false := decide_eq_false h1
            have HP := Lib.hid (And.intro hch hre)
            clear hch hre
            go_wp2
            go_quiet (fail)
            have HB2 := Lib.hid (below_drewN' HB1.out nq)
            have HO2 := Lib.hid (show (wr.drewN nq).ownsRow w.heap.size 2 1 (.slice (some ⟨w.heap.size, 0, none⟩) Jn Jn) Jn (intsV p) from HO1.out)
            clear j0 m1 d1 d2 c0 c1 r0 o1 o2 z1 z2
            generalize wr.drewN nq = W2 at *
            have j0 := cellK HJ.out HB2.out
            have m1 := cellK HA.out HB2.out
            have d1 := cellK D1 HB2.out
            have d2 := cellK D2 HB2.out
            have c0 := cellK C0 HB2.out
            have c1 := cellK C1 HB2.out
            have r0 := cellK R0 HB2.out
            have o1 : W2.cell? ⟨w.heap.size, fn, none⟩ = some (.int .i64 pf) := by rw [HO2.out.cellAt fn (by omega), ints_pv (by omega), hpf]
            have o2 : W2.cell? ⟨w.heap.size, tn, none⟩ = some (.int .i64 pt) := by rw [HO2.out.cellAt tn (by omega), ints_pv (by omega), hpt]
            have z1 : W2.frozen? ⟨w.heap.size, fn, none⟩ = false := HO2.out.frozenAt fn
            have z2 : W2.frozen? ⟨w.heap.size, tn, none⟩ = false := HO2.out.frozenAt tn
            go_wp2
            go_quiet (fail)
            have HB3 := Lib.hid (below_drewN' HB2.out nq)
            have HO3 := Lib.hid (show (W2.drewN nq).ownsRow w.heap.size 2 1 (.slice (some ⟨w.heap.size, 0, none⟩) Jn Jn) Jn (intsV p) from HO2.out)
            clear j0 m1 d1 d2 c0 c1 r0 o1 o2 z1 z2
            generalize W2.drewN nq = W3 at *
            have j0 := cellK HJ.out HB3.out
            have m1 := cellK HA.out HB3.out
            have d1 := cellK D1 HB3.out
            have d2 := cellK D2 HB3.out
            have c0 := cellK C0 HB3.out
            have c1 := cellK C1 HB3.out
            have r0 := cellK R0 HB3.out
            have o1 : W3.cell? ⟨w.heap.size, fn, none⟩ = some (.int .i64 pf) := by rw [HO3.out.cellAt fn (by omega), ints_pv (by omega), hpf]
            have o2 : W3.cell? ⟨w.heap.size, tn, none⟩ = some (.int .i64 pt) := by rw [HO3.out.cellAt tn (by omega), ints_pv (by omega), hpt]
            have z1 : W3.frozen? ⟨w.heap.size, fn, none⟩ = false := HO3.out.frozenAt fn
            have z2 : W3.frozen? ⟨w.heap.size, tn, none⟩ = false := HO3.out.frozenAt tn
            cases r
            · by_cases h2 : pt - (z - y) < pf
              · have h2d : decide (pt - (z - y) < pf) = true := decide_eq_true h2
                have HX2 := Lib.hid (show mdP xs (exF dr pu) rg Jn n (k + 1) = p.set fn (pt - (z - y)) ∧ mdC xs (exF dr pu) rg Jn n (k + 1) = true from by
                  obtain ⟨e1, e2⟩ := HMF.out rfl
                  have hne : chE p ⟨tn, fn, -(z - y)⟩ = true := by unfold chE; rw [hpf, hpt]; exact decide_eq_true (by show pt + -(z - y) < pf; omega)
                  rw [HP.out.2] at e1 e2
                  rw [hne] at e2
                  refine ⟨by rw [e1]; unfold reE; rw [hne, if_pos rfl, hpt]; show p.set fn (pt + -(z - y)) = _; rw [← Int.sub_eq_add_neg], by rw [e2]; simp⟩)
                go_wp2
                go_quiet (fail)
                have HB5 := Lib.hid (below_drewN' HB3.out nq)
                have HO5 := Lib.hid (show (W3.drewN nq).ownsRow w.heap.size 2 1 (.slice (some ⟨w.heap.size, 0, none⟩) Jn Jn) Jn (intsV p) from HO3.out)
                clear j0 m1 d1 d2 c0 c1 r0 o1 o2 z1 z2
                generalize W3.drewN nq = W5 at *
                have j0 := cellK HJ.out HB5.out
                have m1 := cellK HA.out HB5.out
                have d1 := cellK D1 HB5.out
                have d2 := cellK D2 HB5.out
                have c0 := cellK C0 HB5.out
                have c1 := cellK C1 HB5.out
                have r0 := cellK R0 HB5.out
                have o1 : W5.cell? ⟨w.heap.size, fn, none⟩ = some (.int .i64 pf) := by rw [HO5.out.cellAt fn (by omega), ints_pv (by omega), hpf]
                have o2 : W5.cell? ⟨w.heap.size, tn, none⟩ = some (.int .i64 pt) := by rw [HO5.out.cellAt tn (by omega), ints_pv (by omega), hpt]
                have z1 : W5.frozen? ⟨w.heap.size, fn, none⟩ = false := HO5.out.frozenAt fn
                have z2 : W5.frozen? ⟨w.heap.size, tn, none⟩ = false := HO5.out.frozenAt tn
                go_wp2_with fail
                have y1 : W5.drew.cell? ⟨w.heap.size, fn, none⟩ = some (.int .i64 pf) := o1
                have y2 : W5.drew.cell? ⟨w.heap.size, tn, none⟩ = some (.int .i64 pt) := o2
                have y3 : W5.drew.frozen? ⟨w.heap.size, fn, none⟩ = false := z1
                have y4 : W5.drew.frozen? ⟨w.heap.size, tn, none⟩ = false := z2
                refine wp_region_held (S := fun w' => w'.cell? ⟨ga, goff + k * 7 + 1, none⟩ = some (.int .i64 (fn : Int)) ∧ w'.cell? ⟨ga, goff + k * 7 + 2, none⟩ = some (.int .i64 (tn : Int)) ∧ w'.cell? ⟨w.heap.size, tn, none⟩ = some (.int .i64 pt) ∧ Below w.heap.size w w') (by kernel_rfl) ?_
                try (change wpAnyH _ _ _ _ _ _ _ _ (World.drew _))
                have hS0 := (show W5.drew.cell? ⟨ga, goff + k * 7 + 1, none⟩ = some (.int .i64 (fn : Int)) ∧ W5.drew.cell? ⟨ga, goff + k * 7 + 2, none⟩ = some (.int .i64 (tn : Int)) ∧ W5.drew.cell? ⟨w.heap.size, tn, none⟩ = some (.int .i64 pt) ∧ Below w.heap.size w W5.drew from ⟨d1, d2, o2, Below.drew HB5.out⟩)
                refine gTake 0 (v := ?_) rfl (by kernel_rfl) (by kernel_rfl) (by kernel_rfl) (fun _ _ _ h => h) (by kernel_rfl) ?_ hS0 ?_
                rotate_left
                · (intro W hW; clear hW; go_simp; try with_reducible rfl)
                refine gTake 1 (v := ?_) rfl (by kernel_rfl) (by kernel_rfl) (by kernel_rfl) (fun _ _ _ h => h) (by kernel_rfl) ?_ hS0 ?_
                rotate_left
                · (intro W hW; clear hW; go_simp; try with_reducible rfl)
                refine gTake 2 (v := ?_) rfl (by kernel_rfl) (by kernel_rfl) (by kernel_rfl) (fun _ _ _ h => h) (by kernel_rfl) ?_ hS0 ?_
                rotate_left
                · (intro W hW; clear hW; go_simp; try with_reducible rfl)
                refine gTake 3 (v := ?_) rfl (by kernel_rfl) (by kernel_rfl) (by kernel_rfl) (fun _ _ _ h => h) (by kernel_rfl) ?_ hS0 ?_
                rotate_left
                · (intro W hW; clear hW; go_simp; try with_reducible rfl)
                refine gTake 4 (v := ?_) rfl (by kernel_rfl) (by kernel_rfl) (by kernel_rfl) (fun _ _ _ h => h) (by kernel_rfl) ?_ hS0 ?_
                rotate_left
                · (intro W hW; have q0 := hW.1; have q1 := hW.2.1; have q2 := hW.2.2.1; clear hW; go_simp; try with_reducible rfl)
                refine gTake 5 (v := ?_) rfl (by kernel_rfl) (by kernel_rfl) (by kernel_rfl) (fun _ _ _ h => h) (by kernel_rfl) ?_ hS0 ?_
                rotate_left
                · (intro W hW; clear hW; go_simp; try with_reducible rfl)
                refine gTake 6 (v := ?_) rfl (by kernel_rfl) (by kernel_rfl) (by kernel_rfl) (fun _ _ _ h => h) (by kernel_rfl) ?_ hS0 ?_
                rotate_left
                · (intro W hW; clear hW; go_simp; try with_reducible rfl)
                refine gTake 7 (v := ?_) rfl (by kernel_rfl) (by kernel_rfl) (by kernel_rfl) (fun _ _ _ h => h) (by kernel_rfl) ?_ hS0 ?_
                rotate_left
                · (intro W hW; clear hW; go_simp; try with_reducible rfl)
                refine gTake 8 (v := ?_) rfl (by kernel_rfl) (by kernel_rfl) (by kernel_rfl) (fun _ _ _ h => h) (by kernel_rfl) ?_ hS0 ?_
                rotate_left
                · (intro W hW; clear hW; go_simp; try with_reducible rfl)
                refine gTake 9 (v := ?_) rfl (by kernel_rfl) (by kernel_rfl) (by kernel_rfl) (fun _ _ _ h => h) (by kernel_rfl) ?_ hS0 ?_
                rotate_left
                · (intro W hW; have q0 := hW.1; have q1 := hW.2.1; have q2 := hW.2.2.1; clear hW; go_simp; try with_reducible rfl)
                refine gTake 10 (v := ?_) rfl (by kernel_rfl) (by kernel_rfl) (by kernel_rfl) (fun _ _ _ h => h) (by kernel_rfl) ?_ hS0 ?_
                rotate_left
                · (intro W hW; clear hW; go_simp; try with_reducible rfl)
                refine gTake 11 (v := ?_) rfl (by kernel_rfl) (by kernel_rfl) (by kernel_rfl) (fun _ _ _ h => h) (by kernel_rfl) ?_ hS0 ?_
                rotate_left
                · (intro W hW; have q0 := hW.1; have q1 := hW.2.1; have q2 := hW.2.2.1; clear hW; go_simp; try with_reducible rfl)
                refine gTake 12 (v := ?_) rfl (by kernel_rfl) (by kernel_rfl) (by kernel_rfl) (fun _ _ _ h => h) (by kernel_rfl) ?_ hS0 ?_
                rotate_left
                · (intro W hW; clear hW; go_simp; try with_reducible rfl)
                refine gTake 13 (v := ?_) rfl (by kernel_rfl) (by kernel_rfl) (by kernel_rfl) (fun _ _ _ h => h) (by kernel_rfl) ?_ hS0 ?_
                rotate_left
                · (intro W hW; clear hW; go_simp; try with_reducible rfl)
                refine gTake 14 (v := ?_) rfl (by kernel_rfl) (by kernel_rfl) (by kernel_rfl) (fun _ _ _ h => h) (by kernel_rfl) ?_ hS0 ?_
                rotate_left
                · (intro W hW; clear hW; go_simp; try with_reducible rfl)
                refine gOne 15 rfl (by kernel_rfl) (by kernel_rfl) (fun K hK => ?_)
                go_simp
                skip
                have hS1 := (show (W5.drew.setCell ⟨w.heap.size, fn, none⟩ (.int .i64 (pt - (z - y)))).cell? ⟨ga, goff + k * 7 + 1, none⟩ = some (.int .i64 (fn : Int)) ∧ (W5.drew.setCell ⟨w.heap.size, fn, none⟩ (.int .i64 (pt - (z - y)))).cell? ⟨ga, goff + k * 7 + 2, none⟩ = some (.int .i64 (tn : Int)) ∧ (W5.drew.setCell ⟨w.heap.size, fn, none⟩ (.int .i64 (pt - (z - y)))).cell? ⟨w.heap.size, tn, none⟩ = some (.int .i64 pt) ∧ Below w.heap.size w (W5.drew.setCell ⟨w.heap.size, fn, none⟩ (.int .i64 (pt - (z - y)))) from ⟨(World.cell?_setCell_other _ _ _ _ (by intro e; injection e with e1 e2; omega)).trans d1, (World.cell?_setCell_other _ _ _ _ (by intro e; injection e with e1 e2; omega)).trans d2, (World.cell?_setCell_other _ _ _ _ (by intro e; injection e with e1 e2; omega)).trans o2, (Below.drew HB5.out).setCell (Nat.le_refl _) _⟩)
                refine hK _ _ hS1 ?_
                clear hK K
                refine wpAnyH_done (by kernel_rfl) ?_ _
                go_simp
                have HB6 := Lib.hid hS1.2.2.2
                have HO6 := Lib.hid (show (W5.drew.setCell ⟨w.heap.size, fn, none⟩ (.int .i64 (pt - (z - y)))).ownsRow w.heap.size 2 1 (.slice (some ⟨w.heap.size, 0, none⟩) Jn Jn) Jn (intsV (p.set fn (pt - (z - y)))) from by
                  have h := ((show W5.drew.ownsRow w.heap.size 2 1 (.slice (some ⟨w.heap.size, 0, none⟩) Jn Jn) Jn (intsV p) from HO5.out).stored fn (.int .i64 (pt - (z - y)))).1
                  rwa [ints_set] at h)
                clear hS0 hS1 y1 y2 y3 y4
                clear j0 m1 d1 d2 c0 c1 r0 o1 o2 z1 z2
                have HB6d := Lib.hid (show Below w.heap.size w (W5.setCell ⟨w.heap.size, fn, none⟩ (.int .i64 (pt - (z - y)))).drew from HB6.out)
                have HO6d := Lib.hid (show (W5.setCell ⟨w.heap.size, fn, none⟩ (.int .i64 (pt - (z - y)))).drew.ownsRow w.heap.size 2 1 (.slice (some ⟨w.heap.size, 0, none⟩) Jn Jn) Jn (intsV (p.set fn (pt - (z - y)))) from HO6.out)
                clear HB6 HO6
                generalize (W5.setCell ⟨w.heap.size, fn, none⟩ (.int .i64 (pt - (z - y)))).drew = W6 at *
                have HB6 := Lib.hid HB6d.out
                have HO6 := Lib.hid HO6d.out
                clear HB6d HO6d
                go_wp2
                go_roundw
                case rel => exact ⟨k + 1, by omega, by go_num, by rw [HX2.out.2], by rw [HX2.out.1]; exact HO6.out, HB6.out⟩
                case measure => simp [intOf]; omega
              · have h2d : decide (pt - (z - y) < pf) = false := decide_eq_false h2
                have HX2 := Lib.hid (show mdP xs (exF dr pu) rg Jn n (k + 1) = p ∧ mdC xs (exF dr pu) rg Jn n (k + 1) = c from by
                  obtain ⟨e1, e2⟩ := HMF.out rfl
                  have hne : chE p ⟨tn, fn, -(z - y)⟩ = false := by unfold chE; rw [hpf, hpt]; exact decide_eq_false (by show ¬ pt + -(z - y) < pf; omega)
                  rw [HP.out.2] at e1 e2
                  rw [HP.out.1, hne] at e2
                  refine ⟨by rw [e1]; unfold reE; rw [hne]; rfl, by rw [e2]; simp⟩)
                go_wp2
                go_quiet (fail)
                have HB5 := Lib.hid (below_drewN' HB3.out nq)
                have HO5 := Lib.hid (show (W3.drewN nq).ownsRow w.heap.size 2 1 (.slice (some ⟨w.heap.size, 0, none⟩) Jn Jn) Jn (intsV p) from HO3.out)
                clear j0 m1 d1 d2 c0 c1 r0 o1 o2 z1 z2
                generalize W3.drewN nq = W5 at *
                have j0 := cellK HJ.out HB5.out
                have m1 := cellK HA.out HB5.out
                have d1 := cellK D1 HB5.out
                have d2 := cellK D2 HB5.out
                have c0 := cellK C0 HB5.out
                have c1 := cellK C1 HB5.out
                have r0 := cellK R0 HB5.out
                have o1 : W5.cell? ⟨w.heap.size, fn, none⟩ = some (.int .i64 pf) := by rw [HO5.out.cellAt fn (by omega), ints_pv (by omega), hpf]
                have o2 : W5.cell? ⟨w.heap.size, tn, none⟩ = some (.int .i64 pt) := by rw [HO5.out.cellAt tn (by omega), ints_pv (by omega), hpt]
                have z1 : W5.frozen? ⟨w.heap.size, fn, none⟩ = false := HO5.out.frozenAt fn
                have z2 : W5.frozen? ⟨w.heap.size, tn, none⟩ = false := HO5.out.frozenAt tn
                go_wp2
                go_roundw
                case rel => exact ⟨k + 1, by omega, by go_num, by rw [HX2.out.2], by rw [HX2.out.1]; exact HO5.out, HB5.out⟩
                case measure => simp [intOf]; omega
            · have HX2 := Lib.hid (show mdP xs (exF dr pu) rg Jn n (k + 1) = p ∧ mdC xs (exF dr pu) rg Jn n (k + 1) = c from by
                obtain ⟨e1, e2⟩ := HMR.out rfl
                rw [HP.out.2] at e1
                rw [HP.out.1] at e2
                exact ⟨e1, by rw [e2]; simp⟩)
              go_wp2
              go_quiet (fail)
              have HB5 := Lib.hid (below_drewN' HB3.out nq)
              have HO5 := Lib.hid (show (W3.drewN nq).ownsRow w.heap.size 2 1 (.slice (some ⟨w.heap.size, 0, none⟩) Jn Jn) Jn (intsV p) from HO3.out)
              clear j0 m1 d1 d2 c0 c1 r0 o1 o2 z1 z2
              generalize W3.drewN nq = W5 at *
              have j0 := cellK HJ.out HB5.out
              have m1 := cellK HA.out HB5.out
              have d1 := cellK D1 HB5.out
              have d2 := cellK D2 HB5.out
              have c0 := cellK C0 HB5.out
              have c1 := cellK C1 HB5.out
              have r0 := cellK R0 HB5.out
              have o1 : W5.cell? ⟨w.heap.size, fn, none⟩ = some (.int .i64 pf) := by rw [HO5.out.cellAt fn (by omega), ints_pv (by omega), hpf]
              have o2 : W5.cell? ⟨w.heap.size, tn, none⟩ = some (.int .i64 pt) := by rw [HO5.out.cellAt tn (by omega), ints_pv (by omega), hpt]
              have z1 : W5.frozen? ⟨w.heap.size, fn, none⟩ = false := HO5.out.frozenAt fn
              have z2 : W5.frozen? ⟨w.heap.size, tn, none⟩ = false := HO5.out.frozenAt tn
              go_wp2
              go_roundw
              case rel => exact ⟨k + 1, by omega, by go_num, by rw [HX2.out.2], by rw [HX2.out.1]; exact HO5.out, HB5.out⟩
              case measure => simp [intOf]; omega
        · obtain rfl : k = xs.length := by omega
          cases hc : mdC xs (exF dr pu) rg Jn n xs.length
          · obtain ⟨q1, q2⟩ := pt_found (by omega) HEO.out (show chg (itR (edT xs (exF dr pu) rg xs.length) (List.replicate Jn 0) n) (edT xs (exF dr pu) rg xs.length) = false from hc)
            have HQ := Lib.hid (And.intro q1 q2)
            have HS := Lib.hid (rel_still _ _ (show chg (itR (edT xs (exF dr pu) rg xs.length) (List.replicate Jn 0) n) (edT xs (exF dr pu) rg xs.length) = false from hc))
            clear q1 q2
            go_wp2
            go_ret2
            exact ⟨_, ret_vb HQ.out.1.symm, by
              rw [HQ.out.2, ← HS.out]
              unfold OwnI
              rw [rel_len, itR_len, List.length_replicate]
              exact HO1.out, HB1.out⟩
          · have HN := Lib.hid (show ∀ m, m < n + 1 → chg (itR (edT xs (exF dr pu) rg xs.length) (List.replicate Jn 0) m) (edT xs (exF dr pu) rg xs.length) = true from fun m hm => by
              rcases Nat.lt_or_ge m n with h | h
              · exact HT.out m h
              · obtain rfl : m = n := by omega
                exact hc)
            go_wp2
            go_roundw
            case rel => exact ⟨n + 1, by omega, by go_num, HN, HO1.out, HB1.out⟩
            case measure => simp [intOf]; omega
    · obtain rfl : n = Jn + 1 := by omega
      have HBL := Lib.hid hbel
      have HQ := Lib.hid (pt_none (J := Jn) (HT.out (Jn - 1) (by omega)))
      have hnI : ¬ ((Jn + 1 : Nat) : Int) ≤ (Jn : Int) := by omega
      clear hown hbel
      go_wp2
      go_ret2
      exact ⟨_, ret_vb HQ.out.1.symm, by rw [HQ.out.2]; exact own_nilO _ _, HBL.out⟩
end Go.Proofs.YthbofhlfggkolaaDoor
