/-
  Contracts of chapter 10: resistances with doors; the model's and the program's. Conditions: those that each theorem states.
-/
import Derived.Test.YtddfhjolimkkmaaJv
import Derived.Test.YtddfhjolimkkmaaJo
import Derived.Test.YtddfhjolimkkmaaWc
import Derived.Test.YtddfhjolimkkmaaWa
import Derived.Test.YtddfhjolimkkmaaRh
namespace Go.Proofs.Ytddfhjolimkkmaa
open Go.RowKit
set_option linter.unusedVariables false
set_option linter.unusedSimpArgs false

def drS (ds : List Do) (st : List Bool) (i : Nat) : Int := if st.getD i false = true then (dAt ds i).op else (dAt ds i).sh
/-- What doors add to an airway. -/
def addK (ds : List Do) (st : List Bool) (k : Nat) : Nat → Int
  | 0 => 0
  | i + 1 => addK ds st k i + if (dAt ds i).a = (k : Int) then drS ds st i else 0
def opL (ds : List Do) (st : List Bool) (rs : List Int) : Nat → List Int
  | 0 => rs
  | i + 1 => (opL ds st rs i).set (dAt ds i).a.toNat ((opL ds st rs i).getD (dAt ds i).a.toNat 0 + drS ds st i)
theorem opL_len (ds : List Do) (st : List Bool) (rs : List Int) : ∀ i, (opL ds st rs i).length = rs.length
  | 0 => rfl
  | i + 1 => by unfold opL; rw [List.length_set]; exact opL_len ds st rs i
theorem opL_get {ds : List Do} {st : List Bool} {rs : List Int} {k : Nat} (hk : k < rs.length) : ∀ i, (∀ j, j < i → 0 ≤ (dAt ds j).a) → (opL ds st rs i).getD k 0 = rs.getD k 0 + addK ds st k i
  | 0, _ => by simp [opL, addK]
  | i + 1, h => by
    have ih := opL_get (st := st) hk i (fun j hj => h j (by omega))
    have h0 := h i (by omega)
    unfold opL addK
    by_cases e : (dAt ds i).a = (k : Int)
    · rw [if_pos e]
      have e2 : (dAt ds i).a.toNat = k := by omega
      rw [e2, List.getD_eq_getElem?_getD, List.getElem?_set_self (by rw [opL_len]; exact hk), Option.getD_some, ih]
      omega
    · rw [if_neg e, List.getD_eq_getElem?_getD, List.getElem?_set_ne (by omega), ← List.getD_eq_getElem?_getD, ih]
      omega
theorem do_bd {n : Nat} {ds : List Do} (h : dsOk n ds = true) {i : Nat} (hi : i < ds.length) : (0 ≤ (dAt ds i).a ∧ (dAt ds i).a < (n : Int)) ∧ (1 ≤ (dAt ds i).op ∧ (dAt ds i).op ≤ 1000000) ∧ 1 ≤ (dAt ds i).sh ∧ (dAt ds i).sh ≤ 1000000 := by
  have h1 := (dsOk_each h hi).1
  rw [dAt_lt hi]
  have h2 := doOk_bd (show doOk ds[i].s ds[i].a ds[i].op ds[i].sh = true from h1.1)
  omega
theorem drS_bd {n : Nat} {ds : List Do} (h : dsOk n ds = true) (st : List Bool) {i : Nat} (hi : i < ds.length) : 1 ≤ drS ds st i ∧ drS ds st i ≤ 1000000 := by
  have := do_bd h hi
  unfold drS
  split <;> omega
theorem addK_bd {n : Nat} {ds : List Do} (h : dsOk n ds = true) (st : List Bool) (k : Nat) : ∀ i, i ≤ ds.length → 0 ≤ addK ds st k i ∧ addK ds st k i ≤ 1000000 * (i : Int)
  | 0, _ => by simp [addK]
  | i + 1, hi => by
    have ih := addK_bd h st k i (by omega)
    have hd := drS_bd h st (i := i) (by omega)
    unfold addK
    split <;> omega
/-- The resistances with doors. -/
def finL (xs : List Aw) (ds : List Do) (st : List Bool) : List Int := opL ds st (xs.map Aw.ra) ds.length
theorem finL_len (xs : List Aw) (ds : List Do) (st : List Bool) : (finL xs ds st).length = xs.length := by unfold finL; rw [opL_len, List.length_map]
theorem mapra_at {xs : List Aw} {k : Nat} (h : k < xs.length) : (xs.map Aw.ra).getD k 0 = xs[k].ra := by simp [List.getD, h]
theorem finL_at {xs : List Aw} {ds : List Do} {st : List Bool} (h : dsOk xs.length ds = true) {k : Nat} (hk : k < xs.length) : (finL xs ds st)[k]'(by rw [finL_len]; exact hk) = xs[k].ra + addK ds st k ds.length := by
  have h1 := opL_get (ds := ds) (st := st) (rs := xs.map Aw.ra) (k := k) (by simpa using hk) ds.length (fun j hj => (do_bd h hj).1.1)
  rw [mapra_at hk] at h1
  rw [← h1]
  unfold finL
  rw [List.getD_eq_getElem?_getD, List.getElem?_eq_getElem (by rw [opL_len, List.length_map]; exact hk)]
  rfl
theorem ra_bd {a : Aw} (hok : awOk a.s a.f a.t a.l a.se a.fr a.sh = true) (h : a.rb = 0) : 1 ≤ a.ra ∧ a.ra ≤ 1000000 := by
  unfold Aw.rb resB at h
  unfold Aw.ra resA
  rw [hok] at h ⊢
  simp only [if_true] at h ⊢
  have := max1_ge (rawR a.l a.fr a.sh a.se)
  split at h
  · rename_i h1
    rw [if_pos h1]; omega
  · omega
/-- The code of OpenDoors, and its resistances. -/
def odC (J : Int) (xs : List Aw) (ds : List Do) (st : List Bool) : Int := if dvOk J xs ds then (if st.length = ds.length then (if rsB J xs = 0 then (if flOk 1 1000000 xs.length (finL xs ds st) then 0 else 6) else 6) else 7) else 1
def odL (J : Int) (xs : List Aw) (ds : List Do) (st : List Bool) : List Int := if odC J xs ds st = 0 then finL xs ds st else []
theorem odL_len (J : Int) (xs : List Aw) (ds : List Do) (st : List Bool) : (odL J xs ds st).length ≤ xs.length := by unfold odL; split; rw [finL_len]; exact Nat.le_refl _; exact Nat.zero_le _
theorem od_one {J : Int} {xs : List Aw} {ds : List Do} {st : List Bool} (h : dvOk J xs ds = false) : odC J xs ds st = 1 ∧ odL J xs ds st = [] := by
  have : odC J xs ds st = 1 := by unfold odC; rw [h]; rfl
  exact ⟨this, by unfold odL; rw [this]; rfl⟩
theorem od_seven {J : Int} {xs : List Aw} {ds : List Do} {st : List Bool} (h : dvOk J xs ds = true) (h2 : ¬ st.length = ds.length) : odC J xs ds st = 7 ∧ odL J xs ds st = [] := by
  have : odC J xs ds st = 7 := by unfold odC; rw [if_pos h, if_neg h2]
  exact ⟨this, by unfold odL; rw [this]; rfl⟩
theorem od_six {J : Int} {xs : List Aw} {ds : List Do} {st : List Bool} (h : dvOk J xs ds = true) (h2 : st.length = ds.length) (h3 : ¬ rsB J xs = 0 ∨ flOk 1 1000000 xs.length (finL xs ds st) = false) : odC J xs ds st = 6 ∧ odL J xs ds st = [] := by
  have : odC J xs ds st = 6 := by
    unfold odC
    rw [if_pos h, if_pos h2]
    rcases h3 with h3 | h3
    · rw [if_neg h3]
    · rw [h3]; split <;> rfl
  exact ⟨this, by unfold odL; rw [this]; rfl⟩
theorem od_zero {J : Int} {xs : List Aw} {ds : List Do} {st : List Bool} (h : dvOk J xs ds = true) (h2 : st.length = ds.length) (h3 : rsB J xs = 0) (h4 : flOk 1 1000000 xs.length (finL xs ds st) = true) : odC J xs ds st = 0 ∧ odL J xs ds st = finL xs ds st := by
  have : odC J xs ds st = 0 := by unfold odC; rw [if_pos h, if_pos h2, if_pos h3, if_pos h4]
  exact ⟨this, by unfold odL; rw [if_pos this]⟩
theorem dv_two {J : Int} {xs : List Aw} {ds : List Do} (h : dvOk J xs ds = true) : mineOk J xs = true ∧ dsOk xs.length ds = true := by
  unfold dvOk at h
  rwa [Bool.and_eq_true] at h
set_option maxHeartbeats 4000000 in
set_option maxRecDepth 100000 in
theorem l10Resistances_any (b : Nat) (J : Int) (A : Option Addr) (cap : Nat) (xs : List Aw) (D : Option Addr) (dcap : Nat) (ds : List Do) (S : Option Addr) (scap : Nat) (st : List Bool) (w : World) (hJ : w.cell? ⟨b, 0, none⟩ = some (.int .i64 J)) (hA : w.cell? ⟨b, 1, none⟩ = some (.slice A xs.length cap)) (hr : AwR w A xs) (hd : DoR w D ds) (hst : BoR w S st) (hok : dvOk J xs ds = true) (h2 : st.length = ds.length) :
    Calls Try.prog 81 #[.pointer (some ⟨b, 0, none⟩), .slice D ds.length dcap, .slice S st.length scap] w fun e w' => ∃ v, e = .returned (.tuple #[v, .int .i64 (odC J xs ds st)]) ∧ OwnI w' w.heap.size v (odL J xs ds st) ∧ Below w.heap.size w w' := by
  obtain ⟨i0, hi, hz0, hz1, hz2⟩ := info_parts info_i64
  obtain ⟨hmo, hdo⟩ := dv_two hok
  have hn := (mineOk_iff.1 hmo).2.2
  have hn8 := (dsOk_iff.1 hdo).2
  have HOK := Lib.hid hok
  have HMO := Lib.hid hmo
  have HDO := Lib.hid hdo
  have H2 := Lib.hid h2
  have HA := Lib.hid hA
  have HR := Lib.hid hr
  have HD := Lib.hid hd
  have HST := Lib.hid hst
  clear hJ hA hr hd hst hok hmo hdo h2
  go_enter Try.func81, Try.ntmps81
  go_wp2
  go_loopw [8, 9] (fun out i wr => ∃ k : Nat, k ≤ xs.length ∧ i = .int .i64 k ∧ Hid (∀ j (hj : j < xs.length), j < k → xs[j].rb = 0 ∧ xs[j].ra + addK ds st j ds.length ≤ 1000000) ∧ Hid (wr.ownsRow w.heap.size 2 1 out k (intsV ((finL xs ds st).take k))) ∧ Hid (Below w.heap.size w wr)) (fun out i wr => xs.length - (intOf i).toNat)
  case atStart => exact ⟨0, by omega, rfl, Lib.hid (fun j _ h => absurd h (by omega)), Lib.hid (World.ownsRow_lit _ _ 0 (Nat.le_refl _) (by simp [maxLen]) rfl), Lib.hid ((Below.refl _ _).alloc (Nat.le_refl _) _)⟩
  case round =>
    obtain ⟨k, hk, rfl, HG, HO0, HB⟩ := hrel
    obtain ⟨wo, rfl⟩ : ∃ wo : World, wo = wr := ⟨_, rfl⟩
    have hm := cellK HA.out HB.out
    by_cases hlt : k < xs.length
    · obtain ⟨g, off, rfl, hrg⟩ := (HR.out.below HB.out) k hlt
      have hct := AwAtO.of hrg
      have hok1 := aw_ok HMO.out hlt
      have hrb := rb_two hok1
      have HX := Lib.hid (l03ResistanceO_any g (off + k * 7) _ _ _ _ _ _ _ wo hok1 hct)
      by_cases hb : xs[k].rb = 0
      · rw [show resB xs[k].s xs[k].f xs[k].t xs[k].l xs[k].se xs[k].fr xs[k].sh = 0 from hb, show resA xs[k].s xs[k].f xs[k].t xs[k].l xs[k].se xs[k].fr xs[k].sh = xs[k].ra from rfl] at HX
        have hra := ra_bd hok1 hb
        have HFK := Lib.hid (finL_at (st := st) HDO.out hlt)
        have HTK := Lib.hid (show (finL xs ds st).take (k + 1) = (finL xs ds st).take k ++ [xs[k].ra + addK ds st k ds.length] by
          rw [List.take_succ_eq_append_getElem (by rw [finL_len]; exact hlt), HFK.out])
        have HAB := Lib.hid (show xs[k].ra + addK ds st k ds.length ≤ 1000000 → ∀ j (hj : j < xs.length), j < k + 1 → xs[j].rb = 0 ∧ xs[j].ra + addK ds st j ds.length ≤ 1000000 from fun h j hj hjk => by
          rcases Nat.lt_or_ge j k with q | q
          · exact HG.out j hj q
          · obtain rfl : j = k := by omega
            exact ⟨hb, h⟩)
        have HBAD := Lib.hid (show ¬ xs[k].ra + addK ds st k ds.length ≤ 1000000 → odC J xs ds st = 6 ∧ odL J xs ds st = [] from fun h => od_six HOK.out H2.out (.inr (by
          rw [← Bool.not_eq_true, flOk_iff]
          rintro ⟨-, hh⟩
          have := hh _ (List.getElem_mem (show k < (finL xs ds st).length by rw [finL_len]; exact hlt))
          rw [HFK.out] at this
          exact h this.2)))
        clear hct hok1 hrg hrb hb HFK
        generalize xs[k].ra = ra at *
        go_wp2_with fail
        (with_reducible refine (HX.out).mono ?_)
        rintro e w2 ⟨rfl, hd2⟩
        have HO2 := Lib.hid (own_below HO0.out hd2)
        have HB2 := Lib.hid (HB.out.trans (hd2.mono HB.out.size))
        clear hd2 HO0 hm
        go_wp2
        go_loopw [10, 12] (fun r i wx => ∃ t : Nat, t ≤ ds.length ∧ i = .int .i64 t ∧ r = .int .i64 (ra + addK ds st k t) ∧ Hid (Below w2.heap.size w2 wx)) (fun r i wx => ds.length - (intOf i).toNat)
        case atStart => exact ⟨0, by omega, rfl, by simp [addK], Lib.hid (Below.refl _ _)⟩
        case round =>
          obtain ⟨t, ht, rfl, rfl, HBt⟩ := hrel
          obtain ⟨wi, rfl⟩ : ∃ wi : World, wi = wr := ⟨_, rfl⟩
          have HBw := Lib.hid (HB2.out.trans (HBt.out.mono HB2.out.size))
          have hadd := addK_bd HDO.out st k t ht
          by_cases htl : t < ds.length
          · obtain ⟨bd, od, rfl, hrd⟩ := (HD.out.below HBw.out) t htl
            obtain ⟨c0, c1, c2, c3⟩ := do_lay hrd
            obtain ⟨bs, os, rfl, s0⟩ := (HST.out.below HBw.out) t (by have := H2.out; omega)
            have HSD := Lib.hid (show st[t]'(by have := H2.out; omega) = st.getD t false by simp [List.getD, show t < st.length by have := H2.out; omega])
            have HNX := Lib.hid (show addK ds st k (t + 1) = addK ds st k t + if (dAt ds t).a = (k : Int) then (if st.getD t false = true then (dAt ds t).op else (dAt ds t).sh) else 0 from rfl)
            have htst : t < st.length := by have := H2.out; omega
            have hbd := do_bd HDO.out htl
            rw [HSD.out] at s0
            rw [dAt_lt htl] at HNX hbd
            clear hrd HSD
            generalize ds[t] = d at *
            obtain ⟨ss, a, op, sh⟩ := d
            dsimp only at c0 c1 c2 c3 hbd
            have HNY := Lib.hid (show addK ds st k (t + 1) = addK ds st k t + if a = (k : Int) then (if st.getD t false = true then op else sh) else 0 from HNX.out)
            clear HNX
            obtain ⟨hba, hbo, hbs⟩ := hbd
            have hz : 0 ≤ addK ds st k t ∧ addK ds st k t ≤ 8000000 := by omega
            generalize addK ds st k t = z at *
            by_cases hak : a = (k : Int)
            · rw [if_pos hak] at HNY
              subst hak
              generalize st.getD t false = p at *
              cases p
              · have HF := Lib.hid (show addK ds st k (t + 1) = z + sh by rw [HNY.out]; rfl)
                go_wp2
                go_roundw
                case rel => exact ⟨t + 1, by omega, by go_num, by rw [HF.out]; first | rfl | go_num | (congr 1; omega), HBt⟩
                case measure => simp [intOf]; omega
              · have HF := Lib.hid (show addK ds st k (t + 1) = z + op by rw [HNY.out]; rfl)
                go_wp2
                go_roundw
                case rel => exact ⟨t + 1, by omega, by go_num, by rw [HF.out]; first | rfl | go_num | (congr 1; omega), HBt⟩
                case measure => simp [intOf]; omega
            · have HF := Lib.hid (show addK ds st k (t + 1) = z by rw [HNY.out, if_neg hak]; omega)
              have hak2 : (a != (k : Int)) = true := by simp [hak]
              go_wp2
              go_roundw
              case rel => exact ⟨t + 1, by omega, by go_num, by rw [HF.out], HBt⟩
              case measure => simp [intOf]; omega
          · obtain rfl : t = ds.length := by omega
            have HO := Lib.hid (own_below HO2.out HBt.out)
            have HBq := HBw
            have HS := HTK
            obtain ⟨wq, rfl⟩ : ∃ wq : World, wq = wi := ⟨_, rfl⟩
            obtain ⟨R, hR⟩ : ∃ R : Int, ra + addK ds st k ds.length = R := ⟨_, rfl⟩
            rw [hR] at HS HAB HBAD ⊢
            clear hR HTK hadd
            by_cases hR6 : R ≤ 1000000
            · have HAN := Lib.hid (HAB.out hR6)
              have hR7 : ¬ (1000000 : Int) < R := by omega
              go_wp2_with (at_builtin; refine wpList_append_own _ rfl _ _ 46 rfl w.heap.size 2 i0 (.int .i64 0) 1 8 Try.underlying46 hi hz0 hz1 hz2 rfl (by decide) _ _ _ rfl (HO.out.alloc _) ⟨wq.heap.size, 0, none⟩ 1 1 [.int .i64 R] rfl rfl ?c1z ?c2z ?c3z ?c4z ?c5z ?_)
              try (case c1z => intro j u hj; match j, hj with | 0, hj => (simp at hj; subst hj; simp [Addr.add]) | j + 1, hj => (simp at hj))
              case c2z => simp [Value.oneCell']
              case c3z => unfold maxLen; omega
              case c4z => omega
              case c5z => (have := HBq.out.size; simp; omega)
              intro v' w3 hout' hgrow _
              have HBB : Hid (Below w.heap.size w w3) := Lib.hid ((HBq.out.alloc HBq.out.size _).grown hgrow (by have := HBq.out.size; simp; omega) (fun k hk => (HO.out.lt k hk).1))
              have HOO : Hid (w3.ownsRow w.heap.size 2 1 v' (k + 1) (intsV ((finL xs ds st).take (k + 1)))) := Lib.hid (by rw [HS.out]; simpa [intsV] using hout')
              clear hout' hgrow
              go_wp2
              go_roundw
              case rel => exact ⟨k + 1, by omega, by go_num, HAN, HOO, HBB⟩
              case measure => simp [intOf]; omega
            · have HE := Lib.hid (HBAD.out (by omega))
              have hR7 : (1000000 : Int) < R := by omega
              go_wp2
              go_ret2
              exact ⟨_, ret_vr HE.out.1.symm, by rw [HE.out.2]; exact own_nilr _ _, HBq.out⟩
      · have HE := Lib.hid (od_six (ds := ds) (st := st) HOK.out H2.out (.inl (by have := (rs_bad HMO.out hlt (by omega)).1; omega)))
        have hb6 : resB xs[k].s xs[k].f xs[k].t xs[k].l xs[k].se xs[k].fr xs[k].sh = 6 := by rcases hrb with h | h; exact absurd h hb; exact h
        rw [hb6] at HX
        clear hct hok1 hrg hrb hb hb6
        go_wp2_with fail
        (with_reducible refine (HX.out).mono ?_)
        rintro e w2 ⟨rfl, hd2⟩
        have HB2 := Lib.hid (HB.out.trans (hd2.mono HB.out.size))
        clear hd2
        go_wp2
        go_ret2
        exact ⟨_, ret_vr HE.out.1.symm, by rw [HE.out.2]; exact own_nilr _ _, HB2.out⟩
    · obtain rfl : k = xs.length := by omega
      have hfl : flOk 1 1000000 xs.length (finL xs ds st) = true := by
        rw [flOk_iff]
        refine ⟨finL_len _ _ _, fun y hy => ?_⟩
        obtain ⟨j, hj, rfl⟩ := List.mem_iff_getElem.1 hy
        rw [finL_len] at hj
        rw [finL_at HDO.out hj]
        have h1 := HG.out j hj hj
        have h3 := ra_bd (aw_ok HMO.out hj) h1.1
        have h4 := addK_bd HDO.out st j ds.length (Nat.le_refl _)
        exact ⟨by omega, h1.2⟩
      have HE := Lib.hid (od_zero HOK.out H2.out (rs_good HMO.out (fun j hj => (HG.out j hj hj).1)).1 hfl)
      have hO := HO0.out
      rw [List.take_of_length_le (by rw [finL_len]; exact Nat.le_refl _)] at hO
      have HO := Lib.hid hO
      clear hO hfl
      go_wp2
      go_ret2
      exact ⟨_, ret_vr HE.out.1.symm, by rw [HE.out.2]; unfold OwnI; rw [finL_len]; exact HO.out, HB.out⟩
theorem sOpenDoors_any (J : Int) (A : Option Addr) (cap : Nat) (xs : List Aw) (D : Option Addr) (dcap : Nat) (ds : List Do) (S : Option Addr) (scap : Nat) (st : List Bool) (w : World) (hr : AwR w A xs) (hs : ∀ a ∈ xs, a.s.size ≤ maxLen) (hl : xs.length ≤ 1048576) (hd : DoR w D ds) (hds : ∀ d ∈ ds, d.s.size ≤ maxLen) (hdl : ds.length ≤ 1048576) (hst : BoR w S st) (hstl : st.length ≤ 1048576) :
    Calls Try.prog 29 #[.agg #[.int .i64 J, .slice A xs.length cap], .slice D ds.length dcap, .slice S st.length scap] w fun e w' => ∃ v, e = .returned (.tuple #[v, .int .i64 (odC J xs ds st)]) ∧ OwnI w' w.heap.size v (odL J xs ds st) ∧ Below w.heap.size w w' := by
  have HB0 := Lib.hid (below_box w (.cells #[.int .i64 J, .slice A xs.length cap] 38))
  have HC := Lib.hid (l10Ok_any w.heap.size J A cap xs D dcap ds (w.alloc (.cells #[.int .i64 J, .slice A xs.length cap] 38)) (by simp) (by simp) (hr.below HB0.out) hs hl (hd.below HB0.out) hds hdl)
  have HQ := Lib.hid (fun (W : World) (h : Below (w.alloc (.cells #[.int .i64 J, .slice A xs.length cap] 38)).heap.size (w.alloc (.cells #[.int .i64 J, .slice A xs.length cap] 38)) W) (hok : dvOk J xs ds = true) (h2 : st.length = ds.length) => l10Resistances_any w.heap.size J A cap xs D dcap ds S scap st W ((h.cell (by simp)).trans (by simp)) ((h.cell (by simp)).trans (by simp)) ((hr.below HB0.out).below h) ((hd.below HB0.out).below h) ((hst.below HB0.out).below h) hok h2)
  clear hr hs hd hds hst
  cases hok : dvOk J xs ds
  · have HE := Lib.hid (od_one (st := st) hok)
    go_enter Try.func29, Try.ntmps29
    go_wp2_with fail
    (with_reducible refine (HC.out).mono ?_)
    rintro e w1 ⟨rfl, hd1⟩
    rw [hok]
    go_wp2
    go_ret2
    exact ⟨_, ret_vr HE.out.1.symm, by rw [HE.out.2]; exact own_nilr _ _, HB0.out.trans (hd1.mono HB0.out.size)⟩
  · by_cases h2 : st.length = ds.length
    · have t2 : ((st.length : Int) != (ds.length : Int)) = false := by simp; omega
      have HQ2 := Lib.hid (fun W h => HQ.out W h hok h2)
      have H2 := Lib.hid h2
      clear h2
      go_enter Try.func29, Try.ntmps29
      go_wp2_with fail
      (with_reducible refine (HC.out).mono ?_)
      rintro e w1 ⟨rfl, hd1⟩
      rw [hok]
      have hb1 := HB0.out.trans (hd1.mono HB0.out.size)
      go_wp2_with fail
      (with_reducible refine (HQ2.out _ hd1).mono ?_)
      rintro e w2 ⟨v, rfl, ho, hd2⟩
      have HO := Lib.hid (own_le ho hb1.size)
      have HB2 := Lib.hid (hb1.trans (hd2.mono hb1.size))
      clear ho hd1 hd2 hb1
      go_wp2
      go_ret2
      exact ⟨v, rfl, HO.out, HB2.out⟩
    · have HE := Lib.hid (od_seven (st := st) hok h2)
      have t2 : ((st.length : Int) != (ds.length : Int)) = true := by simp; omega
      go_enter Try.func29, Try.ntmps29
      go_wp2_with fail
      (with_reducible refine (HC.out).mono ?_)
      rintro e w1 ⟨rfl, hd1⟩
      rw [hok]
      go_wp2
      go_ret2
      exact ⟨_, ret_vr HE.out.1.symm, by rw [HE.out.2]; exact own_nilr _ _, HB0.out.trans (hd1.mono HB0.out.size)⟩
theorem doorRes_any (s : ByteArray) (a op sh : Int) (p : Bool) (w : World) :
    Calls Try.prog 83 #[.agg #[.string s, .int .i64 a, .int .i64 op, .int .i64 sh], .bool p] w fun e w' => e = .returned (.int .i64 (if p = true then op else sh)) ∧ Below w.heap.size w w' := by
  cases p
  · go_enter Try.func83, Try.ntmps83
    go_wp2
    go_ret
    exact ⟨rfl, below_box _ _⟩
  · go_enter Try.func83, Try.ntmps83
    go_wp2
    go_ret
    exact ⟨rfl, below_box _ _⟩
theorem adr_ne {a b o o2 : Nat} (h : a ≠ b) : (⟨a, o, none⟩ : Addr) ≠ ⟨b, o2, none⟩ := fun e => by injection e with e; exact h e
set_option maxHeartbeats 4000000 in
set_option maxRecDepth 100000 in
theorem iOpenDoors_any (J : Int) (A : Option Addr) (cap : Nat) (xs : List Aw) (D : Option Addr) (dcap : Nat) (ds : List Do) (S : Option Addr) (scap : Nat) (st : List Bool) (w : World) (hr : AwR w A xs) (hs : ∀ a ∈ xs, a.s.size ≤ maxLen) (hl : xs.length ≤ 1048576) (hd : DoR w D ds) (hds : ∀ d ∈ ds, d.s.size ≤ maxLen) (hdl : ds.length ≤ 1048576) (hst : BoR w S st) (hstl : st.length ≤ 1048576) :
    Calls Try.prog 31 #[.agg #[.int .i64 J, .slice A xs.length cap], .slice D ds.length dcap, .slice S st.length scap] w fun e w' => ∃ v, e = .returned (.tuple #[v, .int .i64 (odC J xs ds st)]) ∧ OwnI w' w.heap.size v (odL J xs ds st) ∧ Below w.heap.size w w' := by
  have HB0 := Lib.hid (below_box w (.cells #[.int .i64 J, .slice A xs.length cap] 38))
  have HC := Lib.hid (iValidDoors_any J A cap xs D dcap ds (w.alloc (.cells #[.int .i64 J, .slice A xs.length cap] 38)) (hr.below HB0.out) hs hl (hd.below HB0.out) hds hdl)
  have HRS := Lib.hid (fun W (h : Below w.heap.size w W) => iResistancesOf_any J A cap xs W (hr.below h) hs hl)
  have HD := Lib.hid hd
  have HST := Lib.hid hst
  have hJ0 : (w.alloc (.cells #[.int .i64 J, .slice A xs.length cap] 38)).cell? ⟨w.heap.size, 0, none⟩ = some (.int .i64 J) := by simp
  have hA0 : (w.alloc (.cells #[.int .i64 J, .slice A xs.length cap] 38)).cell? ⟨w.heap.size, 1, none⟩ = some (.slice A xs.length cap) := by simp
  have HK0 := Lib.hid (And.intro hJ0 hA0)
  have hw0 : w.heap.size < (w.alloc (.cells #[.int .i64 J, .slice A xs.length cap] 38)).heap.size := by simp
  clear hr hs hd hds hst hJ0 hA0
  cases hok : dvOk J xs ds
  · have HE := Lib.hid (od_one (st := st) hok)
    go_enter Try.func31, Try.ntmps31
    go_wp2_with fail
    (with_reducible refine (HC.out).mono ?_)
    rintro e w1 ⟨rfl, hd1⟩
    rw [hok]
    go_wp2
    go_ret2
    exact ⟨_, ret_vr HE.out.1.symm, by rw [HE.out.2]; exact own_nilr _ _, HB0.out.trans (hd1.mono HB0.out.size)⟩
  · obtain ⟨hmo, hdo⟩ := dv_two hok
    have HMO := Lib.hid hmo
    have HDO := Lib.hid hdo
    have HOK := Lib.hid hok
    have hn := (mineOk_iff.1 hmo).2.2
    have hn8 := (dsOk_iff.1 hdo).2
    clear hmo hdo
    by_cases h2 : st.length = ds.length
    · have t2 : ((st.length : Int) != (ds.length : Int)) = false := by simp; omega
      have H2 := Lib.hid h2
      clear h2
      go_enter Try.func31, Try.ntmps31
      go_wp2_with fail
      (with_reducible refine (HC.out).mono ?_)
      rintro e w1 ⟨rfl, hd1⟩
      rw [hok]
      have HB1 := Lib.hid (HB0.out.trans (hd1.mono HB0.out.size))
      have k0 := (hd1.cell (p := ⟨w.heap.size, 0, none⟩) hw0).trans HK0.out.1
      have k1 := (hd1.cell (p := ⟨w.heap.size, 1, none⟩) hw0).trans HK0.out.2
      have hw1 : w.heap.size < w1.heap.size := Nat.lt_of_lt_of_le hw0 hd1.size
      clear hd1
      go_wp2_with fail
      (with_reducible refine (HRS.out _ HB1.out).mono ?_)
      rintro e W2b ⟨v, rfl, ho, hd2⟩
      by_cases hrs : rsB J xs = 0
      · have hrr : rsR J xs = xs.map Aw.ra := by unfold rsR; rw [if_pos hrs]
        rw [hrr] at ho
        rw [hrs]
        obtain ⟨W2, rfl⟩ : ∃ W2 : World, W2 = w1 := ⟨_, rfl⟩
        have HK := Lib.hid (And.intro k0 k1)
        have HOB := Lib.hid ho
        have HBB := Lib.hid hd2
        have HRSB := Lib.hid hrs
        obtain ⟨V, vc, hv⟩ : ∃ V vc, v = .slice V xs.length vc := by
          obtain ⟨V, vc, e⟩ := ho.form
          rw [List.length_map] at e
          exact ⟨V, vc, e⟩
        subst hv
        clear ho hd2 k0 k1 hrr hrs
        go_wp2
        go_loopw [31] (fun x wr => ∃ i : Nat, i ≤ ds.length ∧ x = .int .i64 i ∧ Hid (wr.ownsRow W2.heap.size 2 1 (.slice V xs.length vc) xs.length (intsV (opL ds st (xs.map Aw.ra) i))) ∧ Hid (Below W2.heap.size W2 wr)) (fun x wr => ds.length - (intOf x).toNat)
        case atStart => exact ⟨0, by omega, rfl, Lib.hid (by have := HOB.out; unfold OwnI at this; rwa [List.length_map] at this), HBB⟩
        case round =>
          obtain ⟨i, hi, rfl, HO, HB⟩ := hrel
          obtain ⟨wo, rfl⟩ : ∃ wo : World, wo = wr := ⟨_, rfl⟩
          have hzo := HB.out.size
          have HBw := Lib.hid (HB1.out.trans (HB.out.mono HB1.out.size))
          by_cases hil : i < ds.length
          · obtain ⟨bd, od, rfl, hrd⟩ := (HD.out.below HBw.out) i hil
            obtain ⟨c0, c1, c2, c3⟩ := do_lay hrd
            have hist : i < st.length := by have := H2.out; omega
            obtain ⟨bs, os, hse, s0⟩ := (HST.out.below HBw.out) i hist
            have hbsW : bs < W2.heap.size := by
              obtain ⟨b2, o2, e2, s2⟩ := (HST.out.below HB1.out) i hist
              rw [hse] at e2
              injection e2 with e2
              injection e2 with e21 e22
              subst e21
              exact World.block_lt_of_cell? _ _ s2
            subst hse
            have HSD := Lib.hid (show st[i]'hist = st.getD i false by simp [List.getD, hist])
            have hbd := do_bd HDO.out hil
            have hpos : ∀ j, j < i → 0 ≤ (dAt ds j).a := fun j hj => (do_bd HDO.out (show j < ds.length by omega)).1.1
            obtain ⟨an, han⟩ : ∃ an : Nat, (dAt ds i).a = an := ⟨(dAt ds i).a.toNat, by omega⟩
            have hanx : an < xs.length := by omega
            have hget := opL_get (ds := ds) (st := st) (rs := xs.map Aw.ra) (k := an) (by simpa using hanx) i hpos
            rw [mapra_at hanx] at hget
            have hrb : xs[an].rb = 0 := by
              have hh := rb_two (aw_ok HMO.out hanx)
              rcases hh with h | h
              · exact h
              · have := (rs_bad HMO.out hanx h).1
                have := HRSB.out
                omega
            have hrabd := ra_bd (aw_ok HMO.out hanx) hrb
            have haddb := addK_bd HDO.out st an i (by omega)
            have HNX0 := Lib.hid (show opL ds st (xs.map Aw.ra) (i + 1) = (opL ds st (xs.map Aw.ra) i).set an ((opL ds st (xs.map Aw.ra) i).getD an 0 + drS ds st i) by
              show List.set _ _ _ = _
              rw [han]; rfl)
            have hdr := drS_bd HDO.out st hil
            have HDRV := Lib.hid (show drS ds st i = if st.getD i false = true then (dAt ds i).op else (dAt ds i).sh from rfl)
            rw [HSD.out] at s0
            rw [dAt_lt hil] at han HDRV
            have hgl : (opL ds st (xs.map Aw.ra) i).length = xs.length := by rw [opL_len, List.length_map]
            obtain ⟨g, vc2, e3, hgW, hgo⟩ := HO.out.form (by omega)
            injection e3 with e31 e32 e33
            subst e31 e33
            have hcv0 : wo.cell? ⟨g, an, none⟩ = some (.int .i64 ((opL ds st (xs.map Aw.ra) i).getD an 0)) := by
              rw [HO.out.cellAt an (by omega)]
              simp [intsV, List.getD, show an < (opL ds st (xs.map Aw.ra) i).length by omega]
            have hfv0 := HO.out.frozenAt an
            have HNX := Lib.hid (show (intsV (opL ds st (xs.map Aw.ra) i)).set an (.int .i64 ((opL ds st (xs.map Aw.ra) i).getD an 0 + drS ds st i)) = intsV (opL ds st (xs.map Aw.ra) (i + 1)) by
              rw [HNX0.out]
              unfold intsV
              rw [List.map_set])
            have hzb : 0 ≤ (opL ds st (xs.map Aw.ra) i).getD an 0 ∧ (opL ds st (xs.map Aw.ra) i).getD an 0 ≤ 9000000 := by omega
            clear hrd HSD hget hrabd haddb HNX0 hrb hgl hbd hpos
            generalize drS ds st i = r at *
            generalize (opL ds st (xs.map Aw.ra) i).getD an 0 = z at *
            generalize ds[i] = d at *
            obtain ⟨ss, a, op, sh⟩ := d
            dsimp only at c0 c1 c2 c3 han
            have HDRW := Lib.hid (show r = if st.getD i false = true then op else sh from HDRV.out)
            clear HDRV
            subst han
            generalize st.getD i false = p at *
            have HDR := Lib.hid (fun W => show Calls Try.prog 83 #[.agg #[.string ss, .int .i64 (an : Int), .int .i64 op, .int .i64 sh], .bool p] W fun e w' => e = .returned (.int .i64 r) ∧ Below W.heap.size W w' from by rw [HDRW.out]; exact doorRes_any ss an op sh p W)
            have hwr : IntKind.i64.wrap (z + r) = z + r := IntWalk.i64_in _ (by omega)
            have hgw : g ≠ wo.heap.size := Nat.ne_of_lt hgo
            have hgb : g ≠ bs := by omega
            have hcv := cellK hcv0 (below_box wo (.cells #[.string ss, .int .i64 (an : Int), .int .i64 op, .int .i64 sh] 26))
            have hfv : (wo.alloc (.cells #[.string ss, .int .i64 (an : Int), .int .i64 op, .int .i64 sh] 26)).frozen? ⟨g, an, none⟩ = false := ((below_box wo (.cells #[.string ss, .int .i64 (an : Int), .int .i64 op, .int .i64 sh] 26)).frozen hgo).trans hfv0
            have hcvd : (wo.alloc (.cells #[.string ss, .int .i64 (an : Int), .int .i64 op, .int .i64 sh] 26)).drew.cell? ⟨g, an, none⟩ = some (.int .i64 z) := hcv
            have hfvd : (wo.alloc (.cells #[.string ss, .int .i64 (an : Int), .int .i64 op, .int .i64 sh] 26)).drew.frozen? ⟨g, an, none⟩ = false := hfv
            clear HDRW hcv0 hfv0
            go_wp2_with fail
            refine wp_region_held (S := fun w' => (w'.cell? ⟨wo.heap.size, 0, none⟩ = some (.string ss) ∧ w'.cell? ⟨wo.heap.size, 1, none⟩ = some (.int .i64 (an : Int)) ∧ w'.cell? ⟨wo.heap.size, 2, none⟩ = some (.int .i64 op) ∧ w'.cell? ⟨wo.heap.size, 3, none⟩ = some (.int .i64 sh) ∧ w'.cell? ⟨bs, os + i, none⟩ = some (.bool p)) ∧ Below W2.heap.size W2 w') (by kernel_rfl) ?_
            try (change wpAnyH _ _ _ _ _ _ _ _ (World.drew _))
            have hS0 := (show ((wo.alloc (.cells #[.string ss, .int .i64 (an : Int), .int .i64 op, .int .i64 sh] 26)).drew.cell? ⟨wo.heap.size, 0, none⟩ = some (.string ss) ∧ (wo.alloc (.cells #[.string ss, .int .i64 (an : Int), .int .i64 op, .int .i64 sh] 26)).drew.cell? ⟨wo.heap.size, 1, none⟩ = some (.int .i64 (an : Int)) ∧ (wo.alloc (.cells #[.string ss, .int .i64 (an : Int), .int .i64 op, .int .i64 sh] 26)).drew.cell? ⟨wo.heap.size, 2, none⟩ = some (.int .i64 op) ∧ (wo.alloc (.cells #[.string ss, .int .i64 (an : Int), .int .i64 op, .int .i64 sh] 26)).drew.cell? ⟨wo.heap.size, 3, none⟩ = some (.int .i64 sh) ∧ (wo.alloc (.cells #[.string ss, .int .i64 (an : Int), .int .i64 op, .int .i64 sh] 26)).drew.cell? ⟨bs, os + i, none⟩ = some (.bool p)) ∧ Below W2.heap.size W2 (wo.alloc (.cells #[.string ss, .int .i64 (an : Int), .int .i64 op, .int .i64 sh] 26)).drew from ⟨⟨by simp, by simp, by simp, by simp, cellK s0 (Below.drew (below_box wo (.cells #[.string ss, .int .i64 (an : Int), .int .i64 op, .int .i64 sh] 26)))⟩, Below.drew (HB.out.alloc hzo _)⟩)
            refine gTake 0 (v := ?_) rfl (by kernel_rfl) (by kernel_rfl) (by kernel_rfl) (fun _ _ _ h => h) (by kernel_rfl) ?_ hS0 ?_
            rotate_left
            · (intro W hW; clear hW; go_simp; try with_reducible rfl)
            refine gTake 1 (v := ?_) rfl (by kernel_rfl) (by kernel_rfl) (by kernel_rfl) (fun _ _ _ h => h) (by kernel_rfl) ?_ hS0 ?_
            rotate_left
            · (intro W hW; clear hW; go_simp; try with_reducible rfl)
            refine gTake 2 (v := ?_) rfl (by kernel_rfl) (by kernel_rfl) (by kernel_rfl) (fun _ _ _ h => h) (by kernel_rfl) ?_ hS0 ?_
            rotate_left
            · (intro W hW; have q0 := hW.1.1; have q1 := hW.1.2.1; have q2 := hW.1.2.2.1; have q3 := hW.1.2.2.2.1; have q4 := hW.1.2.2.2.2; clear hW; go_simp; try with_reducible rfl)
            refine gTake 3 (v := ?_) rfl (by kernel_rfl) (by kernel_rfl) (by kernel_rfl) (fun _ _ _ h => h) (by kernel_rfl) ?_ hS0 ?_
            rotate_left
            · (intro W hW; clear hW; go_simp; try with_reducible rfl)
            refine gTake 5 (v := ?_) rfl (by kernel_rfl) (by kernel_rfl) (by kernel_rfl) (fun _ _ _ h => h) (by kernel_rfl) ?_ hS0 ?_
            rotate_left
            · (intro W hW; have q0 := hW.1.1; have q1 := hW.1.2.1; have q2 := hW.1.2.2.1; have q3 := hW.1.2.2.2.1; have q4 := hW.1.2.2.2.2; clear hW; go_simp; try with_reducible rfl)
            refine gTake 6 (v := ?_) rfl (by kernel_rfl) (by kernel_rfl) (by kernel_rfl) (fun _ _ _ h => h) (by kernel_rfl) ?_ hS0 ?_
            rotate_left
            · (intro W hW; clear hW; go_simp; try with_reducible rfl)
            refine gTake 7 (v := ?_) rfl (by kernel_rfl) (by kernel_rfl) (by kernel_rfl) (fun _ _ _ h => h) (by kernel_rfl) ?_ hS0 ?_
            rotate_left
            · (intro W hW; clear hW; go_simp; try with_reducible rfl)
            refine gTake 8 (v := ?_) rfl (by kernel_rfl) (by kernel_rfl) (by kernel_rfl) (fun _ _ _ h => h) (by kernel_rfl) ?_ hS0 ?_
            rotate_left
            · (intro W hW; clear hW; go_simp; try with_reducible rfl)
            refine gTake 9 (v := ?_) rfl (by kernel_rfl) (by kernel_rfl) (by kernel_rfl) (fun _ _ _ h => h) (by kernel_rfl) ?_ hS0 ?_
            rotate_left
            · (intro W hW; have q0 := hW.1.1; have q1 := hW.1.2.1; have q2 := hW.1.2.2.1; have q3 := hW.1.2.2.2.1; have q4 := hW.1.2.2.2.2; clear hW; go_simp; try with_reducible rfl)
            refine gTwo 4 10 rfl rfl (by kernel_rfl) (by kernel_rfl) (by kernel_rfl) (fun K hK => ?_) (fun K hK => ?_)
            · go_simp
              skip
              have hS1 := hS0
              refine hK _ _ hS1 ?_
              clear hK K
              refine gOne 10 rfl (by kernel_rfl) (by kernel_rfl) (fun K hK => ?_)
              go_simp
              go_at_call 83
              (with_reducible refine (HDR.out _).mono ?_)
              rintro e wq ⟨rfl, hdq⟩
              have hcq : wq.cell? ⟨g, an, none⟩ = some (.int .i64 z) := cellK hcvd hdq
              have hfq : wq.frozen? ⟨g, an, none⟩ = false := (hdq.frozen (World.block_lt_of_cell? _ _ hcvd)).trans hfvd
              have HDQ := Lib.hid hdq
              try go_simp
              have hS2 := (show (wq.cell? ⟨wo.heap.size, 0, none⟩ = some (.string ss) ∧ wq.cell? ⟨wo.heap.size, 1, none⟩ = some (.int .i64 (an : Int)) ∧ wq.cell? ⟨wo.heap.size, 2, none⟩ = some (.int .i64 op) ∧ wq.cell? ⟨wo.heap.size, 3, none⟩ = some (.int .i64 sh) ∧ wq.cell? ⟨bs, os + i, none⟩ = some (.bool p)) ∧ Below W2.heap.size W2 wq from ⟨⟨cellK hS1.1.1 HDQ.out, cellK hS1.1.2.1 HDQ.out, cellK hS1.1.2.2.1 HDQ.out, cellK hS1.1.2.2.2.1 HDQ.out, cellK hS1.1.2.2.2.2 HDQ.out⟩, hS1.2.trans (HDQ.out.mono hS1.2.size)⟩)
              refine hK _ _ hS2 ?_
              clear hK K
              refine gTake 11 (v := ?_) rfl (by kernel_rfl) (by kernel_rfl) (by kernel_rfl) (fun _ _ _ h => h) (by kernel_rfl) ?_ hS2 ?_
              rotate_left
              · (intro W hW; clear hW; go_simp; try with_reducible rfl)
              refine gTake 12 (v := ?_) rfl (by kernel_rfl) (by kernel_rfl) (by kernel_rfl) (fun _ _ _ h => h) (by kernel_rfl) ?_ hS2 ?_
              rotate_left
              · (intro W hW; clear hW; go_simp; try with_reducible rfl)
              refine gOne 13 rfl (by kernel_rfl) (by kernel_rfl) (fun K hK => ?_)
              go_simp
              skip
              have hS3 := (show ((wq.setCell ⟨g, an, none⟩ (.int .i64 (z + r))).cell? ⟨wo.heap.size, 0, none⟩ = some (.string ss) ∧ (wq.setCell ⟨g, an, none⟩ (.int .i64 (z + r))).cell? ⟨wo.heap.size, 1, none⟩ = some (.int .i64 (an : Int)) ∧ (wq.setCell ⟨g, an, none⟩ (.int .i64 (z + r))).cell? ⟨wo.heap.size, 2, none⟩ = some (.int .i64 op) ∧ (wq.setCell ⟨g, an, none⟩ (.int .i64 (z + r))).cell? ⟨wo.heap.size, 3, none⟩ = some (.int .i64 sh) ∧ (wq.setCell ⟨g, an, none⟩ (.int .i64 (z + r))).cell? ⟨bs, os + i, none⟩ = some (.bool p)) ∧ Below W2.heap.size W2 (wq.setCell ⟨g, an, none⟩ (.int .i64 (z + r))) from ⟨⟨(World.cell?_setCell_other _ _ _ _ (adr_ne hgw)).trans hS2.1.1, (World.cell?_setCell_other _ _ _ _ (adr_ne hgw)).trans hS2.1.2.1, (World.cell?_setCell_other _ _ _ _ (adr_ne hgw)).trans hS2.1.2.2.1, (World.cell?_setCell_other _ _ _ _ (adr_ne hgw)).trans hS2.1.2.2.2.1, (World.cell?_setCell_other _ _ _ _ (adr_ne hgb)).trans hS2.1.2.2.2.2⟩, hS2.2.setCell (p := ⟨g, an, none⟩) hgW _⟩)
              refine hK _ _ hS3 ?_
              clear hK K
              refine wpAnyH_done (by kernel_rfl) ?_ _
              go_simp
              go_wp2
              go_roundw
              case rel =>
                refine ⟨i + 1, by omega, by go_num, Lib.hid ?_, Lib.hid ?_⟩
                · have h := ((own_below (show (wo.alloc (.cells #[.string ss, .int .i64 (an : Int), .int .i64 op, .int .i64 sh] 26)).drew.ownsRow W2.heap.size 2 1 (.slice (some ⟨g, 0, none⟩) xs.length vc) xs.length (intsV (opL ds st (xs.map Aw.ra) i)) from HO.out.alloc (.cells #[.string ss, .int .i64 (an : Int), .int .i64 op, .int .i64 sh] 26)) HDQ.out).stored an (.int .i64 (z + r))).1
                  rwa [HNX.out] at h
                · exact ((Below.drew (HB.out.alloc hzo (.cells #[.string ss, .int .i64 (an : Int), .int .i64 op, .int .i64 sh] 26))).trans (HDQ.out.mono (by simp; omega))).setCell (p := ⟨g, an, none⟩) hgW _
              case measure => simp [intOf]; omega
            · go_simp
              go_at_call 83
              (with_reducible refine (HDR.out _).mono ?_)
              rintro e wq ⟨rfl, hdq⟩
              have hcq : wq.cell? ⟨g, an, none⟩ = some (.int .i64 z) := cellK hcvd hdq
              have hfq : wq.frozen? ⟨g, an, none⟩ = false := (hdq.frozen (World.block_lt_of_cell? _ _ hcvd)).trans hfvd
              have HDQ := Lib.hid hdq
              try go_simp
              have hS1 := (show (wq.cell? ⟨wo.heap.size, 0, none⟩ = some (.string ss) ∧ wq.cell? ⟨wo.heap.size, 1, none⟩ = some (.int .i64 (an : Int)) ∧ wq.cell? ⟨wo.heap.size, 2, none⟩ = some (.int .i64 op) ∧ wq.cell? ⟨wo.heap.size, 3, none⟩ = some (.int .i64 sh) ∧ wq.cell? ⟨bs, os + i, none⟩ = some (.bool p)) ∧ Below W2.heap.size W2 wq from ⟨⟨cellK hS0.1.1 HDQ.out, cellK hS0.1.2.1 HDQ.out, cellK hS0.1.2.2.1 HDQ.out, cellK hS0.1.2.2.2.1 HDQ.out, cellK hS0.1.2.2.2.2 HDQ.out⟩, hS0.2.trans (HDQ.out.mono hS0.2.size)⟩)
              refine hK _ _ hS1 ?_
              clear hK K
              refine gOne 4 rfl (by kernel_rfl) (by kernel_rfl) (fun K hK => ?_)
              go_simp
              skip
              have hS2 := hS1
              refine hK _ _ hS2 ?_
              clear hK K
              refine gTake 11 (v := ?_) rfl (by kernel_rfl) (by kernel_rfl) (by kernel_rfl) (fun _ _ _ h => h) (by kernel_rfl) ?_ hS2 ?_
              rotate_left
              · (intro W hW; clear hW; go_simp; try with_reducible rfl)
              refine gTake 12 (v := ?_) rfl (by kernel_rfl) (by kernel_rfl) (by kernel_rfl) (fun _ _ _ h => h) (by kernel_rfl) ?_ hS2 ?_
              rotate_left
              · (intro W hW; clear hW; go_simp; try with_reducible rfl)
              refine gOne 13 rfl (by kernel_rfl) (by kernel_rfl) (fun K hK => ?_)
              go_simp
              skip
              have hS3 := (show ((wq.setCell ⟨g, an, none⟩ (.int .i64 (z + r))).cell? ⟨wo.heap.size, 0, none⟩ = some (.string ss) ∧ (wq.setCell ⟨g, an, none⟩ (.int .i64 (z + r))).cell? ⟨wo.heap.size, 1, none⟩ = some (.int .i64 (an : Int)) ∧ (wq.setCell ⟨g, an, none⟩ (.int .i64 (z + r))).cell? ⟨wo.heap.size, 2, none⟩ = some (.int .i64 op) ∧ (wq.setCell ⟨g, an, none⟩ (.int .i64 (z + r))).cell? ⟨wo.heap.size, 3, none⟩ = some (.int .i64 sh) ∧ (wq.setCell ⟨g, an, none⟩ (.int .i64 (z + r))).cell? ⟨bs, os + i, none⟩ = some (.bool p)) ∧ Below W2.heap.size W2 (wq.setCell ⟨g, an, none⟩ (.int .i64 (z + r))) from ⟨⟨(World.cell?_setCell_other _ _ _ _ (adr_ne hgw)).trans hS2.1.1, (World.cell?_setCell_other _ _ _ _ (adr_ne hgw)).trans hS2.1.2.1, (World.cell?_setCell_other _ _ _ _ (adr_ne hgw)).trans hS2.1.2.2.1, (World.cell?_setCell_other _ _ _ _ (adr_ne hgw)).trans hS2.1.2.2.2.1, (World.cell?_setCell_other _ _ _ _ (adr_ne hgb)).trans hS2.1.2.2.2.2⟩, hS2.2.setCell (p := ⟨g, an, none⟩) hgW _⟩)
              refine hK _ _ hS3 ?_
              clear hK K
              refine wpAnyH_done (by kernel_rfl) ?_ _
              go_simp
              go_wp2
              go_roundw
              case rel =>
                refine ⟨i + 1, by omega, by go_num, Lib.hid ?_, Lib.hid ?_⟩
                · have h := ((own_below (show (wo.alloc (.cells #[.string ss, .int .i64 (an : Int), .int .i64 op, .int .i64 sh] 26)).drew.ownsRow W2.heap.size 2 1 (.slice (some ⟨g, 0, none⟩) xs.length vc) xs.length (intsV (opL ds st (xs.map Aw.ra) i)) from HO.out.alloc (.cells #[.string ss, .int .i64 (an : Int), .int .i64 op, .int .i64 sh] 26)) HDQ.out).stored an (.int .i64 (z + r))).1
                  rwa [HNX.out] at h
                · exact ((Below.drew (HB.out.alloc hzo (.cells #[.string ss, .int .i64 (an : Int), .int .i64 op, .int .i64 sh] 26))).trans (HDQ.out.mono (by simp; omega))).setCell (p := ⟨g, an, none⟩) hgW _
              case measure => simp [intOf]; omega
          · obtain rfl : i = ds.length := by omega
            have q0 := (HB.out.cell (p := ⟨w.heap.size, 0, none⟩) hw1).trans HK.out.1
            have q1 := (HB.out.cell (p := ⟨w.heap.size, 1, none⟩) hw1).trans HK.out.2
            have HOF := Lib.hid (show OwnI wo W2.heap.size (.slice V xs.length vc) (finL xs ds st) by unfold OwnI; rw [finL_len]; exact HO.out)
            have HAR := Lib.hid (areResistances_any J A xs.length cap (.slice V xs.length vc) (finL xs ds st) wo (row_ownI HOF.out) (by rw [finL_len]; omega) (by omega))
            cases hfl : flOk 1 1000000 xs.length (finL xs ds st)
            · have HE := Lib.hid (od_six (ds := ds) (st := st) HOK.out H2.out (.inr hfl))
              go_wp2_with fail
              (with_reducible refine (HAR.out).mono ?_)
              rintro e w4 ⟨rfl, hd4⟩
              rw [hfl]
              have HB4 := Lib.hid (HBw.out.trans (hd4.mono HBw.out.size))
              go_wp2
              go_ret2
              exact ⟨_, ret_vr HE.out.1.symm, by rw [HE.out.2]; exact own_nilr _ _, HB4.out⟩
            · have HE := Lib.hid (od_zero (ds := ds) (st := st) HOK.out H2.out HRSB.out hfl)
              go_wp2_with fail
              (with_reducible refine (HAR.out).mono ?_)
              rintro e w4 ⟨rfl, hd4⟩
              rw [hfl]
              have HB4 := Lib.hid (HBw.out.trans (hd4.mono HBw.out.size))
              have HOF4 := Lib.hid (own_le (HOF.out.below hd4) HB1.out.size)
              go_wp2
              go_ret2
              exact ⟨_, ret_vr HE.out.1.symm, by rw [HE.out.2]; exact HOF4.out, HB4.out⟩
      · have HE := Lib.hid (od_six (ds := ds) (st := st) HOK.out H2.out (.inl hrs))
        have h6 : rsB J xs = 6 := by
          unfold rsB at hrs ⊢
          rw [if_pos HMO.out] at hrs ⊢
          split
          · rename_i hh; rw [if_pos hh] at hrs; exact absurd rfl hrs
          · rfl
        rw [h6]
        have HB2 := Lib.hid (HB1.out.trans (hd2.mono HB1.out.size))
        clear ho
        go_wp2
        go_ret2
        exact ⟨_, ret_vr HE.out.1.symm, by rw [HE.out.2]; exact own_nilr _ _, HB2.out⟩
    · have HE := Lib.hid (od_seven (st := st) hok h2)
      have t2 : ((st.length : Int) != (ds.length : Int)) = true := by simp; omega
      go_enter Try.func31, Try.ntmps31
      go_wp2_with fail
      (with_reducible refine (HC.out).mono ?_)
      rintro e w1 ⟨rfl, hd1⟩
      rw [hok]
      go_wp2
      go_ret2
      exact ⟨_, ret_vr HE.out.1.symm, by rw [HE.out.2]; exact own_nilr _ _, HB0.out.trans (hd1.mono HB0.out.size)⟩
end Go.Proofs.Ytddfhjolimkkmaa
