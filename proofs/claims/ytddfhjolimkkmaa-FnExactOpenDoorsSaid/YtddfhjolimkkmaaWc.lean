/-
  Contracts of chapter 7: the resistances of all airways; the model's and the program's. Conditions: those that each theorem states.
-/
import Derived.Test.YtddfhjolimkkmaaDe
import Derived.Test.YtddfhjolimkkmaaGf
import Derived.Test.YtddfhjolimkkmaaNh
import Derived.Laws.CopyOwn
namespace Go.Proofs.Ytddfhjolimkkmaa
open Go.RowKit
set_option linter.unusedVariables false
set_option linter.unusedSimpArgs false

theorem l03RawO_any (b o : Nat) (s : ByteArray) (f t l se fr sh : Int) (se' : Int) (w : World) (hc : AwAtO w b o s f t l se fr sh) (h1 : 1 ≤ l ∧ l ≤ 10000) (h2 : 1 ≤ fr ∧ fr ≤ 1000) (h3 : 0 ≤ sh ∧ sh ≤ 1000) (h4 : 50 ≤ se' ∧ se' ≤ 5000) :
    Calls Try.prog 167 #[.pointer (some ⟨b, o, none⟩), .int .i64 se'] w fun e w' => e = .returned (.int .i64 (rawR l fr sh se')) ∧ ∃ n, w' = w.drewN n := by
  have HE := Lib.hid (show rawR l fr sh se' = divR (fr * (l + sh) * rootR (se' * 10000) * 400000) (se' * se' * se') from rfl)
  obtain ⟨⟨c0, c1, c2, c3⟩, c4, c5, c6⟩ := hc
  obtain ⟨⟨⟨r1, r2⟩, a1, a2⟩, ⟨b1, b2⟩, ⟨d1, d2⟩, e1, e2⟩ := raw_bds h1 h2 h3 h4
  go_enter Try.func167, Try.ntmps167
  go_wp2
  go_quiet ((first | (go_at_call 145; exact quiet_lft (l01Root_any _ _ ⟨by omega, by omega⟩)) | (go_at_call 141; exact quiet_lft (l01Div_any _ _ _ (by omega) (by omega) (by omega) (by omega) (by omega)))))
  go_wp2
  go_ret
  exact ⟨ret_int HE.out.symm, _, rfl⟩
theorem l03RawO_below (b o : Nat) (s : ByteArray) (f t l se fr sh : Int) (se' : Int) (w : World) (hc : AwAtO w b o s f t l se fr sh) (h1 : 1 ≤ l ∧ l ≤ 10000) (h2 : 1 ≤ fr ∧ fr ≤ 1000) (h3 : 0 ≤ sh ∧ sh ≤ 1000) (h4 : 50 ≤ se' ∧ se' ≤ 5000) :
    Calls Try.prog 167 #[.pointer (some ⟨b, o, none⟩), .int .i64 se'] w fun e w' => e = .returned (.int .i64 (rawR l fr sh se')) ∧ Below w.heap.size w w' :=
  (l03RawO_any b o s f t l se fr sh se' w hc h1 h2 h3 h4).mono fun _ _ ⟨h, _, e⟩ => ⟨h, below_drew e⟩
theorem l03ResistanceO_any (b o : Nat) (s : ByteArray) (f t l se fr sh : Int) (w : World) (hok : awOk s f t l se fr sh = true) (hc : AwAtO w b o s f t l se fr sh) :
    Calls Try.prog 138 #[.pointer (some ⟨b, o, none⟩)] w fun e w' => e = .returned (.tuple #[.int .i64 (resA s f t l se fr sh), .int .i64 (resB s f t l se fr sh)]) ∧ Below w.heap.size w w' := by
  obtain ⟨_, _, h1, h4, h2, h3⟩ := awOk_bd hok
  have hm := max1_ge (rawR l fr sh se)
  have HC := Lib.hid hc
  obtain ⟨⟨c0, c1, c2, c3⟩, c4, c5, c6⟩ := hc
  by_cases h : max1 (rawR l fr sh se) ≤ 1000000
  · have HE := Lib.hid (show resA s f t l se fr sh = max1 (rawR l fr sh se) ∧ resB s f t l se fr sh = 0 by simp [resA, resB, hok, h])
    clear hok
    go_enter Try.func138, Try.ntmps138
    go_wp2_with (first
          | (go_at_call 167; refine (l03RawO_below b o s f t l se fr sh se w HC.out h1 h2 h3 h4).mono ?_; rintro e w1 ⟨rfl, hd1⟩; have hb1 := hd1; obtain ⟨hc1, hf1⟩ := bcell hb1; clear hd1)
          | (go_at_call 157; refine (lmax1_any _ _).mono ?_; rintro e w' ⟨rfl, rfl⟩))
    go_ret2
    exact ⟨ret_two HE.out.1.symm HE.out.2.symm, hb1⟩
  · have HE := Lib.hid (show resA s f t l se fr sh = 0 ∧ resB s f t l se fr sh = 6 by simp [resA, resB, hok, h])
    clear hok
    go_enter Try.func138, Try.ntmps138
    go_wp2_with (first
          | (go_at_call 167; refine (l03RawO_below b o s f t l se fr sh se w HC.out h1 h2 h3 h4).mono ?_; rintro e w1 ⟨rfl, hd1⟩; have hb1 := hd1; obtain ⟨hc1, hf1⟩ := bcell hb1; clear hd1)
          | (go_at_call 157; refine (lmax1_any _ _).mono ?_; rintro e w' ⟨rfl, rfl⟩))
    go_ret2
    exact ⟨ret_two HE.out.1.symm HE.out.2.symm, hb1⟩
def Aw.ra (a : Aw) : Int := resA a.s a.f a.t a.l a.se a.fr a.sh
def Aw.rb (a : Aw) : Int := resB a.s a.f a.t a.l a.se a.fr a.sh
theorem aw_ok {J : Int} {xs : List Aw} (h : mineOk J xs = true) {k : Nat} (hk : k < xs.length) : awOk xs[k].s xs[k].f xs[k].t xs[k].l xs[k].se xs[k].fr xs[k].sh = true := by
  have h1 := upTo_all _ (mineOk_iff.1 h).2.1 k hk
  unfold stepOk at h1
  rw [getD_of_lt hk] at h1
  simp only [Bool.and_eq_true] at h1
  exact h1.1.1.1
theorem rb_two {a : Aw} (h : awOk a.s a.f a.t a.l a.se a.fr a.sh = true) : a.rb = 0 ∨ a.rb = 6 := by
  unfold Aw.rb resB; rw [h]; simp only [if_true]; split <;> simp
/-- What ResistancesOf returns. -/
def rsB (J : Int) (xs : List Aw) : Int := if mineOk J xs then (if xs.all (fun a => decide (a.rb = 0)) then 0 else 6) else 1
def rsR (J : Int) (xs : List Aw) : List Int := if rsB J xs = 0 then xs.map Aw.ra else []
theorem rsR_len (J : Int) (xs : List Aw) : (rsR J xs).length ≤ xs.length := by unfold rsR; split <;> simp
theorem rs_bad {J : Int} {xs : List Aw} (h : mineOk J xs = true) {k : Nat} (hk : k < xs.length) (hb : xs[k].rb = 6) : rsB J xs = 6 ∧ rsR J xs = [] := by
  have : rsB J xs = 6 := by
    unfold rsB
    rw [if_pos h, if_neg]
    intro hh
    have := List.all_eq_true.1 hh _ (List.getElem_mem hk)
    simp only [decide_eq_true_eq] at this
    omega
  exact ⟨this, by unfold rsR; rw [this]; rfl⟩
theorem rs_good {J : Int} {xs : List Aw} (h : mineOk J xs = true) (hb : ∀ j (hj : j < xs.length), xs[j].rb = 0) : rsB J xs = 0 ∧ rsR J xs = xs.map Aw.ra := by
  have : rsB J xs = 0 := by
    unfold rsB
    rw [if_pos h, if_pos]
    rw [List.all_eq_true]
    intro a ha
    obtain ⟨j, hj, rfl⟩ := List.mem_iff_getElem.1 ha
    simpa using hb j hj
  exact ⟨this, by unfold rsR; rw [if_pos this]⟩
def rsT (xs : List Aw) (k : Nat) : List Int := (xs.map Aw.ra).take k
theorem rsT_snoc {xs : List Aw} {k : Nat} (h : k < xs.length) : rsT xs (k + 1) = rsT xs k ++ [xs[k].ra] := by
  unfold rsT
  rw [List.take_succ_eq_append_getElem (by simpa using h)]
  simp
theorem rsT_len {xs : List Aw} {k : Nat} (h : k ≤ xs.length) : (rsT xs k).length = k := by unfold rsT; rw [List.length_take, List.length_map]; omega
theorem ret_vr {v : Value} {b b' : Int} (h : b = b') : Ending.returned (.tuple #[v, .int .i64 b]) = .returned (.tuple #[v, .int .i64 b']) := by rw [h]
theorem own_le {w : World} {B B' : Nat} {v : Value} {xs : List Int} (h : OwnI w B v xs) (hb : B' ≤ B) : OwnI w B' v xs := by
  obtain ⟨hl, h⟩ := h
  refine ⟨hl, ?_⟩
  rcases h with h | ⟨g, cap, cur, e, hg, r⟩
  · exact .inl h
  · exact .inr ⟨g, cap, cur, e, Nat.le_trans hb hg, r⟩
theorem own_nilr (w : World) (B : Nat) : OwnI w B (.slice none 0 0) [] := World.ownsRow_nil _ _ _ _
set_option maxHeartbeats 2000000 in
set_option maxRecDepth 100000 in
theorem iResistancesOf_any (J : Int) (A : Option Addr) (cap : Nat) (xs : List Aw) (w : World) (hr : AwR w A xs) (hs : ∀ a ∈ xs, a.s.size ≤ maxLen) (hl : xs.length ≤ 1048576) :
    Calls Try.prog 82 #[.agg #[.int .i64 J, .slice A xs.length cap]] w fun e w' => ∃ v, e = .returned (.tuple #[v, .int .i64 (rsB J xs)]) ∧ OwnI w' w.heap.size v (rsR J xs) ∧ Below w.heap.size w w' := by
  have HB0 := Lib.hid (below_box w (.cells #[.int .i64 J, .slice A xs.length cap] 38))
  have HK0 := Lib.hid (show (w.alloc (.cells #[.int .i64 J, .slice A xs.length cap] 38)).cell? ⟨w.heap.size, 0, none⟩ = some (.int .i64 J) ∧ (w.alloc (.cells #[.int .i64 J, .slice A xs.length cap] 38)).cell? ⟨w.heap.size, 1, none⟩ = some (.slice A xs.length cap) ∧ AwR (w.alloc (.cells #[.int .i64 J, .slice A xs.length cap] 38)) A xs from ⟨by simp, by simp, hr.below HB0.out⟩)
  have HS0 := Lib.hid hs
  have c0 := HK0.out.1
  have c1 := HK0.out.2.1
  obtain ⟨i0, hi, hz0, hz1, hz2⟩ := info_parts info_i64
  clear hr hs
  cases hok : mineOk J xs
  · have HE := Lib.hid (show rsB J xs = 1 ∧ rsR J xs = [] by simp [rsR, rsB, hok])
    go_enter Try.func82, Try.ntmps82
    go_wp2_with (go_at_call 78; refine (iValidMine_any J A cap xs _ HK0.out.2.2 HS0.out hl).mono ?_; rintro e w1 ⟨rfl, hd1⟩; rw [hok]; have HB1 := Lib.hid (HB0.out.trans (hd1.mono HB0.out.size)); have HK1 := Lib.hid (show w1.cell? ⟨w.heap.size, 0, none⟩ = some (.int .i64 J) ∧ w1.cell? ⟨w.heap.size, 1, none⟩ = some (.slice A xs.length cap) ∧ AwR w1 A xs from ⟨cell_keep HK0.out.1 hd1, cell_keep HK0.out.2.1 hd1, HK0.out.2.2.below hd1⟩); have c0_1 := HK1.out.1; have c1_1 := HK1.out.2.1; clear hd1)
    go_ret2
    exact ⟨_, ret_vr HE.out.1.symm, by rw [HE.out.2]; exact own_nilr _ _, HB1.out⟩
  · have hn := (mineOk_iff.1 hok).2.2
    have HOK := Lib.hid hok
    go_enter Try.func82, Try.ntmps82
    go_wp2_with (go_at_call 78; refine (iValidMine_any J A cap xs _ HK0.out.2.2 HS0.out hl).mono ?_; rintro e w1 ⟨rfl, hd1⟩; rw [hok]; have HB1 := Lib.hid (HB0.out.trans (hd1.mono HB0.out.size)); have HK1 := Lib.hid (show w1.cell? ⟨w.heap.size, 0, none⟩ = some (.int .i64 J) ∧ w1.cell? ⟨w.heap.size, 1, none⟩ = some (.slice A xs.length cap) ∧ AwR w1 A xs from ⟨cell_keep HK0.out.1 hd1, cell_keep HK0.out.2.1 hd1, HK0.out.2.2.below hd1⟩); have c0_1 := HK1.out.1; have c1_1 := HK1.out.2.1; clear hd1)
    have hw1 : w.heap.size < w1.heap.size := World.block_lt_of_cell? _ _ HK1.out.1
    go_loopw [4, 15] (fun out i wr => ∃ k : Nat, k ≤ xs.length ∧ i = .int .i64 k ∧ Hid (∀ j (hj : j < xs.length), j < k → xs[j].rb = 0) ∧ wr.ownsRow w1.heap.size 2 1 out k (intsV (rsT xs k)) ∧ Below w1.heap.size w1 wr) (fun out i wr => xs.length - (intOf i).toNat)
    case atStart => exact ⟨0, by omega, rfl, Lib.hid (fun j _ h => absurd h (by omega)), World.ownsRow_nil _ _ _ _, Below.refl _ _⟩
    case round =>
      obtain ⟨k, hk, rfl, HA, hown, hbel⟩ := hrel
      have HBL := Lib.hid hbel
      have hwz := hbel.size
      by_cases hlt : k < xs.length
      · obtain ⟨g, off, rfl, hrg⟩ := HK1.out.2.2.below hbel k hlt
        obtain ⟨⟨d0, d1, d2, d3⟩, d4, d5, d6⟩ := lay_row hrg
        have hok1 := aw_ok HOK.out hlt
        have hsz := HS0.out _ (List.getElem_mem hlt)
        have HS := Lib.hid (rsT_snoc hlt)
        have h2 := rb_two hok1
        have HAN := Lib.hid (fun (hb : xs[k].rb = 0) => show ∀ j (hj : j < xs.length), j < k + 1 → xs[j].rb = 0 from fun j hj hjk => by
          rcases Nat.lt_or_ge j k with q | q
          · exact HA.out j hj q
          · obtain rfl : j = k := by omega
            exact hb)
        have HEB := Lib.hid (fun (hb : xs[k].rb = 6) => rs_bad HOK.out hlt hb)
        have HO0 := Lib.hid hown
        clear hok1 hrg hown hbel
        generalize xs[k] = a at *
        obtain ⟨sa, f, t, l, se, fr, sh⟩ := a
        dsimp only at d0 d1 d2 d3 d4 d5 d6 hsz
        have HX := Lib.hid (fun (W : World) => iResistanceOf_any sa f t l se fr sh W hsz)
        have hra : Aw.ra ⟨sa, f, t, l, se, fr, sh⟩ = resA sa f t l se fr sh := rfl
        have hrb : Aw.rb ⟨sa, f, t, l, se, fr, sh⟩ = resB sa f t l se fr sh := rfl
        rw [hra] at HS
        rw [hrb] at h2 HAN HEB
        clear hra hrb
        have HBA := Lib.hid (below_box wr (.cells #[.string sa, .int .i64 f, .int .i64 t, .int .i64 l, .int .i64 se, .int .i64 fr, .int .i64 sh] 138))
        have HO1 := Lib.hid (own_below HO0.out HBA.out)
        have HB2 := Lib.hid (HBL.out.trans (HBA.out.mono HBL.out.size))
        by_cases hb : resB sa f t l se fr sh = 0
        · have HAN2 := Lib.hid (HAN.out hb)
          rw [hb] at HX
          clear hb h2 HAN HEB
          generalize resA sa f t l se fr sh = r at *
          go_wp2_with (first
            | (go_at_call 139; refine (HX.out _).mono ?_; rintro e w2 ⟨rfl, hd2⟩; have HO := Lib.hid (own_below HO1.out hd2); have HBL2 := Lib.hid (HB2.out.trans (hd2.mono HB2.out.size)); have hwz2 := HBL2.out.size; clear hd2)
            | (at_builtin; refine wpList_append_own _ rfl _ _ 46 rfl w1.heap.size 2 i0 (.int .i64 0) 1 8 Try.underlying46 hi hz0 hz1 hz2 rfl (by decide) _ _ _ rfl (HO.out.alloc _) ⟨w2.heap.size, 0, none⟩ 1 1 [.int .i64 r] rfl rfl ?c1z ?c2z ?c3z ?c4z ?c5z ?_))
          case c1z => intro j u hj; match j, hj with | 0, hj => (simp at hj; subst hj; simp [Addr.add]) | j + 1, hj => (simp at hj)
          case c2z => simp [Value.oneCell']
          case c3z => unfold maxLen; omega
          case c4z => omega
          case c5z => (simp; omega)
          intro v' w3 hout' hgrow _
          have HBB : Hid (Below w1.heap.size w1 w3) := Lib.hid ((HBL2.out.alloc hwz2 _).grown hgrow (by simp; omega) (fun k hk => (HO.out.lt k hk).1))
          have HOO : Hid (w3.ownsRow w1.heap.size 2 1 v' (k + 1) (intsV (rsT xs (k + 1)))) := Lib.hid (by rw [HS.out]; simpa [intsV] using hout')
          clear hout' hgrow
          go_wp2
          go_roundw
          case rel => exact ⟨k + 1, by omega, by go_num, HAN2, HOO.out, HBB.out⟩
          case measure => simp [intOf]; omega
        · have hb6 : resB sa f t l se fr sh = 6 := by rcases h2 with h | h; exact absurd h hb; exact h
          have HE := Lib.hid (HEB.out hb6)
          rw [hb6] at HX
          clear hb hb6 h2 HAN HEB
          go_wp2_with (go_at_call 139; refine (HX.out _).mono ?_; rintro e w2 ⟨rfl, hd2⟩; have HBL2 := Lib.hid (HB2.out.trans (hd2.mono HB2.out.size)); clear hd2)
          go_ret2
          exact ⟨_, ret_vr HE.out.1.symm, by rw [HE.out.2]; exact own_nilr _ _, HB1.out.trans (HBL2.out.mono HB1.out.size)⟩
      · obtain rfl : k = xs.length := by omega
        have HE := Lib.hid (rs_good HOK.out (fun j hj => HA.out j hj hj))
        have HO := Lib.hid hown
        clear hown
        go_wp2
        go_ret2
        refine ⟨_, ret_vr HE.out.1.symm, ?_, HB1.out.trans (hbel.mono HB1.out.size)⟩
        rw [HE.out.2]
        unfold OwnI
        rw [List.length_map]
        have h := own_le (show OwnI wr w1.heap.size _ (xs.map Aw.ra) by unfold OwnI; rw [List.length_map]; have := HO.out; unfold rsT at this; rwa [List.take_of_length_le (by rw [List.length_map]; exact Nat.le_refl _)] at this) (Nat.le_of_lt hw1)
        unfold OwnI at h
        rwa [List.length_map] at h
end Go.Proofs.Ytddfhjolimkkmaa
