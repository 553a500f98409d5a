/-
  Contracts of chapter 10: states that are read; the model's and the program's. Conditions: those that each theorem states.
-/
import Derived.Test.YtddfhjolimkkmaaJo
import Derived.Test.YtddfhjolimkkmaaRh
import Derived.Test.YtddfhjolimkkmaaBe
import Derived.Test.YtddfhjolimkkmaaZr
import Derived.WalkLawsBesides
import Derived.Defers
import Derived.Recover
import Derived.Laws.Pointers
import Derived.Deep.LoopGhost
namespace Go.Proofs.Ytddfhjolimkkmaa
open Go.RowKit
set_option linter.unusedVariables false
set_option linter.unusedSimpArgs false

theorem isOpen_o (w : World) : Calls Try.prog 112 #[.int .u8 111] w fun e w' => e = .returned (.bool true) ∧ w = w' := by
  go_enter Try.func112, Try.ntmps112
  go_wp2
  go_ret
  exact ⟨rfl, rfl⟩
theorem isOpen_x (w : World) : Calls Try.prog 112 #[.int .u8 120] w fun e w' => e = .returned (.bool false) ∧ w = w' := by
  go_enter Try.func112, Try.ntmps112
  go_wp2
  go_ret
  exact ⟨rfl, rfl⟩
theorem isOpen_no (c : Nat) (w : World) (h1 : c ≠ 111) (h2 : c ≠ 120) : Calls Try.prog 112 #[.int .u8 (c : Int)] w fun e w' => e = .panicked [{ v := .iface 9 (.string ⟨#[97, 32, 108, 101, 116, 116, 101, 114, 32, 111, 102, 32, 110, 111, 32, 115, 116, 97, 116, 101]⟩), recovered := false }] ∧ w = w' := by
  have t1 : ((c : Int) == 111) = false := by simp; omega
  have t2 : ((c : Int) == 120) = false := by simp; omega
  go_enter Try.func112, Try.ntmps112
  go_wp2
  exact ⟨rfl, rfl, rfl⟩
theorem catchR (p q : Addr) (x y : Value) (u : TypeId) (pv : Value) (older : List PanicEntry) (w : World) (hp : w.cell? p = some x) (hpz : w.frozen? p = false) (hq : w.cell? q = some y) (hqz : w.frozen? q = false) (hne : p ≠ q) :
    CallsD Try.prog 111 #[.pointer (some p), .pointer (some q)] (.panicking ({ v := .iface u pv, recovered := false } :: older)) w fun e u' w' =>
      e = .returned (.tuple #[]) ∧ u' = .panicking ({ v := .iface u pv, recovered := true } :: older) ∧ w' = (w.setCell p (.slice none 0 0)).setCell q (.bool false) := by
  have hq2 : (w.setCell p (.slice none 0 0)).cell? q = some y := (World.cell?_setCell_other _ _ _ _ hne).trans hq
  refine callsD_of_wpS Try.func111 rfl fun c₀ cs hu => ?_
  apply wpS_seq
  apply wpS_region
  simp [wpOpsS, go_sem, recoverD, hu, Try.ntmps111, Exit.thenS]
  refine wpS_cond (t := true) (by simp [Act.eval, Array.replicate]) ?_
  simp only [if_true]
  apply wpS_region
  simp [wpOpsS, go_sem, hp, hpz, hq, hqz, hq2, bodyPostS, results, Try.results111]
theorem idleR (p q : Addr) (w : World) :
    CallsD Try.prog 111 #[.pointer (some p), .pointer (some q)] .returning w fun e u' w' => e = .returned (.tuple #[]) ∧ u' = .returning ∧ w' = w := by
  refine callsD_of_wpS Try.func111 rfl fun c₀ cs hu => ?_
  apply wpS_seq
  apply wpS_region
  simp [wpOpsS, go_sem, recoverD, hu, Try.ntmps111, Exit.thenS]
  refine wpS_cond (t := false) (by simp [Act.eval, Array.replicate]) ?_
  simp only [Bool.false_eq_true, if_false]
  refine wpS_of_wp (wp_skip ?_)
  cases c₀
  simp_all [bodyPostS, results, Try.results111]
theorem byteAt_get {s : ByteArray} {k : Nat} (h : k < s.data.toList.length) : byteAt s k = ((s.data.toList[k]).toNat : Int) := by
  unfold byteAt
  rw [List.getD_eq_getElem?_getD, List.getElem?_eq_getElem h]
  rfl
def rdL (l : List UInt8) : List Bool := l.map (fun c => decide (c.toNat = 111))
def rdG (l : List UInt8) : Bool := l.all (fun c => decide (c.toNat = 111) || decide (c.toNat = 120))
/-- Whether a text tells states, and these. -/
def rdOk (s : ByteArray) : Bool := decide (s.size ≤ 8) && rdG s.data.toList
def rdV (s : ByteArray) : List Bool := if rdOk s then rdL s.data.toList else []
theorem rdL_len (l : List UInt8) : (rdL l).length = l.length := by simp [rdL]
theorem rdL_snoc {l : List UInt8} {k : Nat} (h : k < l.length) : rdL (l.take (k + 1)) = rdL (l.take k) ++ [decide ((l[k]).toNat = 111)] := by
  rw [List.take_succ_eq_append_getElem h]; unfold rdL; rw [List.map_append]; rfl
theorem rdG_bad {l : List UInt8} {k : Nat} (h : k < l.length) (h1 : (l[k]).toNat ≠ 111) (h2 : (l[k]).toNat ≠ 120) : rdG l = false := by
  rw [← Bool.not_eq_true]
  unfold rdG
  rw [List.all_eq_true]
  intro hh
  have := hh _ (List.getElem_mem h)
  simp [h1, h2] at this
theorem rdG_good {l : List UInt8} (h : ∀ k (hk : k < l.length), (l[k]).toNat = 111 ∨ (l[k]).toNat = 120) : rdG l = true := by
  unfold rdG
  rw [List.all_eq_true]
  intro c hc
  obtain ⟨k, hk, rfl⟩ := List.mem_iff_getElem.1 hc
  rcases h k hk with q | q <;> simp [q]
theorem rd_no {s : ByteArray} (h : rdOk s = false) : rdOk s = false ∧ rdV s = [] := ⟨h, by unfold rdV; rw [h]; rfl⟩
theorem rd_yes {s : ByteArray} (h : rdOk s = true) : rdOk s = true ∧ rdV s = rdL s.data.toList := ⟨h, by unfold rdV; rw [if_pos h]⟩
theorem rdV_len (s : ByteArray) : (rdV s).length ≤ 8 := by
  unfold rdV
  split
  · rename_i h
    simp only [rdOk, Bool.and_eq_true, decide_eq_true_eq] at h
    rw [rdL_len]
    have : s.data.toList.length = s.size := by simp
    omega
  · exact Nat.zero_le _
theorem ret_vb {v : Value} {b b' : Bool} (h : b = b') : Ending.returned (.tuple #[v, .bool b]) = .returned (.tuple #[v, .bool b']) := by rw [h]
theorem ownB_nil (w : World) (B : Nat) : OwnB w B (.slice none 0 0) [] := World.ownsRow_nil _ _ _ _
theorem ownB_le {w : World} {B B' : Nat} {v : Value} {xs : List Bool} (h : OwnB w B v xs) (hb : B' ≤ B) : OwnB w B' v xs := ⟨h.1, h.2.imp id fun ⟨g, cap, cur, e, hg, r⟩ => ⟨g, cap, cur, e, Nat.le_trans hb hg, r⟩⟩
set_option maxHeartbeats 2000000 in
set_option maxRecDepth 100000 in
theorem sReadStates_any (s : ByteArray) (w : World) (hs : s.size ≤ 1048576) :
    Calls Try.prog 110 #[.string s] w fun e w' => ∃ v, e = .returned (.tuple #[v, .bool (rdOk s)]) ∧ OwnB w' w.heap.size v (rdV s) ∧ Below w.heap.size w w' := by
  obtain ⟨i0, hi, hz0, hz1, hz2⟩ := info_parts info_bo
  have hsl : s.data.toList.length = s.size := by simp
  have HSL := Lib.hid hsl
  clear hsl
  go_enter Try.func110, Try.ntmps110
  go_wp2
  go_loopw [4, 5] (fun out i wr => ∃ k : Nat, k ≤ s.size ∧ i = .int .i64 k ∧ Hid (∀ j (hj : j < s.data.toList.length), j < k → (s.data.toList[j]).toNat = 111 ∨ (s.data.toList[j]).toNat = 120) ∧ Hid (wr.ownsRow w.heap.size 4 1 out k (boV (rdL (s.data.toList.take k)))) ∧ Hid (Below w.heap.size w wr)) (fun out i wr => s.size - (intOf i).toNat)
  case atStart => exact ⟨0, by omega, rfl, Lib.hid (fun j _ h => absurd h (by omega)), Lib.hid (World.ownsRow_lit _ _ 0 (Nat.le_refl _) (by simp [maxLen]) rfl), Lib.hid ((Below.refl _ _).alloc (Nat.le_refl _) _)⟩
  case round =>
    obtain ⟨k, hk, rfl, HG, HO, HB⟩ := hrel
    obtain ⟨wo, rfl⟩ : ∃ wo : World, wo = wr := ⟨_, rfl⟩
    have hwo := HB.out.size
    by_cases hlt : k < s.size
    · have hlL : k < s.data.toList.length := by rw [HSL.out]; exact hlt
      have HBY := Lib.hid (byteAt_get hlL)
      have hbk := byteAt_eq hlt
      rw [HBY.out] at hbk
      have HSN := Lib.hid (rdL_snoc hlL)
      have hc256 : (s.data.toList[k]).toNat < 256 := (s.data.toList[k]).toNat_lt
      have HGN0 := Lib.hid (show ((s.data.toList[k]).toNat = 111 ∨ (s.data.toList[k]).toNat = 120) → ∀ j (hj : j < s.data.toList.length), j < k + 1 → (s.data.toList[j]).toNat = 111 ∨ (s.data.toList[j]).toNat = 120 from fun h j hj hjk => by
        rcases Nat.lt_or_ge j k with q | q
        · exact HG.out j hj q
        · obtain rfl : j = k := by omega
          exact h)
      have HBAD := Lib.hid (show (s.data.toList[k]).toNat ≠ 111 → (s.data.toList[k]).toNat ≠ 120 → rdOk s = false from fun h1 h2 => by unfold rdOk; rw [rdG_bad hlL h1 h2, Bool.and_false])
      clear HBY
      generalize (s.data.toList[k]).toNat = c at *
      by_cases h1 : c = 111
      · subst h1
        have HGN := Lib.hid (HGN0.out (.inl rfl))
        have HS := Lib.hid (show boV (rdL (s.data.toList.take (k + 1))) = boV (rdL (s.data.toList.take k)) ++ [.bool true] by rw [HSN.out, boV_app]; rfl)
        go_wp2_with (at_builtin; refine wpList_append_own_at _ rfl _ _ 45 rfl w.heap.size 4 i0 (.bool false) 1 1 Try.underlying45 hi hz0 hz1 hz2 rfl (by decide) _ _ _ rfl (HO.out.alloc _) ⟨wo.heap.size, 0, none⟩ 1 1 [.bool true] rfl rfl ?c1z ?c2z ?c3z ?c4z ?c5z ?_)
        try (case c1z => intro j u hj; match j, hj with | 0, hj => (simp at hj; subst hj; simp [Addr.add]) | j + 1, hj => (simp at hj))
        case c2z => simp [Value.oneCell']
        case c3z => unfold maxLen; omega
        case c4z => omega
        case c5z => first | omega | (simp; omega)
        intro v3 w3 ho3 hg3 _ hl3
        have HO3 := Lib.hid ho3
        have HB3 := Lib.hid ((HB.out.alloc hwo _).grown hg3 (by simp; omega) (fun j hj => (HO.out.lt j hj).1))
        clear ho3 hg3 hl3
        go_wp2
        go_roundw
        case rel => exact ⟨k + 1, by omega, by go_num, HGN, Lib.hid (by rw [HS.out]; exact HO3.out), HB3⟩
        case measure => simp [intOf]; omega
      · by_cases h2 : c = 120
        · subst h2
          have HGN := Lib.hid (HGN0.out (.inr rfl))
          clear h1
          have HS := Lib.hid (show boV (rdL (s.data.toList.take (k + 1))) = boV (rdL (s.data.toList.take k)) ++ [.bool false] by rw [HSN.out, boV_app]; rfl)
          go_wp2_with (at_builtin; refine wpList_append_own_at _ rfl _ _ 45 rfl w.heap.size 4 i0 (.bool false) 1 1 Try.underlying45 hi hz0 hz1 hz2 rfl (by decide) _ _ _ rfl (HO.out.alloc _) ⟨wo.heap.size, 0, none⟩ 1 1 [.bool false] rfl rfl ?d1z ?d2z ?d3z ?d4z ?d5z ?_)
          try (case d1z => intro j u hj; match j, hj with | 0, hj => (simp at hj; subst hj; simp [Addr.add]) | j + 1, hj => (simp at hj))
          case d2z => simp [Value.oneCell']
          case d3z => unfold maxLen; omega
          case d4z => omega
          case d5z => first | omega | (simp; omega)
          intro v3 w3 ho3 hg3 _ hl3
          have HO3 := Lib.hid ho3
          have HB3 := Lib.hid ((HB.out.alloc hwo _).grown hg3 (by simp; omega) (fun j hj => (HO.out.lt j hj).1))
          clear ho3 hg3 hl3
          go_wp2
          go_roundw
          case rel => exact ⟨k + 1, by omega, by go_num, HGN, Lib.hid (by rw [HS.out]; exact HO3.out), HB3⟩
          case measure => simp [intOf]; omega
        · have HE := Lib.hid (rd_no (HBAD.out h1 h2))
          have t1 : ((c : Int) != 111) = true := by simp; omega
          have t2 : ((c : Int) != 120) = true := by simp; omega
          go_wp2
          go_ret2
          exact ⟨_, ret_vb HE.out.1.symm, by rw [HE.out.2]; exact ownB_nil _ _, HB.out⟩
    · obtain rfl : k = s.size := by omega
      have hgd : rdG s.data.toList = true := rdG_good (fun j hj => HG.out j hj (by rw [← HSL.out]; exact hj))
      have hO := HO.out
      rw [List.take_of_length_le (by rw [HSL.out]; exact Nat.le_refl _)] at hO
      have hO2 : OwnB wo w.heap.size u4 (rdL s.data.toList) := by unfold OwnB; rw [rdL_len, HSL.out]; exact hO
      obtain ⟨D4, c4, hu4⟩ := hO2.form
      have HO2 := Lib.hid hO2
      rw [rdL_len, HSL.out] at hu4
      subst hu4
      clear hO hO2
      by_cases h8 : s.size ≤ 8
      · have HE := Lib.hid (rd_yes (show rdOk s = true by unfold rdOk; rw [hgd, decide_eq_true h8]; rfl))
        have t8 : ¬ (8 : Int) < (s.size : Int) := by omega
        go_wp2
        go_ret2
        exact ⟨_, ret_vb HE.out.1.symm, by rw [HE.out.2]; exact HO2.out, HB.out⟩
      · have HE := Lib.hid (rd_no (show rdOk s = false by unfold rdOk; rw [decide_eq_false h8]; rfl))
        have t8 : (8 : Int) < (s.size : Int) := by omega
        go_wp2
        go_ret2
        exact ⟨_, ret_vb HE.out.1.symm, by rw [HE.out.2]; exact ownB_nil _ _, HB.out⟩
theorem spReadStates_any (s : ByteArray) (w : World) (hs : s.size ≤ 1048576) :
    Calls Try.prog 59 #[.string s] w fun e w' => ∃ v, e = .returned (.tuple #[v, .bool (rdOk s)]) ∧ OwnB w' w.heap.size v (rdV s) ∧ Below w.heap.size w w' := by
  have HC := Lib.hid (sReadStates_any s w hs)
  go_enter Try.func59, Try.ntmps59
  go_wp2_with fail
  (with_reducible refine (HC.out).mono ?_)
  rintro e w1 ⟨v, rfl, h1, h2⟩
  have H1 := Lib.hid h1
  clear h1
  go_wp2
  go_ret2
  exact ⟨_, rfl, H1.out, h2⟩
theorem leaves_same {P : Program} {fn : Func} {t t' : Array Value} {R : Ending → World → Prop} (h : results fn t = results fn t') : ∀ (ds : List Deferred) (u : FrameMode) (w : World), Leaves P fn t R ds u w → Leaves P fn t' R ds u w
  | [], .returning, w, x => by unfold Leaves at x ⊢; rw [← h]; exact x
  | [], .panicking chain, w, x => by unfold Leaves at x ⊢; exact x
  | [], .run, _, x => by unfold Leaves at x; exact x.elim
  | d :: ds, u, w, x => by
    unfold Leaves at x ⊢
    obtain ⟨x1, fv, cap, f, args, e1, e2, hc⟩ := x
    refine ⟨x1, fv, cap, f, args, e1, e2, hc.mono ?_⟩
    intro e u' w' y
    cases e with
    | returned v => exact leaves_same h ds _ _ y
    | panicked chain => exact leaves_same h ds _ _ y
    | outgrown => exact y
theorem res_same {t : Array Value} {n : Nat} {v : Value} (h2 : n ≠ 2) (h3 : n ≠ 3) : results Try.f60 (t.setIfInBounds n v) = results Try.f60 t := by
  have e2 : (t.setIfInBounds n v)[2]? = t[2]? := Array.getElem?_setIfInBounds_ne h2
  have e3 : (t.setIfInBounds n v)[3]? = t[3]? := Array.getElem?_setIfInBounds_ne h3
  simp only [results, Try.results60]
  simp [e2, e3]
theorem hqD {R : Ending → World → Prop} {c : List PanicEntry} {n : Nat} {v : Value} {a : Act} {w : World} (h2 : n ≠ 2) (h3 : n ≠ 3) (h : bodyPostD Try.prog Try.f60 R (.panic c) (a.put (some n) v) w) : bodyPostD Try.prog Try.f60 R (.panic c) a w :=
  leaves_same (res_same h2 h3) _ _ _ h
theorem res_cells (t : Array Value) (p q : Addr) (W : World) (u y : Value) (h2 : t[2]?.getD undef = .pointer (some p)) (h3 : t[3]?.getD undef = .pointer (some q)) (hp : W.cell? p = some u) (hq : W.cell? q = some y) :
    (results Try.f60 t).run Try.prog W = .ok (.tuple #[u, y]) W := by
  simp only [results, Try.results60]
  simp [go_sem, h2, h3, hp, hq]
theorem grown_setR (w : World) (p : Addr) (u : Value) : w.grownBy (w.setCell p u) (some p.block) :=
  ⟨rfl, rfl, rfl, by simp, fun k _ hk => heap_setCell_other w p k u (fun e => hk (by simp [e]))⟩
theorem rsLow {w : World} {B n : Nat} {v : Value} {cs : List Value} (h : w.ownsRow B 4 1 v n cs) {p : Addr} (hp : p.block < B) (u : Value) : (w.setCell p u).ownsRow B 4 1 v n cs := by
  refine h.kept (grown_setR w p u) ?_
  cases e : v.ownBlock with
  | none => exact Or.inl rfl
  | some q =>
    refine Or.inr fun e2 => ?_
    have := (World.ownsRow.lt h q e).1
    injection e2 with e2
    omega
theorem frz_alloc (w : World) (c : Obj) {a : Addr} (h : a.block < w.heap.size) : (w.drew.alloc c).frozen? a = w.frozen? a := (Below.alloc (Below.refl w.heap.size w.drew) (Nat.le_refl _) c).frozen h
theorem cel_alloc {w : World} (c : Obj) {a : Addr} {u : Value} (h : w.cell? a = some u) : (w.drew.alloc c).cell? a = some u := cellK h ((Below.drew (Below.refl _ w)).alloc (Nat.le_refl _) c)
theorem bad_end {s : ByteArray} {w wo : World} {v : Value} {t : Array Value} (he : rdOk s = false ∧ rdV s = []) (hb : Below w.heap.size w wo) (h2 : t[2]?.getD undef = .pointer (some ⟨w.heap.size, 0, none⟩)) (h3 : t[3]?.getD undef = .pointer (some ⟨w.heap.size + 1, 0, none⟩)) (h0 : wo.drew.cell? ⟨w.heap.size, 0, none⟩ = some v) (h1 : wo.drew.cell? ⟨w.heap.size + 1, 0, none⟩ = some (.bool false)) :
    Leaves Try.prog Try.f60 t (fun e w' => ∃ v, e = .returned (.tuple #[v, .bool (rdOk s)]) ∧ OwnB w' w.heap.size v (rdV s) ∧ Below w.heap.size w w') [] .returning ((wo.drew.setCell ⟨w.heap.size, 0, none⟩ (.slice none 0 0)).setCell ⟨w.heap.size + 1, 0, none⟩ (.bool false)) := by
  refine ⟨_, res_cells t _ _ _ (.slice none 0 0) (.bool false) h2 h3 ((World.cell?_setCell_other _ _ _ _ (by simp)).trans (World.cell?_setCell_same _ _ _ h0)) (World.cell?_setCell_same _ _ _ ((World.cell?_setCell_other _ _ _ _ (by simp : (⟨w.heap.size, 0, none⟩ : Addr) ≠ ⟨w.heap.size + 1, 0, none⟩)).trans h1)), _, ret_vb he.1.symm, ?_, ((Below.drew hb).setCell (p := ⟨w.heap.size, 0, none⟩) (Nat.le_refl _) _).setCell (p := ⟨w.heap.size + 1, 0, none⟩) (by show w.heap.size ≤ w.heap.size + 1; omega) _⟩
  rw [he.2]
  exact ownB_nil _ _
theorem good_end {s : ByteArray} {w wo : World} {v : Value} {t : Array Value} (he : rdOk s = true ∧ rdV s = rdL s.data.toList) (hb : Below w.heap.size w wo) (ho : OwnB wo (w.heap.size + 2) v (rdL s.data.toList)) (h2 : t[2]?.getD undef = .pointer (some ⟨w.heap.size, 0, none⟩)) (h3 : t[3]?.getD undef = .pointer (some ⟨w.heap.size + 1, 0, none⟩)) (h0 : wo.cell? ⟨w.heap.size, 0, none⟩ = some v) (h1 : wo.cell? ⟨w.heap.size + 1, 0, none⟩ = some (.bool false)) :
    Leaves Try.prog Try.f60 t (fun e w' => ∃ v, e = .returned (.tuple #[v, .bool (rdOk s)]) ∧ OwnB w' w.heap.size v (rdV s) ∧ Below w.heap.size w w') [] .returning ((wo.setCell ⟨w.heap.size, 0, none⟩ v).setCell ⟨w.heap.size + 1, 0, none⟩ (.bool true)) := by
  refine ⟨_, res_cells t _ _ _ v (.bool true) h2 h3 ((World.cell?_setCell_other _ _ _ _ (by simp)).trans (World.cell?_setCell_same _ _ _ h0)) (World.cell?_setCell_same _ _ _ ((World.cell?_setCell_other _ _ _ _ (by simp : (⟨w.heap.size, 0, none⟩ : Addr) ≠ ⟨w.heap.size + 1, 0, none⟩)).trans h1)), _, ret_vb he.1.symm, ?_, (hb.setCell (p := ⟨w.heap.size, 0, none⟩) (Nat.le_refl _) _).setCell (p := ⟨w.heap.size + 1, 0, none⟩) (by show w.heap.size ≤ w.heap.size + 1; omega) _⟩
  rw [he.2]
  exact ownB_le (rsLow (rsLow ho (p := ⟨w.heap.size, 0, none⟩) (by show w.heap.size < _; omega) _) (p := ⟨w.heap.size + 1, 0, none⟩) (by show w.heap.size + 1 < _; omega) _) (by omega)
set_option maxHeartbeats 4000000 in
set_option maxRecDepth 100000 in
theorem iReadStates_any (s : ByteArray) (w : World) (hs : s.size ≤ 1048576) :
    Calls Try.prog 60 #[.string s] w fun e w' => ∃ v, e = .returned (.tuple #[v, .bool (rdOk s)]) ∧ OwnB w' w.heap.size v (rdV s) ∧ Below w.heap.size w w' := by
  obtain ⟨i0, hi, hz0, hz1, hz2⟩ := info_parts info_bo
  have hmf : ∀ (fn : Fn) (first cap : Array Value) (w : World), (Instr.makeFunc fn first cap).run Try.prog w = .ok (.func fn first cap) w := fun _ _ _ _ => rfl
  have hsl : s.data.toList.length = s.size := by simp
  have HSL := Lib.hid hsl
  clear hsl
  go_enter_defers Try.func60, Try.ntmps60
  by_cases h8 : s.size ≤ 8
  · have t8 : ¬ (8 : Int) < (s.size : Int) := by omega
    go_wp2
    go_loopw [11] (fun i wr => ∃ (k : Nat) (v : Value), k ≤ s.size ∧ i = .int .i64 k ∧ Hid (∀ j (hj : j < s.data.toList.length), j < k → (s.data.toList[j]).toNat = 111 ∨ (s.data.toList[j]).toNat = 120) ∧ Hid (wr.cell? ⟨w.heap.size, 0, none⟩ = some v ∧ wr.frozen? ⟨w.heap.size, 0, none⟩ = false ∧ wr.cell? ⟨w.heap.size + 1, 0, none⟩ = some (.bool false) ∧ wr.frozen? ⟨w.heap.size + 1, 0, none⟩ = false) ∧ Hid (wr.ownsRow (w.heap.size + 2) 4 1 v k (boV (rdL (s.data.toList.take k)))) ∧ Hid (w.heap.size + 2 ≤ wr.heap.size ∧ Below w.heap.size w wr)) (fun i wr => s.size - (intOf i).toNat)
    case atStart =>
      refine ⟨0, .slice none 0 0, by omega, rfl, Lib.hid (fun j _ h => absurd h (by omega)), Lib.hid ⟨by simp, by simp, by simp, by simp⟩, Lib.hid (World.ownsRow_nil _ _ _ _), Lib.hid ⟨by simp, ?_⟩⟩
      exact ((Below.refl _ _).alloc (Nat.le_refl _) _).alloc (by simp) _
    case round =>
      obtain ⟨k, v, hk, rfl, HG, HC, HO, HB⟩ := hrel
      obtain ⟨wo, rfl⟩ : ∃ wo : World, wo = wr := ⟨_, rfl⟩
      by_cases hlt : k < s.size
      · have hlL : k < s.data.toList.length := by rw [HSL.out]; exact hlt
        have HBY := Lib.hid (byteAt_get hlL)
        have hbk := byteAt_eq hlt
        rw [HBY.out] at hbk
        have HSN := Lib.hid (rdL_snoc hlL)
        have hc256 : (s.data.toList[k]).toNat < 256 := (s.data.toList[k]).toNat_lt
        have HGN0 := Lib.hid (show ((s.data.toList[k]).toNat = 111 ∨ (s.data.toList[k]).toNat = 120) → ∀ j (hj : j < s.data.toList.length), j < k + 1 → (s.data.toList[j]).toNat = 111 ∨ (s.data.toList[j]).toNat = 120 from fun h j hj hjk => by
          rcases Nat.lt_or_ge j k with q | q
          · exact HG.out j hj q
          · obtain rfl : j = k := by omega
            exact h)
        have HBAD := Lib.hid (show (s.data.toList[k]).toNat ≠ 111 → (s.data.toList[k]).toNat ≠ 120 → rdOk s = false from fun h1 h2 => by unfold rdOk; rw [rdG_bad hlL h1 h2, Bool.and_false])
        clear HBY
        generalize (s.data.toList[k]).toNat = c at *
        obtain ⟨d0, f0, d1, f1⟩ := HC.out
        have hp1 : w.heap.size + 1 < wo.heap.size := World.block_lt_of_cell? _ _ d1
        have hp0 : w.heap.size < wo.heap.size := by omega
        by_cases hc : c = 111 ∨ c = 120
        · obtain ⟨q, HI, HQ⟩ : ∃ q : Bool, Hid (∀ W, Calls Try.prog 112 #[.int .u8 (c : Int)] W fun e w' => e = .returned (.bool q) ∧ W = w') ∧ Hid (q = decide (c = 111)) := by
            rcases hc with rfl | rfl
            · exact ⟨true, Lib.hid isOpen_o, Lib.hid rfl⟩
            · exact ⟨false, Lib.hid isOpen_x, Lib.hid rfl⟩
          have HGN := Lib.hid (HGN0.out hc)
          have HS := Lib.hid (show boV (rdL (s.data.toList.take (k + 1))) = boV (rdL (s.data.toList.take k)) ++ [.bool q] by rw [HSN.out, boV_app, HQ.out]; rfl)
          clear HSN HBAD HGN0 hc
          go_wp2_with fail
          refine wp_region_held (S := fun w' => Below w.heap.size w w') (by kernel_rfl) ?_
          try (change wpAnyH _ _ _ _ _ _ _ _ (World.drew _))
          have hS0 := (show Below w.heap.size w wo.drew from Below.drew HB.out.2)
          refine gTake 1 (v := ?_) rfl (by kernel_rfl) (by kernel_rfl) (by kernel_rfl) (fun _ _ _ h => hqD (by decide) (by decide) h) (by kernel_rfl) ?_ hS0 ?_
          rotate_left
          · (intro W hW; clear hW; go_simp; try with_reducible rfl)
          refine gTake 2 (v := ?_) rfl (by kernel_rfl) (by kernel_rfl) (by kernel_rfl) (fun _ _ _ h => hqD (by decide) (by decide) h) (by kernel_rfl) ?_ hS0 ?_
          rotate_left
          · (intro W hW; clear hW; go_simp; try with_reducible rfl)
          refine gTake 3 (v := ?_) rfl (by kernel_rfl) (by kernel_rfl) (by kernel_rfl) (fun _ _ _ h => hqD (by decide) (by decide) h) (by kernel_rfl) ?_ hS0 ?_
          rotate_left
          · (intro W hW; clear hW; go_simp; try with_reducible rfl)
          refine gTwo 0 4 rfl rfl (by kernel_rfl) (by kernel_rfl) (by kernel_rfl) (fun K hK => ?_) (fun K hK => ?_)
          · go_simp
            skip
            have hS1 := hS0
            refine hK _ _ hS1 ?_
            clear hK K
            refine gOne 4 rfl (by kernel_rfl) (by kernel_rfl) (fun K hK => ?_)
            go_simp
            go_at_call 112
            (with_reducible refine (HI.out _).mono ?_)
            rintro e w' ⟨rfl, rfl⟩
            try go_simp
            have hS2 := hS1
            refine hK _ _ hS2 ?_
            clear hK K
            refine gOne 5 rfl (by kernel_rfl) (by kernel_rfl) (fun K hK => ?_)
            go_simp
            skip
            have hS3 := (show Below w.heap.size w (wo.drew.alloc (.cells #[.bool q] 4)) from hS2.alloc hS2.size _)
            refine hK _ _ hS3 ?_
            clear hK K
            refine gOne 6 rfl (by kernel_rfl) (by kernel_rfl) (fun K hK => ?_)
            refine gAppendOwn (.tmp 14) (.tmp 19) 45 rfl 4 i0 (.bool false) 1 1 Try.underlying45 hi hz0 hz1 hz2 rfl (by decide) (w.heap.size + 2) v k (boV (rdL (s.data.toList.take k))) (by simp [Act.eval, Act.put]) (HO.out.alloc (.cells #[.bool q] 4)) ⟨wo.heap.size, 0, none⟩ 1 1 [.bool q] (by simp [Act.eval, Act.put]) rfl (fun j u hj => by match j, hj with | 0, hj => (simp at hj; subst hj; simp [Addr.add]) | j + 1, hj => (simp at hj)) (by simp [Value.oneCell']) (by unfold maxLen; omega) (by omega) (by have := HB.out.1; simp; omega) ?_
            intro v' w3 ho3 hg3
            have hgl : ∀ j, v.ownBlock = some j → w.heap.size + 2 ≤ j := fun j hj => (HO.out.lt j hj).1
            have hfar : ∀ b, b < w.heap.size + 2 → some b ≠ v.ownBlock := fun b hb h => by have := hgl b h.symm; omega
            obtain ⟨g4, cap4, rfl, -, -⟩ := ho3.form (by omega)
            have hb3 : Below w.heap.size w w3 := ((HB.out.2.drew).alloc (by have := HB.out.1; simp; omega) (.cells #[.bool q] 4)).grown hg3 (by have := HB.out.1; simp; omega) (fun j hj => by have := hgl j hj; omega)
            have HB3 := Lib.hid hb3
            have e0 : w3.cell? ⟨w.heap.size, 0, none⟩ = some v := hg3.cell (cel_alloc _ d0) (hfar _ (by show w.heap.size < w.heap.size + 2; omega))
            have e1 : w3.cell? ⟨w.heap.size + 1, 0, none⟩ = some (.bool false) := hg3.cell (cel_alloc _ d1) (hfar _ (by show w.heap.size + 1 < w.heap.size + 2; omega))
            have fz : ∀ bb o, bb ≤ w.heap.size + 1 → w3.frozen? ⟨bb, o, none⟩ = wo.frozen? ⟨bb, o, none⟩ := fun bb o h => (hg3.frozen_far ⟨bb, o, none⟩ (Nat.lt_of_lt_of_le (show bb < wo.heap.size by omega) (by simp)) (hfar _ (show bb < w.heap.size + 2 by omega))).trans (frz_alloc wo _ (a := ⟨bb, o, none⟩) (show bb < wo.heap.size by omega))
            have g0 := (fz w.heap.size 0 (by omega)).trans f0
            have g1 := (fz (w.heap.size + 1) 0 (by omega)).trans f1
            have HO3 := Lib.hid ho3
            have hs3 : w.heap.size + 2 ≤ w3.heap.size := by have := hg3.size; have := HB.out.1; simp at *; omega
            clear ho3 hg3 fz hb3
            have hS4 := (show Below w.heap.size w w3 from HB3.out)
            refine hK _ _ hS4 ?_
            clear hK K
            refine gOne 7 rfl (by kernel_rfl) (by kernel_rfl) (fun K hK => ?_)
            go_simp
            skip
            have hS5 := (show Below w.heap.size w (w3.setCell ⟨w.heap.size, 0, none⟩ (.slice (some ⟨g4, 0, none⟩) (k + 1) cap4)) from HB3.out.setCell (Nat.le_refl _) _)
            refine hK _ _ hS5 ?_
            clear hK K
            refine wpAnyH_done (by kernel_rfl) ?_ _
            go_simp
            go_wp2
            go_roundw
            case rel => exact ⟨k + 1, .slice (some ⟨g4, 0, none⟩) (k + 1) cap4, by omega, by go_num, HGN, Lib.hid ⟨World.cell?_setCell_same _ _ _ e0, by rw [World.frozen?_setCell]; exact g0, (World.cell?_setCell_other _ _ _ _ (by simp : (⟨w.heap.size, 0, none⟩ : Addr) ≠ ⟨w.heap.size + 1, 0, none⟩)).trans e1, by rw [World.frozen?_setCell]; exact g1⟩, Lib.hid (by rw [HS.out]; exact rsLow HO3.out (p := ⟨w.heap.size, 0, none⟩) (by show w.heap.size < _; omega) _), Lib.hid ⟨by simp; omega, HB3.out.setCell (Nat.le_refl _) _⟩⟩
            case measure => simp [intOf]; omega
          · go_simp
            go_at_call 112
            (with_reducible refine (HI.out _).mono ?_)
            rintro e w' ⟨rfl, rfl⟩
            try go_simp
            have hS1 := hS0
            refine hK _ _ hS1 ?_
            clear hK K
            refine gTwo 0 5 rfl rfl (by kernel_rfl) (by kernel_rfl) (by kernel_rfl) (fun K hK => ?_) (fun K hK => ?_)
            · go_simp
              skip
              have hS2 := hS1
              refine hK _ _ hS2 ?_
              clear hK K
              refine gOne 5 rfl (by kernel_rfl) (by kernel_rfl) (fun K hK => ?_)
              go_simp
              skip
              have hS3 := (show Below w.heap.size w (wo.drew.alloc (.cells #[.bool q] 4)) from hS2.alloc hS2.size _)
              refine hK _ _ hS3 ?_
              clear hK K
              refine gOne 6 rfl (by kernel_rfl) (by kernel_rfl) (fun K hK => ?_)
              refine gAppendOwn (.tmp 14) (.tmp 19) 45 rfl 4 i0 (.bool false) 1 1 Try.underlying45 hi hz0 hz1 hz2 rfl (by decide) (w.heap.size + 2) v k (boV (rdL (s.data.toList.take k))) (by simp [Act.eval, Act.put]) (HO.out.alloc (.cells #[.bool q] 4)) ⟨wo.heap.size, 0, none⟩ 1 1 [.bool q] (by simp [Act.eval, Act.put]) rfl (fun j u hj => by match j, hj with | 0, hj => (simp at hj; subst hj; simp [Addr.add]) | j + 1, hj => (simp at hj)) (by simp [Value.oneCell']) (by unfold maxLen; omega) (by omega) (by have := HB.out.1; simp; omega) ?_
              intro v' w3 ho3 hg3
              have hgl : ∀ j, v.ownBlock = some j → w.heap.size + 2 ≤ j := fun j hj => (HO.out.lt j hj).1
              have hfar : ∀ b, b < w.heap.size + 2 → some b ≠ v.ownBlock := fun b hb h => by have := hgl b h.symm; omega
              obtain ⟨g4, cap4, rfl, -, -⟩ := ho3.form (by omega)
              have hb3 : Below w.heap.size w w3 := ((HB.out.2.drew).alloc (by have := HB.out.1; simp; omega) (.cells #[.bool q] 4)).grown hg3 (by have := HB.out.1; simp; omega) (fun j hj => by have := hgl j hj; omega)
              have HB3 := Lib.hid hb3
              have e0 : w3.cell? ⟨w.heap.size, 0, none⟩ = some v := hg3.cell (cel_alloc _ d0) (hfar _ (by show w.heap.size < w.heap.size + 2; omega))
              have e1 : w3.cell? ⟨w.heap.size + 1, 0, none⟩ = some (.bool false) := hg3.cell (cel_alloc _ d1) (hfar _ (by show w.heap.size + 1 < w.heap.size + 2; omega))
              have fz : ∀ bb o, bb ≤ w.heap.size + 1 → w3.frozen? ⟨bb, o, none⟩ = wo.frozen? ⟨bb, o, none⟩ := fun bb o h => (hg3.frozen_far ⟨bb, o, none⟩ (Nat.lt_of_lt_of_le (show bb < wo.heap.size by omega) (by simp)) (hfar _ (show bb < w.heap.size + 2 by omega))).trans (frz_alloc wo _ (a := ⟨bb, o, none⟩) (show bb < wo.heap.size by omega))
              have g0 := (fz w.heap.size 0 (by omega)).trans f0
              have g1 := (fz (w.heap.size + 1) 0 (by omega)).trans f1
              have HO3 := Lib.hid ho3
              have hs3 : w.heap.size + 2 ≤ w3.heap.size := by have := hg3.size; have := HB.out.1; simp at *; omega
              clear ho3 hg3 fz hb3
              have hS4 := (show Below w.heap.size w w3 from HB3.out)
              refine hK _ _ hS4 ?_
              clear hK K
              refine gOne 7 rfl (by kernel_rfl) (by kernel_rfl) (fun K hK => ?_)
              go_simp
              skip
              have hS5 := (show Below w.heap.size w (w3.setCell ⟨w.heap.size, 0, none⟩ (.slice (some ⟨g4, 0, none⟩) (k + 1) cap4)) from HB3.out.setCell (Nat.le_refl _) _)
              refine hK _ _ hS5 ?_
              clear hK K
              refine wpAnyH_done (by kernel_rfl) ?_ _
              go_simp
              go_wp2
              go_roundw
              case rel => exact ⟨k + 1, .slice (some ⟨g4, 0, none⟩) (k + 1) cap4, by omega, by go_num, HGN, Lib.hid ⟨World.cell?_setCell_same _ _ _ e0, by rw [World.frozen?_setCell]; exact g0, (World.cell?_setCell_other _ _ _ _ (by simp : (⟨w.heap.size, 0, none⟩ : Addr) ≠ ⟨w.heap.size + 1, 0, none⟩)).trans e1, by rw [World.frozen?_setCell]; exact g1⟩, Lib.hid (by rw [HS.out]; exact rsLow HO3.out (p := ⟨w.heap.size, 0, none⟩) (by show w.heap.size < _; omega) _), Lib.hid ⟨by simp; omega, HB3.out.setCell (Nat.le_refl _) _⟩⟩
              case measure => simp [intOf]; omega
            · go_simp
              skip
              have hS2 := (show Below w.heap.size w (wo.drew.alloc (.cells #[.bool q] 4)) from hS1.alloc hS1.size _)
              refine hK _ _ hS2 ?_
              clear hK K
              refine gOne 0 rfl (by kernel_rfl) (by kernel_rfl) (fun K hK => ?_)
              go_simp
              skip
              have hS3 := hS2
              refine hK _ _ hS3 ?_
              clear hK K
              refine gOne 6 rfl (by kernel_rfl) (by kernel_rfl) (fun K hK => ?_)
              refine gAppendOwn (.tmp 14) (.tmp 19) 45 rfl 4 i0 (.bool false) 1 1 Try.underlying45 hi hz0 hz1 hz2 rfl (by decide) (w.heap.size + 2) v k (boV (rdL (s.data.toList.take k))) (by simp [Act.eval, Act.put]) (HO.out.alloc (.cells #[.bool q] 4)) ⟨wo.heap.size, 0, none⟩ 1 1 [.bool q] (by simp [Act.eval, Act.put]) rfl (fun j u hj => by match j, hj with | 0, hj => (simp at hj; subst hj; simp [Addr.add]) | j + 1, hj => (simp at hj)) (by simp [Value.oneCell']) (by unfold maxLen; omega) (by omega) (by have := HB.out.1; simp; omega) ?_
              intro v' w3 ho3 hg3
              have hgl : ∀ j, v.ownBlock = some j → w.heap.size + 2 ≤ j := fun j hj => (HO.out.lt j hj).1
              have hfar : ∀ b, b < w.heap.size + 2 → some b ≠ v.ownBlock := fun b hb h => by have := hgl b h.symm; omega
              obtain ⟨g4, cap4, rfl, -, -⟩ := ho3.form (by omega)
              have hb3 : Below w.heap.size w w3 := ((HB.out.2.drew).alloc (by have := HB.out.1; simp; omega) (.cells #[.bool q] 4)).grown hg3 (by have := HB.out.1; simp; omega) (fun j hj => by have := hgl j hj; omega)
              have HB3 := Lib.hid hb3
              have e0 : w3.cell? ⟨w.heap.size, 0, none⟩ = some v := hg3.cell (cel_alloc _ d0) (hfar _ (by show w.heap.size < w.heap.size + 2; omega))
              have e1 : w3.cell? ⟨w.heap.size + 1, 0, none⟩ = some (.bool false) := hg3.cell (cel_alloc _ d1) (hfar _ (by show w.heap.size + 1 < w.heap.size + 2; omega))
              have fz : ∀ bb o, bb ≤ w.heap.size + 1 → w3.frozen? ⟨bb, o, none⟩ = wo.frozen? ⟨bb, o, none⟩ := fun bb o h => (hg3.frozen_far ⟨bb, o, none⟩ (Nat.lt_of_lt_of_le (show bb < wo.heap.size by omega) (by simp)) (hfar _ (show bb < w.heap.size + 2 by omega))).trans (frz_alloc wo _ (a := ⟨bb, o, none⟩) (show bb < wo.heap.size by omega))
              have g0 := (fz w.heap.size 0 (by omega)).trans f0
              have g1 := (fz (w.heap.size + 1) 0 (by omega)).trans f1
              have HO3 := Lib.hid ho3
              have hs3 : w.heap.size + 2 ≤ w3.heap.size := by have := hg3.size; have := HB.out.1; simp at *; omega
              clear ho3 hg3 fz hb3
              have hS4 := (show Below w.heap.size w w3 from HB3.out)
              refine hK _ _ hS4 ?_
              clear hK K
              refine gOne 7 rfl (by kernel_rfl) (by kernel_rfl) (fun K hK => ?_)
              go_simp
              skip
              have hS5 := (show Below w.heap.size w (w3.setCell ⟨w.heap.size, 0, none⟩ (.slice (some ⟨g4, 0, none⟩) (k + 1) cap4)) from HB3.out.setCell (Nat.le_refl _) _)
              refine hK _ _ hS5 ?_
              clear hK K
              refine wpAnyH_done (by kernel_rfl) ?_ _
              go_simp
              go_wp2
              go_roundw
              case rel => exact ⟨k + 1, .slice (some ⟨g4, 0, none⟩) (k + 1) cap4, by omega, by go_num, HGN, Lib.hid ⟨World.cell?_setCell_same _ _ _ e0, by rw [World.frozen?_setCell]; exact g0, (World.cell?_setCell_other _ _ _ _ (by simp : (⟨w.heap.size, 0, none⟩ : Addr) ≠ ⟨w.heap.size + 1, 0, none⟩)).trans e1, by rw [World.frozen?_setCell]; exact g1⟩, Lib.hid (by rw [HS.out]; exact rsLow HO3.out (p := ⟨w.heap.size, 0, none⟩) (by show w.heap.size < _; omega) _), Lib.hid ⟨by simp; omega, HB3.out.setCell (Nat.le_refl _) _⟩⟩
              case measure => simp [intOf]; omega
        · have hcn : c ≠ 111 ∧ c ≠ 120 := ⟨fun h => hc (.inl h), fun h => hc (.inr h)⟩
          have HX := Lib.hid (fun W => isOpen_no c W hcn.1 hcn.2)
          have HE := Lib.hid (rd_no (HBAD.out hcn.1 hcn.2))
          clear HSN HBAD HGN0 hc hcn
          have HC0 := Lib.hid (show wo.drew.cell? ⟨w.heap.size, 0, none⟩ = some v ∧ wo.drew.frozen? ⟨w.heap.size, 0, none⟩ = false ∧ wo.drew.cell? ⟨w.heap.size + 1, 0, none⟩ = some (.bool false) ∧ wo.drew.frozen? ⟨w.heap.size + 1, 0, none⟩ = false from HC.out)
          go_wp2_with fail
          refine wp_region_held (S := fun w' => Below w.heap.size w w') (by kernel_rfl) ?_
          try (change wpAnyH _ _ _ _ _ _ _ _ (World.drew _))
          have hS0 := (show Below w.heap.size w wo.drew from Below.drew HB.out.2)
          refine gTake 1 (v := ?_) rfl (by kernel_rfl) (by kernel_rfl) (by kernel_rfl) (fun _ _ _ h => hqD (by decide) (by decide) h) (by kernel_rfl) ?_ hS0 ?_
          rotate_left
          · (intro W hW; clear hW; go_simp; try with_reducible rfl)
          refine gTake 2 (v := ?_) rfl (by kernel_rfl) (by kernel_rfl) (by kernel_rfl) (fun _ _ _ h => hqD (by decide) (by decide) h) (by kernel_rfl) ?_ hS0 ?_
          rotate_left
          · (intro W hW; clear hW; go_simp; try with_reducible rfl)
          refine gTake 3 (v := ?_) rfl (by kernel_rfl) (by kernel_rfl) (by kernel_rfl) (fun _ _ _ h => hqD (by decide) (by decide) h) (by kernel_rfl) ?_ hS0 ?_
          rotate_left
          · (intro W hW; clear hW; go_simp; try with_reducible rfl)
          refine gTwo 0 4 rfl rfl (by kernel_rfl) (by kernel_rfl) (by kernel_rfl) (fun K hK => ?_) (fun K hK => ?_)
          · go_simp
            skip
            have hS1 := hS0
            refine hK _ _ hS1 ?_
            clear hK K
            refine gOne 4 rfl (by kernel_rfl) (by kernel_rfl) (fun K hK => ?_)
            go_simp
            go_at_call 112
            (with_reducible refine (HX.out _).mono ?_)
            rintro e w' ⟨rfl, rfl⟩
            refine leaves_cons (f := 111) (args := #[.pointer (some ⟨w.heap.size, 0, none⟩), .pointer (some ⟨w.heap.size + 1, 0, none⟩)]) (by simp) (by simp [go_sem]) ?_
            refine (catchR _ _ _ _ [] _ (x := v) (y := .bool false) HC0.out.1 HC0.out.2.1 HC0.out.2.2.1 HC0.out.2.2.2 (by simp : (⟨w.heap.size, 0, none⟩ : Addr) ≠ ⟨w.heap.size + 1, 0, none⟩)).mono ?_
            rintro e u' w'' ⟨rfl, rfl, rfl⟩
            exact bad_end HE.out HB.out.2 (by rfl) (by rfl) HC0.out.1 HC0.out.2.2.1
          · go_simp
            go_at_call 112
            (with_reducible refine (HX.out _).mono ?_)
            rintro e w' ⟨rfl, rfl⟩
            refine leaves_cons (f := 111) (args := #[.pointer (some ⟨w.heap.size, 0, none⟩), .pointer (some ⟨w.heap.size + 1, 0, none⟩)]) (by simp) (by simp [go_sem]) ?_
            refine (catchR _ _ _ _ [] _ (x := v) (y := .bool false) HC0.out.1 HC0.out.2.1 HC0.out.2.2.1 HC0.out.2.2.2 (by simp : (⟨w.heap.size, 0, none⟩ : Addr) ≠ ⟨w.heap.size + 1, 0, none⟩)).mono ?_
            rintro e u' w'' ⟨rfl, rfl, rfl⟩
            exact bad_end HE.out HB.out.2 (by rfl) (by rfl) HC0.out.1 HC0.out.2.2.1
      · obtain rfl : k = s.size := by omega
        obtain ⟨d0, f0, d1, f1⟩ := HC.out
        have hgd : rdG s.data.toList = true := rdG_good (fun j hj => HG.out j hj (by rw [← HSL.out]; exact hj))
        have HE := Lib.hid (rd_yes (show rdOk s = true by unfold rdOk; rw [hgd, decide_eq_true h8]; rfl))
        have hO := HO.out
        rw [List.take_of_length_le (by rw [HSL.out]; exact Nat.le_refl _)] at hO
        have HO2 := Lib.hid (show OwnB wo (w.heap.size + 2) v (rdL s.data.toList) by unfold OwnB; rw [rdL_len, HSL.out]; exact hO)
        clear hO
        obtain ⟨D4, c4, hv4⟩ := HO2.out.form
        subst hv4
        go_wp2
        refine leaves_cons (f := 111) (args := #[.pointer (some ⟨w.heap.size, 0, none⟩), .pointer (some ⟨w.heap.size + 1, 0, none⟩)]) (by simp) (by simp [go_sem]) ?_
        refine (idleR _ _ _).mono ?_
        rintro e u' w'' ⟨rfl, rfl, rfl⟩
        exact good_end HE.out HB.out.2 HO2.out (by rfl) (by rfl) d0 d1
  · have t8 : (8 : Int) < (s.size : Int) := by omega
    have HE := Lib.hid (rd_no (show rdOk s = false by unfold rdOk; rw [decide_eq_false h8]; rfl))
    go_wp2
    refine ⟨_, res_cells _ _ _ _ (.slice none 0 0) (.bool false) (by rfl) (by rfl) (by simp) (by simp), _, ret_vb HE.out.1.symm, by rw [HE.out.2]; exact ownB_nil _ _, ?_⟩
    first
      | exact ((((Below.refl _ _).alloc (Nat.le_refl _) _).alloc (by simp) _).setCell (p := ⟨w.heap.size, 0, none⟩) (Nat.le_refl _) _).setCell (p := ⟨w.heap.size + 1, 0, none⟩) (by show w.heap.size ≤ w.heap.size + 1; omega) _
      | exact ((Below.refl _ _).alloc (Nat.le_refl _) _).alloc (by simp) _
end Go.Proofs.Ytddfhjolimkkmaa
