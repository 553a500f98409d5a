/-
  Contracts of chapter 10: whether doors are valid in a mine; the model's and the program's. Conditions: those that each theorem states.
-/
import Derived.Test.YtddfhjolimkkmaaJa
import Derived.Test.YtddfhjolimkkmaaJd
import Derived.Test.YtddfhjolimkkmaaGf
import Derived.Test.YtddfhjolimkkmaaRg
import Derived.Maps.OwnSet
import Derived.Carry
import Derived.Maps.AppendAt
namespace Go.Proofs.Ytddfhjolimkkmaa
open Go.RowKit
set_option linter.unusedVariables false
set_option linter.unusedSimpArgs false

theorem less_totalD : ∀ x y : List UInt8, (!Op.bytesLess x y) = (Op.bytesLess y x || y == x)
  | [], [] => rfl
  | [], b :: y => rfl
  | a :: x, [] => rfl
  | a :: x, b :: y => by
    have ih := less_totalD x y
    have e : (a :: x == b :: y) = (a == b && x == y) := rfl
    have e' : (b :: y == a :: x) = (b == a && y == x) := rfl
    rw [e']
    simp only [Op.bytesLess]
    by_cases h : a = b
    · subst h
      have hi : ¬ a < a := by simp
      simp only [hi, decide_false, beq_self_eq_true, Bool.true_and, Bool.false_or]
      exact ih
    · have h1 : (a == b) = false := beq_false_of_ne h
      have h2 : (b == a) = false := beq_false_of_ne (Ne.symm h)
      rw [h1, h2, Bool.false_and, Bool.or_false, Bool.false_and, Bool.or_false, Bool.false_and, Bool.or_false]
      rcases UInt8.lt_or_lt_of_ne h with g | g
      · have g' : ¬ b < a := fun q => UInt8.lt_irrefl _ (UInt8.lt_trans g q)
        simp [g, g']
      · have g' : ¬ a < b := fun q => UInt8.lt_irrefl _ (UInt8.lt_trans g q)
        simp [g, g']
def Do.ok (d : Do) : Bool := doOk d.s d.a d.op d.sh
def dAt (ds : List Do) (i : Nat) : Do := ds.getD i Do.none
theorem dAt_lt {ds : List Do} {k : Nat} (h : k < ds.length) : dAt ds k = ds[k] := by simp [dAt, List.getD, h]
def dNew (ds : List Do) (i : Nat) : Bool := decide (∀ j, j < i → (dAt ds j).a ≠ (dAt ds i).a)
def dGood (n : Nat) (ds : List Do) (i : Nat) : Bool := ((dAt ds i).ok && decide ((dAt ds i).a < (n : Int))) && ((decide (i = 0) || Op.bytesLess (dAt ds (i - 1)).s.toList (dAt ds i).s.toList) && dNew ds i)
/-- Valid doors of a mine with n airways. -/
def dsOk (n : Nat) (ds : List Do) : Bool := decide (∀ i, i < ds.length → dGood n ds i = true) && decide (ds.length ≤ 8)
theorem dsOk_iff {n : Nat} {ds : List Do} : dsOk n ds = true ↔ (∀ i, i < ds.length → dGood n ds i = true) ∧ ds.length ≤ 8 := by
  simp only [dsOk, Bool.and_eq_true, decide_eq_true_eq]
theorem dsOk_bad {n : Nat} {ds : List Do} {i : Nat} (h : i < ds.length) (hb : dGood n ds i = false) : dsOk n ds = false := by
  rw [← Bool.not_eq_true, dsOk_iff]
  rintro ⟨h1, -⟩
  rw [h1 i h] at hb; cases hb
theorem dsOk_each {n : Nat} {ds : List Do} (h : dsOk n ds = true) {i : Nat} (hi : i < ds.length) : (ds[i].ok = true ∧ ds[i].a < (n : Int)) ∧ ∀ j (hj : j < i), ds[j].a ≠ ds[i].a := by
  have h1 := (dsOk_iff.1 h).1 i hi
  simp only [dGood, dNew, Bool.and_eq_true, decide_eq_true_eq] at h1
  rw [dAt_lt hi] at h1
  refine ⟨h1.1, fun j hj => ?_⟩
  have := h1.2.2 j hj
  rwa [dAt_lt (by omega)] at this
def dvOk (J : Int) (xs : List Aw) (ds : List Do) : Bool := mineOk J xs && dsOk xs.length ds
/-- A map whose keys are these. -/
def MapS {H : Type} (m : DataW H) (l : List Int) : Prop :=
  Maps.IsMap m ∧ ∀ (a : Int), m.atKey (.int .i64 a) (.lit (.bool false)) = .lit (.bool (decide (a ∈ l)))
theorem MapS.empty {H : Type} : MapS (H := H) (.map []) [] := ⟨⟨[], rfl⟩, fun a => by simp; rfl⟩
theorem MapS.put {H : Type} {m : DataW H} {l : List Int} (h : MapS m l) (x : Int) : MapS (m.put (.int .i64 x) (.lit (.bool true))) (l ++ [x]) := by
  refine ⟨h.1.put _ _, fun a => ?_⟩
  by_cases e : a = x
  · subst e
    rw [show decide (a ∈ l ++ [a]) = true by simp]
    exact Maps.atKey_put_same h.1 (by trivial) _ _
  · have hne : (Lit.int .i64 a) ≠ Lit.int .i64 x := fun h => e (by injection h)
    rw [Maps.atKey_put_other hne, h.2 a]
    simp [e]
theorem zeroBJ (w : World) : (zeroValue 4).run Try.prog w = .ok (.bool false) w := by kernel_rfl
theorem keyIJ (x : Int) (h : (Lit.int .i64 x).wf = true) : keyOf Try.prog 2 (.int .i64 x) = some (.int .i64 x) := Maps.keyOf_int_mk Try.underlying2 h
theorem wfJ {x : Int} (h : 0 ≤ x ∧ x ≤ 1000000) : (Lit.int .i64 x).wf = true := by simp [Lit.wf, IntKind.min, IntKind.max, IntKind.signed, IntKind.bits]; omega
theorem omBelow {w w' : World} {k : TypeId} {R : Value → Option (DataW Unit × List MemPlace)} {b n : Nat} {D : DataW Unit} (h : w.ownsMap Try.prog k R b n D) (hb : Below w.heap.size w w') : w'.ownsMap Try.prog k R b n D :=
  h.kept (row := none) ⟨hb.os, hb.tape, hb.output, hb.size, fun i hi _ => hb.block i hi⟩ (by simp)
set_option maxRecDepth 100000 in
theorem look_set (b c : Nat) (a : Int) (m : DataW Unit) (l : List Int) (W : World) (hm : MapS m l) (hown : W.ownsMap (H := Unit) Try.prog 2 (plainElem Try.prog 4) b c m) (ha : 0 ≤ a ∧ a ≤ 1000000) :
    (Instr.lookup 98 (.map (some b)) (.int .i64 a) false).run Try.prog W = .ok (.bool (decide (a ∈ l))) W := by
  obtain ⟨v, ps, h1, h2⟩ := hown.lookup (Maps.int_keyed Try.underlying2) Try.underlying98 (zeroBJ W) (plainElem_bool Try.underlying4 false) (keyIJ a (wfJ ha))
  rw [hm.2 a] at h2
  unfold plainElem at h2
  rw [Try.underlying4] at h2
  cases v <;> simp at h2
  rw [h1, h2.1]
theorem taken_new {ds : List Do} {k : Nat} (h : k ≤ ds.length) (a : Int) : (decide (a ∈ (ds.take k).map Do.a) = false) ↔ ∀ j, j < k → (dAt ds j).a ≠ a := by
  simp only [decide_eq_false_iff_not, List.mem_map, not_exists, not_and]
  constructor
  · intro h1 j hj e
    have hjl : j < ds.length := by omega
    refine h1 ds[j] ?_ (by rw [← dAt_lt hjl]; exact e)
    exact List.mem_iff_getElem.2 ⟨j, by rw [List.length_take]; omega, by rw [List.getElem_take]⟩
  · intro h1 d hd e
    obtain ⟨j, hj, rfl⟩ := List.mem_iff_getElem.1 hd
    rw [List.length_take] at hj
    rw [List.getElem_take] at e
    exact h1 j (by omega) (by rw [dAt_lt (by omega)]; exact e)
set_option maxHeartbeats 4000000 in
theorem l10Ok_any (b : Nat) (J : Int) (A : Option Addr) (cap : Nat) (xs : List Aw) (D : Option Addr) (dcap : Nat) (ds : List Do) (w : World) (hJ : w.cell? ⟨b, 0, none⟩ = some (.int .i64 J)) (hA : w.cell? ⟨b, 1, none⟩ = some (.slice A xs.length cap)) (hr : AwR w A xs) (hs : ∀ a ∈ xs, a.s.size ≤ maxLen) (hl : xs.length ≤ 1048576)
    (hd : DoR w D ds) (hds : ∀ d ∈ ds, d.s.size ≤ maxLen) (hdl : ds.length ≤ 1048576) :
    Calls Try.prog 76 #[.pointer (some ⟨b, 0, none⟩), .slice D ds.length dcap] w fun e w' => e = .returned (.bool (dvOk J xs ds)) ∧ Below w.heap.size w w' := by
  have HM := Lib.hid (l04Ok_any b J A cap xs w hJ hA hr hs hl)
  have HD := Lib.hid hd
  have HDS := Lib.hid hds
  have HA := Lib.hid hA
  have hbw := World.block_lt_of_cell? _ _ hA
  clear hJ hA hr hs hd hds
  cases hok : mineOk J xs
  · have HF := Lib.hid (show dvOk J xs ds = false by unfold dvOk; rw [hok]; rfl)
    go_enter Try.func76, Try.ntmps76
    go_wp2_with fail
    (with_reducible refine (HM.out).mono ?_)
    rintro e w1 ⟨rfl, n, rfl⟩
    rw [hok]
    go_wp2
    go_ret
    exact ⟨ret_bool HF.out.symm, below_drewN' (Below.refl _ _) n⟩
  · have HV := Lib.hid (show dvOk J xs ds = dsOk xs.length ds by unfold dvOk; rw [hok]; rfl)
    by_cases h8 : ds.length ≤ 8
    · have t8 : ¬ ((8 : Int) < (ds.length : Int)) := by omega
      go_enter Try.func76, Try.ntmps76
      go_wp2_with fail
      (with_reducible refine (HM.out).mono ?_)
      rintro e w1 ⟨rfl, n, rfl⟩
      rw [hok]
      have HBN := Lib.hid (below_drewN' (Below.refl w.heap.size w) n)
      go_wp2
      go_loopw [5] (fun i wr => ∃ k : Nat, k ≤ ds.length ∧ i = .int .i64 k ∧ Hid (∀ j, j < k → dGood xs.length ds j = true) ∧ Below w.heap.size w wr) (fun i wr => ds.length - (intOf i).toNat)
      case atStart => exact ⟨0, by omega, rfl, Lib.hid (fun j hj => absurd hj (by omega)), HBN.out⟩
      case round =>
        obtain ⟨k, hk, rfl, HG, hbel⟩ := hrel
        obtain ⟨wo, rfl⟩ : ∃ wo : World, wo = wr := ⟨_, rfl⟩
        by_cases hlt : k < ds.length
        · have kA : wo.cell? ⟨b, 1, none⟩ = some (.slice A xs.length cap) := cellK HA.out hbel
          have hDK : ds[k] = ds[k] := rfl
          obtain ⟨bd, off, rfl, hrg⟩ := (HD.out.below hbel) k hlt
          obtain ⟨c0, c1, c2, c3⟩ := do_lay hrg
          have hsz := HDS.out ds[k] (List.getElem_mem hlt)
          have HPV := Lib.hid (show 0 < k → ∃ ps : ByteArray, (dAt ds (k - 1)).s = ps ∧ wo.cell? ⟨bd, off + (k - 1) * 4, none⟩ = some (.string ps) from fun h => by
            obtain ⟨b', off', e, hr'⟩ := (HD.out.below hbel) (k - 1) (by omega)
            injection e with e
            injection e with e1 e2
            subst e1
            subst e2
            exact ⟨_, rfl, by rw [dAt_lt (show k - 1 < ds.length by omega)]; exact (do_lay hr').1⟩)
          have HGD := Lib.hid (show dGood xs.length ds k = (((ds[k]).ok && decide ((ds[k]).a < (xs.length : Int))) && ((decide (k = 0) || Op.bytesLess (dAt ds (k - 1)).s.toList (ds[k]).s.toList) && dNew ds k)) by unfold dGood; rw [dAt_lt hlt])
          have HNW := Lib.hid (show dNew ds k = decide (∀ j, j < k → (dAt ds j).a ≠ (ds[k]).a) by unfold dNew; rw [dAt_lt hlt])
          clear hrg
          obtain ⟨d, hdk⟩ : ∃ d, ds[k] = d := ⟨_, rfl⟩
          have HDK0 := Lib.hid hdk
          rw [hdk] at c0 c1 c2 c3 hsz HGD HNW
          clear hdk hDK
          obtain ⟨s, a, op, sh⟩ := d
          dsimp only at c0 c1 c2 c3 hsz
          have HDK := Lib.hid (show ds[k].a = a by rw [HDK0.out])
          clear HDK0
          have hbd : bd < wo.heap.size := World.block_lt_of_cell? _ _ c0
          have HGE := Lib.hid (show dGood xs.length ds k = ((doOk s a op sh && decide (a < (xs.length : Int))) && ((decide (k = 0) || Op.bytesLess (dAt ds (k - 1)).s.toList s.toList) && dNew ds k)) from HGD.out)
          have HNE := Lib.hid (show dNew ds k = decide (∀ j, j < k → (dAt ds j).a ≠ a) from HNW.out)
          clear HGD HNW
          cases hd1 : doOk s a op sh
          · have HF := Lib.hid (dsOk_bad (n := xs.length) hlt (by rw [HGE.out, hd1]; simp))
            rw [← HV.out] at HF
            go_wp2_with fail
            refine wp_region_held (S := fun w' => w'.cell? ⟨bd, off + k * 4, none⟩ = some (.string s) ∧ w'.cell? ⟨bd, off + k * 4 + 1, none⟩ = some (.int .i64 a) ∧ w'.cell? ⟨b, 1, none⟩ = some (.slice A xs.length cap) ∧ Below wo.heap.size wo w') (by kernel_rfl) ?_
            try (change wpAnyH _ _ _ _ _ _ _ _ (World.drew _))
            have hS0 := (show wo.drew.cell? ⟨bd, off + k * 4, none⟩ = some (.string s) ∧ wo.drew.cell? ⟨bd, off + k * 4 + 1, none⟩ = some (.int .i64 a) ∧ wo.drew.cell? ⟨b, 1, none⟩ = some (.slice A xs.length cap) ∧ Below wo.heap.size wo wo.drew from ⟨c0, c1, kA, Below.drew (Below.refl _ _)⟩)
            refine gTake 0 (v := ?_) rfl (by kernel_rfl) (by kernel_rfl) (by kernel_rfl) (fun _ _ _ h => h) (by kernel_rfl) ?_ hS0 ?_
            rotate_left
            · (intro W hW; clear hW; go_simp; try with_reducible rfl)
            refine gTake 1 (v := ?_) rfl (by kernel_rfl) (by kernel_rfl) (by kernel_rfl) (fun _ _ _ h => h) (by kernel_rfl) ?_ hS0 ?_
            rotate_left
            · (intro W hW; clear hW; go_simp; try with_reducible rfl)
            refine gTake 2 (v := ?_) rfl (by kernel_rfl) (by kernel_rfl) (by kernel_rfl) (fun _ _ _ h => h) (by kernel_rfl) ?_ hS0 ?_
            rotate_left
            · (intro W hW; clear hW; go_simp; try with_reducible rfl)
            refine gOne 3 rfl (by kernel_rfl) (by kernel_rfl) (fun K hK => ?_)
            go_simp
            go_at_call 71
            (with_reducible refine (l10One_below bd (off + k * 4) s a op sh _ hsz ((doAt_mk c0 c1 c2 c3).below hS0.2.2.2 hbd)).mono ?_)
            rintro e wq0 ⟨rfl, hdq0⟩
            try go_simp
            have hS1 := (show wq0.cell? ⟨bd, off + k * 4, none⟩ = some (.string s) ∧ wq0.cell? ⟨bd, off + k * 4 + 1, none⟩ = some (.int .i64 a) ∧ wq0.cell? ⟨b, 1, none⟩ = some (.slice A xs.length cap) ∧ Below wo.heap.size wo wq0 from ⟨cellK hS0.1 hdq0, cellK hS0.2.1 hdq0, cellK hS0.2.2.1 hdq0, hS0.2.2.2.trans (hdq0.mono hS0.2.2.2.size)⟩)
            refine hK _ _ hS1 ?_
            clear hK K
            refine gTake 4 (v := ?_) rfl (by kernel_rfl) (by kernel_rfl) (by kernel_rfl) (fun _ _ _ h => h) (by kernel_rfl) ?_ hS1 ?_
            rotate_left
            · (intro W hW; clear hW; go_simp; try with_reducible rfl)
            refine gTake 5 (v := ?_) rfl (by kernel_rfl) (by kernel_rfl) (by kernel_rfl) (fun _ _ _ h => h) (by kernel_rfl) ?_ hS1 ?_
            rotate_left
            · (intro W hW; clear hW; go_simp; try with_reducible rfl)
            refine gSkip 6 rfl (by kernel_rfl) (by kernel_rfl) (by kernel_rfl) (fun _ _ _ h => h) (by kernel_rfl) hS1 ?_
            refine gSkip 7 rfl (by kernel_rfl) (by kernel_rfl) (by kernel_rfl) (fun _ _ _ h => h) (by kernel_rfl) hS1 ?_
            refine gSkip 8 rfl (by kernel_rfl) (by kernel_rfl) (by kernel_rfl) (fun _ _ _ h => h) (by kernel_rfl) hS1 ?_
            refine gSkip 9 rfl (by kernel_rfl) (by kernel_rfl) (by kernel_rfl) (fun _ _ _ h => h) (by kernel_rfl) hS1 ?_
            refine gSkip 10 rfl (by kernel_rfl) (by kernel_rfl) (by kernel_rfl) (fun _ _ _ h => h) (by kernel_rfl) hS1 ?_
            refine gSkip 11 rfl (by kernel_rfl) (by kernel_rfl) (by kernel_rfl) (fun _ _ _ h => h) (by kernel_rfl) hS1 ?_
            refine gSkip 12 rfl (by kernel_rfl) (by kernel_rfl) (by kernel_rfl) (fun _ _ _ h => h) (by kernel_rfl) hS1 ?_
            refine gSkip 13 rfl (by kernel_rfl) (by kernel_rfl) (by kernel_rfl) (fun _ _ _ h => h) (by kernel_rfl) hS1 ?_
            refine gSkip 14 rfl (by kernel_rfl) (by kernel_rfl) (by kernel_rfl) (fun _ _ _ h => h) (by kernel_rfl) hS1 ?_
            refine gSkip 15 rfl (by kernel_rfl) (by kernel_rfl) (by kernel_rfl) (fun _ _ _ h => h) (by kernel_rfl) hS1 ?_
            refine gSkip 16 rfl (by kernel_rfl) (by kernel_rfl) (by kernel_rfl) (fun _ _ _ h => h) (by kernel_rfl) hS1 ?_
            refine gTake 17 (v := ?_) rfl (by kernel_rfl) (by kernel_rfl) (by kernel_rfl) (fun _ _ _ h => h) (by kernel_rfl) ?_ hS1 ?_
            rotate_left
            · (intro W hW; clear hW; go_simp; try with_reducible rfl)
            refine gTake 18 (v := ?_) rfl (by kernel_rfl) (by kernel_rfl) (by kernel_rfl) (fun _ _ _ h => h) (by kernel_rfl) ?_ hS1 ?_
            rotate_left
            · (intro W hW; clear hW; go_simp; try with_reducible rfl)
            refine gSkip 19 rfl (by kernel_rfl) (by kernel_rfl) (by kernel_rfl) (fun _ _ _ h => h) (by kernel_rfl) hS1 ?_
            refine gSkip 20 rfl (by kernel_rfl) (by kernel_rfl) (by kernel_rfl) (fun _ _ _ h => h) (by kernel_rfl) hS1 ?_
            refine gSkip 21 rfl (by kernel_rfl) (by kernel_rfl) (by kernel_rfl) (fun _ _ _ h => h) (by kernel_rfl) hS1 ?_
            refine gSkip 22 rfl (by kernel_rfl) (by kernel_rfl) (by kernel_rfl) (fun _ _ _ h => h) (by kernel_rfl) hS1 ?_
            refine gSkip 23 rfl (by kernel_rfl) (by kernel_rfl) (by kernel_rfl) (fun _ _ _ h => h) (by kernel_rfl) hS1 ?_
            refine gSkip 24 rfl (by kernel_rfl) (by kernel_rfl) (by kernel_rfl) (fun _ _ _ h => h) (by kernel_rfl) hS1 ?_
            refine gSkip 25 rfl (by kernel_rfl) (by kernel_rfl) (by kernel_rfl) (fun _ _ _ h => h) (by kernel_rfl) hS1 ?_
            refine gSkip 26 rfl (by kernel_rfl) (by kernel_rfl) (by kernel_rfl) (fun _ _ _ h => h) (by kernel_rfl) hS1 ?_
            refine gSkip 27 rfl (by kernel_rfl) (by kernel_rfl) (by kernel_rfl) (fun _ _ _ h => h) (by kernel_rfl) hS1 ?_
            refine gSkip 28 rfl (by kernel_rfl) (by kernel_rfl) (by kernel_rfl) (fun _ _ _ h => h) (by kernel_rfl) hS1 ?_
            refine gSkip 29 rfl (by kernel_rfl) (by kernel_rfl) (by kernel_rfl) (fun _ _ _ h => h) (by kernel_rfl) hS1 ?_
            refine gSkip 30 rfl (by kernel_rfl) (by kernel_rfl) (by kernel_rfl) (fun _ _ _ h => h) (by kernel_rfl) hS1 ?_
            refine gSkip 31 rfl (by kernel_rfl) (by kernel_rfl) (by kernel_rfl) (fun _ _ _ h => h) (by kernel_rfl) hS1 ?_
            refine gSkip 32 rfl (by kernel_rfl) (by kernel_rfl) (by kernel_rfl) (fun _ _ _ h => h) (by kernel_rfl) hS1 ?_
            refine gSkip 33 rfl (by kernel_rfl) (by kernel_rfl) (by kernel_rfl) (fun _ _ _ h => h) (by kernel_rfl) hS1 ?_
            refine gSkip 34 rfl (by kernel_rfl) (by kernel_rfl) (by kernel_rfl) (fun _ _ _ h => h) (by kernel_rfl) hS1 ?_
            refine gTake 35 (v := ?_) rfl (by kernel_rfl) (by kernel_rfl) (by kernel_rfl) (fun _ _ _ h => h) (by kernel_rfl) ?_ hS1 ?_
            rotate_left
            · (intro W hW; clear hW; go_simp; try with_reducible rfl)
            refine wpAnyH_done (by kernel_rfl) ?_ _
            go_simp
            go_wp2
            go_ret
            exact ⟨ret_bool HF.out.symm, hbel.trans (hS1.2.2.2.mono hbel.size)⟩
          · by_cases han : a < (xs.length : Int)
            · have HDN := Lib.hid (show decide ((xs.length : Int) ≤ a) = false from decide_eq_false (by omega))
              by_cases k0 : k = 0
              · have HGOOD := Lib.hid (show dGood xs.length ds k = dNew ds k by rw [HGE.out, hd1, decide_eq_true han, decide_eq_true k0]; simp)
                have hki : ¬ (0 < (k : Int)) := by omega
                have hkn : ¬ (0 < k) := by omega
                clear k0
                go_wp2_with fail
                refine wp_region_held (S := fun w' => w'.cell? ⟨bd, off + k * 4, none⟩ = some (.string s) ∧ w'.cell? ⟨bd, off + k * 4 + 1, none⟩ = some (.int .i64 a) ∧ w'.cell? ⟨b, 1, none⟩ = some (.slice A xs.length cap) ∧ Below wo.heap.size wo w') (by kernel_rfl) ?_
                try (change wpAnyH _ _ _ _ _ _ _ _ (World.drew _))
                have hS0 := (show wo.drew.cell? ⟨bd, off + k * 4, none⟩ = some (.string s) ∧ wo.drew.cell? ⟨bd, off + k * 4 + 1, none⟩ = some (.int .i64 a) ∧ wo.drew.cell? ⟨b, 1, none⟩ = some (.slice A xs.length cap) ∧ Below wo.heap.size wo wo.drew from ⟨c0, c1, kA, Below.drew (Below.refl _ _)⟩)
                refine gTake 0 (v := ?_) rfl (by kernel_rfl) (by kernel_rfl) (by kernel_rfl) (fun _ _ _ h => h) (by kernel_rfl) ?_ hS0 ?_
                rotate_left
                · (intro W hW; clear hW; go_simp; try with_reducible rfl)
                refine gTake 1 (v := ?_) rfl (by kernel_rfl) (by kernel_rfl) (by kernel_rfl) (fun _ _ _ h => h) (by kernel_rfl) ?_ hS0 ?_
                rotate_left
                · (intro W hW; clear hW; go_simp; try with_reducible rfl)
                refine gTake 2 (v := ?_) rfl (by kernel_rfl) (by kernel_rfl) (by kernel_rfl) (fun _ _ _ h => h) (by kernel_rfl) ?_ hS0 ?_
                rotate_left
                · (intro W hW; clear hW; go_simp; try with_reducible rfl)
                refine gOne 3 rfl (by kernel_rfl) (by kernel_rfl) (fun K hK => ?_)
                go_simp
                go_at_call 71
                (with_reducible refine (l10One_below bd (off + k * 4) s a op sh _ hsz ((doAt_mk c0 c1 c2 c3).below hS0.2.2.2 hbd)).mono ?_)
                rintro e wq0 ⟨rfl, hdq0⟩
                try go_simp
                have hS1 := (show wq0.cell? ⟨bd, off + k * 4, none⟩ = some (.string s) ∧ wq0.cell? ⟨bd, off + k * 4 + 1, none⟩ = some (.int .i64 a) ∧ wq0.cell? ⟨b, 1, none⟩ = some (.slice A xs.length cap) ∧ Below wo.heap.size wo wq0 from ⟨cellK hS0.1 hdq0, cellK hS0.2.1 hdq0, cellK hS0.2.2.1 hdq0, hS0.2.2.2.trans (hdq0.mono hS0.2.2.2.size)⟩)
                refine hK _ _ hS1 ?_
                clear hK K
                refine gTake 4 (v := ?_) rfl (by kernel_rfl) (by kernel_rfl) (by kernel_rfl) (fun _ _ _ h => h) (by kernel_rfl) ?_ hS1 ?_
                rotate_left
                · (intro W hW; clear hW; go_simp; try with_reducible rfl)
                refine gTake 5 (v := ?_) rfl (by kernel_rfl) (by kernel_rfl) (by kernel_rfl) (fun _ _ _ h => h) (by kernel_rfl) ?_ hS1 ?_
                rotate_left
                · (intro W hW; clear hW; go_simp; try with_reducible rfl)
                refine gTake 6 (v := ?_) rfl (by kernel_rfl) (by kernel_rfl) (by kernel_rfl) (fun _ _ _ h => h) (by kernel_rfl) ?_ hS1 ?_
                rotate_left
                · (intro W hW; clear hW; go_simp; try with_reducible rfl)
                refine gTake 7 (v := ?_) rfl (by kernel_rfl) (by kernel_rfl) (by kernel_rfl) (fun _ _ _ h => h) (by kernel_rfl) ?_ hS1 ?_
                rotate_left
                · (intro W hW; clear hW; go_simp; try with_reducible rfl)
                refine gTake 8 (v := ?_) rfl (by kernel_rfl) (by kernel_rfl) (by kernel_rfl) (fun _ _ _ h => h) (by kernel_rfl) ?_ hS1 ?_
                rotate_left
                · (intro W hW; clear hW; go_simp; try with_reducible rfl)
                refine gTake 9 (v := ?_) rfl (by kernel_rfl) (by kernel_rfl) (by kernel_rfl) (fun _ _ _ h => h) (by kernel_rfl) ?_ hS1 ?_
                rotate_left
                · (intro W hW; clear hW; go_simp; try with_reducible rfl)
                refine gTake 10 (v := ?_) rfl (by kernel_rfl) (by kernel_rfl) (by kernel_rfl) (fun _ _ _ h => h) (by kernel_rfl) ?_ hS1 ?_
                rotate_left
                · (intro W hW; have q0 := hW.1; have q1 := hW.2.1; have q2 := hW.2.2.1; clear hW; go_simp; try with_reducible rfl)
                refine gTake 11 (v := ?_) rfl (by kernel_rfl) (by kernel_rfl) (by kernel_rfl) (fun _ _ _ h => h) (by kernel_rfl) ?_ hS1 ?_
                rotate_left
                · (intro W hW; clear hW; go_simp; try with_reducible rfl)
                refine gTake 12 (v := ?_) rfl (by kernel_rfl) (by kernel_rfl) (by kernel_rfl) (fun _ _ _ h => h) (by kernel_rfl) ?_ hS1 ?_
                rotate_left
                · (intro W hW; clear hW; go_simp; try with_reducible rfl)
                refine gTake 13 (v := ?_) rfl (by kernel_rfl) (by kernel_rfl) (by kernel_rfl) (fun _ _ _ h => h) (by kernel_rfl) ?_ hS1 ?_
                rotate_left
                · (intro W hW; clear hW; go_simp; try with_reducible rfl)
                refine gTake 14 (v := ?_) rfl (by kernel_rfl) (by kernel_rfl) (by kernel_rfl) (fun _ _ _ h => h) (by kernel_rfl) ?_ hS1 ?_
                rotate_left
                · (intro W hW; have q0 := hW.1; have q1 := hW.2.1; have q2 := hW.2.2.1; clear hW; go_simp; try with_reducible rfl)
                refine gTake 15 (v := ?_) rfl (by kernel_rfl) (by kernel_rfl) (by kernel_rfl) (fun _ _ _ h => h) (by kernel_rfl) ?_ hS1 ?_
                rotate_left
                · (intro W hW; clear hW; go_simp; try with_reducible rfl)
                refine gTake 16 (v := ?_) rfl (by kernel_rfl) (by kernel_rfl) (by kernel_rfl) (fun _ _ _ h => h) (by kernel_rfl) ?_ hS1 ?_
                rotate_left
                · (intro W hW; clear hW; go_simp; (try rw [HDN.out]); try with_reducible rfl)
                refine gTake 17 (v := ?_) rfl (by kernel_rfl) (by kernel_rfl) (by kernel_rfl) (fun _ _ _ h => h) (by kernel_rfl) ?_ hS1 ?_
                rotate_left
                · (intro W hW; clear hW; go_simp; try with_reducible rfl)
                refine gTake 18 (v := ?_) rfl (by kernel_rfl) (by kernel_rfl) (by kernel_rfl) (fun _ _ _ h => h) (by kernel_rfl) ?_ hS1 ?_
                rotate_left
                · (intro W hW; clear hW; go_simp; try with_reducible rfl)
                refine gTake 19 (v := ?_) rfl (by kernel_rfl) (by kernel_rfl) (by kernel_rfl) (fun _ _ _ h => h) (by kernel_rfl) ?_ hS1 ?_
                rotate_left
                · (intro W hW; clear hW; go_simp; try with_reducible rfl)
                refine gTake 20 (v := ?_) rfl (by kernel_rfl) (by kernel_rfl) (by kernel_rfl) (fun _ _ _ h => h) (by kernel_rfl) ?_ hS1 ?_
                rotate_left
                · (intro W hW; clear hW; go_simp; try with_reducible rfl)
                refine gTake 21 (v := ?_) rfl (by kernel_rfl) (by kernel_rfl) (by kernel_rfl) (fun _ _ _ h => h) (by kernel_rfl) ?_ hS1 ?_
                rotate_left
                · (intro W hW; clear hW; go_simp; try with_reducible rfl)
                refine gSkip 22 rfl (by kernel_rfl) (by kernel_rfl) (by kernel_rfl) (fun _ _ _ h => h) (by kernel_rfl) hS1 ?_
                refine gSkip 23 rfl (by kernel_rfl) (by kernel_rfl) (by kernel_rfl) (fun _ _ _ h => h) (by kernel_rfl) hS1 ?_
                refine gSkip 24 rfl (by kernel_rfl) (by kernel_rfl) (by kernel_rfl) (fun _ _ _ h => h) (by kernel_rfl) hS1 ?_
                refine gSkip 25 rfl (by kernel_rfl) (by kernel_rfl) (by kernel_rfl) (fun _ _ _ h => h) (by kernel_rfl) hS1 ?_
                refine gSkip 26 rfl (by kernel_rfl) (by kernel_rfl) (by kernel_rfl) (fun _ _ _ h => h) (by kernel_rfl) hS1 ?_
                refine gSkip 27 rfl (by kernel_rfl) (by kernel_rfl) (by kernel_rfl) (fun _ _ _ h => h) (by kernel_rfl) hS1 ?_
                refine gSkip 28 rfl (by kernel_rfl) (by kernel_rfl) (by kernel_rfl) (fun _ _ _ h => h) (by kernel_rfl) hS1 ?_
                refine gSkip 29 rfl (by kernel_rfl) (by kernel_rfl) (by kernel_rfl) (fun _ _ _ h => h) (by kernel_rfl) hS1 ?_
                refine gSkip 30 rfl (by kernel_rfl) (by kernel_rfl) (by kernel_rfl) (fun _ _ _ h => h) (by kernel_rfl) hS1 ?_
                refine gSkip 31 rfl (by kernel_rfl) (by kernel_rfl) (by kernel_rfl) (fun _ _ _ h => h) (by kernel_rfl) hS1 ?_
                refine gSkip 32 rfl (by kernel_rfl) (by kernel_rfl) (by kernel_rfl) (fun _ _ _ h => h) (by kernel_rfl) hS1 ?_
                refine gSkip 33 rfl (by kernel_rfl) (by kernel_rfl) (by kernel_rfl) (fun _ _ _ h => h) (by kernel_rfl) hS1 ?_
                refine gTake 34 (v := ?_) rfl (by kernel_rfl) (by kernel_rfl) (by kernel_rfl) (fun _ _ _ h => h) (by kernel_rfl) ?_ hS1 ?_
                rotate_left
                · (intro W hW; clear hW; go_simp; try with_reducible rfl)
                refine gTake 35 (v := ?_) rfl (by kernel_rfl) (by kernel_rfl) (by kernel_rfl) (fun _ _ _ h => h) (by kernel_rfl) ?_ hS1 ?_
                rotate_left
                · (intro W hW; clear hW; go_simp; try with_reducible rfl)
                refine wpAnyH_done (by kernel_rfl) ?_ _
                go_simp
                have HBO := Lib.hid (hbel.trans (hS1.2.2.2.mono hbel.size))
                go_wp2
                go_loopw [6] (fun q wr2 => ∃ t : Nat, t ≤ k ∧ q = .int .i64 t ∧ Hid (∀ j, j < t → (dAt ds j).a ≠ a) ∧ Below w.heap.size w wr2) (fun q wr2 => k - (intOf q).toNat)
                case atStart => exact ⟨0, by omega, rfl, Lib.hid (fun j hj => absurd hj (by omega)), HBO.out⟩
                case round =>
                  obtain ⟨t, ht, rfl, HU, hbe2⟩ := hrel
                  obtain ⟨wi, rfl⟩ : ∃ wi : World, wi = wr := ⟨_, rfl⟩
                  by_cases htk : t < k
                  · exfalso; omega
                  · obtain rfl : t = k := by omega
                    have HF := Lib.hid (show dGood xs.length ds t = true by
                      have hnw : dNew ds t = true := by
                        rw [HNE.out]
                        exact decide_eq_true HU.out
                      rw [HGOOD.out, hnw])
                    go_wp2
                    go_roundw
                    case rel => exact ⟨t + 1, by omega, by go_num, Lib.hid (fun j hj => by
                      rcases Nat.lt_or_ge j t with q | q
                      · exact HG.out j q
                      · obtain rfl : j = t := by omega
                        exact HF.out), hbe2⟩
                    case measure => simp [intOf]; omega
              · skip
                obtain ⟨ps, hps, g0⟩ := HPV.out (by omega)
                have HGF := Lib.hid (show dGood xs.length ds k = ((doOk s a op sh && decide (a < (xs.length : Int))) && (Op.bytesLess ps.toList s.toList && dNew ds k)) by rw [HGE.out, decide_eq_false k0, hps]; simp)
                have hki : (0 < (k : Int)) := by omega
                have hkn : 0 < k := by omega
                have hkj : (k : Int) - 1 = ((k - 1 : Nat) : Int) := by omega
                have hkl : k - 1 < ds.length := by omega
                clear hps k0
                generalize hj1 : k - 1 = j1 at *
                have HJ1 := Lib.hid hj1
                clear hj1
                have hkw : IntKind.i64.wrap ((k : Int) - 1) = (j1 : Int) := by rw [hkj]; exact IntWalk.i64_in _ (by omega)
                have HK := Lib.hid hkj
                clear hkj
                have HT := Lib.hid (less_totalD ps.toList s.toList)
                cases hls : Op.bytesLess ps.toList s.toList
                · have hq := HT.out
                  rw [hls] at hq
                  replace hq : (Op.bytesLess s.toList ps.toList || s.toList == ps.toList) = true := hq.symm
                  have HF := Lib.hid (dsOk_bad (n := xs.length) hlt (by rw [HGF.out, hls]; simp))
                  rw [← HV.out] at HF
                  go_wp2_with fail
                  refine wp_region_held (S := fun w' => w'.cell? ⟨bd, off + k * 4, none⟩ = some (.string s) ∧ w'.cell? ⟨bd, off + k * 4 + 1, none⟩ = some (.int .i64 a) ∧ w'.cell? ⟨b, 1, none⟩ = some (.slice A xs.length cap) ∧ w'.cell? ⟨bd, off + j1 * 4, none⟩ = some (.string ps) ∧ Below wo.heap.size wo w') (by kernel_rfl) ?_
                  try (change wpAnyH _ _ _ _ _ _ _ _ (World.drew _))
                  have hS0 := (show wo.drew.cell? ⟨bd, off + k * 4, none⟩ = some (.string s) ∧ wo.drew.cell? ⟨bd, off + k * 4 + 1, none⟩ = some (.int .i64 a) ∧ wo.drew.cell? ⟨b, 1, none⟩ = some (.slice A xs.length cap) ∧ wo.drew.cell? ⟨bd, off + j1 * 4, none⟩ = some (.string ps) ∧ Below wo.heap.size wo wo.drew from ⟨c0, c1, kA, g0, Below.drew (Below.refl _ _)⟩)
                  refine gTake 0 (v := ?_) rfl (by kernel_rfl) (by kernel_rfl) (by kernel_rfl) (fun _ _ _ h => h) (by kernel_rfl) ?_ hS0 ?_
                  rotate_left
                  · (intro W hW; clear hW; go_simp; try with_reducible rfl)
                  refine gTake 1 (v := ?_) rfl (by kernel_rfl) (by kernel_rfl) (by kernel_rfl) (fun _ _ _ h => h) (by kernel_rfl) ?_ hS0 ?_
                  rotate_left
                  · (intro W hW; clear hW; go_simp; try with_reducible rfl)
                  refine gTake 2 (v := ?_) rfl (by kernel_rfl) (by kernel_rfl) (by kernel_rfl) (fun _ _ _ h => h) (by kernel_rfl) ?_ hS0 ?_
                  rotate_left
                  · (intro W hW; clear hW; go_simp; try with_reducible rfl)
                  refine gOne 3 rfl (by kernel_rfl) (by kernel_rfl) (fun K hK => ?_)
                  go_simp
                  go_at_call 71
                  (with_reducible refine (l10One_below bd (off + k * 4) s a op sh _ hsz ((doAt_mk c0 c1 c2 c3).below hS0.2.2.2.2 hbd)).mono ?_)
                  rintro e wq0 ⟨rfl, hdq0⟩
                  try go_simp
                  have hS1 := (show wq0.cell? ⟨bd, off + k * 4, none⟩ = some (.string s) ∧ wq0.cell? ⟨bd, off + k * 4 + 1, none⟩ = some (.int .i64 a) ∧ wq0.cell? ⟨b, 1, none⟩ = some (.slice A xs.length cap) ∧ wq0.cell? ⟨bd, off + j1 * 4, none⟩ = some (.string ps) ∧ Below wo.heap.size wo wq0 from ⟨cellK hS0.1 hdq0, cellK hS0.2.1 hdq0, cellK hS0.2.2.1 hdq0, cellK hS0.2.2.2.1 hdq0, hS0.2.2.2.2.trans (hdq0.mono hS0.2.2.2.2.size)⟩)
                  refine hK _ _ hS1 ?_
                  clear hK K
                  refine gTake 4 (v := ?_) rfl (by kernel_rfl) (by kernel_rfl) (by kernel_rfl) (fun _ _ _ h => h) (by kernel_rfl) ?_ hS1 ?_
                  rotate_left
                  · (intro W hW; clear hW; go_simp; try with_reducible rfl)
                  refine gTake 5 (v := ?_) rfl (by kernel_rfl) (by kernel_rfl) (by kernel_rfl) (fun _ _ _ h => h) (by kernel_rfl) ?_ hS1 ?_
                  rotate_left
                  · (intro W hW; clear hW; go_simp; try with_reducible rfl)
                  refine gTake 6 (v := ?_) rfl (by kernel_rfl) (by kernel_rfl) (by kernel_rfl) (fun _ _ _ h => h) (by kernel_rfl) ?_ hS1 ?_
                  rotate_left
                  · (intro W hW; clear hW; go_simp; try with_reducible rfl)
                  refine gTake 7 (v := ?_) rfl (by kernel_rfl) (by kernel_rfl) (by kernel_rfl) (fun _ _ _ h => h) (by kernel_rfl) ?_ hS1 ?_
                  rotate_left
                  · (intro W hW; clear hW; go_simp; try with_reducible rfl)
                  refine gTake 8 (v := ?_) rfl (by kernel_rfl) (by kernel_rfl) (by kernel_rfl) (fun _ _ _ h => h) (by kernel_rfl) ?_ hS1 ?_
                  rotate_left
                  · (intro W hW; clear hW; go_simp; try with_reducible rfl)
                  refine gTake 9 (v := ?_) rfl (by kernel_rfl) (by kernel_rfl) (by kernel_rfl) (fun _ _ _ h => h) (by kernel_rfl) ?_ hS1 ?_
                  rotate_left
                  · (intro W hW; clear hW; go_simp; try with_reducible rfl)
                  refine gTake 10 (v := ?_) rfl (by kernel_rfl) (by kernel_rfl) (by kernel_rfl) (fun _ _ _ h => h) (by kernel_rfl) ?_ hS1 ?_
                  rotate_left
                  · (intro W hW; have q0 := hW.1; have q1 := hW.2.1; have q2 := hW.2.2.1; have q3 := hW.2.2.2.1; clear hW; go_simp; try with_reducible rfl)
                  refine gTake 11 (v := ?_) rfl (by kernel_rfl) (by kernel_rfl) (by kernel_rfl) (fun _ _ _ h => h) (by kernel_rfl) ?_ hS1 ?_
                  rotate_left
                  · (intro W hW; clear hW; go_simp; try with_reducible rfl)
                  refine gTake 12 (v := ?_) rfl (by kernel_rfl) (by kernel_rfl) (by kernel_rfl) (fun _ _ _ h => h) (by kernel_rfl) ?_ hS1 ?_
                  rotate_left
                  · (intro W hW; clear hW; go_simp; try with_reducible rfl)
                  refine gTake 13 (v := ?_) rfl (by kernel_rfl) (by kernel_rfl) (by kernel_rfl) (fun _ _ _ h => h) (by kernel_rfl) ?_ hS1 ?_
                  rotate_left
                  · (intro W hW; clear hW; go_simp; try with_reducible rfl)
                  refine gTake 14 (v := ?_) rfl (by kernel_rfl) (by kernel_rfl) (by kernel_rfl) (fun _ _ _ h => h) (by kernel_rfl) ?_ hS1 ?_
                  rotate_left
                  · (intro W hW; have q0 := hW.1; have q1 := hW.2.1; have q2 := hW.2.2.1; have q3 := hW.2.2.2.1; clear hW; go_simp; try with_reducible rfl)
                  refine gTake 15 (v := ?_) rfl (by kernel_rfl) (by kernel_rfl) (by kernel_rfl) (fun _ _ _ h => h) (by kernel_rfl) ?_ hS1 ?_
                  rotate_left
                  · (intro W hW; clear hW; go_simp; try with_reducible rfl)
                  refine gTake 16 (v := ?_) rfl (by kernel_rfl) (by kernel_rfl) (by kernel_rfl) (fun _ _ _ h => h) (by kernel_rfl) ?_ hS1 ?_
                  rotate_left
                  · (intro W hW; clear hW; go_simp; (try rw [HDN.out]); try with_reducible rfl)
                  refine gTake 17 (v := ?_) rfl (by kernel_rfl) (by kernel_rfl) (by kernel_rfl) (fun _ _ _ h => h) (by kernel_rfl) ?_ hS1 ?_
                  rotate_left
                  · (intro W hW; clear hW; go_simp; try with_reducible rfl)
                  refine gTake 18 (v := ?_) rfl (by kernel_rfl) (by kernel_rfl) (by kernel_rfl) (fun _ _ _ h => h) (by kernel_rfl) ?_ hS1 ?_
                  rotate_left
                  · (intro W hW; clear hW; go_simp; try with_reducible rfl)
                  refine gTake 19 (v := ?_) rfl (by kernel_rfl) (by kernel_rfl) (by kernel_rfl) (fun _ _ _ h => h) (by kernel_rfl) ?_ hS1 ?_
                  rotate_left
                  · (intro W hW; clear hW; go_simp; try with_reducible rfl)
                  refine gTake 20 (v := ?_) rfl (by kernel_rfl) (by kernel_rfl) (by kernel_rfl) (fun _ _ _ h => h) (by kernel_rfl) ?_ hS1 ?_
                  rotate_left
                  · (intro W hW; clear hW; go_simp; try with_reducible rfl)
                  refine gTake 21 (v := ?_) rfl (by kernel_rfl) (by kernel_rfl) (by kernel_rfl) (fun _ _ _ h => h) (by kernel_rfl) ?_ hS1 ?_
                  rotate_left
                  · (intro W hW; clear hW; go_simp; try with_reducible rfl)
                  refine gTake 22 (v := ?_) rfl (by kernel_rfl) (by kernel_rfl) (by kernel_rfl) (fun _ _ _ h => h) (by kernel_rfl) ?_ hS1 ?_
                  rotate_left
                  · (intro W hW; clear hW; go_simp; try with_reducible rfl)
                  refine gTake 23 (v := ?_) rfl (by kernel_rfl) (by kernel_rfl) (by kernel_rfl) (fun _ _ _ h => h) (by kernel_rfl) ?_ hS1 ?_
                  rotate_left
                  · (intro W hW; clear hW; go_simp; try with_reducible rfl)
                  refine gTake 24 (v := ?_) rfl (by kernel_rfl) (by kernel_rfl) (by kernel_rfl) (fun _ _ _ h => h) (by kernel_rfl) ?_ hS1 ?_
                  rotate_left
                  · (intro W hW; clear hW; go_simp; try with_reducible rfl)
                  refine gTake 25 (v := ?_) rfl (by kernel_rfl) (by kernel_rfl) (by kernel_rfl) (fun _ _ _ h => h) (by kernel_rfl) ?_ hS1 ?_
                  rotate_left
                  · (intro W hW; clear hW; go_simp; try with_reducible rfl)
                  refine gTake 26 (v := ?_) rfl (by kernel_rfl) (by kernel_rfl) (by kernel_rfl) (fun _ _ _ h => h) (by kernel_rfl) ?_ hS1 ?_
                  rotate_left
                  · (intro W hW; clear hW; go_simp; try with_reducible rfl)
                  refine gTake 27 (v := ?_) rfl (by kernel_rfl) (by kernel_rfl) (by kernel_rfl) (fun _ _ _ h => h) (by kernel_rfl) ?_ hS1 ?_
                  rotate_left
                  · (intro W hW; have q0 := hW.1; have q1 := hW.2.1; have q2 := hW.2.2.1; have q3 := hW.2.2.2.1; clear hW; go_simp; try with_reducible rfl)
                  refine gTake 28 (v := ?_) rfl (by kernel_rfl) (by kernel_rfl) (by kernel_rfl) (fun _ _ _ h => h) (by kernel_rfl) ?_ hS1 ?_
                  rotate_left
                  · (intro W hW; clear hW; go_simp; try with_reducible rfl)
                  refine gTake 29 (v := ?_) rfl (by kernel_rfl) (by kernel_rfl) (by kernel_rfl) (fun _ _ _ h => h) (by kernel_rfl) ?_ hS1 ?_
                  rotate_left
                  · (intro W hW; clear hW; go_simp; try with_reducible rfl)
                  refine gTake 30 (v := ?_) rfl (by kernel_rfl) (by kernel_rfl) (by kernel_rfl) (fun _ _ _ h => h) (by kernel_rfl) ?_ hS1 ?_
                  rotate_left
                  · (intro W hW; clear hW; go_simp; try with_reducible rfl)
                  refine gTake 31 (v := ?_) rfl (by kernel_rfl) (by kernel_rfl) (by kernel_rfl) (fun _ _ _ h => h) (by kernel_rfl) ?_ hS1 ?_
                  rotate_left
                  · (intro W hW; clear hW; go_simp; try with_reducible rfl)
                  refine gTake 32 (v := ?_) rfl (by kernel_rfl) (by kernel_rfl) (by kernel_rfl) (fun _ _ _ h => h) (by kernel_rfl) ?_ hS1 ?_
                  rotate_left
                  · (intro W hW; have q0 := hW.1; have q1 := hW.2.1; have q2 := hW.2.2.1; have q3 := hW.2.2.2.1; clear hW; go_simp; try with_reducible rfl)
                  refine gTake 33 (v := ?_) rfl (by kernel_rfl) (by kernel_rfl) (by kernel_rfl) (fun _ _ _ h => h) (by kernel_rfl) ?_ hS1 ?_
                  rotate_left
                  · (intro W hW; clear hW; go_simp; try with_reducible rfl)
                  refine gTake 34 (v := ?_) rfl (by kernel_rfl) (by kernel_rfl) (by kernel_rfl) (fun _ _ _ h => h) (by kernel_rfl) ?_ hS1 ?_
                  rotate_left
                  · (intro W hW; clear hW; go_simp; try with_reducible rfl)
                  refine gTake 35 (v := ?_) rfl (by kernel_rfl) (by kernel_rfl) (by kernel_rfl) (fun _ _ _ h => h) (by kernel_rfl) ?_ hS1 ?_
                  rotate_left
                  · (intro W hW; clear hW; go_simp; try with_reducible rfl)
                  refine wpAnyH_done (by kernel_rfl) ?_ _
                  go_simp
                  go_wp2
                  go_ret
                  exact ⟨ret_bool HF.out.symm, hbel.trans (hS1.2.2.2.2.mono hbel.size)⟩
                · have hq := HT.out
                  rw [hls] at hq
                  replace hq : (Op.bytesLess s.toList ps.toList || s.toList == ps.toList) = false := hq.symm
                  have HGOOD := Lib.hid (show dGood xs.length ds k = dNew ds k by rw [HGF.out, hd1, decide_eq_true han, hls]; simp)
                  go_wp2_with fail
                  refine wp_region_held (S := fun w' => w'.cell? ⟨bd, off + k * 4, none⟩ = some (.string s) ∧ w'.cell? ⟨bd, off + k * 4 + 1, none⟩ = some (.int .i64 a) ∧ w'.cell? ⟨b, 1, none⟩ = some (.slice A xs.length cap) ∧ w'.cell? ⟨bd, off + j1 * 4, none⟩ = some (.string ps) ∧ Below wo.heap.size wo w') (by kernel_rfl) ?_
                  try (change wpAnyH _ _ _ _ _ _ _ _ (World.drew _))
                  have hS0 := (show wo.drew.cell? ⟨bd, off + k * 4, none⟩ = some (.string s) ∧ wo.drew.cell? ⟨bd, off + k * 4 + 1, none⟩ = some (.int .i64 a) ∧ wo.drew.cell? ⟨b, 1, none⟩ = some (.slice A xs.length cap) ∧ wo.drew.cell? ⟨bd, off + j1 * 4, none⟩ = some (.string ps) ∧ Below wo.heap.size wo wo.drew from ⟨c0, c1, kA, g0, Below.drew (Below.refl _ _)⟩)
                  refine gTake 0 (v := ?_) rfl (by kernel_rfl) (by kernel_rfl) (by kernel_rfl) (fun _ _ _ h => h) (by kernel_rfl) ?_ hS0 ?_
                  rotate_left
                  · (intro W hW; clear hW; go_simp; try with_reducible rfl)
                  refine gTake 1 (v := ?_) rfl (by kernel_rfl) (by kernel_rfl) (by kernel_rfl) (fun _ _ _ h => h) (by kernel_rfl) ?_ hS0 ?_
                  rotate_left
                  · (intro W hW; clear hW; go_simp; try with_reducible rfl)
                  refine gTake 2 (v := ?_) rfl (by kernel_rfl) (by kernel_rfl) (by kernel_rfl) (fun _ _ _ h => h) (by kernel_rfl) ?_ hS0 ?_
                  rotate_left
                  · (intro W hW; clear hW; go_simp; try with_reducible rfl)
                  refine gOne 3 rfl (by kernel_rfl) (by kernel_rfl) (fun K hK => ?_)
                  go_simp
                  go_at_call 71
                  (with_reducible refine (l10One_below bd (off + k * 4) s a op sh _ hsz ((doAt_mk c0 c1 c2 c3).below hS0.2.2.2.2 hbd)).mono ?_)
                  rintro e wq0 ⟨rfl, hdq0⟩
                  try go_simp
                  have hS1 := (show wq0.cell? ⟨bd, off + k * 4, none⟩ = some (.string s) ∧ wq0.cell? ⟨bd, off + k * 4 + 1, none⟩ = some (.int .i64 a) ∧ wq0.cell? ⟨b, 1, none⟩ = some (.slice A xs.length cap) ∧ wq0.cell? ⟨bd, off + j1 * 4, none⟩ = some (.string ps) ∧ Below wo.heap.size wo wq0 from ⟨cellK hS0.1 hdq0, cellK hS0.2.1 hdq0, cellK hS0.2.2.1 hdq0, cellK hS0.2.2.2.1 hdq0, hS0.2.2.2.2.trans (hdq0.mono hS0.2.2.2.2.size)⟩)
                  refine hK _ _ hS1 ?_
                  clear hK K
                  refine gTake 4 (v := ?_) rfl (by kernel_rfl) (by kernel_rfl) (by kernel_rfl) (fun _ _ _ h => h) (by kernel_rfl) ?_ hS1 ?_
                  rotate_left
                  · (intro W hW; clear hW; go_simp; try with_reducible rfl)
                  refine gTake 5 (v := ?_) rfl (by kernel_rfl) (by kernel_rfl) (by kernel_rfl) (fun _ _ _ h => h) (by kernel_rfl) ?_ hS1 ?_
                  rotate_left
                  · (intro W hW; clear hW; go_simp; try with_reducible rfl)
                  refine gTake 6 (v := ?_) rfl (by kernel_rfl) (by kernel_rfl) (by kernel_rfl) (fun _ _ _ h => h) (by kernel_rfl) ?_ hS1 ?_
                  rotate_left
                  · (intro W hW; clear hW; go_simp; try with_reducible rfl)
                  refine gTake 7 (v := ?_) rfl (by kernel_rfl) (by kernel_rfl) (by kernel_rfl) (fun _ _ _ h => h) (by kernel_rfl) ?_ hS1 ?_
                  rotate_left
                  · (intro W hW; clear hW; go_simp; try with_reducible rfl)
                  refine gTake 8 (v := ?_) rfl (by kernel_rfl) (by kernel_rfl) (by kernel_rfl) (fun _ _ _ h => h) (by kernel_rfl) ?_ hS1 ?_
                  rotate_left
                  · (intro W hW; clear hW; go_simp; try with_reducible rfl)
                  refine gTake 9 (v := ?_) rfl (by kernel_rfl) (by kernel_rfl) (by kernel_rfl) (fun _ _ _ h => h) (by kernel_rfl) ?_ hS1 ?_
                  rotate_left
                  · (intro W hW; clear hW; go_simp; try with_reducible rfl)
                  refine gTake 10 (v := ?_) rfl (by kernel_rfl) (by kernel_rfl) (by kernel_rfl) (fun _ _ _ h => h) (by kernel_rfl) ?_ hS1 ?_
                  rotate_left
                  · (intro W hW; have q0 := hW.1; have q1 := hW.2.1; have q2 := hW.2.2.1; have q3 := hW.2.2.2.1; clear hW; go_simp; try with_reducible rfl)
                  refine gTake 11 (v := ?_) rfl (by kernel_rfl) (by kernel_rfl) (by kernel_rfl) (fun _ _ _ h => h) (by kernel_rfl) ?_ hS1 ?_
                  rotate_left
                  · (intro W hW; clear hW; go_simp; try with_reducible rfl)
                  refine gTake 12 (v := ?_) rfl (by kernel_rfl) (by kernel_rfl) (by kernel_rfl) (fun _ _ _ h => h) (by kernel_rfl) ?_ hS1 ?_
                  rotate_left
                  · (intro W hW; clear hW; go_simp; try with_reducible rfl)
                  refine gTake 13 (v := ?_) rfl (by kernel_rfl) (by kernel_rfl) (by kernel_rfl) (fun _ _ _ h => h) (by kernel_rfl) ?_ hS1 ?_
                  rotate_left
                  · (intro W hW; clear hW; go_simp; try with_reducible rfl)
                  refine gTake 14 (v := ?_) rfl (by kernel_rfl) (by kernel_rfl) (by kernel_rfl) (fun _ _ _ h => h) (by kernel_rfl) ?_ hS1 ?_
                  rotate_left
                  · (intro W hW; have q0 := hW.1; have q1 := hW.2.1; have q2 := hW.2.2.1; have q3 := hW.2.2.2.1; clear hW; go_simp; try with_reducible rfl)
                  refine gTake 15 (v := ?_) rfl (by kernel_rfl) (by kernel_rfl) (by kernel_rfl) (fun _ _ _ h => h) (by kernel_rfl) ?_ hS1 ?_
                  rotate_left
                  · (intro W hW; clear hW; go_simp; try with_reducible rfl)
                  refine gTake 16 (v := ?_) rfl (by kernel_rfl) (by kernel_rfl) (by kernel_rfl) (fun _ _ _ h => h) (by kernel_rfl) ?_ hS1 ?_
                  rotate_left
                  · (intro W hW; clear hW; go_simp; (try rw [HDN.out]); try with_reducible rfl)
                  refine gTake 17 (v := ?_) rfl (by kernel_rfl) (by kernel_rfl) (by kernel_rfl) (fun _ _ _ h => h) (by kernel_rfl) ?_ hS1 ?_
                  rotate_left
                  · (intro W hW; clear hW; go_simp; try with_reducible rfl)
                  refine gTake 18 (v := ?_) rfl (by kernel_rfl) (by kernel_rfl) (by kernel_rfl) (fun _ _ _ h => h) (by kernel_rfl) ?_ hS1 ?_
                  rotate_left
                  · (intro W hW; clear hW; go_simp; try with_reducible rfl)
                  refine gTake 19 (v := ?_) rfl (by kernel_rfl) (by kernel_rfl) (by kernel_rfl) (fun _ _ _ h => h) (by kernel_rfl) ?_ hS1 ?_
                  rotate_left
                  · (intro W hW; clear hW; go_simp; try with_reducible rfl)
                  refine gTake 20 (v := ?_) rfl (by kernel_rfl) (by kernel_rfl) (by kernel_rfl) (fun _ _ _ h => h) (by kernel_rfl) ?_ hS1 ?_
                  rotate_left
                  · (intro W hW; clear hW; go_simp; try with_reducible rfl)
                  refine gTake 21 (v := ?_) rfl (by kernel_rfl) (by kernel_rfl) (by kernel_rfl) (fun _ _ _ h => h) (by kernel_rfl) ?_ hS1 ?_
                  rotate_left
                  · (intro W hW; clear hW; go_simp; try with_reducible rfl)
                  refine gTake 22 (v := ?_) rfl (by kernel_rfl) (by kernel_rfl) (by kernel_rfl) (fun _ _ _ h => h) (by kernel_rfl) ?_ hS1 ?_
                  rotate_left
                  · (intro W hW; clear hW; go_simp; try with_reducible rfl)
                  refine gTake 23 (v := ?_) rfl (by kernel_rfl) (by kernel_rfl) (by kernel_rfl) (fun _ _ _ h => h) (by kernel_rfl) ?_ hS1 ?_
                  rotate_left
                  · (intro W hW; clear hW; go_simp; try with_reducible rfl)
                  refine gTake 24 (v := ?_) rfl (by kernel_rfl) (by kernel_rfl) (by kernel_rfl) (fun _ _ _ h => h) (by kernel_rfl) ?_ hS1 ?_
                  rotate_left
                  · (intro W hW; clear hW; go_simp; try with_reducible rfl)
                  refine gTake 25 (v := ?_) rfl (by kernel_rfl) (by kernel_rfl) (by kernel_rfl) (fun _ _ _ h => h) (by kernel_rfl) ?_ hS1 ?_
                  rotate_left
                  · (intro W hW; clear hW; go_simp; try with_reducible rfl)
                  refine gTake 26 (v := ?_) rfl (by kernel_rfl) (by kernel_rfl) (by kernel_rfl) (fun _ _ _ h => h) (by kernel_rfl) ?_ hS1 ?_
                  rotate_left
                  · (intro W hW; clear hW; go_simp; try with_reducible rfl)
                  refine gTake 27 (v := ?_) rfl (by kernel_rfl) (by kernel_rfl) (by kernel_rfl) (fun _ _ _ h => h) (by kernel_rfl) ?_ hS1 ?_
                  rotate_left
                  · (intro W hW; have q0 := hW.1; have q1 := hW.2.1; have q2 := hW.2.2.1; have q3 := hW.2.2.2.1; clear hW; go_simp; try with_reducible rfl)
                  refine gTake 28 (v := ?_) rfl (by kernel_rfl) (by kernel_rfl) (by kernel_rfl) (fun _ _ _ h => h) (by kernel_rfl) ?_ hS1 ?_
                  rotate_left
                  · (intro W hW; clear hW; go_simp; try with_reducible rfl)
                  refine gTake 29 (v := ?_) rfl (by kernel_rfl) (by kernel_rfl) (by kernel_rfl) (fun _ _ _ h => h) (by kernel_rfl) ?_ hS1 ?_
                  rotate_left
                  · (intro W hW; clear hW; go_simp; try with_reducible rfl)
                  refine gTake 30 (v := ?_) rfl (by kernel_rfl) (by kernel_rfl) (by kernel_rfl) (fun _ _ _ h => h) (by kernel_rfl) ?_ hS1 ?_
                  rotate_left
                  · (intro W hW; clear hW; go_simp; try with_reducible rfl)
                  refine gTake 31 (v := ?_) rfl (by kernel_rfl) (by kernel_rfl) (by kernel_rfl) (fun _ _ _ h => h) (by kernel_rfl) ?_ hS1 ?_
                  rotate_left
                  · (intro W hW; clear hW; go_simp; try with_reducible rfl)
                  refine gTake 32 (v := ?_) rfl (by kernel_rfl) (by kernel_rfl) (by kernel_rfl) (fun _ _ _ h => h) (by kernel_rfl) ?_ hS1 ?_
                  rotate_left
                  · (intro W hW; have q0 := hW.1; have q1 := hW.2.1; have q2 := hW.2.2.1; have q3 := hW.2.2.2.1; clear hW; go_simp; try with_reducible rfl)
                  refine gTake 33 (v := ?_) rfl (by kernel_rfl) (by kernel_rfl) (by kernel_rfl) (fun _ _ _ h => h) (by kernel_rfl) ?_ hS1 ?_
                  rotate_left
                  · (intro W hW; clear hW; go_simp; try with_reducible rfl)
                  refine gTake 34 (v := ?_) rfl (by kernel_rfl) (by kernel_rfl) (by kernel_rfl) (fun _ _ _ h => h) (by kernel_rfl) ?_ hS1 ?_
                  rotate_left
                  · (intro W hW; clear hW; go_simp; try with_reducible rfl)
                  refine gTake 35 (v := ?_) rfl (by kernel_rfl) (by kernel_rfl) (by kernel_rfl) (fun _ _ _ h => h) (by kernel_rfl) ?_ hS1 ?_
                  rotate_left
                  · (intro W hW; clear hW; go_simp; try with_reducible rfl)
                  refine wpAnyH_done (by kernel_rfl) ?_ _
                  go_simp
                  have HBO := Lib.hid (hbel.trans (hS1.2.2.2.2.mono hbel.size))
                  go_wp2
                  go_loopw [6] (fun q wr2 => ∃ t : Nat, t ≤ k ∧ q = .int .i64 t ∧ Hid (∀ j, j < t → (dAt ds j).a ≠ a) ∧ Below w.heap.size w wr2) (fun q wr2 => k - (intOf q).toNat)
                  case atStart => exact ⟨0, by omega, rfl, Lib.hid (fun j hj => absurd hj (by omega)), HBO.out⟩
                  case round =>
                    obtain ⟨t, ht, rfl, HU, hbe2⟩ := hrel
                    obtain ⟨wi, rfl⟩ : ∃ wi : World, wi = wr := ⟨_, rfl⟩
                    by_cases htk : t < k
                    · obtain ⟨b2, off2, e2, hr2⟩ := (HD.out.below hbe2) k hlt
                      injection e2 with e2
                      injection e2 with e21 e22
                      subst e21
                      subst e22
                      have m1 : wi.cell? ⟨bd, off + k * 4 + 1, none⟩ = some (.int .i64 a) := (do_lay hr2).2.1.trans (by rw [HDK.out])
                      obtain ⟨b2, off2, e2, hr2⟩ := (HD.out.below hbe2) t (by omega)
                      injection e2 with e2
                      injection e2 with e21 e22
                      subst e21
                      subst e22
                      have n1 := (do_lay hr2).2.1
                      have HTA := Lib.hid (show (dAt ds t).a = ds[t].a by rw [dAt_lt (show t < ds.length by omega)])
                      clear hr2
                      generalize (ds[t]).a = y at *
                      have htl : t < ds.length := by omega
                      by_cases hya : y = a
                      · have HF := Lib.hid (HV.out.trans (dsOk_bad (n := xs.length) hlt (by
                          have hnw : dNew ds k = false := by
                            rw [HNE.out]
                            exact decide_eq_false (fun h => h t htk (HTA.out.trans hya))
                          rw [HGE.out, hnw]; simp)))
                        go_wp2_with fail
                        refine wp_region_held (S := fun w' => w'.cell? ⟨bd, off + k * 4 + 1, none⟩ = some (.int .i64 a) ∧ w'.cell? ⟨bd, off + t * 4 + 1, none⟩ = some (.int .i64 y) ∧ Below wi.heap.size wi w') (by kernel_rfl) ?_
                        try (change wpAnyH _ _ _ _ _ _ _ _ (World.drew _))
                        have hS0 := (show wi.drew.cell? ⟨bd, off + k * 4 + 1, none⟩ = some (.int .i64 a) ∧ wi.drew.cell? ⟨bd, off + t * 4 + 1, none⟩ = some (.int .i64 y) ∧ Below wi.heap.size wi wi.drew from ⟨m1, n1, Below.drew (Below.refl _ _)⟩)
                        refine gTake 0 (v := ?_) rfl (by kernel_rfl) (by kernel_rfl) (by kernel_rfl) (fun _ _ _ h => h) (by kernel_rfl) ?_ hS0 ?_
                        rotate_left
                        · (intro W hW; clear hW; go_simp; try with_reducible rfl)
                        refine gTake 1 (v := ?_) rfl (by kernel_rfl) (by kernel_rfl) (by kernel_rfl) (fun _ _ _ h => h) (by kernel_rfl) ?_ hS0 ?_
                        rotate_left
                        · (intro W hW; clear hW; go_simp; try with_reducible rfl)
                        refine gTake 2 (v := ?_) rfl (by kernel_rfl) (by kernel_rfl) (by kernel_rfl) (fun _ _ _ h => h) (by kernel_rfl) ?_ hS0 ?_
                        rotate_left
                        · (intro W hW; clear hW; go_simp; try with_reducible rfl)
                        refine gTake 3 (v := ?_) rfl (by kernel_rfl) (by kernel_rfl) (by kernel_rfl) (fun _ _ _ h => h) (by kernel_rfl) ?_ hS0 ?_
                        rotate_left
                        · (intro W hW; clear hW; go_simp; try with_reducible rfl)
                        refine gTake 4 (v := ?_) rfl (by kernel_rfl) (by kernel_rfl) (by kernel_rfl) (fun _ _ _ h => h) (by kernel_rfl) ?_ hS0 ?_
                        rotate_left
                        · (intro W hW; have q0 := hW.1; have q1 := hW.2.1; clear hW; go_simp; try with_reducible rfl)
                        refine gTake 5 (v := ?_) rfl (by kernel_rfl) (by kernel_rfl) (by kernel_rfl) (fun _ _ _ h => h) (by kernel_rfl) ?_ hS0 ?_
                        rotate_left
                        · (intro W hW; clear hW; go_simp; try with_reducible rfl)
                        refine gTake 6 (v := ?_) rfl (by kernel_rfl) (by kernel_rfl) (by kernel_rfl) (fun _ _ _ h => h) (by kernel_rfl) ?_ hS0 ?_
                        rotate_left
                        · (intro W hW; clear hW; go_simp; try with_reducible rfl)
                        refine gTake 7 (v := ?_) rfl (by kernel_rfl) (by kernel_rfl) (by kernel_rfl) (fun _ _ _ h => h) (by kernel_rfl) ?_ hS0 ?_
                        rotate_left
                        · (intro W hW; clear hW; go_simp; try with_reducible rfl)
                        refine gTake 8 (v := ?_) rfl (by kernel_rfl) (by kernel_rfl) (by kernel_rfl) (fun _ _ _ h => h) (by kernel_rfl) ?_ hS0 ?_
                        rotate_left
                        · (intro W hW; clear hW; go_simp; try with_reducible rfl)
                        refine gTake 9 (v := ?_) rfl (by kernel_rfl) (by kernel_rfl) (by kernel_rfl) (fun _ _ _ h => h) (by kernel_rfl) ?_ hS0 ?_
                        rotate_left
                        · (intro W hW; have q0 := hW.1; have q1 := hW.2.1; clear hW; go_simp; try with_reducible rfl)
                        refine gTake 10 (v := ?_) rfl (by kernel_rfl) (by kernel_rfl) (by kernel_rfl) (fun _ _ _ h => h) (by kernel_rfl) ?_ hS0 ?_
                        rotate_left
                        · (intro W hW; clear hW; go_simp; try with_reducible rfl)
                        refine wpAnyH_done (by kernel_rfl) ?_ _
                        go_simp
                        go_wp2
                        go_ret
                        exact ⟨ret_bool HF.out.symm, hbe2.trans (hS0.2.2.mono hbe2.size)⟩
                      · go_wp2_with fail
                        refine wp_region_held (S := fun w' => w'.cell? ⟨bd, off + k * 4 + 1, none⟩ = some (.int .i64 a) ∧ w'.cell? ⟨bd, off + t * 4 + 1, none⟩ = some (.int .i64 y) ∧ Below wi.heap.size wi w') (by kernel_rfl) ?_
                        try (change wpAnyH _ _ _ _ _ _ _ _ (World.drew _))
                        have hS0 := (show wi.drew.cell? ⟨bd, off + k * 4 + 1, none⟩ = some (.int .i64 a) ∧ wi.drew.cell? ⟨bd, off + t * 4 + 1, none⟩ = some (.int .i64 y) ∧ Below wi.heap.size wi wi.drew from ⟨m1, n1, Below.drew (Below.refl _ _)⟩)
                        refine gTake 0 (v := ?_) rfl (by kernel_rfl) (by kernel_rfl) (by kernel_rfl) (fun _ _ _ h => h) (by kernel_rfl) ?_ hS0 ?_
                        rotate_left
                        · (intro W hW; clear hW; go_simp; try with_reducible rfl)
                        refine gTake 1 (v := ?_) rfl (by kernel_rfl) (by kernel_rfl) (by kernel_rfl) (fun _ _ _ h => h) (by kernel_rfl) ?_ hS0 ?_
                        rotate_left
                        · (intro W hW; clear hW; go_simp; try with_reducible rfl)
                        refine gTake 2 (v := ?_) rfl (by kernel_rfl) (by kernel_rfl) (by kernel_rfl) (fun _ _ _ h => h) (by kernel_rfl) ?_ hS0 ?_
                        rotate_left
                        · (intro W hW; clear hW; go_simp; try with_reducible rfl)
                        refine gTake 3 (v := ?_) rfl (by kernel_rfl) (by kernel_rfl) (by kernel_rfl) (fun _ _ _ h => h) (by kernel_rfl) ?_ hS0 ?_
                        rotate_left
                        · (intro W hW; clear hW; go_simp; try with_reducible rfl)
                        refine gTake 4 (v := ?_) rfl (by kernel_rfl) (by kernel_rfl) (by kernel_rfl) (fun _ _ _ h => h) (by kernel_rfl) ?_ hS0 ?_
                        rotate_left
                        · (intro W hW; have q0 := hW.1; have q1 := hW.2.1; clear hW; go_simp; try with_reducible rfl)
                        refine gTake 5 (v := ?_) rfl (by kernel_rfl) (by kernel_rfl) (by kernel_rfl) (fun _ _ _ h => h) (by kernel_rfl) ?_ hS0 ?_
                        rotate_left
                        · (intro W hW; clear hW; go_simp; try with_reducible rfl)
                        refine gTake 6 (v := ?_) rfl (by kernel_rfl) (by kernel_rfl) (by kernel_rfl) (fun _ _ _ h => h) (by kernel_rfl) ?_ hS0 ?_
                        rotate_left
                        · (intro W hW; clear hW; go_simp; try with_reducible rfl)
                        refine gTake 7 (v := ?_) rfl (by kernel_rfl) (by kernel_rfl) (by kernel_rfl) (fun _ _ _ h => h) (by kernel_rfl) ?_ hS0 ?_
                        rotate_left
                        · (intro W hW; clear hW; go_simp; try with_reducible rfl)
                        refine gTake 8 (v := ?_) rfl (by kernel_rfl) (by kernel_rfl) (by kernel_rfl) (fun _ _ _ h => h) (by kernel_rfl) ?_ hS0 ?_
                        rotate_left
                        · (intro W hW; clear hW; go_simp; try with_reducible rfl)
                        refine gTake 9 (v := ?_) rfl (by kernel_rfl) (by kernel_rfl) (by kernel_rfl) (fun _ _ _ h => h) (by kernel_rfl) ?_ hS0 ?_
                        rotate_left
                        · (intro W hW; have q0 := hW.1; have q1 := hW.2.1; clear hW; go_simp; try with_reducible rfl)
                        refine gTake 10 (v := ?_) rfl (by kernel_rfl) (by kernel_rfl) (by kernel_rfl) (fun _ _ _ h => h) (by kernel_rfl) ?_ hS0 ?_
                        rotate_left
                        · (intro W hW; clear hW; go_simp; try with_reducible rfl)
                        refine wpAnyH_done (by kernel_rfl) ?_ _
                        go_simp
                        go_wp2
                        go_roundw
                        case rel => exact ⟨t + 1, by omega, by go_num, Lib.hid (fun j hj => by
                          rcases Nat.lt_or_ge j t with q | q
                          · exact HU.out j q
                          · obtain rfl : j = t := by omega
                            rw [HTA.out]; exact hya), hbe2.trans (hS0.2.2.mono hbe2.size)⟩
                        case measure => simp [intOf]; omega
                    · obtain rfl : t = k := by omega
                      have HF := Lib.hid (show dGood xs.length ds t = true by
                        have hnw : dNew ds t = true := by
                          rw [HNE.out]
                          exact decide_eq_true HU.out
                        rw [HGOOD.out, hnw])
                      go_wp2
                      go_roundw
                      case rel => exact ⟨t + 1, by omega, by go_num, Lib.hid (fun j hj => by
                        rcases Nat.lt_or_ge j t with q | q
                        · exact HG.out j q
                        · obtain rfl : j = t := by omega
                          exact HF.out), hbe2⟩
                      case measure => simp [intOf]; omega
            · have HDN := Lib.hid (show decide ((xs.length : Int) ≤ a) = true from decide_eq_true (by omega))
              have HF := Lib.hid (dsOk_bad (n := xs.length) hlt (by rw [HGE.out, decide_eq_false han]; simp))
              rw [← HV.out] at HF
              go_wp2_with fail
              refine wp_region_held (S := fun w' => w'.cell? ⟨bd, off + k * 4, none⟩ = some (.string s) ∧ w'.cell? ⟨bd, off + k * 4 + 1, none⟩ = some (.int .i64 a) ∧ w'.cell? ⟨b, 1, none⟩ = some (.slice A xs.length cap) ∧ Below wo.heap.size wo w') (by kernel_rfl) ?_
              try (change wpAnyH _ _ _ _ _ _ _ _ (World.drew _))
              have hS0 := (show wo.drew.cell? ⟨bd, off + k * 4, none⟩ = some (.string s) ∧ wo.drew.cell? ⟨bd, off + k * 4 + 1, none⟩ = some (.int .i64 a) ∧ wo.drew.cell? ⟨b, 1, none⟩ = some (.slice A xs.length cap) ∧ Below wo.heap.size wo wo.drew from ⟨c0, c1, kA, Below.drew (Below.refl _ _)⟩)
              refine gTake 0 (v := ?_) rfl (by kernel_rfl) (by kernel_rfl) (by kernel_rfl) (fun _ _ _ h => h) (by kernel_rfl) ?_ hS0 ?_
              rotate_left
              · (intro W hW; clear hW; go_simp; try with_reducible rfl)
              refine gTake 1 (v := ?_) rfl (by kernel_rfl) (by kernel_rfl) (by kernel_rfl) (fun _ _ _ h => h) (by kernel_rfl) ?_ hS0 ?_
              rotate_left
              · (intro W hW; clear hW; go_simp; try with_reducible rfl)
              refine gTake 2 (v := ?_) rfl (by kernel_rfl) (by kernel_rfl) (by kernel_rfl) (fun _ _ _ h => h) (by kernel_rfl) ?_ hS0 ?_
              rotate_left
              · (intro W hW; clear hW; go_simp; try with_reducible rfl)
              refine gOne 3 rfl (by kernel_rfl) (by kernel_rfl) (fun K hK => ?_)
              go_simp
              go_at_call 71
              (with_reducible refine (l10One_below bd (off + k * 4) s a op sh _ hsz ((doAt_mk c0 c1 c2 c3).below hS0.2.2.2 hbd)).mono ?_)
              rintro e wq0 ⟨rfl, hdq0⟩
              try go_simp
              have hS1 := (show wq0.cell? ⟨bd, off + k * 4, none⟩ = some (.string s) ∧ wq0.cell? ⟨bd, off + k * 4 + 1, none⟩ = some (.int .i64 a) ∧ wq0.cell? ⟨b, 1, none⟩ = some (.slice A xs.length cap) ∧ Below wo.heap.size wo wq0 from ⟨cellK hS0.1 hdq0, cellK hS0.2.1 hdq0, cellK hS0.2.2.1 hdq0, hS0.2.2.2.trans (hdq0.mono hS0.2.2.2.size)⟩)
              refine hK _ _ hS1 ?_
              clear hK K
              refine gTake 4 (v := ?_) rfl (by kernel_rfl) (by kernel_rfl) (by kernel_rfl) (fun _ _ _ h => h) (by kernel_rfl) ?_ hS1 ?_
              rotate_left
              · (intro W hW; clear hW; go_simp; try with_reducible rfl)
              refine gTake 5 (v := ?_) rfl (by kernel_rfl) (by kernel_rfl) (by kernel_rfl) (fun _ _ _ h => h) (by kernel_rfl) ?_ hS1 ?_
              rotate_left
              · (intro W hW; clear hW; go_simp; try with_reducible rfl)
              refine gTake 6 (v := ?_) rfl (by kernel_rfl) (by kernel_rfl) (by kernel_rfl) (fun _ _ _ h => h) (by kernel_rfl) ?_ hS1 ?_
              rotate_left
              · (intro W hW; clear hW; go_simp; try with_reducible rfl)
              refine gTake 7 (v := ?_) rfl (by kernel_rfl) (by kernel_rfl) (by kernel_rfl) (fun _ _ _ h => h) (by kernel_rfl) ?_ hS1 ?_
              rotate_left
              · (intro W hW; clear hW; go_simp; try with_reducible rfl)
              refine gTake 8 (v := ?_) rfl (by kernel_rfl) (by kernel_rfl) (by kernel_rfl) (fun _ _ _ h => h) (by kernel_rfl) ?_ hS1 ?_
              rotate_left
              · (intro W hW; clear hW; go_simp; try with_reducible rfl)
              refine gTake 9 (v := ?_) rfl (by kernel_rfl) (by kernel_rfl) (by kernel_rfl) (fun _ _ _ h => h) (by kernel_rfl) ?_ hS1 ?_
              rotate_left
              · (intro W hW; clear hW; go_simp; try with_reducible rfl)
              refine gTake 10 (v := ?_) rfl (by kernel_rfl) (by kernel_rfl) (by kernel_rfl) (fun _ _ _ h => h) (by kernel_rfl) ?_ hS1 ?_
              rotate_left
              · (intro W hW; have q0 := hW.1; have q1 := hW.2.1; have q2 := hW.2.2.1; clear hW; go_simp; try with_reducible rfl)
              refine gTake 11 (v := ?_) rfl (by kernel_rfl) (by kernel_rfl) (by kernel_rfl) (fun _ _ _ h => h) (by kernel_rfl) ?_ hS1 ?_
              rotate_left
              · (intro W hW; clear hW; go_simp; try with_reducible rfl)
              refine gTake 12 (v := ?_) rfl (by kernel_rfl) (by kernel_rfl) (by kernel_rfl) (fun _ _ _ h => h) (by kernel_rfl) ?_ hS1 ?_
              rotate_left
              · (intro W hW; clear hW; go_simp; try with_reducible rfl)
              refine gTake 13 (v := ?_) rfl (by kernel_rfl) (by kernel_rfl) (by kernel_rfl) (fun _ _ _ h => h) (by kernel_rfl) ?_ hS1 ?_
              rotate_left
              · (intro W hW; clear hW; go_simp; try with_reducible rfl)
              refine gTake 14 (v := ?_) rfl (by kernel_rfl) (by kernel_rfl) (by kernel_rfl) (fun _ _ _ h => h) (by kernel_rfl) ?_ hS1 ?_
              rotate_left
              · (intro W hW; have q0 := hW.1; have q1 := hW.2.1; have q2 := hW.2.2.1; clear hW; go_simp; try with_reducible rfl)
              refine gTake 15 (v := ?_) rfl (by kernel_rfl) (by kernel_rfl) (by kernel_rfl) (fun _ _ _ h => h) (by kernel_rfl) ?_ hS1 ?_
              rotate_left
              · (intro W hW; clear hW; go_simp; try with_reducible rfl)
              refine gTake 16 (v := ?_) rfl (by kernel_rfl) (by kernel_rfl) (by kernel_rfl) (fun _ _ _ h => h) (by kernel_rfl) ?_ hS1 ?_
              rotate_left
              · (intro W hW; clear hW; go_simp; (try rw [HDN.out]); try with_reducible rfl)
              refine gTake 17 (v := ?_) rfl (by kernel_rfl) (by kernel_rfl) (by kernel_rfl) (fun _ _ _ h => h) (by kernel_rfl) ?_ hS1 ?_
              rotate_left
              · (intro W hW; clear hW; go_simp; try with_reducible rfl)
              refine gTake 18 (v := ?_) rfl (by kernel_rfl) (by kernel_rfl) (by kernel_rfl) (fun _ _ _ h => h) (by kernel_rfl) ?_ hS1 ?_
              rotate_left
              · (intro W hW; clear hW; go_simp; try with_reducible rfl)
              refine gSkip 19 rfl (by kernel_rfl) (by kernel_rfl) (by kernel_rfl) (fun _ _ _ h => h) (by kernel_rfl) hS1 ?_
              refine gSkip 20 rfl (by kernel_rfl) (by kernel_rfl) (by kernel_rfl) (fun _ _ _ h => h) (by kernel_rfl) hS1 ?_
              refine gSkip 21 rfl (by kernel_rfl) (by kernel_rfl) (by kernel_rfl) (fun _ _ _ h => h) (by kernel_rfl) hS1 ?_
              refine gSkip 22 rfl (by kernel_rfl) (by kernel_rfl) (by kernel_rfl) (fun _ _ _ h => h) (by kernel_rfl) hS1 ?_
              refine gSkip 23 rfl (by kernel_rfl) (by kernel_rfl) (by kernel_rfl) (fun _ _ _ h => h) (by kernel_rfl) hS1 ?_
              refine gSkip 24 rfl (by kernel_rfl) (by kernel_rfl) (by kernel_rfl) (fun _ _ _ h => h) (by kernel_rfl) hS1 ?_
              refine gSkip 25 rfl (by kernel_rfl) (by kernel_rfl) (by kernel_rfl) (fun _ _ _ h => h) (by kernel_rfl) hS1 ?_
              refine gSkip 26 rfl (by kernel_rfl) (by kernel_rfl) (by kernel_rfl) (fun _ _ _ h => h) (by kernel_rfl) hS1 ?_
              refine gSkip 27 rfl (by kernel_rfl) (by kernel_rfl) (by kernel_rfl) (fun _ _ _ h => h) (by kernel_rfl) hS1 ?_
              refine gSkip 28 rfl (by kernel_rfl) (by kernel_rfl) (by kernel_rfl) (fun _ _ _ h => h) (by kernel_rfl) hS1 ?_
              refine gSkip 29 rfl (by kernel_rfl) (by kernel_rfl) (by kernel_rfl) (fun _ _ _ h => h) (by kernel_rfl) hS1 ?_
              refine gSkip 30 rfl (by kernel_rfl) (by kernel_rfl) (by kernel_rfl) (fun _ _ _ h => h) (by kernel_rfl) hS1 ?_
              refine gSkip 31 rfl (by kernel_rfl) (by kernel_rfl) (by kernel_rfl) (fun _ _ _ h => h) (by kernel_rfl) hS1 ?_
              refine gSkip 32 rfl (by kernel_rfl) (by kernel_rfl) (by kernel_rfl) (fun _ _ _ h => h) (by kernel_rfl) hS1 ?_
              refine gSkip 33 rfl (by kernel_rfl) (by kernel_rfl) (by kernel_rfl) (fun _ _ _ h => h) (by kernel_rfl) hS1 ?_
              refine gSkip 34 rfl (by kernel_rfl) (by kernel_rfl) (by kernel_rfl) (fun _ _ _ h => h) (by kernel_rfl) hS1 ?_
              refine gTake 35 (v := ?_) rfl (by kernel_rfl) (by kernel_rfl) (by kernel_rfl) (fun _ _ _ h => h) (by kernel_rfl) ?_ hS1 ?_
              rotate_left
              · (intro W hW; clear hW; go_simp; try with_reducible rfl)
              refine wpAnyH_done (by kernel_rfl) ?_ _
              go_simp
              go_wp2
              go_ret
              exact ⟨ret_bool HF.out.symm, hbel.trans (hS1.2.2.2.mono hbel.size)⟩
        · obtain rfl : k = ds.length := by omega
          have HF := Lib.hid (show dvOk J xs ds = true by rw [HV.out]; exact dsOk_iff.2 ⟨fun j hj => HG.out j hj, h8⟩)
          go_wp2
          go_ret
          exact ⟨ret_bool HF.out.symm, hbel⟩
    · have HF := Lib.hid (show dvOk J xs ds = false by rw [HV.out, ← Bool.not_eq_true, dsOk_iff]; exact fun hh => h8 hh.2)
      have t8 : (8 : Int) < (ds.length : Int) := by omega
      go_enter Try.func76, Try.ntmps76
      go_wp2_with fail
      (with_reducible refine (HM.out).mono ?_)
      rintro e w1 ⟨rfl, n, rfl⟩
      rw [hok]
      go_wp2
      go_ret
      exact ⟨ret_bool HF.out.symm, below_drewN' (Below.refl _ _) n⟩
theorem sValidDoors_any (J : Int) (A : Option Addr) (cap : Nat) (xs : List Aw) (D : Option Addr) (dcap : Nat) (ds : List Do) (w : World) (hr : AwR w A xs) (hs : ∀ a ∈ xs, a.s.size ≤ maxLen) (hl : xs.length ≤ 1048576)
    (hd : DoR w D ds) (hds : ∀ d ∈ ds, d.s.size ≤ maxLen) (hdl : ds.length ≤ 1048576) :
    Calls Try.prog 23 #[.agg #[.int .i64 J, .slice A xs.length cap], .slice D ds.length dcap] w fun e w' => e = .returned (.bool (dvOk J xs ds)) ∧ Below w.heap.size w w' := by
  have HB := Lib.hid (below_box w (.cells #[.int .i64 J, .slice A xs.length cap] 38))
  have HC := Lib.hid (l10Ok_any w.heap.size J A cap xs D dcap ds (w.alloc (.cells #[.int .i64 J, .slice A xs.length cap] 38)) (by simp) (by simp) (hr.below HB.out) hs hl (hd.below HB.out) hds hdl)
  clear hr hs hd hds
  go_enter Try.func23, Try.ntmps23
  go_wp2_with fail
  (with_reducible refine (HC.out).mono ?_)
  rintro e w1 ⟨rfl, hd⟩
  go_wp2
  go_ret
  exact ⟨rfl, HB.out.trans (hd.mono HB.out.size)⟩
set_option maxHeartbeats 4000000 in
set_option maxRecDepth 100000 in
theorem iValidDoors_any (J : Int) (A : Option Addr) (cap : Nat) (xs : List Aw) (D : Option Addr) (dcap : Nat) (ds : List Do) (w : World) (hr : AwR w A xs) (hs : ∀ a ∈ xs, a.s.size ≤ maxLen) (hl : xs.length ≤ 1048576)
    (hd : DoR w D ds) (hds : ∀ d ∈ ds, d.s.size ≤ maxLen) (hdl : ds.length ≤ 1048576) :
    Calls Try.prog 26 #[.agg #[.int .i64 J, .slice A xs.length cap], .slice D ds.length dcap] w fun e w' => e = .returned (.bool (dvOk J xs ds)) ∧ Below w.heap.size w w' := by
  have HB0 := Lib.hid (below_box w (.cells #[.int .i64 J, .slice A xs.length cap] 38))
  have HM := Lib.hid (iValidMine_any J A cap xs (w.alloc (.cells #[.int .i64 J, .slice A xs.length cap] 38)) (hr.below HB0.out) hs hl)
  have HD := Lib.hid hd
  have HDS := Lib.hid hds
  have hmm := @run_makeMap Try.prog
  clear hr hs hd hds
  cases hok : mineOk J xs
  · have HF := Lib.hid (show dvOk J xs ds = false by unfold dvOk; rw [hok]; rfl)
    go_enter Try.func26, Try.ntmps26
    go_wp2_with fail
    (with_reducible refine (HM.out).mono ?_)
    rintro e w1 ⟨rfl, hd1⟩
    rw [hok]
    go_wp2
    go_ret
    exact ⟨ret_bool HF.out.symm, HB0.out.trans (hd1.mono HB0.out.size)⟩
  · have HV := Lib.hid (show dvOk J xs ds = dsOk xs.length ds by unfold dvOk; rw [hok]; rfl)
    by_cases h8 : ds.length ≤ 8
    · have t8 : ¬ ((8 : Int) < (ds.length : Int)) := by omega
      go_enter Try.func26, Try.ntmps26
      go_wp2_with fail
      (with_reducible refine (HM.out).mono ?_)
      rintro e w1 ⟨rfl, hd1⟩
      rw [hok]
      have HBX := Lib.hid (show Below w.heap.size w w1 from HB0.out.trans (hd1.mono HB0.out.size))
      have HKA := Lib.hid (show w1.cell? ⟨w.heap.size, 1, none⟩ = some (.slice A xs.length cap) from (hd1.cell (by simp)).trans (by simp))
      have hzw : w.heap.size < w1.heap.size := Nat.lt_of_lt_of_le (by simp) hd1.size
      clear hd1
      go_wp2_with fail
      clear hmm
      have HM0 := Lib.hid (show (w1.alloc (.map #[] 0)).ownsMap (H := Unit) Try.prog 2 (plainElem Try.prog 4) w1.heap.size 0 (.map []) from World.ownsMap_made (H := Unit) w1 Try.prog 2 (plainElem Try.prog 4))
      have HBM := Lib.hid (below_box w1 (.map #[] 0))
      go_loopw [19] (fun i wr => ∃ (k : Nat) (m : DataW Unit), k ≤ ds.length ∧ i = .int .i64 k ∧ Hid (∀ j, j < k → dGood xs.length ds j = true) ∧ Hid (MapS m ((ds.take k).map Do.a)) ∧ Hid (wr.ownsMap (H := Unit) Try.prog 2 (plainElem Try.prog 4) w1.heap.size k m) ∧ Hid (Below w1.heap.size w1 wr)) (fun i wr => ds.length - (intOf i).toNat)
      case atStart => exact ⟨0, _, by omega, rfl, Lib.hid (fun j hj => absurd hj (by omega)), MapS.empty, HM0, HBM⟩
      case round =>
        obtain ⟨k, m, hk, rfl, HG, HMS, HOM, HB⟩ := hrel
        obtain ⟨wo, rfl⟩ : ∃ wo : World, wo = wr := ⟨_, rfl⟩
        have hzo := HB.out.size
        by_cases hlt : k < ds.length
        · have kA : wo.cell? ⟨w.heap.size, 1, none⟩ = some (.slice A xs.length cap) := cellK HKA.out HB.out
          have HTE := Lib.hid (show (ds.take (k + 1)).map Do.a = (ds.take k).map Do.a ++ [(ds[k]).a] by rw [List.take_succ_eq_append_getElem hlt, List.map_append]; rfl)
          obtain ⟨bd, off, rfl, hrg⟩ := (HD.out.below (HBX.out.trans (HB.out.mono HBX.out.size))) k hlt
          obtain ⟨c0, c1, c2, c3⟩ := do_lay hrg
          have hsz := HDS.out ds[k] (List.getElem_mem hlt)
          have HPV := Lib.hid (show 0 < k → ∃ ps : ByteArray, (dAt ds (k - 1)).s = ps ∧ wo.cell? ⟨bd, off + (k - 1) * 4, none⟩ = some (.string ps) from fun h => by
            obtain ⟨b', off', e, hr'⟩ := (HD.out.below (HBX.out.trans (HB.out.mono HBX.out.size))) (k - 1) (by omega)
            injection e with e
            injection e with e1 e2
            subst e1
            subst e2
            exact ⟨_, rfl, by rw [dAt_lt (show k - 1 < ds.length by omega)]; exact (do_lay hr').1⟩)
          have HGD := Lib.hid (show dGood xs.length ds k = (((ds[k]).ok && decide ((ds[k]).a < (xs.length : Int))) && ((decide (k = 0) || Op.bytesLess (dAt ds (k - 1)).s.toList (ds[k]).s.toList) && dNew ds k)) by unfold dGood; rw [dAt_lt hlt])
          have HNW := Lib.hid (show dNew ds k = decide (∀ j, j < k → (dAt ds j).a ≠ (ds[k]).a) by unfold dNew; rw [dAt_lt hlt])
          clear hrg
          generalize ds[k] = d at *
          obtain ⟨s, a, op, sh⟩ := d
          dsimp only at c0 c1 c2 c3 hsz
          have HGE := Lib.hid (show dGood xs.length ds k = ((doOk s a op sh && decide (a < (xs.length : Int))) && ((decide (k = 0) || Op.bytesLess (dAt ds (k - 1)).s.toList s.toList) && dNew ds k)) from HGD.out)
          have HNE := Lib.hid (show dNew ds k = decide (∀ j, j < k → (dAt ds j).a ≠ a) from HNW.out)
          have HTE2 := Lib.hid (show (ds.take (k + 1)).map Do.a = (ds.take k).map Do.a ++ [a] from HTE.out)
          clear HGD HNW HTE
          cases hd1 : doOk s a op sh
          · have HF := Lib.hid (HV.out.trans (dsOk_bad (n := xs.length) hlt (by rw [HGE.out, hd1]; simp)))
            go_wp2_with fail
            have e0 : (wo.alloc (.cells #[.string s, .int .i64 a, .int .i64 op, .int .i64 sh] 26)).cell? ⟨wo.heap.size, 0, none⟩ = some (.string s) := by simp
            have e1 : (wo.alloc (.cells #[.string s, .int .i64 a, .int .i64 op, .int .i64 sh] 26)).cell? ⟨wo.heap.size, 1, none⟩ = some (.int .i64 a) := by simp
            have e2 : (wo.alloc (.cells #[.string s, .int .i64 a, .int .i64 op, .int .i64 sh] 26)).cell? ⟨wo.heap.size, 2, none⟩ = some (.int .i64 op) := by simp
            have e3 : (wo.alloc (.cells #[.string s, .int .i64 a, .int .i64 op, .int .i64 sh] 26)).cell? ⟨wo.heap.size, 3, none⟩ = some (.int .i64 sh) := by simp
            have kA := cellK kA (below_box wo (.cells #[.string s, .int .i64 a, .int .i64 op, .int .i64 sh] 26))
            have hom : (wo.alloc (.cells #[.string s, .int .i64 a, .int .i64 op, .int .i64 sh] 26)).ownsMap (H := Unit) Try.prog 2 (plainElem Try.prog 4) w1.heap.size k m := HOM.out.alloc _
            refine wp_region_held (S := fun w' => w'.cell? ⟨wo.heap.size, 0, none⟩ = some (.string s) ∧ w'.cell? ⟨wo.heap.size, 1, none⟩ = some (.int .i64 a) ∧ w'.cell? ⟨wo.heap.size, 2, none⟩ = some (.int .i64 op) ∧ w'.cell? ⟨wo.heap.size, 3, none⟩ = some (.int .i64 sh) ∧ w'.cell? ⟨w.heap.size, 1, none⟩ = some (.slice A xs.length cap) ∧ w'.ownsMap (H := Unit) Try.prog 2 (plainElem Try.prog 4) w1.heap.size k m ∧ Below (wo.alloc (.cells #[.string s, .int .i64 a, .int .i64 op, .int .i64 sh] 26)).heap.size (wo.alloc (.cells #[.string s, .int .i64 a, .int .i64 op, .int .i64 sh] 26)) w') (by kernel_rfl) ?_
            try (change wpAnyH _ _ _ _ _ _ _ _ (World.drew _))
            have hS0 := (show (wo.alloc (.cells #[.string s, .int .i64 a, .int .i64 op, .int .i64 sh] 26)).drew.cell? ⟨wo.heap.size, 0, none⟩ = some (.string s) ∧ (wo.alloc (.cells #[.string s, .int .i64 a, .int .i64 op, .int .i64 sh] 26)).drew.cell? ⟨wo.heap.size, 1, none⟩ = some (.int .i64 a) ∧ (wo.alloc (.cells #[.string s, .int .i64 a, .int .i64 op, .int .i64 sh] 26)).drew.cell? ⟨wo.heap.size, 2, none⟩ = some (.int .i64 op) ∧ (wo.alloc (.cells #[.string s, .int .i64 a, .int .i64 op, .int .i64 sh] 26)).drew.cell? ⟨wo.heap.size, 3, none⟩ = some (.int .i64 sh) ∧ (wo.alloc (.cells #[.string s, .int .i64 a, .int .i64 op, .int .i64 sh] 26)).drew.cell? ⟨w.heap.size, 1, none⟩ = some (.slice A xs.length cap) ∧ (wo.alloc (.cells #[.string s, .int .i64 a, .int .i64 op, .int .i64 sh] 26)).drew.ownsMap (H := Unit) Try.prog 2 (plainElem Try.prog 4) w1.heap.size k m ∧ Below (wo.alloc (.cells #[.string s, .int .i64 a, .int .i64 op, .int .i64 sh] 26)).heap.size (wo.alloc (.cells #[.string s, .int .i64 a, .int .i64 op, .int .i64 sh] 26)) (wo.alloc (.cells #[.string s, .int .i64 a, .int .i64 op, .int .i64 sh] 26)).drew from ⟨e0, e1, e2, e3, kA, hom, Below.drew (Below.refl _ _)⟩)
            refine gTake 0 (v := ?_) rfl (by kernel_rfl) (by kernel_rfl) (by kernel_rfl) (fun _ _ _ h => h) (by kernel_rfl) ?_ hS0 ?_
            rotate_left
            · (intro W hW; have q0 := hW.1; have q1 := hW.2.1; have q2 := hW.2.2.1; have q3 := hW.2.2.2.1; have q4 := hW.2.2.2.2.1; have q5 := hW.2.2.2.2.2.1; clear hW; go_simp; try with_reducible rfl)
            refine gOne 1 rfl (by kernel_rfl) (by kernel_rfl) (fun K hK => ?_)
            go_simp
            go_at_call 20
            (with_reducible refine (iValidDoor_any s a op sh _ hsz).mono ?_)
            rintro e wq0 ⟨rfl, hdq0⟩
            try go_simp
            have hS1 := (show wq0.cell? ⟨wo.heap.size, 0, none⟩ = some (.string s) ∧ wq0.cell? ⟨wo.heap.size, 1, none⟩ = some (.int .i64 a) ∧ wq0.cell? ⟨wo.heap.size, 2, none⟩ = some (.int .i64 op) ∧ wq0.cell? ⟨wo.heap.size, 3, none⟩ = some (.int .i64 sh) ∧ wq0.cell? ⟨w.heap.size, 1, none⟩ = some (.slice A xs.length cap) ∧ wq0.ownsMap (H := Unit) Try.prog 2 (plainElem Try.prog 4) w1.heap.size k m ∧ Below (wo.alloc (.cells #[.string s, .int .i64 a, .int .i64 op, .int .i64 sh] 26)).heap.size (wo.alloc (.cells #[.string s, .int .i64 a, .int .i64 op, .int .i64 sh] 26)) wq0 from ⟨cellK hS0.1 hdq0, cellK hS0.2.1 hdq0, cellK hS0.2.2.1 hdq0, cellK hS0.2.2.2.1 hdq0, cellK hS0.2.2.2.2.1 hdq0, omBelow hS0.2.2.2.2.2.1 hdq0, hS0.2.2.2.2.2.2.trans (hdq0.mono hS0.2.2.2.2.2.2.size)⟩)
            refine hK _ _ hS1 ?_
            clear hK K
            refine gTake 2 (v := ?_) rfl (by kernel_rfl) (by kernel_rfl) (by kernel_rfl) (fun _ _ _ h => h) (by kernel_rfl) ?_ hS1 ?_
            rotate_left
            · (intro W hW; clear hW; go_simp; try with_reducible rfl)
            refine gTake 3 (v := ?_) rfl (by kernel_rfl) (by kernel_rfl) (by kernel_rfl) (fun _ _ _ h => h) (by kernel_rfl) ?_ hS1 ?_
            rotate_left
            · (intro W hW; clear hW; go_simp; try with_reducible rfl)
            refine gSkip 4 rfl (by kernel_rfl) (by kernel_rfl) (by kernel_rfl) (fun _ _ _ h => h) (by kernel_rfl) hS1 ?_
            refine gSkip 5 rfl (by kernel_rfl) (by kernel_rfl) (by kernel_rfl) (fun _ _ _ h => h) (by kernel_rfl) hS1 ?_
            refine gSkip 6 rfl (by kernel_rfl) (by kernel_rfl) (by kernel_rfl) (fun _ _ _ h => h) (by kernel_rfl) hS1 ?_
            refine gSkip 7 rfl (by kernel_rfl) (by kernel_rfl) (by kernel_rfl) (fun _ _ _ h => h) (by kernel_rfl) hS1 ?_
            refine gSkip 8 rfl (by kernel_rfl) (by kernel_rfl) (by kernel_rfl) (fun _ _ _ h => h) (by kernel_rfl) hS1 ?_
            refine gSkip 9 rfl (by kernel_rfl) (by kernel_rfl) (by kernel_rfl) (fun _ _ _ h => h) (by kernel_rfl) hS1 ?_
            refine gTake 10 (v := ?_) rfl (by kernel_rfl) (by kernel_rfl) (by kernel_rfl) (fun _ _ _ h => h) (by kernel_rfl) ?_ hS1 ?_
            rotate_left
            · (intro W hW; clear hW; go_simp; try with_reducible rfl)
            refine gTake 11 (v := ?_) rfl (by kernel_rfl) (by kernel_rfl) (by kernel_rfl) (fun _ _ _ h => h) (by kernel_rfl) ?_ hS1 ?_
            rotate_left
            · (intro W hW; clear hW; go_simp; try with_reducible rfl)
            refine gSkip 12 rfl (by kernel_rfl) (by kernel_rfl) (by kernel_rfl) (fun _ _ _ h => h) (by kernel_rfl) hS1 ?_
            refine gSkip 13 rfl (by kernel_rfl) (by kernel_rfl) (by kernel_rfl) (fun _ _ _ h => h) (by kernel_rfl) hS1 ?_
            refine gSkip 14 rfl (by kernel_rfl) (by kernel_rfl) (by kernel_rfl) (fun _ _ _ h => h) (by kernel_rfl) hS1 ?_
            refine gSkip 15 rfl (by kernel_rfl) (by kernel_rfl) (by kernel_rfl) (fun _ _ _ h => h) (by kernel_rfl) hS1 ?_
            refine gTake 16 (v := ?_) rfl (by kernel_rfl) (by kernel_rfl) (by kernel_rfl) (fun _ _ _ h => h) (by kernel_rfl) ?_ hS1 ?_
            rotate_left
            · (intro W hW; clear hW; go_simp; try with_reducible rfl)
            refine gTake 17 (v := ?_) rfl (by kernel_rfl) (by kernel_rfl) (by kernel_rfl) (fun _ _ _ h => h) (by kernel_rfl) ?_ hS1 ?_
            rotate_left
            · (intro W hW; clear hW; go_simp; try with_reducible rfl)
            refine gSkip 18 rfl (by kernel_rfl) (by kernel_rfl) (by kernel_rfl) (fun _ _ _ h => h) (by kernel_rfl) hS1 ?_
            refine gSkip 19 rfl (by kernel_rfl) (by kernel_rfl) (by kernel_rfl) (fun _ _ _ h => h) (by kernel_rfl) hS1 ?_
            refine gSkip 20 rfl (by kernel_rfl) (by kernel_rfl) (by kernel_rfl) (fun _ _ _ h => h) (by kernel_rfl) hS1 ?_
            refine gSkip 21 rfl (by kernel_rfl) (by kernel_rfl) (by kernel_rfl) (fun _ _ _ h => h) (by kernel_rfl) hS1 ?_
            refine gSkip 22 rfl (by kernel_rfl) (by kernel_rfl) (by kernel_rfl) (fun _ _ _ h => h) (by kernel_rfl) hS1 ?_
            refine gSkip 23 rfl (by kernel_rfl) (by kernel_rfl) (by kernel_rfl) (fun _ _ _ h => h) (by kernel_rfl) hS1 ?_
            refine gSkip 24 rfl (by kernel_rfl) (by kernel_rfl) (by kernel_rfl) (fun _ _ _ h => h) (by kernel_rfl) hS1 ?_
            refine gSkip 25 rfl (by kernel_rfl) (by kernel_rfl) (by kernel_rfl) (fun _ _ _ h => h) (by kernel_rfl) hS1 ?_
            refine gSkip 26 rfl (by kernel_rfl) (by kernel_rfl) (by kernel_rfl) (fun _ _ _ h => h) (by kernel_rfl) hS1 ?_
            refine gSkip 27 rfl (by kernel_rfl) (by kernel_rfl) (by kernel_rfl) (fun _ _ _ h => h) (by kernel_rfl) hS1 ?_
            refine gSkip 28 rfl (by kernel_rfl) (by kernel_rfl) (by kernel_rfl) (fun _ _ _ h => h) (by kernel_rfl) hS1 ?_
            refine gSkip 29 rfl (by kernel_rfl) (by kernel_rfl) (by kernel_rfl) (fun _ _ _ h => h) (by kernel_rfl) hS1 ?_
            refine gSkip 30 rfl (by kernel_rfl) (by kernel_rfl) (by kernel_rfl) (fun _ _ _ h => h) (by kernel_rfl) hS1 ?_
            refine gTake 31 (v := ?_) rfl (by kernel_rfl) (by kernel_rfl) (by kernel_rfl) (fun _ _ _ h => h) (by kernel_rfl) ?_ hS1 ?_
            rotate_left
            · (intro W hW; clear hW; go_simp; try with_reducible rfl)
            refine wpAnyH_done (by kernel_rfl) ?_ _
            go_simp
            go_wp2
            go_ret
            exact ⟨ret_bool HF.out.symm, HBX.out.trans ((HB.out.trans (((below_box wo (.cells #[.string s, .int .i64 a, .int .i64 op, .int .i64 sh] 26)).trans (hS1.2.2.2.2.2.2.mono (by simp))).mono HB.out.size)).mono HBX.out.size)⟩
          · have hab : 0 ≤ a ∧ a ≤ 1000000 := by have := (doOk_bd hd1).2.1; omega
            have HMP := Lib.hid (show MapS (m.put (.int .i64 a) (.lit (.bool true))) ((ds.take (k + 1)).map Do.a) by rw [HTE2.out]; exact HMS.out.put a)
            by_cases han : a < (xs.length : Int)
            · have HDN := Lib.hid (show decide ((xs.length : Int) ≤ a) = false from decide_eq_false (by omega))
              obtain ⟨tk, htk⟩ : ∃ tk, decide (a ∈ (ds.take k).map Do.a) = tk := ⟨_, rfl⟩
              have HTK := Lib.hid htk
              have HTN := Lib.hid (taken_new (ds := ds) hk a)
              clear htk
              cases tk
              · have HNW := Lib.hid (show dNew ds k = true by rw [HNE.out]; exact decide_eq_true (HTN.out.1 HTK.out))
                by_cases k0 : k = 0
                · have HF := Lib.hid (show dGood xs.length ds k = true by rw [HGE.out, hd1, decide_eq_true han, decide_eq_true k0, HNW.out]; simp)
                  have hki : ¬ (0 < (k : Int)) := by omega
                  have hkn : ¬ (0 < k) := by omega
                  clear k0
                  go_wp2_with fail
                  have e0 : (wo.alloc (.cells #[.string s, .int .i64 a, .int .i64 op, .int .i64 sh] 26)).cell? ⟨wo.heap.size, 0, none⟩ = some (.string s) := by simp
                  have e1 : (wo.alloc (.cells #[.string s, .int .i64 a, .int .i64 op, .int .i64 sh] 26)).cell? ⟨wo.heap.size, 1, none⟩ = some (.int .i64 a) := by simp
                  have e2 : (wo.alloc (.cells #[.string s, .int .i64 a, .int .i64 op, .int .i64 sh] 26)).cell? ⟨wo.heap.size, 2, none⟩ = some (.int .i64 op) := by simp
                  have e3 : (wo.alloc (.cells #[.string s, .int .i64 a, .int .i64 op, .int .i64 sh] 26)).cell? ⟨wo.heap.size, 3, none⟩ = some (.int .i64 sh) := by simp
                  have kA := cellK kA (below_box wo (.cells #[.string s, .int .i64 a, .int .i64 op, .int .i64 sh] 26))
                  have hom : (wo.alloc (.cells #[.string s, .int .i64 a, .int .i64 op, .int .i64 sh] 26)).ownsMap (H := Unit) Try.prog 2 (plainElem Try.prog 4) w1.heap.size k m := HOM.out.alloc _
                  refine wp_region_held (S := fun w' => w'.cell? ⟨wo.heap.size, 0, none⟩ = some (.string s) ∧ w'.cell? ⟨wo.heap.size, 1, none⟩ = some (.int .i64 a) ∧ w'.cell? ⟨wo.heap.size, 2, none⟩ = some (.int .i64 op) ∧ w'.cell? ⟨wo.heap.size, 3, none⟩ = some (.int .i64 sh) ∧ w'.cell? ⟨w.heap.size, 1, none⟩ = some (.slice A xs.length cap) ∧ w'.ownsMap (H := Unit) Try.prog 2 (plainElem Try.prog 4) w1.heap.size k m ∧ Below (wo.alloc (.cells #[.string s, .int .i64 a, .int .i64 op, .int .i64 sh] 26)).heap.size (wo.alloc (.cells #[.string s, .int .i64 a, .int .i64 op, .int .i64 sh] 26)) w') (by kernel_rfl) ?_
                  try (change wpAnyH _ _ _ _ _ _ _ _ (World.drew _))
                  have hS0 := (show (wo.alloc (.cells #[.string s, .int .i64 a, .int .i64 op, .int .i64 sh] 26)).drew.cell? ⟨wo.heap.size, 0, none⟩ = some (.string s) ∧ (wo.alloc (.cells #[.string s, .int .i64 a, .int .i64 op, .int .i64 sh] 26)).drew.cell? ⟨wo.heap.size, 1, none⟩ = some (.int .i64 a) ∧ (wo.alloc (.cells #[.string s, .int .i64 a, .int .i64 op, .int .i64 sh] 26)).drew.cell? ⟨wo.heap.size, 2, none⟩ = some (.int .i64 op) ∧ (wo.alloc (.cells #[.string s, .int .i64 a, .int .i64 op, .int .i64 sh] 26)).drew.cell? ⟨wo.heap.size, 3, none⟩ = some (.int .i64 sh) ∧ (wo.alloc (.cells #[.string s, .int .i64 a, .int .i64 op, .int .i64 sh] 26)).drew.cell? ⟨w.heap.size, 1, none⟩ = some (.slice A xs.length cap) ∧ (wo.alloc (.cells #[.string s, .int .i64 a, .int .i64 op, .int .i64 sh] 26)).drew.ownsMap (H := Unit) Try.prog 2 (plainElem Try.prog 4) w1.heap.size k m ∧ Below (wo.alloc (.cells #[.string s, .int .i64 a, .int .i64 op, .int .i64 sh] 26)).heap.size (wo.alloc (.cells #[.string s, .int .i64 a, .int .i64 op, .int .i64 sh] 26)) (wo.alloc (.cells #[.string s, .int .i64 a, .int .i64 op, .int .i64 sh] 26)).drew from ⟨e0, e1, e2, e3, kA, hom, Below.drew (Below.refl _ _)⟩)
                  refine gTake 0 (v := ?_) rfl (by kernel_rfl) (by kernel_rfl) (by kernel_rfl) (fun _ _ _ h => h) (by kernel_rfl) ?_ hS0 ?_
                  rotate_left
                  · (intro W hW; have q0 := hW.1; have q1 := hW.2.1; have q2 := hW.2.2.1; have q3 := hW.2.2.2.1; have q4 := hW.2.2.2.2.1; have q5 := hW.2.2.2.2.2.1; clear hW; go_simp; try with_reducible rfl)
                  refine gOne 1 rfl (by kernel_rfl) (by kernel_rfl) (fun K hK => ?_)
                  go_simp
                  go_at_call 20
                  (with_reducible refine (iValidDoor_any s a op sh _ hsz).mono ?_)
                  rintro e wq0 ⟨rfl, hdq0⟩
                  try go_simp
                  have hS1 := (show wq0.cell? ⟨wo.heap.size, 0, none⟩ = some (.string s) ∧ wq0.cell? ⟨wo.heap.size, 1, none⟩ = some (.int .i64 a) ∧ wq0.cell? ⟨wo.heap.size, 2, none⟩ = some (.int .i64 op) ∧ wq0.cell? ⟨wo.heap.size, 3, none⟩ = some (.int .i64 sh) ∧ wq0.cell? ⟨w.heap.size, 1, none⟩ = some (.slice A xs.length cap) ∧ wq0.ownsMap (H := Unit) Try.prog 2 (plainElem Try.prog 4) w1.heap.size k m ∧ Below (wo.alloc (.cells #[.string s, .int .i64 a, .int .i64 op, .int .i64 sh] 26)).heap.size (wo.alloc (.cells #[.string s, .int .i64 a, .int .i64 op, .int .i64 sh] 26)) wq0 from ⟨cellK hS0.1 hdq0, cellK hS0.2.1 hdq0, cellK hS0.2.2.1 hdq0, cellK hS0.2.2.2.1 hdq0, cellK hS0.2.2.2.2.1 hdq0, omBelow hS0.2.2.2.2.2.1 hdq0, hS0.2.2.2.2.2.2.trans (hdq0.mono hS0.2.2.2.2.2.2.size)⟩)
                  refine hK _ _ hS1 ?_
                  clear hK K
                  refine gTake 2 (v := ?_) rfl (by kernel_rfl) (by kernel_rfl) (by kernel_rfl) (fun _ _ _ h => h) (by kernel_rfl) ?_ hS1 ?_
                  rotate_left
                  · (intro W hW; clear hW; go_simp; try with_reducible rfl)
                  refine gTake 3 (v := ?_) rfl (by kernel_rfl) (by kernel_rfl) (by kernel_rfl) (fun _ _ _ h => h) (by kernel_rfl) ?_ hS1 ?_
                  rotate_left
                  · (intro W hW; clear hW; go_simp; try with_reducible rfl)
                  refine gTake 4 (v := ?_) rfl (by kernel_rfl) (by kernel_rfl) (by kernel_rfl) (fun _ _ _ h => h) (by kernel_rfl) ?_ hS1 ?_
                  rotate_left
                  · (intro W hW; clear hW; go_simp; try with_reducible rfl)
                  refine gTake 5 (v := ?_) rfl (by kernel_rfl) (by kernel_rfl) (by kernel_rfl) (fun _ _ _ h => h) (by kernel_rfl) ?_ hS1 ?_
                  rotate_left
                  · (intro W hW; have q0 := hW.1; have q1 := hW.2.1; have q2 := hW.2.2.1; have q3 := hW.2.2.2.1; have q4 := hW.2.2.2.2.1; have q5 := hW.2.2.2.2.2.1; clear hW; go_simp; try with_reducible rfl)
                  refine gTake 6 (v := ?_) rfl (by kernel_rfl) (by kernel_rfl) (by kernel_rfl) (fun _ _ _ h => h) (by kernel_rfl) ?_ hS1 ?_
                  rotate_left
                  · (intro W hW; clear hW; go_simp; try with_reducible rfl)
                  refine gTake 7 (v := ?_) rfl (by kernel_rfl) (by kernel_rfl) (by kernel_rfl) (fun _ _ _ h => h) (by kernel_rfl) ?_ hS1 ?_
                  rotate_left
                  · (intro W hW; have q0 := hW.1; have q1 := hW.2.1; have q2 := hW.2.2.1; have q3 := hW.2.2.2.1; have q4 := hW.2.2.2.2.1; have q5 := hW.2.2.2.2.2.1; clear hW; go_simp; try with_reducible rfl)
                  refine gTake 8 (v := ?_) rfl (by kernel_rfl) (by kernel_rfl) (by kernel_rfl) (fun _ _ _ h => h) (by kernel_rfl) ?_ hS1 ?_
                  rotate_left
                  · (intro W hW; clear hW; go_simp; try with_reducible rfl)
                  refine gTake 9 (v := ?_) rfl (by kernel_rfl) (by kernel_rfl) (by kernel_rfl) (fun _ _ _ h => h) (by kernel_rfl) ?_ hS1 ?_
                  rotate_left
                  · (intro W hW; clear hW; go_simp; (try rw [HDN.out]); try with_reducible rfl)
                  refine gTake 10 (v := ?_) rfl (by kernel_rfl) (by kernel_rfl) (by kernel_rfl) (fun _ _ _ h => h) (by kernel_rfl) ?_ hS1 ?_
                  rotate_left
                  · (intro W hW; clear hW; go_simp; try with_reducible rfl)
                  refine gTake 11 (v := ?_) rfl (by kernel_rfl) (by kernel_rfl) (by kernel_rfl) (fun _ _ _ h => h) (by kernel_rfl) ?_ hS1 ?_
                  rotate_left
                  · (intro W hW; clear hW; go_simp; try with_reducible rfl)
                  refine gTake 12 (v := ?_) rfl (by kernel_rfl) (by kernel_rfl) (by kernel_rfl) (fun _ _ _ h => h) (by kernel_rfl) ?_ hS1 ?_
                  rotate_left
                  · (intro W hW; clear hW; go_simp; try with_reducible rfl)
                  refine gTake 13 (v := ?_) rfl (by kernel_rfl) (by kernel_rfl) (by kernel_rfl) (fun _ _ _ h => h) (by kernel_rfl) ?_ hS1 ?_
                  rotate_left
                  · (intro W hW; clear hW; go_simp; try with_reducible rfl)
                  refine gTake 14 (v := ?_) rfl (by kernel_rfl) (by kernel_rfl) (by kernel_rfl) (fun _ _ _ h => h) (by kernel_rfl) ?_ hS1 ?_
                  rotate_left
                  · (intro W hW; have q0 := hW.1; have q1 := hW.2.1; have q2 := hW.2.2.1; have q3 := hW.2.2.2.1; have q4 := hW.2.2.2.2.1; have q5 := hW.2.2.2.2.2.1; clear hW; go_simp; try with_reducible rfl)
                  refine gOne 15 rfl (by kernel_rfl) (by kernel_rfl) (fun K hK => ?_)
                  have hLK := look_set w1.heap.size k a m ((ds.take k).map Do.a) _ HMS.out hS1.2.2.2.2.2.1 hab
                  rw [HTK.out] at hLK
                  go_simp
                  have hS2 := hS1
                  refine hK _ _ hS2 ?_
                  clear hK K
                  refine gTake 16 (v := ?_) rfl (by kernel_rfl) (by kernel_rfl) (by kernel_rfl) (fun _ _ _ h => h) (by kernel_rfl) ?_ hS2 ?_
                  rotate_left
                  · (intro W hW; clear hW; go_simp; try with_reducible rfl)
                  refine gTake 17 (v := ?_) rfl (by kernel_rfl) (by kernel_rfl) (by kernel_rfl) (fun _ _ _ h => h) (by kernel_rfl) ?_ hS2 ?_
                  rotate_left
                  · (intro W hW; clear hW; go_simp; try with_reducible rfl)
                  refine gTake 18 (v := ?_) rfl (by kernel_rfl) (by kernel_rfl) (by kernel_rfl) (fun _ _ _ h => h) (by kernel_rfl) ?_ hS2 ?_
                  rotate_left
                  · (intro W hW; clear hW; go_simp; try with_reducible rfl)
                  refine gTake 19 (v := ?_) rfl (by kernel_rfl) (by kernel_rfl) (by kernel_rfl) (fun _ _ _ h => h) (by kernel_rfl) ?_ hS2 ?_
                  rotate_left
                  · (intro W hW; clear hW; go_simp; try with_reducible rfl)
                  refine gTake 20 (v := ?_) rfl (by kernel_rfl) (by kernel_rfl) (by kernel_rfl) (fun _ _ _ h => h) (by kernel_rfl) ?_ hS2 ?_
                  rotate_left
                  · (intro W hW; clear hW; go_simp; try with_reducible rfl)
                  refine gSkip 21 rfl (by kernel_rfl) (by kernel_rfl) (by kernel_rfl) (fun _ _ _ h => h) (by kernel_rfl) hS2 ?_
                  refine gSkip 22 rfl (by kernel_rfl) (by kernel_rfl) (by kernel_rfl) (fun _ _ _ h => h) (by kernel_rfl) hS2 ?_
                  refine gSkip 23 rfl (by kernel_rfl) (by kernel_rfl) (by kernel_rfl) (fun _ _ _ h => h) (by kernel_rfl) hS2 ?_
                  refine gSkip 24 rfl (by kernel_rfl) (by kernel_rfl) (by kernel_rfl) (fun _ _ _ h => h) (by kernel_rfl) hS2 ?_
                  refine gSkip 25 rfl (by kernel_rfl) (by kernel_rfl) (by kernel_rfl) (fun _ _ _ h => h) (by kernel_rfl) hS2 ?_
                  refine gSkip 26 rfl (by kernel_rfl) (by kernel_rfl) (by kernel_rfl) (fun _ _ _ h => h) (by kernel_rfl) hS2 ?_
                  refine gSkip 27 rfl (by kernel_rfl) (by kernel_rfl) (by kernel_rfl) (fun _ _ _ h => h) (by kernel_rfl) hS2 ?_
                  refine gSkip 28 rfl (by kernel_rfl) (by kernel_rfl) (by kernel_rfl) (fun _ _ _ h => h) (by kernel_rfl) hS2 ?_
                  refine gSkip 29 rfl (by kernel_rfl) (by kernel_rfl) (by kernel_rfl) (fun _ _ _ h => h) (by kernel_rfl) hS2 ?_
                  refine gTake 30 (v := ?_) rfl (by kernel_rfl) (by kernel_rfl) (by kernel_rfl) (fun _ _ _ h => h) (by kernel_rfl) ?_ hS2 ?_
                  rotate_left
                  · (intro W hW; clear hW; go_simp; try with_reducible rfl)
                  refine gTake 31 (v := ?_) rfl (by kernel_rfl) (by kernel_rfl) (by kernel_rfl) (fun _ _ _ h => h) (by kernel_rfl) ?_ hS2 ?_
                  rotate_left
                  · (intro W hW; clear hW; go_simp; try with_reducible rfl)
                  refine wpAnyH_done (by kernel_rfl) ?_ _
                  go_simp
                  have HO3 := Lib.hid (hS2.2.2.2.2.2.1)
                  have HB3 := Lib.hid (HB.out.trans (((below_box wo (.cells #[.string s, .int .i64 a, .int .i64 op, .int .i64 sh] 26)).trans (hS2.2.2.2.2.2.2.mono (by simp))).mono HB.out.size))
                  have hz3 := HB3.out.size
                  have f1 := hS2.2.1
                  go_wp2_with (at_mapUpdate; refine wpList_mapUpdate_own _ rfl _ _ _ 98 rfl 2 4 (Maps.int_keyed Try.underlying2) Try.underlying98 _ w1.heap.size k _ rfl HO3.out (by unfold maxLen; omega) _ _ _ rfl rfl (keyIJ a (wfJ hab)) _ [] (plainElem_bool Try.underlying4 true) ?_)
                  intro w4 ho4 hg4
                  have HO4 := Lib.hid ho4
                  have HB4 := Lib.hid (HB3.out.grown hg4 hz3 (fun j hj => by injection hj with hj; omega))
                  clear ho4 hg4 f1
                  go_wp2
                  go_roundw
                  case rel => exact ⟨k + 1, _, by omega, by go_num, Lib.hid (fun j hj => by
                    rcases Nat.lt_or_ge j k with q | q
                    · exact HG.out j q
                    · obtain rfl : j = k := by omega
                      exact HF.out), HMP, HO4, HB4⟩
                  case measure => simp [intOf]; omega
                · skip
                  obtain ⟨ps, hps, g0⟩ := HPV.out (by omega)
                  have HGF := Lib.hid (show dGood xs.length ds k = ((doOk s a op sh && decide (a < (xs.length : Int))) && (Op.bytesLess ps.toList s.toList && dNew ds k)) by rw [HGE.out, decide_eq_false k0, hps]; simp)
                  have hki : (0 < (k : Int)) := by omega
                  have hkn : 0 < k := by omega
                  have hkj : (k : Int) - 1 = ((k - 1 : Nat) : Int) := by omega
                  have hkl : k - 1 < ds.length := by omega
                  clear hps k0
                  generalize hj1 : k - 1 = j1 at *
                  have HJ1 := Lib.hid hj1
                  clear hj1
                  have hkw : IntKind.i64.wrap ((k : Int) - 1) = (j1 : Int) := by rw [hkj]; exact IntWalk.i64_in _ (by omega)
                  have HK := Lib.hid hkj
                  clear hkj
                  have HT := Lib.hid (less_totalD ps.toList s.toList)
                  cases hls : Op.bytesLess ps.toList s.toList
                  · have hq := HT.out
                    rw [hls] at hq
                    replace hq : (Op.bytesLess s.toList ps.toList || s.toList == ps.toList) = true := hq.symm
                    have HF := Lib.hid (HV.out.trans (dsOk_bad (n := xs.length) hlt (by rw [HGF.out, hls]; simp)))
                    go_wp2_with fail
                    have e0 : (wo.alloc (.cells #[.string s, .int .i64 a, .int .i64 op, .int .i64 sh] 26)).cell? ⟨wo.heap.size, 0, none⟩ = some (.string s) := by simp
                    have e1 : (wo.alloc (.cells #[.string s, .int .i64 a, .int .i64 op, .int .i64 sh] 26)).cell? ⟨wo.heap.size, 1, none⟩ = some (.int .i64 a) := by simp
                    have e2 : (wo.alloc (.cells #[.string s, .int .i64 a, .int .i64 op, .int .i64 sh] 26)).cell? ⟨wo.heap.size, 2, none⟩ = some (.int .i64 op) := by simp
                    have e3 : (wo.alloc (.cells #[.string s, .int .i64 a, .int .i64 op, .int .i64 sh] 26)).cell? ⟨wo.heap.size, 3, none⟩ = some (.int .i64 sh) := by simp
                    have kA := cellK kA (below_box wo (.cells #[.string s, .int .i64 a, .int .i64 op, .int .i64 sh] 26))
                    have hom : (wo.alloc (.cells #[.string s, .int .i64 a, .int .i64 op, .int .i64 sh] 26)).ownsMap (H := Unit) Try.prog 2 (plainElem Try.prog 4) w1.heap.size k m := HOM.out.alloc _
                    have g0 := cellK g0 (below_box wo (.cells #[.string s, .int .i64 a, .int .i64 op, .int .i64 sh] 26))
                    refine wp_region_held (S := fun w' => w'.cell? ⟨wo.heap.size, 0, none⟩ = some (.string s) ∧ w'.cell? ⟨wo.heap.size, 1, none⟩ = some (.int .i64 a) ∧ w'.cell? ⟨wo.heap.size, 2, none⟩ = some (.int .i64 op) ∧ w'.cell? ⟨wo.heap.size, 3, none⟩ = some (.int .i64 sh) ∧ w'.cell? ⟨w.heap.size, 1, none⟩ = some (.slice A xs.length cap) ∧ w'.ownsMap (H := Unit) Try.prog 2 (plainElem Try.prog 4) w1.heap.size k m ∧ w'.cell? ⟨bd, off + j1 * 4, none⟩ = some (.string ps) ∧ Below (wo.alloc (.cells #[.string s, .int .i64 a, .int .i64 op, .int .i64 sh] 26)).heap.size (wo.alloc (.cells #[.string s, .int .i64 a, .int .i64 op, .int .i64 sh] 26)) w') (by kernel_rfl) ?_
                    try (change wpAnyH _ _ _ _ _ _ _ _ (World.drew _))
                    have hS0 := (show (wo.alloc (.cells #[.string s, .int .i64 a, .int .i64 op, .int .i64 sh] 26)).drew.cell? ⟨wo.heap.size, 0, none⟩ = some (.string s) ∧ (wo.alloc (.cells #[.string s, .int .i64 a, .int .i64 op, .int .i64 sh] 26)).drew.cell? ⟨wo.heap.size, 1, none⟩ = some (.int .i64 a) ∧ (wo.alloc (.cells #[.string s, .int .i64 a, .int .i64 op, .int .i64 sh] 26)).drew.cell? ⟨wo.heap.size, 2, none⟩ = some (.int .i64 op) ∧ (wo.alloc (.cells #[.string s, .int .i64 a, .int .i64 op, .int .i64 sh] 26)).drew.cell? ⟨wo.heap.size, 3, none⟩ = some (.int .i64 sh) ∧ (wo.alloc (.cells #[.string s, .int .i64 a, .int .i64 op, .int .i64 sh] 26)).drew.cell? ⟨w.heap.size, 1, none⟩ = some (.slice A xs.length cap) ∧ (wo.alloc (.cells #[.string s, .int .i64 a, .int .i64 op, .int .i64 sh] 26)).drew.ownsMap (H := Unit) Try.prog 2 (plainElem Try.prog 4) w1.heap.size k m ∧ (wo.alloc (.cells #[.string s, .int .i64 a, .int .i64 op, .int .i64 sh] 26)).drew.cell? ⟨bd, off + j1 * 4, none⟩ = some (.string ps) ∧ Below (wo.alloc (.cells #[.string s, .int .i64 a, .int .i64 op, .int .i64 sh] 26)).heap.size (wo.alloc (.cells #[.string s, .int .i64 a, .int .i64 op, .int .i64 sh] 26)) (wo.alloc (.cells #[.string s, .int .i64 a, .int .i64 op, .int .i64 sh] 26)).drew from ⟨e0, e1, e2, e3, kA, hom, g0, Below.drew (Below.refl _ _)⟩)
                    refine gTake 0 (v := ?_) rfl (by kernel_rfl) (by kernel_rfl) (by kernel_rfl) (fun _ _ _ h => h) (by kernel_rfl) ?_ hS0 ?_
                    rotate_left
                    · (intro W hW; have q0 := hW.1; have q1 := hW.2.1; have q2 := hW.2.2.1; have q3 := hW.2.2.2.1; have q4 := hW.2.2.2.2.1; have q5 := hW.2.2.2.2.2.1; have q6 := hW.2.2.2.2.2.2.1; clear hW; go_simp; try with_reducible rfl)
                    refine gOne 1 rfl (by kernel_rfl) (by kernel_rfl) (fun K hK => ?_)
                    go_simp
                    go_at_call 20
                    (with_reducible refine (iValidDoor_any s a op sh _ hsz).mono ?_)
                    rintro e wq0 ⟨rfl, hdq0⟩
                    try go_simp
                    have hS1 := (show wq0.cell? ⟨wo.heap.size, 0, none⟩ = some (.string s) ∧ wq0.cell? ⟨wo.heap.size, 1, none⟩ = some (.int .i64 a) ∧ wq0.cell? ⟨wo.heap.size, 2, none⟩ = some (.int .i64 op) ∧ wq0.cell? ⟨wo.heap.size, 3, none⟩ = some (.int .i64 sh) ∧ wq0.cell? ⟨w.heap.size, 1, none⟩ = some (.slice A xs.length cap) ∧ wq0.ownsMap (H := Unit) Try.prog 2 (plainElem Try.prog 4) w1.heap.size k m ∧ wq0.cell? ⟨bd, off + j1 * 4, none⟩ = some (.string ps) ∧ Below (wo.alloc (.cells #[.string s, .int .i64 a, .int .i64 op, .int .i64 sh] 26)).heap.size (wo.alloc (.cells #[.string s, .int .i64 a, .int .i64 op, .int .i64 sh] 26)) wq0 from ⟨cellK hS0.1 hdq0, cellK hS0.2.1 hdq0, cellK hS0.2.2.1 hdq0, cellK hS0.2.2.2.1 hdq0, cellK hS0.2.2.2.2.1 hdq0, omBelow hS0.2.2.2.2.2.1 hdq0, cellK hS0.2.2.2.2.2.2.1 hdq0, hS0.2.2.2.2.2.2.2.trans (hdq0.mono hS0.2.2.2.2.2.2.2.size)⟩)
                    refine hK _ _ hS1 ?_
                    clear hK K
                    refine gTake 2 (v := ?_) rfl (by kernel_rfl) (by kernel_rfl) (by kernel_rfl) (fun _ _ _ h => h) (by kernel_rfl) ?_ hS1 ?_
                    rotate_left
                    · (intro W hW; clear hW; go_simp; try with_reducible rfl)
                    refine gTake 3 (v := ?_) rfl (by kernel_rfl) (by kernel_rfl) (by kernel_rfl) (fun _ _ _ h => h) (by kernel_rfl) ?_ hS1 ?_
                    rotate_left
                    · (intro W hW; clear hW; go_simp; try with_reducible rfl)
                    refine gTake 4 (v := ?_) rfl (by kernel_rfl) (by kernel_rfl) (by kernel_rfl) (fun _ _ _ h => h) (by kernel_rfl) ?_ hS1 ?_
                    rotate_left
                    · (intro W hW; clear hW; go_simp; try with_reducible rfl)
                    refine gTake 5 (v := ?_) rfl (by kernel_rfl) (by kernel_rfl) (by kernel_rfl) (fun _ _ _ h => h) (by kernel_rfl) ?_ hS1 ?_
                    rotate_left
                    · (intro W hW; have q0 := hW.1; have q1 := hW.2.1; have q2 := hW.2.2.1; have q3 := hW.2.2.2.1; have q4 := hW.2.2.2.2.1; have q5 := hW.2.2.2.2.2.1; have q6 := hW.2.2.2.2.2.2.1; clear hW; go_simp; try with_reducible rfl)
                    refine gTake 6 (v := ?_) rfl (by kernel_rfl) (by kernel_rfl) (by kernel_rfl) (fun _ _ _ h => h) (by kernel_rfl) ?_ hS1 ?_
                    rotate_left
                    · (intro W hW; clear hW; go_simp; try with_reducible rfl)
                    refine gTake 7 (v := ?_) rfl (by kernel_rfl) (by kernel_rfl) (by kernel_rfl) (fun _ _ _ h => h) (by kernel_rfl) ?_ hS1 ?_
                    rotate_left
                    · (intro W hW; have q0 := hW.1; have q1 := hW.2.1; have q2 := hW.2.2.1; have q3 := hW.2.2.2.1; have q4 := hW.2.2.2.2.1; have q5 := hW.2.2.2.2.2.1; have q6 := hW.2.2.2.2.2.2.1; clear hW; go_simp; try with_reducible rfl)
                    refine gTake 8 (v := ?_) rfl (by kernel_rfl) (by kernel_rfl) (by kernel_rfl) (fun _ _ _ h => h) (by kernel_rfl) ?_ hS1 ?_
                    rotate_left
                    · (intro W hW; clear hW; go_simp; try with_reducible rfl)
                    refine gTake 9 (v := ?_) rfl (by kernel_rfl) (by kernel_rfl) (by kernel_rfl) (fun _ _ _ h => h) (by kernel_rfl) ?_ hS1 ?_
                    rotate_left
                    · (intro W hW; clear hW; go_simp; (try rw [HDN.out]); try with_reducible rfl)
                    refine gTake 10 (v := ?_) rfl (by kernel_rfl) (by kernel_rfl) (by kernel_rfl) (fun _ _ _ h => h) (by kernel_rfl) ?_ hS1 ?_
                    rotate_left
                    · (intro W hW; clear hW; go_simp; try with_reducible rfl)
                    refine gTake 11 (v := ?_) rfl (by kernel_rfl) (by kernel_rfl) (by kernel_rfl) (fun _ _ _ h => h) (by kernel_rfl) ?_ hS1 ?_
                    rotate_left
                    · (intro W hW; clear hW; go_simp; try with_reducible rfl)
                    refine gTake 12 (v := ?_) rfl (by kernel_rfl) (by kernel_rfl) (by kernel_rfl) (fun _ _ _ h => h) (by kernel_rfl) ?_ hS1 ?_
                    rotate_left
                    · (intro W hW; clear hW; go_simp; try with_reducible rfl)
                    refine gTake 13 (v := ?_) rfl (by kernel_rfl) (by kernel_rfl) (by kernel_rfl) (fun _ _ _ h => h) (by kernel_rfl) ?_ hS1 ?_
                    rotate_left
                    · (intro W hW; clear hW; go_simp; try with_reducible rfl)
                    refine gTake 14 (v := ?_) rfl (by kernel_rfl) (by kernel_rfl) (by kernel_rfl) (fun _ _ _ h => h) (by kernel_rfl) ?_ hS1 ?_
                    rotate_left
                    · (intro W hW; have q0 := hW.1; have q1 := hW.2.1; have q2 := hW.2.2.1; have q3 := hW.2.2.2.1; have q4 := hW.2.2.2.2.1; have q5 := hW.2.2.2.2.2.1; have q6 := hW.2.2.2.2.2.2.1; clear hW; go_simp; try with_reducible rfl)
                    refine gOne 15 rfl (by kernel_rfl) (by kernel_rfl) (fun K hK => ?_)
                    have hLK := look_set w1.heap.size k a m ((ds.take k).map Do.a) _ HMS.out hS1.2.2.2.2.2.1 hab
                    rw [HTK.out] at hLK
                    go_simp
                    have hS2 := hS1
                    refine hK _ _ hS2 ?_
                    clear hK K
                    refine gTake 16 (v := ?_) rfl (by kernel_rfl) (by kernel_rfl) (by kernel_rfl) (fun _ _ _ h => h) (by kernel_rfl) ?_ hS2 ?_
                    rotate_left
                    · (intro W hW; clear hW; go_simp; try with_reducible rfl)
                    refine gTake 17 (v := ?_) rfl (by kernel_rfl) (by kernel_rfl) (by kernel_rfl) (fun _ _ _ h => h) (by kernel_rfl) ?_ hS2 ?_
                    rotate_left
                    · (intro W hW; clear hW; go_simp; try with_reducible rfl)
                    refine gTake 18 (v := ?_) rfl (by kernel_rfl) (by kernel_rfl) (by kernel_rfl) (fun _ _ _ h => h) (by kernel_rfl) ?_ hS2 ?_
                    rotate_left
                    · (intro W hW; clear hW; go_simp; try with_reducible rfl)
                    refine gTake 19 (v := ?_) rfl (by kernel_rfl) (by kernel_rfl) (by kernel_rfl) (fun _ _ _ h => h) (by kernel_rfl) ?_ hS2 ?_
                    rotate_left
                    · (intro W hW; clear hW; go_simp; try with_reducible rfl)
                    refine gTake 20 (v := ?_) rfl (by kernel_rfl) (by kernel_rfl) (by kernel_rfl) (fun _ _ _ h => h) (by kernel_rfl) ?_ hS2 ?_
                    rotate_left
                    · (intro W hW; clear hW; go_simp; try with_reducible rfl)
                    refine gTake 21 (v := ?_) rfl (by kernel_rfl) (by kernel_rfl) (by kernel_rfl) (fun _ _ _ h => h) (by kernel_rfl) ?_ hS2 ?_
                    rotate_left
                    · (intro W hW; clear hW; go_simp; try with_reducible rfl)
                    refine gTake 22 (v := ?_) rfl (by kernel_rfl) (by kernel_rfl) (by kernel_rfl) (fun _ _ _ h => h) (by kernel_rfl) ?_ hS2 ?_
                    rotate_left
                    · (intro W hW; have q0 := hW.1; have q1 := hW.2.1; have q2 := hW.2.2.1; have q3 := hW.2.2.2.1; have q4 := hW.2.2.2.2.1; have q5 := hW.2.2.2.2.2.1; have q6 := hW.2.2.2.2.2.2.1; clear hW; go_simp; try with_reducible rfl)
                    refine gTake 23 (v := ?_) rfl (by kernel_rfl) (by kernel_rfl) (by kernel_rfl) (fun _ _ _ h => h) (by kernel_rfl) ?_ hS2 ?_
                    rotate_left
                    · (intro W hW; clear hW; go_simp; try with_reducible rfl)
                    refine gTake 24 (v := ?_) rfl (by kernel_rfl) (by kernel_rfl) (by kernel_rfl) (fun _ _ _ h => h) (by kernel_rfl) ?_ hS2 ?_
                    rotate_left
                    · (intro W hW; clear hW; go_simp; try with_reducible rfl)
                    refine gTake 25 (v := ?_) rfl (by kernel_rfl) (by kernel_rfl) (by kernel_rfl) (fun _ _ _ h => h) (by kernel_rfl) ?_ hS2 ?_
                    rotate_left
                    · (intro W hW; clear hW; go_simp; try with_reducible rfl)
                    refine gTake 26 (v := ?_) rfl (by kernel_rfl) (by kernel_rfl) (by kernel_rfl) (fun _ _ _ h => h) (by kernel_rfl) ?_ hS2 ?_
                    rotate_left
                    · (intro W hW; clear hW; go_simp; try with_reducible rfl)
                    refine gTake 27 (v := ?_) rfl (by kernel_rfl) (by kernel_rfl) (by kernel_rfl) (fun _ _ _ h => h) (by kernel_rfl) ?_ hS2 ?_
                    rotate_left
                    · (intro W hW; clear hW; go_simp; try with_reducible rfl)
                    refine gTake 28 (v := ?_) rfl (by kernel_rfl) (by kernel_rfl) (by kernel_rfl) (fun _ _ _ h => h) (by kernel_rfl) ?_ hS2 ?_
                    rotate_left
                    · (intro W hW; have q0 := hW.1; have q1 := hW.2.1; have q2 := hW.2.2.1; have q3 := hW.2.2.2.1; have q4 := hW.2.2.2.2.1; have q5 := hW.2.2.2.2.2.1; have q6 := hW.2.2.2.2.2.2.1; clear hW; go_simp; try with_reducible rfl)
                    refine gTake 29 (v := ?_) rfl (by kernel_rfl) (by kernel_rfl) (by kernel_rfl) (fun _ _ _ h => h) (by kernel_rfl) ?_ hS2 ?_
                    rotate_left
                    · (intro W hW; clear hW; go_simp; try with_reducible rfl)
                    refine gTake 30 (v := ?_) rfl (by kernel_rfl) (by kernel_rfl) (by kernel_rfl) (fun _ _ _ h => h) (by kernel_rfl) ?_ hS2 ?_
                    rotate_left
                    · (intro W hW; clear hW; go_simp; try with_reducible rfl)
                    refine gTake 31 (v := ?_) rfl (by kernel_rfl) (by kernel_rfl) (by kernel_rfl) (fun _ _ _ h => h) (by kernel_rfl) ?_ hS2 ?_
                    rotate_left
                    · (intro W hW; clear hW; go_simp; try with_reducible rfl)
                    refine wpAnyH_done (by kernel_rfl) ?_ _
                    go_simp
                    go_wp2
                    go_ret
                    exact ⟨ret_bool HF.out.symm, HBX.out.trans ((HB.out.trans (((below_box wo (.cells #[.string s, .int .i64 a, .int .i64 op, .int .i64 sh] 26)).trans (hS2.2.2.2.2.2.2.2.mono (by simp))).mono HB.out.size)).mono HBX.out.size)⟩
                  · have hq := HT.out
                    rw [hls] at hq
                    replace hq : (Op.bytesLess s.toList ps.toList || s.toList == ps.toList) = false := hq.symm
                    have HF := Lib.hid (show dGood xs.length ds k = true by rw [HGF.out, hd1, decide_eq_true han, hls, HNW.out]; rfl)
                    go_wp2_with fail
                    have e0 : (wo.alloc (.cells #[.string s, .int .i64 a, .int .i64 op, .int .i64 sh] 26)).cell? ⟨wo.heap.size, 0, none⟩ = some (.string s) := by simp
                    have e1 : (wo.alloc (.cells #[.string s, .int .i64 a, .int .i64 op, .int .i64 sh] 26)).cell? ⟨wo.heap.size, 1, none⟩ = some (.int .i64 a) := by simp
                    have e2 : (wo.alloc (.cells #[.string s, .int .i64 a, .int .i64 op, .int .i64 sh] 26)).cell? ⟨wo.heap.size, 2, none⟩ = some (.int .i64 op) := by simp
                    have e3 : (wo.alloc (.cells #[.string s, .int .i64 a, .int .i64 op, .int .i64 sh] 26)).cell? ⟨wo.heap.size, 3, none⟩ = some (.int .i64 sh) := by simp
                    have kA := cellK kA (below_box wo (.cells #[.string s, .int .i64 a, .int .i64 op, .int .i64 sh] 26))
                    have hom : (wo.alloc (.cells #[.string s, .int .i64 a, .int .i64 op, .int .i64 sh] 26)).ownsMap (H := Unit) Try.prog 2 (plainElem Try.prog 4) w1.heap.size k m := HOM.out.alloc _
                    have g0 := cellK g0 (below_box wo (.cells #[.string s, .int .i64 a, .int .i64 op, .int .i64 sh] 26))
                    refine wp_region_held (S := fun w' => w'.cell? ⟨wo.heap.size, 0, none⟩ = some (.string s) ∧ w'.cell? ⟨wo.heap.size, 1, none⟩ = some (.int .i64 a) ∧ w'.cell? ⟨wo.heap.size, 2, none⟩ = some (.int .i64 op) ∧ w'.cell? ⟨wo.heap.size, 3, none⟩ = some (.int .i64 sh) ∧ w'.cell? ⟨w.heap.size, 1, none⟩ = some (.slice A xs.length cap) ∧ w'.ownsMap (H := Unit) Try.prog 2 (plainElem Try.prog 4) w1.heap.size k m ∧ w'.cell? ⟨bd, off + j1 * 4, none⟩ = some (.string ps) ∧ Below (wo.alloc (.cells #[.string s, .int .i64 a, .int .i64 op, .int .i64 sh] 26)).heap.size (wo.alloc (.cells #[.string s, .int .i64 a, .int .i64 op, .int .i64 sh] 26)) w') (by kernel_rfl) ?_
                    try (change wpAnyH _ _ _ _ _ _ _ _ (World.drew _))
                    have hS0 := (show (wo.alloc (.cells #[.string s, .int .i64 a, .int .i64 op, .int .i64 sh] 26)).drew.cell? ⟨wo.heap.size, 0, none⟩ = some (.string s) ∧ (wo.alloc (.cells #[.string s, .int .i64 a, .int .i64 op, .int .i64 sh] 26)).drew.cell? ⟨wo.heap.size, 1, none⟩ = some (.int .i64 a) ∧ (wo.alloc (.cells #[.string s, .int .i64 a, .int .i64 op, .int .i64 sh] 26)).drew.cell? ⟨wo.heap.size, 2, none⟩ = some (.int .i64 op) ∧ (wo.alloc (.cells #[.string s, .int .i64 a, .int .i64 op, .int .i64 sh] 26)).drew.cell? ⟨wo.heap.size, 3, none⟩ = some (.int .i64 sh) ∧ (wo.alloc (.cells #[.string s, .int .i64 a, .int .i64 op, .int .i64 sh] 26)).drew.cell? ⟨w.heap.size, 1, none⟩ = some (.slice A xs.length cap) ∧ (wo.alloc (.cells #[.string s, .int .i64 a, .int .i64 op, .int .i64 sh] 26)).drew.ownsMap (H := Unit) Try.prog 2 (plainElem Try.prog 4) w1.heap.size k m ∧ (wo.alloc (.cells #[.string s, .int .i64 a, .int .i64 op, .int .i64 sh] 26)).drew.cell? ⟨bd, off + j1 * 4, none⟩ = some (.string ps) ∧ Below (wo.alloc (.cells #[.string s, .int .i64 a, .int .i64 op, .int .i64 sh] 26)).heap.size (wo.alloc (.cells #[.string s, .int .i64 a, .int .i64 op, .int .i64 sh] 26)) (wo.alloc (.cells #[.string s, .int .i64 a, .int .i64 op, .int .i64 sh] 26)).drew from ⟨e0, e1, e2, e3, kA, hom, g0, Below.drew (Below.refl _ _)⟩)
                    refine gTake 0 (v := ?_) rfl (by kernel_rfl) (by kernel_rfl) (by kernel_rfl) (fun _ _ _ h => h) (by kernel_rfl) ?_ hS0 ?_
                    rotate_left
                    · (intro W hW; have q0 := hW.1; have q1 := hW.2.1; have q2 := hW.2.2.1; have q3 := hW.2.2.2.1; have q4 := hW.2.2.2.2.1; have q5 := hW.2.2.2.2.2.1; have q6 := hW.2.2.2.2.2.2.1; clear hW; go_simp; try with_reducible rfl)
                    refine gOne 1 rfl (by kernel_rfl) (by kernel_rfl) (fun K hK => ?_)
                    go_simp
                    go_at_call 20
                    (with_reducible refine (iValidDoor_any s a op sh _ hsz).mono ?_)
                    rintro e wq0 ⟨rfl, hdq0⟩
                    try go_simp
                    have hS1 := (show wq0.cell? ⟨wo.heap.size, 0, none⟩ = some (.string s) ∧ wq0.cell? ⟨wo.heap.size, 1, none⟩ = some (.int .i64 a) ∧ wq0.cell? ⟨wo.heap.size, 2, none⟩ = some (.int .i64 op) ∧ wq0.cell? ⟨wo.heap.size, 3, none⟩ = some (.int .i64 sh) ∧ wq0.cell? ⟨w.heap.size, 1, none⟩ = some (.slice A xs.length cap) ∧ wq0.ownsMap (H := Unit) Try.prog 2 (plainElem Try.prog 4) w1.heap.size k m ∧ wq0.cell? ⟨bd, off + j1 * 4, none⟩ = some (.string ps) ∧ Below (wo.alloc (.cells #[.string s, .int .i64 a, .int .i64 op, .int .i64 sh] 26)).heap.size (wo.alloc (.cells #[.string s, .int .i64 a, .int .i64 op, .int .i64 sh] 26)) wq0 from ⟨cellK hS0.1 hdq0, cellK hS0.2.1 hdq0, cellK hS0.2.2.1 hdq0, cellK hS0.2.2.2.1 hdq0, cellK hS0.2.2.2.2.1 hdq0, omBelow hS0.2.2.2.2.2.1 hdq0, cellK hS0.2.2.2.2.2.2.1 hdq0, hS0.2.2.2.2.2.2.2.trans (hdq0.mono hS0.2.2.2.2.2.2.2.size)⟩)
                    refine hK _ _ hS1 ?_
                    clear hK K
                    refine gTake 2 (v := ?_) rfl (by kernel_rfl) (by kernel_rfl) (by kernel_rfl) (fun _ _ _ h => h) (by kernel_rfl) ?_ hS1 ?_
                    rotate_left
                    · (intro W hW; clear hW; go_simp; try with_reducible rfl)
                    refine gTake 3 (v := ?_) rfl (by kernel_rfl) (by kernel_rfl) (by kernel_rfl) (fun _ _ _ h => h) (by kernel_rfl) ?_ hS1 ?_
                    rotate_left
                    · (intro W hW; clear hW; go_simp; try with_reducible rfl)
                    refine gTake 4 (v := ?_) rfl (by kernel_rfl) (by kernel_rfl) (by kernel_rfl) (fun _ _ _ h => h) (by kernel_rfl) ?_ hS1 ?_
                    rotate_left
                    · (intro W hW; clear hW; go_simp; try with_reducible rfl)
                    refine gTake 5 (v := ?_) rfl (by kernel_rfl) (by kernel_rfl) (by kernel_rfl) (fun _ _ _ h => h) (by kernel_rfl) ?_ hS1 ?_
                    rotate_left
                    · (intro W hW; have q0 := hW.1; have q1 := hW.2.1; have q2 := hW.2.2.1; have q3 := hW.2.2.2.1; have q4 := hW.2.2.2.2.1; have q5 := hW.2.2.2.2.2.1; have q6 := hW.2.2.2.2.2.2.1; clear hW; go_simp; try with_reducible rfl)
                    refine gTake 6 (v := ?_) rfl (by kernel_rfl) (by kernel_rfl) (by kernel_rfl) (fun _ _ _ h => h) (by kernel_rfl) ?_ hS1 ?_
                    rotate_left
                    · (intro W hW; clear hW; go_simp; try with_reducible rfl)
                    refine gTake 7 (v := ?_) rfl (by kernel_rfl) (by kernel_rfl) (by kernel_rfl) (fun _ _ _ h => h) (by kernel_rfl) ?_ hS1 ?_
                    rotate_left
                    · (intro W hW; have q0 := hW.1; have q1 := hW.2.1; have q2 := hW.2.2.1; have q3 := hW.2.2.2.1; have q4 := hW.2.2.2.2.1; have q5 := hW.2.2.2.2.2.1; have q6 := hW.2.2.2.2.2.2.1; clear hW; go_simp; try with_reducible rfl)
                    refine gTake 8 (v := ?_) rfl (by kernel_rfl) (by kernel_rfl) (by kernel_rfl) (fun _ _ _ h => h) (by kernel_rfl) ?_ hS1 ?_
                    rotate_left
                    · (intro W hW; clear hW; go_simp; try with_reducible rfl)
                    refine gTake 9 (v := ?_) rfl (by kernel_rfl) (by kernel_rfl) (by kernel_rfl) (fun _ _ _ h => h) (by kernel_rfl) ?_ hS1 ?_
                    rotate_left
                    · (intro W hW; clear hW; go_simp; (try rw [HDN.out]); try with_reducible rfl)
                    refine gTake 10 (v := ?_) rfl (by kernel_rfl) (by kernel_rfl) (by kernel_rfl) (fun _ _ _ h => h) (by kernel_rfl) ?_ hS1 ?_
                    rotate_left
                    · (intro W hW; clear hW; go_simp; try with_reducible rfl)
                    refine gTake 11 (v := ?_) rfl (by kernel_rfl) (by kernel_rfl) (by kernel_rfl) (fun _ _ _ h => h) (by kernel_rfl) ?_ hS1 ?_
                    rotate_left
                    · (intro W hW; clear hW; go_simp; try with_reducible rfl)
                    refine gTake 12 (v := ?_) rfl (by kernel_rfl) (by kernel_rfl) (by kernel_rfl) (fun _ _ _ h => h) (by kernel_rfl) ?_ hS1 ?_
                    rotate_left
                    · (intro W hW; clear hW; go_simp; try with_reducible rfl)
                    refine gTake 13 (v := ?_) rfl (by kernel_rfl) (by kernel_rfl) (by kernel_rfl) (fun _ _ _ h => h) (by kernel_rfl) ?_ hS1 ?_
                    rotate_left
                    · (intro W hW; clear hW; go_simp; try with_reducible rfl)
                    refine gTake 14 (v := ?_) rfl (by kernel_rfl) (by kernel_rfl) (by kernel_rfl) (fun _ _ _ h => h) (by kernel_rfl) ?_ hS1 ?_
                    rotate_left
                    · (intro W hW; have q0 := hW.1; have q1 := hW.2.1; have q2 := hW.2.2.1; have q3 := hW.2.2.2.1; have q4 := hW.2.2.2.2.1; have q5 := hW.2.2.2.2.2.1; have q6 := hW.2.2.2.2.2.2.1; clear hW; go_simp; try with_reducible rfl)
                    refine gOne 15 rfl (by kernel_rfl) (by kernel_rfl) (fun K hK => ?_)
                    have hLK := look_set w1.heap.size k a m ((ds.take k).map Do.a) _ HMS.out hS1.2.2.2.2.2.1 hab
                    rw [HTK.out] at hLK
                    go_simp
                    have hS2 := hS1
                    refine hK _ _ hS2 ?_
                    clear hK K
                    refine gTake 16 (v := ?_) rfl (by kernel_rfl) (by kernel_rfl) (by kernel_rfl) (fun _ _ _ h => h) (by kernel_rfl) ?_ hS2 ?_
                    rotate_left
                    · (intro W hW; clear hW; go_simp; try with_reducible rfl)
                    refine gTake 17 (v := ?_) rfl (by kernel_rfl) (by kernel_rfl) (by kernel_rfl) (fun _ _ _ h => h) (by kernel_rfl) ?_ hS2 ?_
                    rotate_left
                    · (intro W hW; clear hW; go_simp; try with_reducible rfl)
                    refine gTake 18 (v := ?_) rfl (by kernel_rfl) (by kernel_rfl) (by kernel_rfl) (fun _ _ _ h => h) (by kernel_rfl) ?_ hS2 ?_
                    rotate_left
                    · (intro W hW; clear hW; go_simp; try with_reducible rfl)
                    refine gTake 19 (v := ?_) rfl (by kernel_rfl) (by kernel_rfl) (by kernel_rfl) (fun _ _ _ h => h) (by kernel_rfl) ?_ hS2 ?_
                    rotate_left
                    · (intro W hW; clear hW; go_simp; try with_reducible rfl)
                    refine gTake 20 (v := ?_) rfl (by kernel_rfl) (by kernel_rfl) (by kernel_rfl) (fun _ _ _ h => h) (by kernel_rfl) ?_ hS2 ?_
                    rotate_left
                    · (intro W hW; clear hW; go_simp; try with_reducible rfl)
                    refine gTake 21 (v := ?_) rfl (by kernel_rfl) (by kernel_rfl) (by kernel_rfl) (fun _ _ _ h => h) (by kernel_rfl) ?_ hS2 ?_
                    rotate_left
                    · (intro W hW; clear hW; go_simp; try with_reducible rfl)
                    refine gTake 22 (v := ?_) rfl (by kernel_rfl) (by kernel_rfl) (by kernel_rfl) (fun _ _ _ h => h) (by kernel_rfl) ?_ hS2 ?_
                    rotate_left
                    · (intro W hW; have q0 := hW.1; have q1 := hW.2.1; have q2 := hW.2.2.1; have q3 := hW.2.2.2.1; have q4 := hW.2.2.2.2.1; have q5 := hW.2.2.2.2.2.1; have q6 := hW.2.2.2.2.2.2.1; clear hW; go_simp; try with_reducible rfl)
                    refine gTake 23 (v := ?_) rfl (by kernel_rfl) (by kernel_rfl) (by kernel_rfl) (fun _ _ _ h => h) (by kernel_rfl) ?_ hS2 ?_
                    rotate_left
                    · (intro W hW; clear hW; go_simp; try with_reducible rfl)
                    refine gTake 24 (v := ?_) rfl (by kernel_rfl) (by kernel_rfl) (by kernel_rfl) (fun _ _ _ h => h) (by kernel_rfl) ?_ hS2 ?_
                    rotate_left
                    · (intro W hW; clear hW; go_simp; try with_reducible rfl)
                    refine gTake 25 (v := ?_) rfl (by kernel_rfl) (by kernel_rfl) (by kernel_rfl) (fun _ _ _ h => h) (by kernel_rfl) ?_ hS2 ?_
                    rotate_left
                    · (intro W hW; clear hW; go_simp; try with_reducible rfl)
                    refine gTake 26 (v := ?_) rfl (by kernel_rfl) (by kernel_rfl) (by kernel_rfl) (fun _ _ _ h => h) (by kernel_rfl) ?_ hS2 ?_
                    rotate_left
                    · (intro W hW; clear hW; go_simp; try with_reducible rfl)
                    refine gTake 27 (v := ?_) rfl (by kernel_rfl) (by kernel_rfl) (by kernel_rfl) (fun _ _ _ h => h) (by kernel_rfl) ?_ hS2 ?_
                    rotate_left
                    · (intro W hW; clear hW; go_simp; try with_reducible rfl)
                    refine gTake 28 (v := ?_) rfl (by kernel_rfl) (by kernel_rfl) (by kernel_rfl) (fun _ _ _ h => h) (by kernel_rfl) ?_ hS2 ?_
                    rotate_left
                    · (intro W hW; have q0 := hW.1; have q1 := hW.2.1; have q2 := hW.2.2.1; have q3 := hW.2.2.2.1; have q4 := hW.2.2.2.2.1; have q5 := hW.2.2.2.2.2.1; have q6 := hW.2.2.2.2.2.2.1; clear hW; go_simp; try with_reducible rfl)
                    refine gTake 29 (v := ?_) rfl (by kernel_rfl) (by kernel_rfl) (by kernel_rfl) (fun _ _ _ h => h) (by kernel_rfl) ?_ hS2 ?_
                    rotate_left
                    · (intro W hW; clear hW; go_simp; try with_reducible rfl)
                    refine gTake 30 (v := ?_) rfl (by kernel_rfl) (by kernel_rfl) (by kernel_rfl) (fun _ _ _ h => h) (by kernel_rfl) ?_ hS2 ?_
                    rotate_left
                    · (intro W hW; clear hW; go_simp; try with_reducible rfl)
                    refine gTake 31 (v := ?_) rfl (by kernel_rfl) (by kernel_rfl) (by kernel_rfl) (fun _ _ _ h => h) (by kernel_rfl) ?_ hS2 ?_
                    rotate_left
                    · (intro W hW; clear hW; go_simp; try with_reducible rfl)
                    refine wpAnyH_done (by kernel_rfl) ?_ _
                    go_simp
                    have HO3 := Lib.hid (hS2.2.2.2.2.2.1)
                    have HB3 := Lib.hid (HB.out.trans (((below_box wo (.cells #[.string s, .int .i64 a, .int .i64 op, .int .i64 sh] 26)).trans (hS2.2.2.2.2.2.2.2.mono (by simp))).mono HB.out.size))
                    have hz3 := HB3.out.size
                    have f1 := hS2.2.1
                    go_wp2_with (at_mapUpdate; refine wpList_mapUpdate_own _ rfl _ _ _ 98 rfl 2 4 (Maps.int_keyed Try.underlying2) Try.underlying98 _ w1.heap.size k _ rfl HO3.out (by unfold maxLen; omega) _ _ _ rfl rfl (keyIJ a (wfJ hab)) _ [] (plainElem_bool Try.underlying4 true) ?_)
                    intro w4 ho4 hg4
                    have HO4 := Lib.hid ho4
                    have HB4 := Lib.hid (HB3.out.grown hg4 hz3 (fun j hj => by injection hj with hj; omega))
                    clear ho4 hg4 f1
                    go_wp2
                    go_roundw
                    case rel => exact ⟨k + 1, _, by omega, by go_num, Lib.hid (fun j hj => by
                      rcases Nat.lt_or_ge j k with q | q
                      · exact HG.out j q
                      · obtain rfl : j = k := by omega
                        exact HF.out), HMP, HO4, HB4⟩
                    case measure => simp [intOf]; omega
              · have HNW := Lib.hid (show dNew ds k = false by
                  rw [HNE.out]
                  refine decide_eq_false (fun h => ?_)
                  have := HTN.out.2 h
                  rw [HTK.out] at this
                  cases this)
                have HF := Lib.hid (HV.out.trans (dsOk_bad (n := xs.length) hlt (by rw [HGE.out, HNW.out]; simp)))
                go_wp2_with fail
                have e0 : (wo.alloc (.cells #[.string s, .int .i64 a, .int .i64 op, .int .i64 sh] 26)).cell? ⟨wo.heap.size, 0, none⟩ = some (.string s) := by simp
                have e1 : (wo.alloc (.cells #[.string s, .int .i64 a, .int .i64 op, .int .i64 sh] 26)).cell? ⟨wo.heap.size, 1, none⟩ = some (.int .i64 a) := by simp
                have e2 : (wo.alloc (.cells #[.string s, .int .i64 a, .int .i64 op, .int .i64 sh] 26)).cell? ⟨wo.heap.size, 2, none⟩ = some (.int .i64 op) := by simp
                have e3 : (wo.alloc (.cells #[.string s, .int .i64 a, .int .i64 op, .int .i64 sh] 26)).cell? ⟨wo.heap.size, 3, none⟩ = some (.int .i64 sh) := by simp
                have kA := cellK kA (below_box wo (.cells #[.string s, .int .i64 a, .int .i64 op, .int .i64 sh] 26))
                have hom : (wo.alloc (.cells #[.string s, .int .i64 a, .int .i64 op, .int .i64 sh] 26)).ownsMap (H := Unit) Try.prog 2 (plainElem Try.prog 4) w1.heap.size k m := HOM.out.alloc _
                refine wp_region_held (S := fun w' => w'.cell? ⟨wo.heap.size, 0, none⟩ = some (.string s) ∧ w'.cell? ⟨wo.heap.size, 1, none⟩ = some (.int .i64 a) ∧ w'.cell? ⟨wo.heap.size, 2, none⟩ = some (.int .i64 op) ∧ w'.cell? ⟨wo.heap.size, 3, none⟩ = some (.int .i64 sh) ∧ w'.cell? ⟨w.heap.size, 1, none⟩ = some (.slice A xs.length cap) ∧ w'.ownsMap (H := Unit) Try.prog 2 (plainElem Try.prog 4) w1.heap.size k m ∧ Below (wo.alloc (.cells #[.string s, .int .i64 a, .int .i64 op, .int .i64 sh] 26)).heap.size (wo.alloc (.cells #[.string s, .int .i64 a, .int .i64 op, .int .i64 sh] 26)) w') (by kernel_rfl) ?_
                try (change wpAnyH _ _ _ _ _ _ _ _ (World.drew _))
                have hS0 := (show (wo.alloc (.cells #[.string s, .int .i64 a, .int .i64 op, .int .i64 sh] 26)).drew.cell? ⟨wo.heap.size, 0, none⟩ = some (.string s) ∧ (wo.alloc (.cells #[.string s, .int .i64 a, .int .i64 op, .int .i64 sh] 26)).drew.cell? ⟨wo.heap.size, 1, none⟩ = some (.int .i64 a) ∧ (wo.alloc (.cells #[.string s, .int .i64 a, .int .i64 op, .int .i64 sh] 26)).drew.cell? ⟨wo.heap.size, 2, none⟩ = some (.int .i64 op) ∧ (wo.alloc (.cells #[.string s, .int .i64 a, .int .i64 op, .int .i64 sh] 26)).drew.cell? ⟨wo.heap.size, 3, none⟩ = some (.int .i64 sh) ∧ (wo.alloc (.cells #[.string s, .int .i64 a, .int .i64 op, .int .i64 sh] 26)).drew.cell? ⟨w.heap.size, 1, none⟩ = some (.slice A xs.length cap) ∧ (wo.alloc (.cells #[.string s, .int .i64 a, .int .i64 op, .int .i64 sh] 26)).drew.ownsMap (H := Unit) Try.prog 2 (plainElem Try.prog 4) w1.heap.size k m ∧ Below (wo.alloc (.cells #[.string s, .int .i64 a, .int .i64 op, .int .i64 sh] 26)).heap.size (wo.alloc (.cells #[.string s, .int .i64 a, .int .i64 op, .int .i64 sh] 26)) (wo.alloc (.cells #[.string s, .int .i64 a, .int .i64 op, .int .i64 sh] 26)).drew from ⟨e0, e1, e2, e3, kA, hom, Below.drew (Below.refl _ _)⟩)
                refine gTake 0 (v := ?_) rfl (by kernel_rfl) (by kernel_rfl) (by kernel_rfl) (fun _ _ _ h => h) (by kernel_rfl) ?_ hS0 ?_
                rotate_left
                · (intro W hW; have q0 := hW.1; have q1 := hW.2.1; have q2 := hW.2.2.1; have q3 := hW.2.2.2.1; have q4 := hW.2.2.2.2.1; have q5 := hW.2.2.2.2.2.1; clear hW; go_simp; try with_reducible rfl)
                refine gOne 1 rfl (by kernel_rfl) (by kernel_rfl) (fun K hK => ?_)
                go_simp
                go_at_call 20
                (with_reducible refine (iValidDoor_any s a op sh _ hsz).mono ?_)
                rintro e wq0 ⟨rfl, hdq0⟩
                try go_simp
                have hS1 := (show wq0.cell? ⟨wo.heap.size, 0, none⟩ = some (.string s) ∧ wq0.cell? ⟨wo.heap.size, 1, none⟩ = some (.int .i64 a) ∧ wq0.cell? ⟨wo.heap.size, 2, none⟩ = some (.int .i64 op) ∧ wq0.cell? ⟨wo.heap.size, 3, none⟩ = some (.int .i64 sh) ∧ wq0.cell? ⟨w.heap.size, 1, none⟩ = some (.slice A xs.length cap) ∧ wq0.ownsMap (H := Unit) Try.prog 2 (plainElem Try.prog 4) w1.heap.size k m ∧ Below (wo.alloc (.cells #[.string s, .int .i64 a, .int .i64 op, .int .i64 sh] 26)).heap.size (wo.alloc (.cells #[.string s, .int .i64 a, .int .i64 op, .int .i64 sh] 26)) wq0 from ⟨cellK hS0.1 hdq0, cellK hS0.2.1 hdq0, cellK hS0.2.2.1 hdq0, cellK hS0.2.2.2.1 hdq0, cellK hS0.2.2.2.2.1 hdq0, omBelow hS0.2.2.2.2.2.1 hdq0, hS0.2.2.2.2.2.2.trans (hdq0.mono hS0.2.2.2.2.2.2.size)⟩)
                refine hK _ _ hS1 ?_
                clear hK K
                refine gTake 2 (v := ?_) rfl (by kernel_rfl) (by kernel_rfl) (by kernel_rfl) (fun _ _ _ h => h) (by kernel_rfl) ?_ hS1 ?_
                rotate_left
                · (intro W hW; clear hW; go_simp; try with_reducible rfl)
                refine gTake 3 (v := ?_) rfl (by kernel_rfl) (by kernel_rfl) (by kernel_rfl) (fun _ _ _ h => h) (by kernel_rfl) ?_ hS1 ?_
                rotate_left
                · (intro W hW; clear hW; go_simp; try with_reducible rfl)
                refine gTake 4 (v := ?_) rfl (by kernel_rfl) (by kernel_rfl) (by kernel_rfl) (fun _ _ _ h => h) (by kernel_rfl) ?_ hS1 ?_
                rotate_left
                · (intro W hW; clear hW; go_simp; try with_reducible rfl)
                refine gTake 5 (v := ?_) rfl (by kernel_rfl) (by kernel_rfl) (by kernel_rfl) (fun _ _ _ h => h) (by kernel_rfl) ?_ hS1 ?_
                rotate_left
                · (intro W hW; have q0 := hW.1; have q1 := hW.2.1; have q2 := hW.2.2.1; have q3 := hW.2.2.2.1; have q4 := hW.2.2.2.2.1; have q5 := hW.2.2.2.2.2.1; clear hW; go_simp; try with_reducible rfl)
                refine gTake 6 (v := ?_) rfl (by kernel_rfl) (by kernel_rfl) (by kernel_rfl) (fun _ _ _ h => h) (by kernel_rfl) ?_ hS1 ?_
                rotate_left
                · (intro W hW; clear hW; go_simp; try with_reducible rfl)
                refine gTake 7 (v := ?_) rfl (by kernel_rfl) (by kernel_rfl) (by kernel_rfl) (fun _ _ _ h => h) (by kernel_rfl) ?_ hS1 ?_
                rotate_left
                · (intro W hW; have q0 := hW.1; have q1 := hW.2.1; have q2 := hW.2.2.1; have q3 := hW.2.2.2.1; have q4 := hW.2.2.2.2.1; have q5 := hW.2.2.2.2.2.1; clear hW; go_simp; try with_reducible rfl)
                refine gTake 8 (v := ?_) rfl (by kernel_rfl) (by kernel_rfl) (by kernel_rfl) (fun _ _ _ h => h) (by kernel_rfl) ?_ hS1 ?_
                rotate_left
                · (intro W hW; clear hW; go_simp; try with_reducible rfl)
                refine gTake 9 (v := ?_) rfl (by kernel_rfl) (by kernel_rfl) (by kernel_rfl) (fun _ _ _ h => h) (by kernel_rfl) ?_ hS1 ?_
                rotate_left
                · (intro W hW; clear hW; go_simp; (try rw [HDN.out]); try with_reducible rfl)
                refine gTake 10 (v := ?_) rfl (by kernel_rfl) (by kernel_rfl) (by kernel_rfl) (fun _ _ _ h => h) (by kernel_rfl) ?_ hS1 ?_
                rotate_left
                · (intro W hW; clear hW; go_simp; try with_reducible rfl)
                refine gTake 11 (v := ?_) rfl (by kernel_rfl) (by kernel_rfl) (by kernel_rfl) (fun _ _ _ h => h) (by kernel_rfl) ?_ hS1 ?_
                rotate_left
                · (intro W hW; clear hW; go_simp; try with_reducible rfl)
                refine gTake 12 (v := ?_) rfl (by kernel_rfl) (by kernel_rfl) (by kernel_rfl) (fun _ _ _ h => h) (by kernel_rfl) ?_ hS1 ?_
                rotate_left
                · (intro W hW; clear hW; go_simp; try with_reducible rfl)
                refine gTake 13 (v := ?_) rfl (by kernel_rfl) (by kernel_rfl) (by kernel_rfl) (fun _ _ _ h => h) (by kernel_rfl) ?_ hS1 ?_
                rotate_left
                · (intro W hW; clear hW; go_simp; try with_reducible rfl)
                refine gTake 14 (v := ?_) rfl (by kernel_rfl) (by kernel_rfl) (by kernel_rfl) (fun _ _ _ h => h) (by kernel_rfl) ?_ hS1 ?_
                rotate_left
                · (intro W hW; have q0 := hW.1; have q1 := hW.2.1; have q2 := hW.2.2.1; have q3 := hW.2.2.2.1; have q4 := hW.2.2.2.2.1; have q5 := hW.2.2.2.2.2.1; clear hW; go_simp; try with_reducible rfl)
                refine gOne 15 rfl (by kernel_rfl) (by kernel_rfl) (fun K hK => ?_)
                have hLK := look_set w1.heap.size k a m ((ds.take k).map Do.a) _ HMS.out hS1.2.2.2.2.2.1 hab
                rw [HTK.out] at hLK
                go_simp
                have hS2 := hS1
                refine hK _ _ hS2 ?_
                clear hK K
                refine gTake 16 (v := ?_) rfl (by kernel_rfl) (by kernel_rfl) (by kernel_rfl) (fun _ _ _ h => h) (by kernel_rfl) ?_ hS2 ?_
                rotate_left
                · (intro W hW; clear hW; go_simp; try with_reducible rfl)
                refine gTake 17 (v := ?_) rfl (by kernel_rfl) (by kernel_rfl) (by kernel_rfl) (fun _ _ _ h => h) (by kernel_rfl) ?_ hS2 ?_
                rotate_left
                · (intro W hW; clear hW; go_simp; try with_reducible rfl)
                refine gSkip 18 rfl (by kernel_rfl) (by kernel_rfl) (by kernel_rfl) (fun _ _ _ h => h) (by kernel_rfl) hS2 ?_
                refine gSkip 19 rfl (by kernel_rfl) (by kernel_rfl) (by kernel_rfl) (fun _ _ _ h => h) (by kernel_rfl) hS2 ?_
                refine gSkip 20 rfl (by kernel_rfl) (by kernel_rfl) (by kernel_rfl) (fun _ _ _ h => h) (by kernel_rfl) hS2 ?_
                refine gSkip 21 rfl (by kernel_rfl) (by kernel_rfl) (by kernel_rfl) (fun _ _ _ h => h) (by kernel_rfl) hS2 ?_
                refine gSkip 22 rfl (by kernel_rfl) (by kernel_rfl) (by kernel_rfl) (fun _ _ _ h => h) (by kernel_rfl) hS2 ?_
                refine gSkip 23 rfl (by kernel_rfl) (by kernel_rfl) (by kernel_rfl) (fun _ _ _ h => h) (by kernel_rfl) hS2 ?_
                refine gSkip 24 rfl (by kernel_rfl) (by kernel_rfl) (by kernel_rfl) (fun _ _ _ h => h) (by kernel_rfl) hS2 ?_
                refine gSkip 25 rfl (by kernel_rfl) (by kernel_rfl) (by kernel_rfl) (fun _ _ _ h => h) (by kernel_rfl) hS2 ?_
                refine gSkip 26 rfl (by kernel_rfl) (by kernel_rfl) (by kernel_rfl) (fun _ _ _ h => h) (by kernel_rfl) hS2 ?_
                refine gSkip 27 rfl (by kernel_rfl) (by kernel_rfl) (by kernel_rfl) (fun _ _ _ h => h) (by kernel_rfl) hS2 ?_
                refine gSkip 28 rfl (by kernel_rfl) (by kernel_rfl) (by kernel_rfl) (fun _ _ _ h => h) (by kernel_rfl) hS2 ?_
                refine gSkip 29 rfl (by kernel_rfl) (by kernel_rfl) (by kernel_rfl) (fun _ _ _ h => h) (by kernel_rfl) hS2 ?_
                refine gSkip 30 rfl (by kernel_rfl) (by kernel_rfl) (by kernel_rfl) (fun _ _ _ h => h) (by kernel_rfl) hS2 ?_
                refine gTake 31 (v := ?_) rfl (by kernel_rfl) (by kernel_rfl) (by kernel_rfl) (fun _ _ _ h => h) (by kernel_rfl) ?_ hS2 ?_
                rotate_left
                · (intro W hW; clear hW; go_simp; try with_reducible rfl)
                refine wpAnyH_done (by kernel_rfl) ?_ _
                go_simp
                go_wp2
                go_ret
                exact ⟨ret_bool HF.out.symm, HBX.out.trans ((HB.out.trans (((below_box wo (.cells #[.string s, .int .i64 a, .int .i64 op, .int .i64 sh] 26)).trans (hS2.2.2.2.2.2.2.mono (by simp))).mono HB.out.size)).mono HBX.out.size)⟩
            · have HDN := Lib.hid (show decide ((xs.length : Int) ≤ a) = true from decide_eq_true (by omega))
              have HF := Lib.hid (HV.out.trans (dsOk_bad (n := xs.length) hlt (by rw [HGE.out, decide_eq_false han]; simp)))
              go_wp2_with fail
              have e0 : (wo.alloc (.cells #[.string s, .int .i64 a, .int .i64 op, .int .i64 sh] 26)).cell? ⟨wo.heap.size, 0, none⟩ = some (.string s) := by simp
              have e1 : (wo.alloc (.cells #[.string s, .int .i64 a, .int .i64 op, .int .i64 sh] 26)).cell? ⟨wo.heap.size, 1, none⟩ = some (.int .i64 a) := by simp
              have e2 : (wo.alloc (.cells #[.string s, .int .i64 a, .int .i64 op, .int .i64 sh] 26)).cell? ⟨wo.heap.size, 2, none⟩ = some (.int .i64 op) := by simp
              have e3 : (wo.alloc (.cells #[.string s, .int .i64 a, .int .i64 op, .int .i64 sh] 26)).cell? ⟨wo.heap.size, 3, none⟩ = some (.int .i64 sh) := by simp
              have kA := cellK kA (below_box wo (.cells #[.string s, .int .i64 a, .int .i64 op, .int .i64 sh] 26))
              have hom : (wo.alloc (.cells #[.string s, .int .i64 a, .int .i64 op, .int .i64 sh] 26)).ownsMap (H := Unit) Try.prog 2 (plainElem Try.prog 4) w1.heap.size k m := HOM.out.alloc _
              refine wp_region_held (S := fun w' => w'.cell? ⟨wo.heap.size, 0, none⟩ = some (.string s) ∧ w'.cell? ⟨wo.heap.size, 1, none⟩ = some (.int .i64 a) ∧ w'.cell? ⟨wo.heap.size, 2, none⟩ = some (.int .i64 op) ∧ w'.cell? ⟨wo.heap.size, 3, none⟩ = some (.int .i64 sh) ∧ w'.cell? ⟨w.heap.size, 1, none⟩ = some (.slice A xs.length cap) ∧ w'.ownsMap (H := Unit) Try.prog 2 (plainElem Try.prog 4) w1.heap.size k m ∧ Below (wo.alloc (.cells #[.string s, .int .i64 a, .int .i64 op, .int .i64 sh] 26)).heap.size (wo.alloc (.cells #[.string s, .int .i64 a, .int .i64 op, .int .i64 sh] 26)) w') (by kernel_rfl) ?_
              try (change wpAnyH _ _ _ _ _ _ _ _ (World.drew _))
              have hS0 := (show (wo.alloc (.cells #[.string s, .int .i64 a, .int .i64 op, .int .i64 sh] 26)).drew.cell? ⟨wo.heap.size, 0, none⟩ = some (.string s) ∧ (wo.alloc (.cells #[.string s, .int .i64 a, .int .i64 op, .int .i64 sh] 26)).drew.cell? ⟨wo.heap.size, 1, none⟩ = some (.int .i64 a) ∧ (wo.alloc (.cells #[.string s, .int .i64 a, .int .i64 op, .int .i64 sh] 26)).drew.cell? ⟨wo.heap.size, 2, none⟩ = some (.int .i64 op) ∧ (wo.alloc (.cells #[.string s, .int .i64 a, .int .i64 op, .int .i64 sh] 26)).drew.cell? ⟨wo.heap.size, 3, none⟩ = some (.int .i64 sh) ∧ (wo.alloc (.cells #[.string s, .int .i64 a, .int .i64 op, .int .i64 sh] 26)).drew.cell? ⟨w.heap.size, 1, none⟩ = some (.slice A xs.length cap) ∧ (wo.alloc (.cells #[.string s, .int .i64 a, .int .i64 op, .int .i64 sh] 26)).drew.ownsMap (H := Unit) Try.prog 2 (plainElem Try.prog 4) w1.heap.size k m ∧ Below (wo.alloc (.cells #[.string s, .int .i64 a, .int .i64 op, .int .i64 sh] 26)).heap.size (wo.alloc (.cells #[.string s, .int .i64 a, .int .i64 op, .int .i64 sh] 26)) (wo.alloc (.cells #[.string s, .int .i64 a, .int .i64 op, .int .i64 sh] 26)).drew from ⟨e0, e1, e2, e3, kA, hom, Below.drew (Below.refl _ _)⟩)
              refine gTake 0 (v := ?_) rfl (by kernel_rfl) (by kernel_rfl) (by kernel_rfl) (fun _ _ _ h => h) (by kernel_rfl) ?_ hS0 ?_
              rotate_left
              · (intro W hW; have q0 := hW.1; have q1 := hW.2.1; have q2 := hW.2.2.1; have q3 := hW.2.2.2.1; have q4 := hW.2.2.2.2.1; have q5 := hW.2.2.2.2.2.1; clear hW; go_simp; try with_reducible rfl)
              refine gOne 1 rfl (by kernel_rfl) (by kernel_rfl) (fun K hK => ?_)
              go_simp
              go_at_call 20
              (with_reducible refine (iValidDoor_any s a op sh _ hsz).mono ?_)
              rintro e wq0 ⟨rfl, hdq0⟩
              try go_simp
              have hS1 := (show wq0.cell? ⟨wo.heap.size, 0, none⟩ = some (.string s) ∧ wq0.cell? ⟨wo.heap.size, 1, none⟩ = some (.int .i64 a) ∧ wq0.cell? ⟨wo.heap.size, 2, none⟩ = some (.int .i64 op) ∧ wq0.cell? ⟨wo.heap.size, 3, none⟩ = some (.int .i64 sh) ∧ wq0.cell? ⟨w.heap.size, 1, none⟩ = some (.slice A xs.length cap) ∧ wq0.ownsMap (H := Unit) Try.prog 2 (plainElem Try.prog 4) w1.heap.size k m ∧ Below (wo.alloc (.cells #[.string s, .int .i64 a, .int .i64 op, .int .i64 sh] 26)).heap.size (wo.alloc (.cells #[.string s, .int .i64 a, .int .i64 op, .int .i64 sh] 26)) wq0 from ⟨cellK hS0.1 hdq0, cellK hS0.2.1 hdq0, cellK hS0.2.2.1 hdq0, cellK hS0.2.2.2.1 hdq0, cellK hS0.2.2.2.2.1 hdq0, omBelow hS0.2.2.2.2.2.1 hdq0, hS0.2.2.2.2.2.2.trans (hdq0.mono hS0.2.2.2.2.2.2.size)⟩)
              refine hK _ _ hS1 ?_
              clear hK K
              refine gTake 2 (v := ?_) rfl (by kernel_rfl) (by kernel_rfl) (by kernel_rfl) (fun _ _ _ h => h) (by kernel_rfl) ?_ hS1 ?_
              rotate_left
              · (intro W hW; clear hW; go_simp; try with_reducible rfl)
              refine gTake 3 (v := ?_) rfl (by kernel_rfl) (by kernel_rfl) (by kernel_rfl) (fun _ _ _ h => h) (by kernel_rfl) ?_ hS1 ?_
              rotate_left
              · (intro W hW; clear hW; go_simp; try with_reducible rfl)
              refine gTake 4 (v := ?_) rfl (by kernel_rfl) (by kernel_rfl) (by kernel_rfl) (fun _ _ _ h => h) (by kernel_rfl) ?_ hS1 ?_
              rotate_left
              · (intro W hW; clear hW; go_simp; try with_reducible rfl)
              refine gTake 5 (v := ?_) rfl (by kernel_rfl) (by kernel_rfl) (by kernel_rfl) (fun _ _ _ h => h) (by kernel_rfl) ?_ hS1 ?_
              rotate_left
              · (intro W hW; have q0 := hW.1; have q1 := hW.2.1; have q2 := hW.2.2.1; have q3 := hW.2.2.2.1; have q4 := hW.2.2.2.2.1; have q5 := hW.2.2.2.2.2.1; clear hW; go_simp; try with_reducible rfl)
              refine gTake 6 (v := ?_) rfl (by kernel_rfl) (by kernel_rfl) (by kernel_rfl) (fun _ _ _ h => h) (by kernel_rfl) ?_ hS1 ?_
              rotate_left
              · (intro W hW; clear hW; go_simp; try with_reducible rfl)
              refine gTake 7 (v := ?_) rfl (by kernel_rfl) (by kernel_rfl) (by kernel_rfl) (fun _ _ _ h => h) (by kernel_rfl) ?_ hS1 ?_
              rotate_left
              · (intro W hW; have q0 := hW.1; have q1 := hW.2.1; have q2 := hW.2.2.1; have q3 := hW.2.2.2.1; have q4 := hW.2.2.2.2.1; have q5 := hW.2.2.2.2.2.1; clear hW; go_simp; try with_reducible rfl)
              refine gTake 8 (v := ?_) rfl (by kernel_rfl) (by kernel_rfl) (by kernel_rfl) (fun _ _ _ h => h) (by kernel_rfl) ?_ hS1 ?_
              rotate_left
              · (intro W hW; clear hW; go_simp; try with_reducible rfl)
              refine gTake 9 (v := ?_) rfl (by kernel_rfl) (by kernel_rfl) (by kernel_rfl) (fun _ _ _ h => h) (by kernel_rfl) ?_ hS1 ?_
              rotate_left
              · (intro W hW; clear hW; go_simp; (try rw [HDN.out]); try with_reducible rfl)
              refine gTake 10 (v := ?_) rfl (by kernel_rfl) (by kernel_rfl) (by kernel_rfl) (fun _ _ _ h => h) (by kernel_rfl) ?_ hS1 ?_
              rotate_left
              · (intro W hW; clear hW; go_simp; try with_reducible rfl)
              refine gTake 11 (v := ?_) rfl (by kernel_rfl) (by kernel_rfl) (by kernel_rfl) (fun _ _ _ h => h) (by kernel_rfl) ?_ hS1 ?_
              rotate_left
              · (intro W hW; clear hW; go_simp; try with_reducible rfl)
              refine gSkip 12 rfl (by kernel_rfl) (by kernel_rfl) (by kernel_rfl) (fun _ _ _ h => h) (by kernel_rfl) hS1 ?_
              refine gSkip 13 rfl (by kernel_rfl) (by kernel_rfl) (by kernel_rfl) (fun _ _ _ h => h) (by kernel_rfl) hS1 ?_
              refine gSkip 14 rfl (by kernel_rfl) (by kernel_rfl) (by kernel_rfl) (fun _ _ _ h => h) (by kernel_rfl) hS1 ?_
              refine gSkip 15 rfl (by kernel_rfl) (by kernel_rfl) (by kernel_rfl) (fun _ _ _ h => h) (by kernel_rfl) hS1 ?_
              refine gTake 16 (v := ?_) rfl (by kernel_rfl) (by kernel_rfl) (by kernel_rfl) (fun _ _ _ h => h) (by kernel_rfl) ?_ hS1 ?_
              rotate_left
              · (intro W hW; clear hW; go_simp; try with_reducible rfl)
              refine gTake 17 (v := ?_) rfl (by kernel_rfl) (by kernel_rfl) (by kernel_rfl) (fun _ _ _ h => h) (by kernel_rfl) ?_ hS1 ?_
              rotate_left
              · (intro W hW; clear hW; go_simp; try with_reducible rfl)
              refine gSkip 18 rfl (by kernel_rfl) (by kernel_rfl) (by kernel_rfl) (fun _ _ _ h => h) (by kernel_rfl) hS1 ?_
              refine gSkip 19 rfl (by kernel_rfl) (by kernel_rfl) (by kernel_rfl) (fun _ _ _ h => h) (by kernel_rfl) hS1 ?_
              refine gSkip 20 rfl (by kernel_rfl) (by kernel_rfl) (by kernel_rfl) (fun _ _ _ h => h) (by kernel_rfl) hS1 ?_
              refine gSkip 21 rfl (by kernel_rfl) (by kernel_rfl) (by kernel_rfl) (fun _ _ _ h => h) (by kernel_rfl) hS1 ?_
              refine gSkip 22 rfl (by kernel_rfl) (by kernel_rfl) (by kernel_rfl) (fun _ _ _ h => h) (by kernel_rfl) hS1 ?_
              refine gSkip 23 rfl (by kernel_rfl) (by kernel_rfl) (by kernel_rfl) (fun _ _ _ h => h) (by kernel_rfl) hS1 ?_
              refine gSkip 24 rfl (by kernel_rfl) (by kernel_rfl) (by kernel_rfl) (fun _ _ _ h => h) (by kernel_rfl) hS1 ?_
              refine gSkip 25 rfl (by kernel_rfl) (by kernel_rfl) (by kernel_rfl) (fun _ _ _ h => h) (by kernel_rfl) hS1 ?_
              refine gSkip 26 rfl (by kernel_rfl) (by kernel_rfl) (by kernel_rfl) (fun _ _ _ h => h) (by kernel_rfl) hS1 ?_
              refine gSkip 27 rfl (by kernel_rfl) (by kernel_rfl) (by kernel_rfl) (fun _ _ _ h => h) (by kernel_rfl) hS1 ?_
              refine gSkip 28 rfl (by kernel_rfl) (by kernel_rfl) (by kernel_rfl) (fun _ _ _ h => h) (by kernel_rfl) hS1 ?_
              refine gSkip 29 rfl (by kernel_rfl) (by kernel_rfl) (by kernel_rfl) (fun _ _ _ h => h) (by kernel_rfl) hS1 ?_
              refine gSkip 30 rfl (by kernel_rfl) (by kernel_rfl) (by kernel_rfl) (fun _ _ _ h => h) (by kernel_rfl) hS1 ?_
              refine gTake 31 (v := ?_) rfl (by kernel_rfl) (by kernel_rfl) (by kernel_rfl) (fun _ _ _ h => h) (by kernel_rfl) ?_ hS1 ?_
              rotate_left
              · (intro W hW; clear hW; go_simp; try with_reducible rfl)
              refine wpAnyH_done (by kernel_rfl) ?_ _
              go_simp
              go_wp2
              go_ret
              exact ⟨ret_bool HF.out.symm, HBX.out.trans ((HB.out.trans (((below_box wo (.cells #[.string s, .int .i64 a, .int .i64 op, .int .i64 sh] 26)).trans (hS1.2.2.2.2.2.2.mono (by simp))).mono HB.out.size)).mono HBX.out.size)⟩
        · obtain rfl : k = ds.length := by omega
          have HF := Lib.hid (show dvOk J xs ds = true by rw [HV.out]; exact dsOk_iff.2 ⟨fun j hj => HG.out j hj, h8⟩)
          go_wp2
          go_ret
          exact ⟨ret_bool HF.out.symm, HBX.out.trans (HB.out.mono HBX.out.size)⟩
    · have HF := Lib.hid (show dvOk J xs ds = false by rw [HV.out, ← Bool.not_eq_true, dsOk_iff]; exact fun hh => h8 hh.2)
      have t8 : (8 : Int) < (ds.length : Int) := by omega
      go_enter Try.func26, Try.ntmps26
      go_wp2_with fail
      (with_reducible refine (HM.out).mono ?_)
      rintro e w1 ⟨rfl, hd1⟩
      rw [hok]
      go_wp2
      go_ret
      exact ⟨ret_bool HF.out.symm, HB0.out.trans (hd1.mono HB0.out.size)⟩
end Go.Proofs.Ytddfhjolimkkmaa
