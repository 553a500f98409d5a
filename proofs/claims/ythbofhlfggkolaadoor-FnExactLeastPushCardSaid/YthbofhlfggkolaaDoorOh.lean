/-
  Contracts of chapter 12: one round of lowering potentials; the program's. Conditions: those that each theorem states.
-/
import Derived.Test.YthbofhlfggkolaaDoorOg
import Derived.Test.YthbofhlfggkolaaDoorOz
import Derived.Test.YthbofhlfggkolaaDoorRi
namespace Go.Proofs.YthbofhlfggkolaaDoor
open Go.RowKit Go.Shelf
set_option linter.unusedVariables false
set_option linter.unusedSimpArgs false
attribute [local go_sem] Oper.semAt_some

theorem pre_take {α : Type} {zs ys : List α} (h : zs <+: ys) : zs = ys.take zs.length := by
  obtain ⟨t, rfl⟩ := h
  simp
theorem pre_snoc {α : Type} {zs ys : List α} (h : zs <+: ys) (hl : zs.length < ys.length) : zs ++ [ys[zs.length]] <+: ys := by
  have h1 := pre_take h
  have h2 := List.take_succ_eq_append_getElem hl
  rw [← h1] at h2
  rw [← h2]
  exact List.take_prefix _ _
theorem steps_stops {α : Type} (val : α → Int × Int) (ys : List α) (n : Nat) (hn : 1 ≤ n) (Bs xcap gcap : Nat) (S : Nat → Prop) (XA GA : Option Addr) (ex : List Int) (rg : List Bool) (hys : ys.map val = stT ex rg ex.length) (hlen : ex.length ≤ 1000) (hgl : rg.length = ex.length) (hxb : ∀ i, i < ex.length → -2000000 ≤ ex.getD i 0 ∧ ex.getD i 0 ≤ 2000000)
    (w : World) (hBn : ¬ S Bs) (hBc : w.cell? ⟨Bs, 2, none⟩ = some (.slice XA ex.length xcap) ∧ w.cell? ⟨Bs, 3, none⟩ = some (.slice GA rg.length gcap))
    (hX : ∀ (j : Nat) (h : j < ex.length), ∃ b off, XA = some ⟨b, off, none⟩ ∧ ¬ S b ∧ w.cell? ⟨b, off + j, none⟩ = some (.int .i64 (ex.getD j 0)))
    (hG : ∀ (j : Nat) (h : j < rg.length), ∃ b off, GA = some ⟨b, off, none⟩ ∧ ¬ S b ∧ w.cell? ⟨b, off + j, none⟩ = some (.bool rg[j])) :
    SeqStopsK Fence.wide n Tryd.prog 112 #[.pointer (some ⟨Bs, 0, none⟩)] (fun x : α => #[Value.int .i64 (val x).1, Value.int .i64 (val x).2]) (KS S) (fun zs => zs = ys) (fun pre => pre <+: ys) ys.length w := fun l J Jx W hW _ _ hY h0 => by
  have hl : ys.length = (stT ex rg ex.length).length := by rw [← hys, List.length_map]
  have kc : ∀ (p : Addr) (v : Value), w.cell? p = some v → W.cell? p = some v := fun p v h => (hW.cell (World.block_lt_of_cell? _ _ h)).trans h
  refine (steps1_in n hn l Bs xcap gcap S XA GA ex rg hlen hgl hxb (fun p W => ∃ zs, zs.map val = p ∧ zs <+: ys ∧ J zs W) (fun p W => ∃ zs, zs.map val = p ∧ zs <+: ys ∧ Jx zs W) ?_ W hBn ⟨kc _ _ hBc.1, kc _ _ hBc.2⟩ (fun j h => ?_) (fun j h => ?_) ⟨[], rfl, List.nil_prefix, h0⟩).mono ?_
  · rintro pre x W1 ⟨zs, hz, hp, hj⟩ hpre
    have hzl : zs.length < ys.length := by
      have := hpre.length_le
      rw [List.length_append, List.length_singleton, ← hl, ← hz, List.length_map] at this
      omega
    have hx : val ys[zs.length] = x := by
      obtain ⟨t, ht⟩ := hpre
      have h1 : (stT ex rg ex.length)[zs.length]? = some x := by
        rw [← ht, List.append_assoc, List.getElem?_append_right (by rw [← hz, List.length_map]; exact Nat.le_refl _), ← hz, List.length_map, Nat.sub_self]
        rfl
      rw [← hys, List.getElem?_map, List.getElem?_eq_getElem hzl] at h1
      exact Option.some.inj h1
    have h2 := hY zs ys[zs.length] W1 hj hzl
    simp only [hx] at h2
    obtain ⟨fn, tmps, asg, body, hy, hR⟩ := h2
    refine ⟨fn, tmps, asg, body, hy, hR.mono ?_⟩
    rintro e W' (⟨he, h3, h4⟩ | ⟨he, h3⟩)
    · exact .inl ⟨he, ⟨_, by rw [List.map_append, hz, List.map_singleton, hx], pre_snoc hp hzl, h3⟩, h4⟩
    · exact .inr ⟨he, ⟨_, by rw [List.map_append, hz, List.map_singleton, hx], pre_snoc hp hzl, h3⟩⟩
  · obtain ⟨b, off, e, hb, hc⟩ := hX j h
    exact ⟨b, off, e, hb, kc _ _ hc⟩
  · obtain ⟨b, off, e, hb, hc⟩ := hG j h
    exact ⟨b, off, e, hb, kc _ _ hc⟩
  · rintro e W' ⟨hv, h⟩
    refine ⟨hv, ?_⟩
    rcases h with ⟨zs, rfl, zs', hz, hp, hj⟩ | ⟨pre, hp0, zs', hz, hp, hj⟩
    · left
      have hlen2 : zs'.length = ys.length := by
        have := congrArg List.length hz
        rw [List.length_map] at this
        omega
      have := pre_take hp
      rw [hlen2, List.take_length] at this
      exact ⟨zs', this, hj⟩
    · exact .inr ⟨zs', hp, hj⟩
/-- The edge of a step. -/
def edZ (xs : List Aw) (x : Int × Int) : Ed := ⟨(sfI xs x.1).toNat, (sfI xs (-x.1)).toNat, x.2⟩
theorem edZ_all {xs : List Aw} {ex : List Int} {rg : List Bool} : ∀ k, k ≤ xs.length → (stT ex rg k).map (edZ xs) = edT xs (fun i => ex.getD i 0) rg k
  | 0, _ => rfl
  | k + 1, h => by
    have hk : k < xs.length := by omega
    obtain ⟨h1, h2⟩ := sfI_pos hk
    rw [stT, edT, List.map_append, edZ_all k (by omega)]
    congr 1
    have e1 : edZ xs ((k : Int) + 1, ex.getD k 0) = eA xs (fun i => ex.getD i 0) k := by
      unfold edZ eA
      dsimp only
      rw [h1, h2, getD_of_lt hk]
    have e2 : edZ xs (-((k : Int) + 1), -(ex.getD k 0)) = eB xs (fun i => ex.getD i 0) k := by
      unfold edZ eB
      dsimp only
      rw [Int.neg_neg, h1, h2, getD_of_lt hk]
    unfold stI edI
    split
    · rw [List.map_singleton, e1]
    · rw [List.map_cons, List.map_singleton, e1, e2]
/-- The steps of a mine with m airways, with gains that are not too great. -/
abbrev Sg (m : Nat) := { x : Int × Int // (x.1 ≠ 0 ∧ -(m : Int) ≤ x.1 ∧ x.1 ≤ m) ∧ -2000000 ≤ x.2 ∧ x.2 ≤ 2000000 }
theorem sg_of {ex : List Int} {rg : List Bool} {m : Nat} (hxb : ∀ i, i < m → -2000000 ≤ ex.getD i 0 ∧ ex.getD i 0 ≤ 2000000) : ∀ k, k ≤ m → ∃ ys : List (Sg m), ys.map (·.1) = stT ex rg k
  | 0, _ => ⟨[], rfl⟩
  | k + 1, h => by
    obtain ⟨ys, hy⟩ := sg_of hxb k (by omega)
    have hb := hxb k (by omega)
    rw [stT]
    unfold stI
    split
    · exact ⟨ys ++ [⟨((k : Int) + 1, ex.getD k 0), ⟨by simp only; omega, by simp only; omega, by simp only; omega⟩, hb⟩], by rw [List.map_append, hy]; rfl⟩
    · exact ⟨ys ++ [⟨((k : Int) + 1, ex.getD k 0), ⟨by simp only; omega, by simp only; omega, by simp only; omega⟩, hb⟩, ⟨(-((k : Int) + 1), -(ex.getD k 0)), ⟨by simp only; omega, by simp only; omega, by simp only; omega⟩, by simp only; omega, by simp only; omega⟩], by rw [List.map_append, hy]; rfl⟩
/-- A row of potentials. -/
def PotR (w : World) (pb : Nat) (p : List Int) : Prop := w.ownsRow pb 2 1 (.slice (some ⟨pb, 0, none⟩) p.length p.length) p.length (intsV p)
theorem PotR.at {w : World} {pb : Nat} {p : List Int} (h : PotR w pb p) (v : Nat) (hv : v < p.length) : w.cell? ⟨pb, v, none⟩ = some (.int .i64 (pv p v)) ∧ w.frozen? ⟨pb, v, none⟩ = false :=
  ⟨by rw [World.ownsRow.cellAt h v (by omega)]; simp [intsV, pv, List.getD, hv], World.ownsRow.frozenAt h v⟩
theorem PotR.blk {w : World} {pb : Nat} {p : List Int} (h : PotR w pb p) : ∃ cur, w.heap[pb]? = some (.cells cur 2 (0, 0)) := by
  rcases h.2 with ⟨h', _⟩ | ⟨g, cap, cur, h', hb, hg, _⟩
  · cases h'
  · injection h' with h1
    injection h1 with h1
    injection h1 with h1
    subst h1
    exact ⟨cur, hg⟩
theorem PotR.kept {A B : World} {row : Option Nat} {pb : Nat} {p : List Int} (h : PotR A pb p) (hg : A.grownBy B row) (hr : ∀ r, row = some r → ∃ o : Obj, A.heap[r]? = some o ∧ o.isCells = false) : PotR B pb p :=
  World.ownsRow.kept h hg (.inr (fun e => by
    obtain ⟨cur, hc⟩ := h.blk
    obtain ⟨o, ho, hn⟩ := hr pb e.symm
    rw [hc] at ho
    cases ho
    cases hn))
theorem PotR.below {A B : World} {pb : Nat} {p : List Int} (h : PotR A pb p) (hb : Below A.heap.size A B) : PotR B pb p := own_below h hb
theorem PotR.put {A : World} {pb : Nat} {p : List Int} (h : PotR A pb p) {t : Nat} (ht : t < p.length) (x : Int) : PotR (A.setCell ⟨pb, t, none⟩ (.int .i64 x)) pb (p.set t x) := by
  have h1 := (World.ownsRow.stored h t (.int .i64 x)).1
  unfold PotR
  rw [List.length_set, show intsV (p.set t x) = (intsV p).set t (.int .i64 x) by simp [intsV, List.map_set]]
  exact h1
theorem PotR.off {A : World} {pb b o : Nat} {p : List Int} (h : PotR A pb p) (hne : pb ≠ b) (x : Value) : PotR (A.setCell ⟨b, o, none⟩ x) pb p := by
  refine ⟨h.1, h.2.imp id fun ⟨g, cap, cur, e, hg, hc, r⟩ => ⟨g, cap, cur, e, hg, ?_, r⟩⟩
  have hgp : g = pb := by
    injection e with e1
    injection e1 with e1
    injection e1 with e1
    exact e1.symm
  rw [← hc]
  exact Below.heap_setCell A ⟨b, o, none⟩ x g (by rw [hgp]; exact hne)
def edS (xs : List Aw) {m : Nat} (zs : List (Sg m)) : List Ed := zs.map fun x => edZ xs x.1
theorem edS_snoc (xs : List Aw) {m : Nat} (pre : List (Sg m)) (x : Sg m) : edS xs (pre ++ [x]) = edS xs pre ++ [edZ xs x.1] := by simp [edS]
theorem edS_len (xs : List Aw) {m : Nat} (pre : List (Sg m)) : (edS xs pre).length = pre.length := by simp [edS]
theorem ed_bd {m Jn : Nat} {xs : List Aw} (hok : mineOk (Jn : Int) xs = true) (hm : m = xs.length) (x : Sg m) : ∃ fn tn : Nat, sfI xs x.1.1 = fn ∧ sfI xs (-x.1.1) = tn ∧ fn < Jn ∧ tn < Jn := by
  subst hm
  obtain ⟨q, hq, -, hc⟩ := step_aw x.2.1.1 x.2.1.2
  obtain ⟨h1, h2⟩ := sfI_pos hq
  have h := ends_in hok hq
  rcases hc with ⟨-, e⟩ | ⟨-, e⟩
  · rw [e, h1, h2]; exact ⟨xs[q].f.toNat, xs[q].t.toNat, by omega, by omega, by omega, by omega⟩
  · rw [e, Int.neg_neg, h1, h2]; exact ⟨xs[q].t.toNat, xs[q].f.toNat, by omega, by omega, by omega, by omega⟩
theorem pre_bd {m Jn : Nat} {xs : List Aw} (hok : mineOk (Jn : Int) xs = true) (hm : m = xs.length) {p : List Int} (hpl : p.length = Jn) (hpd : ∀ v, -2100000000 ≤ pv p v ∧ pv p v ≤ 0) (pre : List (Sg m)) (hl : pre.length ≤ 48) : ∀ v, -2196000000 ≤ pv (rel p (edS xs pre)) v ∧ pv (rel p (edS xs pre)) v ≤ 0 := by
  intro v
  have ho : Ok Jn (edS xs pre) := fun e he => by
    unfold edS at he
    obtain ⟨x, -, rfl⟩ := List.mem_map.1 he
    obtain ⟨fn, tn, h1, h2, h3, h4⟩ := ed_bd hok hm x
    show (sfI xs x.1.1).toNat < Jn ∧ (sfI xs (-x.1.1)).toNat < Jn
    rw [h1, h2]; exact ⟨h3, h4⟩
  have hg : ∀ e ∈ (edS xs pre), -2000000 ≤ e.g ∧ e.g ≤ 2000000 := fun e he => by
    unfold edS at he
    obtain ⟨x, -, rfl⟩ := List.mem_map.1 he
    exact x.2.2
  have h1 := rel_low (J := Jn) (G := 2000000) (by omega) _ p (-2100000000) hpl ho hg (fun v => (hpd v).1) v
  have h2 := rel_le (J := Jn) _ p hpl ho v
  have h3 := (hpd v).2
  rw [edS_len] at h1
  omega
theorem keeps_belowO {B : Nat} {W W' : World} (h : Below W.heap.size W W') : KeepsFrom B W W' := ⟨h.size, fun k o _ hk _ => (h.block k (Array.getElem?_eq_some_iff.1 hk).1).trans hk⟩
set_option maxRecDepth 100000 in
set_option maxHeartbeats 4000000 in
theorem lower_st (Jn : Nat) (A : Option Addr) (cap : Nat) (xs : List Aw) (X : Option Addr) (xcap : Nat) (ex : List Int) (G : Option Addr) (gcap : Nat) (rg : List Bool) (ys : List (Sg xs.length)) (pb : Nat) (p : List Int) (w0 w : World)
    (hok : mineOk (Jn : Int) xs = true) (hr : AwR w0 A xs) (hxl : ex.length = xs.length) (hX : Row .i64 w0 (.slice X xs.length xcap) ex) (hgl : rg.length = xs.length) (hG : BoR w0 G rg) (hxb : ∀ i, i < xs.length → -2000000 ≤ ex.getD i 0 ∧ ex.getD i 0 ≤ 2000000) (hys : ys.map (·.1) = stT ex rg xs.length)
    (hyl : ys.length ≤ 48) (hb0 : Below w0.heap.size w0 w) (hpb : w0.heap.size ≤ pb) (hpl : p.length = Jn) (hp : PotR w pb p) (hpd : ∀ v, -2100000000 ≤ pv p v ∧ pv p v ≤ 0) (hpbw : pb < w.heap.size) :
    Calls Tryd.prog 71 #[.agg #[.int .i64 (Jn : Int), .slice A xs.length cap, .slice X xs.length xcap, .slice G xs.length gcap], .slice (some ⟨pb, 0, none⟩) Jn Jn] w fun e w' => e = .returned (.bool (chg p (edS xs ys))) ∧ PotR w' pb (rel p (edS xs ys)) ∧ KS (fun b => b = pb) w w' ∧ Below w0.heap.size w0 w' := by
  have h24 := (mineOk_iff.1 hok).2.2
  obtain ⟨W1, hW1⟩ : ∃ x, x = w.alloc (.cells #[.int .i64 (Jn : Int), .slice A xs.length cap, .slice X xs.length xcap, .slice G xs.length gcap] 75) := ⟨_, rfl⟩
  obtain ⟨W2, hW2⟩ : ∃ x, x = W1.alloc (.cells #[.slice (some ⟨pb, 0, none⟩) Jn Jn] 36) := ⟨_, rfl⟩
  obtain ⟨W3, hW3⟩ : ∃ x, x = W2.alloc (.cells #[.bool false] 4) := ⟨_, rfl⟩
  obtain ⟨V, hV⟩ : ∃ x, x = W3.alloc (.cells #[.int .i64 (Jn : Int), .slice A xs.length cap, .slice X xs.length xcap, .slice G xs.length gcap] 75) := ⟨_, rfl⟩
  have s1 : W1.heap.size = w.heap.size + 1 := by rw [hW1]; simp
  have s2 : W2.heap.size = w.heap.size + 1 + 1 := by rw [hW2, World.size_alloc, s1]
  have s3 : W3.heap.size = w.heap.size + 1 + 1 + 1 := by rw [hW3, World.size_alloc, s2]
  have hsz : V.heap.size = w.heap.size + 1 + 1 + 1 + 1 := by rw [hV, World.size_alloc, s3]
  have b1 : Below w.heap.size w W1 := hW1 ▸ below_box _ _
  have b2 : Below W1.heap.size W1 W2 := hW2 ▸ below_box _ _
  have b3 : Below W2.heap.size W2 W3 := hW3 ▸ below_box _ _
  have b4 : Below W3.heap.size W3 V := hV ▸ below_box _ _
  have HB4 := Lib.hid (b1.trans ((b2.trans ((b3.trans (b4.mono b3.size)).mono b2.size)).mono b1.size))
  have d0 : W1.cell? ⟨w.heap.size, 0, none⟩ = some (.int .i64 (Jn : Int)) ∧ W1.cell? ⟨w.heap.size, 1, none⟩ = some (.slice A xs.length cap) := by rw [hW1]; exact ⟨by simp, by simp⟩
  have d1 : W2.cell? ⟨W1.heap.size, 0, none⟩ = some (.slice (some ⟨pb, 0, none⟩) Jn Jn) := by rw [hW2]; simp
  have d2 : W3.cell? ⟨W2.heap.size, 0, none⟩ = some (.bool false) ∧ W3.frozen? ⟨W2.heap.size, 0, none⟩ = false := by rw [hW3]; exact ⟨by simp, by simp⟩
  have d3 : V.cell? ⟨W3.heap.size, 2, none⟩ = some (.slice X xs.length xcap) ∧ V.cell? ⟨W3.heap.size, 3, none⟩ = some (.slice G xs.length gcap) := by rw [hV]; exact ⟨by simp, by simp⟩
  have k1 : ∀ (a : Addr) (v : Value), W1.cell? a = some v → V.cell? a = some v := fun a v h => ((b2.trans ((b3.trans (b4.mono b3.size)).mono b2.size)).cell (World.block_lt_of_cell? _ _ h)).trans h
  have k2 : ∀ (a : Addr) (v : Value), W2.cell? a = some v → V.cell? a = some v := fun a v h => ((b3.trans (b4.mono b3.size)).cell (World.block_lt_of_cell? _ _ h)).trans h
  have k3 : ∀ (a : Addr) (v : Value), W3.cell? a = some v → V.cell? a = some v := fun a v h => (b4.cell (World.block_lt_of_cell? _ _ h)).trans h
  rw [s1] at d1
  rw [s2] at d2
  rw [s3] at d3
  have HOK := Lib.hid hok
  have HPL := Lib.hid hpl
  have HXL := Lib.hid (And.intro hxl hgl)
  have HBD := Lib.hid (fun pre hl => pre_bd (m := xs.length) hok rfl hpl hpd pre hl)
  have HSO := Lib.hid (fun (x : Sg xs.length) (W : World) (h : Below w0.heap.size w0 W) => startOf_any (Jn : Int) A cap xs x.1.1 W (hr.below h) h24 x.2.1.1 x.2.1.2)
  have HSN := Lib.hid (fun (x : Sg xs.length) (W : World) (h : Below w0.heap.size w0 W) => startOf_any (Jn : Int) A cap xs (-x.1.1) W (hr.below h) h24 (by have := x.2.1.1; omega) (by have := x.2.1.2; omega))
  have HX := Lib.hid (show ∀ (j : Nat) (h : j < ex.length), ∃ b off, X = some ⟨b, off, none⟩ ∧ ¬ (fun b : Nat => b = pb ∨ b = w.heap.size + 1 + 1) b ∧ V.cell? ⟨b, off + j, none⟩ = some (.int .i64 (ex.getD j 0)) from fun j h => by
    have hX2 : Row .i64 w0 (.slice X ex.length xcap) ex := by rw [hxl]; exact hX
    obtain ⟨b, off, e, -, hc⟩ := Row.cell hX2 h
    have hb := World.block_lt_of_cell? _ _ hc
    simp only at hb
    have := hb0.size
    exact ⟨b, off, e, by rintro (h | h) <;> omega, (HB4.out.cell (p := ⟨b, off + j, none⟩) (by show b < _; omega)).trans ((hb0.cell (p := ⟨b, off + j, none⟩) hb).trans hc)⟩)
  have HG := Lib.hid (show ∀ (j : Nat) (h : j < rg.length), ∃ b off, G = some ⟨b, off, none⟩ ∧ ¬ (fun b : Nat => b = pb ∨ b = w.heap.size + 1 + 1) b ∧ V.cell? ⟨b, off + j, none⟩ = some (.bool rg[j]) from fun j h => by
    obtain ⟨b, off, e, hc⟩ := hG j h
    have hb := World.block_lt_of_cell? _ _ hc
    simp only at hb
    have := hb0.size
    exact ⟨b, off, e, by rintro (h | h) <;> omega, (HB4.out.cell (p := ⟨b, off + j, none⟩) (by show b < _; omega)).trans ((hb0.cell (p := ⟨b, off + j, none⟩) hb).trans hc)⟩)
  have HC := Lib.hid (show V.cell? ⟨w.heap.size, 0, none⟩ = some (.int .i64 (Jn : Int)) ∧ V.cell? ⟨w.heap.size, 1, none⟩ = some (.slice A xs.length cap) ∧ V.cell? ⟨w.heap.size + 1, 0, none⟩ = some (.slice (some ⟨pb, 0, none⟩) Jn Jn) from ⟨k1 _ _ d0.1, k1 _ _ d0.2, k2 _ _ d1⟩)
  have HL := Lib.hid (show V.cell? ⟨w.heap.size + 1 + 1, 0, none⟩ = some (.bool false) ∧ V.frozen? ⟨w.heap.size + 1 + 1, 0, none⟩ = false from ⟨k3 _ _ d2.1, (b4.frozen (p := ⟨w.heap.size + 1 + 1, 0, none⟩) (by show w.heap.size + 1 + 1 < _; omega)).trans d2.2⟩)
  have HD := Lib.hid (show V.cell? ⟨w.heap.size + 1 + 1 + 1, 2, none⟩ = some (.slice X ex.length xcap) ∧ V.cell? ⟨w.heap.size + 1 + 1 + 1, 3, none⟩ = some (.slice G rg.length gcap) from by rw [hxl, hgl]; exact d3)
  have HP := Lib.hid (hp.below HB4.out)
  have HB0 := Lib.hid (hb0.trans (HB4.out.mono hb0.size))
  clear b1 b2 b3 b4 d0 d1 d2 d3 k1 k2 k3 s1 s2 s3
  have HZ := Lib.hid (And.intro hb0.size (And.intro hpb hpbw))
  have HYS := Lib.hid (And.intro hys hyl)
  have HXB := Lib.hid hxb
  clear hok hr hxl hX hgl hG hxb hys hb0 hpl hp hpd hpb hpbw hyl
  refine (callsIn_wide (n := 3)).1 ?_
  refine callsIn_of_wp_marks Tryd.func71 rfl trivial ?_ rfl
  simp only [Tryd.ntmps71, List.size_toArray, List.length_cons, List.length_nil, Nat.reduceAdd, Nat.reduceSub, Array.replicate_succ, Array.replicate_zero, List.push_toArray, List.append_toArray, List.nil_append, List.cons_append]
  gi_wp2_with (refine ⟨trivial, ?_⟩; gi_at_call 96; refine (callsIn_wide.2 (steps_any _ _ _ _ _ _ _ rfl rfl)).mono ?_; rintro e w' ⟨rfl, rfl⟩)
  have HKV := Lib.hid (KS.below (S := fun b => b = pb) HB4.out)
  clear HB4
  rw [← hW1, ← hW2, ← hW3, ← hV]
  clear hW1 hW2 hW3 hV
  refine wpIn_rangeFunc_ownG rfl (by omega) (gf := 112) (lb := #[.pointer (some ⟨w.heap.size + 1 + 1 + 1, 0, none⟩)]) rfl trivial (enters_of Tryd.func112 (by kernel_rfl) rfl)
    (steps_stops (fun x : Sg xs.length => x.1) ys (3 - 1) (by omega) (w.heap.size + 1 + 1 + 1) xcap gcap (fun b : Nat => b = pb ∨ b = w.heap.size + 1 + 1) X G ex rg (by rw [HXL.out.1]; exact HYS.out.1) (by have := HXL.out.1; omega) (by have := HXL.out; omega) (by rw [HXL.out.1]; exact HXB.out) V (by have := HZ.out; rintro (h | h) <;> omega) HD.out HX.out HG.out)
    (KS.trans (S := (fun b : Nat => b = pb ∨ b = w.heap.size + 1 + 1))) (fun W l o o' _ h ho _ => ks_b W l o o' h ho) (Below.refl _ _) (fun _ => rfl)
    (fun pre W => PotR W pb (rel p (edS xs pre)) ∧ (W.cell? ⟨w.heap.size + 1 + 1, 0, none⟩ = some (.bool (chg p (edS xs pre))) ∧ W.frozen? ⟨w.heap.size + 1 + 1, 0, none⟩ = false) ∧ KS (fun b : Nat => b = pb ∨ b = w.heap.size + 1 + 1) V W ∧ Below w0.heap.size w0 W)
    (fun _ _ _ => False)
    (fun s A B row hs hg hr => ⟨PotR.kept hs.1 hg (fun r e => (hr r e).2), ⟨cell_kept hs.2.1.1 hg (fun r e => (hr r e).2), (frozen_kept hs.2.1.1 hg (fun r e => (hr r e).2)).trans hs.2.1.2⟩, ownFrom_ks (β := Unit) () A B row hs.2.2.1 hg hr, ownFrom_below (β := Unit) (Nat.le_refl _) (by have := HZ.out; omega) () A B row hs.2.2.2 hg hr⟩)
    (fun _ _ _ _ _ hs _ _ => hs)
    ⟨HP.out, HL.out, KS.refl _ _, HB0.out⟩
    (fun x => { tmps := #[.agg #[.int .i64 (Jn : Int), .slice A xs.length cap, .slice X xs.length xcap, .slice G xs.length gcap], .slice (some ⟨pb, 0, none⟩) Jn Jn, .pointer (some ⟨w.heap.size, 0, none⟩), .pointer (some ⟨w.heap.size + 1, 0, none⟩), .bool false, .pointer (some ⟨w.heap.size + 1 + 1, 0, none⟩), .int .i64 x.1.1, .int .i64 x.1.2, undef, undef, undef, .agg #[.int .i64 (Jn : Int), .slice A xs.length cap, .slice X xs.length xcap, .slice G xs.length gcap], .func (.func 112) #[] #[.pointer (some ⟨w.heap.size + 1 + 1 + 1, 0, none⟩)], .int .i64 x.1.1, .int .i64 x.1.2, undef, undef, undef, undef, undef, undef, undef, undef, undef, undef, undef, undef, undef, undef, undef, undef, undef, undef, undef, undef, undef, undef, undef, undef, undef, undef], defers := [] }) ?assign ?body ?done ?stop
  case assign =>
    intro l x W K hK
    gi_wp2
    exact hK
  case body =>
    rintro l pre x W ⟨hPR, ⟨hLc, hLf⟩, hKS, hB⟩ hlp
    obtain ⟨fn, tn, e1, e2, hfn, htn⟩ := ed_bd HOK.out rfl x
    have hz := HZ.out
    have c0 := hKS.2 ⟨w.heap.size, 0, none⟩ _ (by rintro (h | h) <;> (simp only at h; omega)) HC.out.1
    have c1 := hKS.2 ⟨w.heap.size, 1, none⟩ _ (by rintro (h | h) <;> (simp only at h; omega)) HC.out.2.1
    have c2 := hKS.2 ⟨w.heap.size + 1, 0, none⟩ _ (by rintro (h | h) <;> (simp only at h; omega)) HC.out.2.2
    have HRN := Lib.hid (show rel p (edS xs (pre ++ [x])) = reE (rel p (edS xs pre)) (edZ xs x.1) by rw [edS_snoc, rel_app]; rfl)
    have HCN := Lib.hid (show chg p (edS xs (pre ++ [x])) = (chg p (edS xs pre) || chE (rel p (edS xs pre)) (edZ xs x.1)) by rw [edS_snoc, chg_app]; simp [chg])
    have hbd := HBD.out pre (by have := HYS.out.2; omega)
    have hlenP : (rel p (edS xs pre)).length = Jn := by rw [rel_len]; exact HPL.out
    have HS1 := Lib.hid (fun W' h => HSO.out x W' h)
    have HS2 := Lib.hid (fun W' h => HSN.out x W' h)
    have HEZ := Lib.hid (show edZ xs x.1 = ⟨fn, tn, x.1.2⟩ by unfold edZ; rw [e1, e2]; rfl)
    rw [e1] at HS1
    rw [e2] at HS2
    rw [HEZ.out] at HRN HCN
    have ha := (hPR.at fn (by omega)).1
    have hb := (hPR.at tn (by omega)).1
    have hbf := (hPR.at tn (by omega)).2
    have hba := hbd fn
    have hbb := hbd tn
    have HPR := Lib.hid hPR
    have HLEN := Lib.hid hlenP
    have hx1 := x.2.1
    have hx2 := x.2.2
    have HX0 := Lib.hid (show ((reE (rel p (edS xs pre)) ⟨fn, tn, x.1.2⟩ = if pv (rel p (edS xs pre)) fn + x.1.2 < pv (rel p (edS xs pre)) tn then (rel p (edS xs pre)).set tn (pv (rel p (edS xs pre)) fn + x.1.2) else rel p (edS xs pre)) ∧ chE (rel p (edS xs pre)) ⟨fn, tn, x.1.2⟩ = decide (pv (rel p (edS xs pre)) fn + x.1.2 < pv (rel p (edS xs pre)) tn)) from ⟨by unfold reE chE; simp only [decide_eq_true_eq], rfl⟩)
    obtain ⟨ch, hch⟩ : ∃ ch, chg p (edS xs pre) = ch := ⟨_, rfl⟩
    rw [hch] at HCN hLc
    clear hPR hbd hlenP e1 e2 HEZ hch
    obtain ⟨z, hzx⟩ : ∃ z, z = x.1.1 := ⟨_, rfl⟩
    obtain ⟨g, hgx⟩ : ∃ g, g = x.1.2 := ⟨_, rfl⟩
    rw [← hzx] at HS1 HS2 hx1
    rw [← hgx] at HX0 hx2 HRN HCN
    rw [← hzx, ← hgx]
    generalize hPP : rel p (edS xs pre) = PP at *
    generalize pv PP fn = a at *
    generalize pv PP tn = b at *
    clear hPP hzx hgx
    have hw1 : IntKind.i64.wrap (-z) = -z := IntWalk.i64_in _ (by omega)
    have hw2 : IntKind.i64.wrap (a + g) = a + g := IntWalk.i64_in _ (by omega)
    have hw3 : wrap64 (-z) = -z := by unfold wrap64; omega
    have hw4 : wrap64 (a + g) = a + g := by unfold wrap64; omega
    have hmx : Tryd.prog.follows .mixedOrders = true := by kernel_rfl
    have hwB : w0.heap.size ≤ W.heap.size := hB.size
    gi_wp2
    refine wpIn_region_held (S := fun w' => w'.cell? ⟨w.heap.size, 0, none⟩ = some (.int .i64 (Jn : Int)) ∧ w'.cell? ⟨w.heap.size, 1, none⟩ = some (.slice A xs.length cap) ∧ Below W.heap.size W w') (by kernel_rfl) ?_
    try (change wpAnyHI _ _ _ _ _ _ _ _ _ _ (World.drew _))
    have hS0 := (show W.drew.cell? ⟨w.heap.size, 0, none⟩ = some (.int .i64 (Jn : Int)) ∧ W.drew.cell? ⟨w.heap.size, 1, none⟩ = some (.slice A xs.length cap) ∧ Below W.heap.size W W.drew from ⟨c0, c1, (Below.refl _ _).drew⟩)
    refine iTake 0 (v := ?_) rfl (by kernel_rfl) (by kernel_rfl) (by kernel_rfl) (by kernel_rfl) (fun _ _ _ h => h) (by kernel_rfl) (fun _ => rfl) ?_ hS0 ?_
    rotate_left
    · (intro W hW; clear hW; go_simp; try with_reducible rfl)
    refine iTake 1 (v := ?_) rfl (by kernel_rfl) (by kernel_rfl) (by kernel_rfl) (by kernel_rfl) (fun _ _ _ h => h) (by kernel_rfl) (fun _ => rfl) ?_ hS0 ?_
    rotate_left
    · (intro W hW; have q0 := hW.1; have q1 := hW.2.1; clear hW; go_simp; try with_reducible rfl)
    refine iTake 2 (v := ?_) rfl (by kernel_rfl) (by kernel_rfl) (by kernel_rfl) (by kernel_rfl) (fun _ _ _ h => h) (by kernel_rfl) (fun _ => rfl) ?_ hS0 ?_
    rotate_left
    · (intro W hW; clear hW; go_simp; try with_reducible rfl)
    refine iTake 4 (v := ?_) rfl (by kernel_rfl) (by kernel_rfl) (by kernel_rfl) (by kernel_rfl) (fun _ _ _ h => h) (by kernel_rfl) (fun _ => rfl) ?_ hS0 ?_
    rotate_left
    · (intro W hW; clear hW; go_simp; try with_reducible rfl)
    refine iTake 5 (v := ?_) rfl (by kernel_rfl) (by kernel_rfl) (by kernel_rfl) (by kernel_rfl) (fun _ _ _ h => h) (by kernel_rfl) (fun _ => rfl) ?_ hS0 ?_
    rotate_left
    · (intro W hW; have q0 := hW.1; have q1 := hW.2.1; clear hW; go_simp; try with_reducible rfl)
    refine iTake 6 (v := ?_) rfl (by kernel_rfl) (by kernel_rfl) (by kernel_rfl) (by kernel_rfl) (fun _ _ _ h => h) (by kernel_rfl) (fun _ => rfl) ?_ hS0 ?_
    rotate_left
    · (intro W hW; clear hW; go_simp; try with_reducible rfl)
    refine iTake 7 (v := ?_) rfl (by kernel_rfl) (by kernel_rfl) (by kernel_rfl) (by kernel_rfl) (fun _ _ _ h => h) (by kernel_rfl) (fun _ => rfl) ?_ hS0 ?_
    rotate_left
    · (intro W hW; clear hW; go_simp; try with_reducible rfl)
    refine iOne 3 rfl (by kernel_rfl) (by kernel_rfl) (fun K hK => ?_)
    go_simp
    gi_wp2_with (refine ⟨trivial, ?_⟩; gi_at_call 97; refine (CallsIn.inRound l (callsIn_wide.2 (HS1.out _ (hB.trans (hS0.2.2.mono hwB))))).mono ?_; rintro e V1 ⟨rfl, hd1⟩)
    have hS1 := (show V1.cell? ⟨w.heap.size, 0, none⟩ = some (.int .i64 (Jn : Int)) ∧ V1.cell? ⟨w.heap.size, 1, none⟩ = some (.slice A xs.length cap) ∧ Below W.heap.size W V1 from ⟨cellK hS0.1 hd1, cellK hS0.2.1 hd1, hS0.2.2.trans (hd1.mono hS0.2.2.size)⟩)
    refine hK _ _ hS1 ?_
    clear hK K
    refine iOne 8 rfl (by kernel_rfl) (by kernel_rfl) (fun K hK => ?_)
    go_simp
    gi_wp2_with (refine ⟨trivial, ?_⟩; gi_at_call 97; refine (CallsIn.inRound l (callsIn_wide.2 (HS2.out _ (hB.trans (hS1.2.2.mono hwB))))).mono ?_; rintro e V2 ⟨rfl, hd2⟩)
    have hS2 := (show V2.cell? ⟨w.heap.size, 0, none⟩ = some (.int .i64 (Jn : Int)) ∧ V2.cell? ⟨w.heap.size, 1, none⟩ = some (.slice A xs.length cap) ∧ Below W.heap.size W V2 from ⟨cellK hS1.1 hd2, cellK hS1.2.1 hd2, hS1.2.2.trans (hd2.mono hS1.2.2.size)⟩)
    refine hK _ _ hS2 ?_
    clear hK K
    refine iTake 9 (v := ?_) rfl (by kernel_rfl) (by kernel_rfl) (by kernel_rfl) (by kernel_rfl) (fun _ _ _ h => h) (by kernel_rfl) (fun _ => rfl) ?_ hS2 ?_
    rotate_left
    · (intro W hW; clear hW; go_simp; try with_reducible rfl)
    refine iTake 10 (v := ?_) rfl (by kernel_rfl) (by kernel_rfl) (by kernel_rfl) (by kernel_rfl) (fun _ _ _ h => h) (by kernel_rfl) (fun _ => rfl) ?_ hS2 ?_
    rotate_left
    · (intro W hW; clear hW; go_simp; try with_reducible rfl)
    refine wpAnyHI_done (by kernel_rfl) ?_ _
    have hBV := hS2.2.2
    have c2' := cellK c2 hBV
    have ha' := cellK ha hBV
    have hb' := cellK hb hBV
    have hbf' := (hBV.frozen (World.block_lt_of_cell? _ _ hb)).trans hbf
    have hLc' := cellK hLc hBV
    have hLf' := (hBV.frozen (World.block_lt_of_cell? _ _ hLc)).trans hLf
    have HPV := Lib.hid (HPR.out.below hBV)
    have HBV := Lib.hid hBV
    have t1 : (fn : Int) < (Jn : Int) := by omega
    have t2 : (tn : Int) < (Jn : Int) := by omega
    have hpn : pb ≠ w.heap.size + 1 + 1 := by omega
    have hq0 : W.heap.size ≤ V2.heap.size := hBV.size
    clear hS0 hS1 hS2 hBV c0 c1 c2 ha hb hbf hLc hLf hd1 hd2
    by_cases hlt : a + g < b
    · have HN := Lib.hid (show rel p (edS xs (pre ++ [x])) = PP.set tn (a + g) ∧ chg p (edS xs (pre ++ [x])) = true from ⟨by rw [HRN.out, HX0.out.1, if_pos hlt], by rw [HCN.out, HX0.out.2, decide_eq_true hlt, Bool.or_true]⟩)
      gi_wp2
      have hLc2 : (V2.setCell ⟨pb, tn, none⟩ (.int .i64 (a + g))).cell? ⟨w.heap.size + 1 + 1, 0, none⟩ = some (.bool ch) := (World.cell?_setCell_other _ _ _ _ (fun q => hpn (by injection q with q1 q2))).trans hLc'
      refine ⟨((show KeepsFrom _ W V2 from keeps_belowO HBV.out).trans ((KeepsOthers.setCell _ _ _).from _)).trans ((KeepsOthers.setCell _ _ _).from _), ((KS.below HBV.out).set (S := (fun b : Nat => b = pb ∨ b = w.heap.size + 1 + 1)) (b := pb) (.inl rfl) _).set (S := (fun b : Nat => b = pb ∨ b = w.heap.size + 1 + 1)) (b := w.heap.size + 1 + 1) (.inr rfl) _, ?_, ⟨?_, ?_⟩, hKS.trans (((KS.below HBV.out).set (S := (fun b : Nat => b = pb ∨ b = w.heap.size + 1 + 1)) (b := pb) (.inl rfl) _).set (S := (fun b : Nat => b = pb ∨ b = w.heap.size + 1 + 1)) (b := w.heap.size + 1 + 1) (.inr rfl) _), ?_⟩
      · rw [HN.out.1]
        exact (HPV.out.put (by rw [HLEN.out]; exact htn) (a + g)).off hpn _
      · rw [HN.out.2]
        exact World.cell?_setCell_same' _ _ _ (by rw [hLc2]; rfl)
      · rw [World.frozen?_setCell, World.frozen?_setCell]; exact hLf'
      · exact ((hB.trans (HBV.out.mono hwB)).setCell (p := ⟨pb, tn, none⟩) (by have := hz.2.1; exact this) _).setCell (p := ⟨w.heap.size + 1 + 1, 0, none⟩) (by show w0.heap.size ≤ w.heap.size + 1 + 1; omega) _
    · have HN := Lib.hid (show rel p (edS xs (pre ++ [x])) = PP ∧ chg p (edS xs (pre ++ [x])) = ch from ⟨by rw [HRN.out, HX0.out.1, if_neg hlt], by rw [HCN.out, HX0.out.2, decide_eq_false hlt, Bool.or_false]⟩)
      gi_wp2
      refine ⟨keeps_belowO HBV.out, KS.below HBV.out, ?_, ⟨?_, hLf'⟩, hKS.trans (KS.below HBV.out), hB.trans (HBV.out.mono hwB)⟩
      · rw [HN.out.1]; exact HPV.out
      · rw [HN.out.2]; exact hLc'
  case done =>
    rintro Dd zs W hDd rfl ⟨hPR, ⟨hLc, hLf⟩, hKS, hB⟩ hK
    gi_wp2
    refine ⟨by simp, .inl ⟨_, _, rfl, run_takeDeferred hK, ?_⟩⟩
    have hz := HZ.out
    exact ⟨_, results_tmp rfl _ _ _, rfl, PotR.kept hPR (grownBy_putObj' W Dd _) (fun r e => by cases e; exact ⟨_, hK, rfl⟩),
      ⟨Nat.le_trans HKV.out.1 (Nat.le_trans hKS.1 (grownBy_putObj' W Dd _).size), fun a v ha hv => (ks_b (S := (fun b : Nat => b = pb ∨ b = w.heap.size + 1 + 1)) W Dd _ _ hK rfl).2 a v (by have := World.block_lt_of_cell? _ _ hv; rintro (h | h); exact ha h; omega) (hKS.2 a v (by have := World.block_lt_of_cell? _ _ hv; rintro (h | h); exact ha h; omega) (HKV.out.2 a v ha hv))⟩,
      hB.trans (belowK_b (w := V) (n₀ := w0.heap.size) (by omega) W Dd _ _ hDd hK rfl rfl)⟩
  case stop =>
    rintro Dd c pre W _ _ h _
    exact h.elim
end Go.Proofs.YthbofhlfggkolaaDoor
