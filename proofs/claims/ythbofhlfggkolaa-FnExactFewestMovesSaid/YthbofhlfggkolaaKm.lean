/-
  The search of moves, the program's: its map, its queue, what it holds between rounds. Conditions: those that each theorem states. Conditions: those that each theorem states.
-/
import Derived.Test.YthbofhlfggkolaaJy
import Derived.Test.YthbofhlfggkolaaJz
import Derived.Maps.OwnSet
import Derived.Maps.AppendAt
import Derived.Conc.SmallLaws
import Derived.Conc.LoneCalls
import Derived.Conc.Token
namespace Go.Proofs.Ythbofhlfggkolaa
open Go.RowKit
set_option linter.unusedVariables false
set_option linter.unusedSimpArgs false

open Go.Conc
/-- An element as it is. -/
def rawE (v : Value) : Option (DataW Value × List MemPlace) := some (.held v, [])
def MapG (m : DataW Value) (g : Nat → Option Value) : Prop :=
  Maps.IsMap m ∧ ∀ s : Nat, ∀ z : DataW Value, Maps.has m (.int .u8 (s : Int)) = (g s).isSome ∧ ∀ v, g s = some v → m.atKey (.int .u8 (s : Int)) z = .held v
theorem MapG.empty : MapG (.map []) (fun _ => none) := ⟨⟨[], rfl⟩, fun s z => ⟨by simp [Maps.has_eq], fun v h => by cases h⟩⟩
def putG (g : Nat → Option Value) (s : Nat) (v : Value) : Nat → Option Value := fun x => if x = s then some v else g x
theorem MapG.put {m : DataW Value} {g : Nat → Option Value} (h : MapG m g) (s : Nat) (v : Value) : MapG (m.put (.int .u8 (s : Int)) (.held v)) (putG g s v) := by
  refine ⟨h.1.put _ _, fun x z => ?_⟩
  unfold putG
  by_cases e : x = s
  · subst e
    rw [if_pos rfl]
    refine ⟨by rw [Maps.has_put_same h.1 (by trivial)]; rfl, fun y hy => ?_⟩
    injection hy with hy
    subst hy
    exact Maps.atKey_put_same h.1 (by trivial) _ _
  · rw [if_neg e]
    have hne : (Lit.int .u8 (x : Int)) ≠ Lit.int .u8 (s : Int) := fun h => e (by injection h; omega)
    refine ⟨by rw [Maps.has_put_other hne]; exact (h.2 x z).1, fun y hy => ?_⟩
    rw [Maps.atKey_put_other hne]
    exact (h.2 x z).2 y hy
theorem zeroG (w : World) : (zeroValue 43).run Try.prog w = .ok (.slice none 0 0) w := by kernel_rfl
theorem wf8 {s : Nat} (h : s < 256) : (Lit.int .u8 (s : Int)).wf = true := by simp [Lit.wf, IntKind.min, IntKind.max, IntKind.signed, IntKind.bits]; omega
theorem keyG {s : Nat} (h : s < 256) : keyOf Try.prog 97 (.int .u8 (s : Int)) = some (.int .u8 (s : Int)) := Maps.keyOf_int_mk Try.underlying97 (wf8 h)
abbrev OwnM (W : World) (b k : Nat) (m : DataW Value) : Prop := W.ownsMap (H := Value) Try.prog 97 rawE b k m
theorem rawE_inj {v : Value} {d : DataW Value} {ps : List MemPlace} (h : rawE v = some (d, ps)) : d = .held v := by unfold rawE at h; injection h with h; injection h with h1 h2; exact h1.symm
set_option maxRecDepth 100000 in
theorem look_ok {W : World} {b k s : Nat} {m : DataW Value} {g : Nat → Option Value} (ho : OwnM W b k m) (hm : MapG m g) (hs : s < 256) :
    ∃ v, (Instr.lookup 119 (.map (some b)) (.int .u8 (s : Int)) true).run Try.prog W = .ok (.tuple #[v, .bool (g s).isSome]) W ∧ ∀ u, g s = some u → v = u := by
  obtain ⟨v, ps, h1, h2⟩ := World.ownsMap.look_ok ho (Maps.int_keyed Try.underlying97) Try.underlying119 (zeroG W) (zd := .held (.slice none 0 0)) (zp := []) rfl (keyG hs)
  rw [(hm.2 s (.held (.slice none 0 0))).1] at h1
  refine ⟨v, h1, fun u hu => ?_⟩
  rw [(hm.2 s _).2 u hu] at h2
  have := rawE_inj h2
  injection this with this
  exact this.symm
set_option maxRecDepth 100000 in
theorem look_at {W : World} {b k s : Nat} {m : DataW Value} {g : Nat → Option Value} {u : Value} (ho : OwnM W b k m) (hm : MapG m g) (hs : s < 256) (hu : g s = some u) :
    (Instr.lookup 119 (.map (some b)) (.int .u8 (s : Int)) false).run Try.prog W = .ok u W := by
  obtain ⟨v, ps, h1, h2⟩ := World.ownsMap.lookup ho (Maps.int_keyed Try.underlying97) Try.underlying119 (zeroG W) (zd := .held (.slice none 0 0)) (zp := []) rfl (keyG hs)
  rw [(hm.2 s _).2 u hu] at h2
  have := rawE_inj h2
  injection this with this
  rw [h1, this]
def lsV (l : List Nat) : List Int := l.map (fun (d : Nat) => (d : Int))
def qV (E : List (Nat × List Nat)) (h : Nat) : Array Value := ((E.drop h).map (fun x => Value.int .u8 (x.1 : Int))).toArray
theorem qV_size (E : List (Nat × List Nat)) (h : Nat) : (qV E h).size = E.length - h := by simp [qV]
/-- What the search holds between rounds: the box, the queue, the map, the lists. -/
structure MvI (w0 W : World) (n : Nat) (v : Value) (E : List (Nat × List Nat)) (h : Nat) (m : DataW Value) (k : Nat) (g : Nat → Option Value) : Prop where
  bel : Below w0.heap.size w0 W
  siz : w0.heap.size + 3 ≤ W.heap.size
  x0 : W.cell? ⟨w0.heap.size, 0, none⟩ = some (.int .i64 (n : Int))
  x1 : W.cell? ⟨w0.heap.size, 1, none⟩ = some v
  ch : W.heap[w0.heap.size + 2]? = some (.chan 256 (qV E h) false E.length h false)
  le : k ≤ E.length
  own : OwnM W (w0.heap.size + 1) k m
  mg : MapG m g
  dom : ∀ s, (g s).isSome = true ↔ ∃ l, (s, l) ∈ E
  len : ∀ x ∈ E, x.2.length ≤ E.length
  row : ∀ x ∈ E, ∃ u, g x.1 = some u ∧ OwnI W (w0.heap.size + 3) u (lsV x.2)
theorem own_keptG {W W' : World} {B : Nat} {u : Value} {l : List Int} {r : Option Nat} (h : OwnI W B u l) (hg : W.grownBy W' r) (hr : ∀ b, r = some b → b < B) : OwnI W' B u l := by
  refine World.ownsRow.kept h hg ?_
  cases hu : u.ownBlock with
  | none => exact .inl rfl
  | some x =>
    refine .inr (fun e => ?_)
    have h1 := (World.ownsRow.lt h x hu).1
    have h2 := hr x e.symm
    omega
theorem row_ownG {w : World} {B : Nat} {v : Value} {xs : List Int} (h : OwnI w B v xs) : Row .i64 w v xs := by
  have h' := h
  unfold OwnI at h'
  rcases h.2 with ⟨rfl, h0⟩ | ⟨g, cap, cur, rfl, -⟩
  · exact .inl ⟨List.eq_nil_of_length_eq_zero h0, rfl⟩
  · exact Row.of_own h'
theorem lsV_snoc (l : List Nat) (d : Nat) : lsV (l ++ [d]) = lsV l ++ [(d : Int)] := by simp [lsV]
theorem lsV_len (l : List Nat) : (lsV l).length = l.length := by simp [lsV]
theorem grown_none {W W' : World} (hb : Below W.heap.size W W') : W.grownBy W' none := ⟨hb.os, hb.tape, hb.output, hb.size, fun i hi _ => hb.block i hi⟩
theorem MvI.below {w0 W W' : World} {n h k : Nat} {v : Value} {E : List (Nat × List Nat)} {m : DataW Value} {g : Nat → Option Value} (i : MvI w0 W n v E h m k g) (hb : Below W.heap.size W W') : MvI w0 W' n v E h m k g where
  bel := i.bel.trans (hb.mono (by have := i.siz; omega))
  siz := Nat.le_trans i.siz hb.size
  x0 := cellK i.x0 hb
  x1 := cellK i.x1 hb
  ch := (hb.block _ (by have := i.siz; omega)).trans i.ch
  le := i.le
  own := World.ownsMap.kept i.own (grown_none hb) (by simp)
  mg := i.mg
  dom := i.dom
  len := i.len
  row := fun x hx => by
    obtain ⟨u, h1, h2⟩ := i.row x hx
    exact ⟨u, h1, own_keptG h2 (grown_none hb) (fun b e => by cases e)⟩
theorem grown_chan (W : World) {c : Nat} (cap : Nat) (buf : Array Value) (cl : Bool) (s r : Nat) (tm : Bool) : W.grownBy (W.setChan c cap buf cl s r tm) (some c) :=
  ⟨rfl, rfl, rfl, by rw [size_setChan]; exact Nat.le_refl _, fun i _ hne => heap_setChan_ne W cap buf cl s r tm (fun e => hne (by rw [e]))⟩
theorem grown_cell {W W' : World} {b : Nat} {p : Addr} {u : Value} (hg : W.grownBy W' (some b)) (h : W.cell? p = some u) (hne : p.block ≠ b) : W'.cell? p = some u :=
  (World.cell?_of_block (hg.block p.block (World.block_lt_of_cell? _ _ h) (fun e => hne (by injection e)))).trans h
theorem below_grown1 {B : Nat} {a W W' : World} {b : Nat} (h : Below B a W) (hg : W.grownBy W' (some b)) (hB : B ≤ W.heap.size) (hb : B ≤ b) : Below B a W' := h.grown hg hB (fun k hk => by injection hk with hk; omega)
theorem qV_cons {E : List (Nat × List Nat)} {h : Nat} {x : Nat × List Nat} (hx : E[h]? = some x) : (qV E h).getD 0 undef = .int .u8 (x.1 : Int) ∧ (qV E h).extract 1 (qV E h).size = qV E (h + 1) := by
  have hlt : h < E.length := (List.getElem?_eq_some_iff.1 hx).1
  have e : E.drop h = x :: E.drop (h + 1) := by
    rw [List.drop_eq_getElem_cons hlt]
    rw [(List.getElem?_eq_some_iff.1 hx).2]
  unfold qV
  rw [e]
  constructor
  · simp
  · simp
    exact List.take_of_length_le (by simp)
/-- The next set comes out of the queue. -/
theorem MvI.recv {w0 W : World} {n h k : Nat} {v : Value} {E : List (Nat × List Nat)} {m : DataW Value} {g : Nat → Option Value} (i : MvI w0 W n v E h m k g) {x : Nat × List Nat} (hx : E[h]? = some x) :
    MvI w0 (W.setChan (w0.heap.size + 2) 256 ((qV E h).extract 1 (qV E h).size) false E.length (h + 1) false) n v E (h + 1) m k g := by
  have hg := grown_chan W (c := w0.heap.size + 2) 256 ((qV E h).extract 1 (qV E h).size) false E.length (h + 1) false
  have hs := i.siz
  exact {
    bel := below_grown1 i.bel hg (by omega) (by omega)
    siz := by rw [size_setChan]; exact i.siz
    x0 := grown_cell hg i.x0 (by show w0.heap.size ≠ w0.heap.size + 2; omega)
    x1 := grown_cell hg i.x1 (by show w0.heap.size ≠ w0.heap.size + 2; omega)
    ch := by rw [heap_setChan W _ _ _ _ _ _ _ (by omega), (qV_cons hx).2]
    le := i.le
    own := World.ownsMap.kept i.own hg (by simp)
    mg := i.mg
    dom := i.dom
    len := i.len
    row := fun y hy => by
      obtain ⟨u, h1, h2⟩ := i.row y hy
      exact ⟨u, h1, own_keptG h2 hg (fun b e => by injection e with e; omega)⟩ }
/-- A new set with its list: into the map, and into the queue. -/
theorem MvI.push {w0 W W2 : World} {n h k s : Nat} {v : Value} {E : List (Nat × List Nat)} {m : DataW Value} {g : Nat → Option Value} {l : List Nat} {u : Value} (i : MvI w0 W n v E h m k g) (hh : h ≤ E.length) (hnew : ∀ x ∈ E, x.1 ≠ s) (hll : l.length ≤ E.length + 1)
    (hu : OwnI W (w0.heap.size + 3) u (lsV l)) (ho : OwnM W2 (w0.heap.size + 1) (k + 1) (m.put (.int .u8 (s : Int)) (.held u))) (hg : W.grownBy W2 (some (w0.heap.size + 1))) :
    W2.heap[w0.heap.size + 2]? = some (.chan 256 (qV E h) false E.length h false) ∧
    MvI w0 (W2.setChan (w0.heap.size + 2) 256 ((qV E h).push (.int .u8 (s : Int))) false (E.length + 1) h false) n v (E ++ [(s, l)]) h (m.put (.int .u8 (s : Int)) (.held u)) (k + 1) (putG g s u) := by
  have hs := i.siz
  have hs2 : w0.heap.size + 3 ≤ W2.heap.size := Nat.le_trans hs hg.size
  have hc2 := (hg.block (w0.heap.size + 2) (by omega) (by simp)).trans i.ch
  have hg2 := grown_chan W2 (c := w0.heap.size + 2) 256 ((qV E h).push (.int .u8 (s : Int))) false (E.length + 1) h false
  refine ⟨hc2, {
    bel := below_grown1 (below_grown1 i.bel hg (by omega) (by omega)) hg2 (by omega) (by omega)
    siz := by rw [size_setChan]; exact hs2
    x0 := grown_cell hg2 (grown_cell hg i.x0 (by show w0.heap.size ≠ w0.heap.size + 1; omega)) (by show w0.heap.size ≠ w0.heap.size + 2; omega)
    x1 := grown_cell hg2 (grown_cell hg i.x1 (by show w0.heap.size ≠ w0.heap.size + 1; omega)) (by show w0.heap.size ≠ w0.heap.size + 2; omega)
    ch := by
      rw [heap_setChan W2 _ _ _ _ _ _ _ (by omega)]
      have e : (qV E h).push (.int .u8 (s : Int)) = qV (E ++ [(s, l)]) h := by
        unfold qV
        rw [List.drop_append_of_le_length hh]
        simp
      rw [e, List.length_append]
      rfl
    le := by rw [List.length_append]; have := i.le; simp; omega
    own := World.ownsMap.kept ho hg2 (by simp)
    mg := i.mg.put s u
    dom := fun x => by
      unfold putG
      by_cases e : x = s
      · subst e
        rw [if_pos rfl]
        exact ⟨fun _ => ⟨l, by simp⟩, fun _ => rfl⟩
      · rw [if_neg e, i.dom x]
        constructor
        · rintro ⟨q, hq⟩
          exact ⟨q, List.mem_append.2 (.inl hq)⟩
        · rintro ⟨q, hq⟩
          rcases List.mem_append.1 hq with hq | hq
          · exact ⟨q, hq⟩
          · simp at hq
            exact absurd hq.1 e
    len := fun y hy => by
      rw [List.length_append]
      rcases List.mem_append.1 hy with hy | hy
      · have := i.len y hy; omega
      · simp at hy; subst hy; simpa using hll
    row := fun y hy => by
      rcases List.mem_append.1 hy with hy | hy
      · obtain ⟨u', h1, h2⟩ := i.row y hy
        refine ⟨u', ?_, own_keptG (own_keptG h2 hg (fun b e => by injection e with e; omega)) hg2 (fun b e => by injection e with e; omega)⟩
        unfold putG
        rw [if_neg (hnew y hy)]
        exact h1
      · simp at hy
        subst hy
        exact ⟨u, by unfold putG; rw [if_pos rfl], own_keptG (own_keptG hu hg (fun b e => by injection e with e; omega)) hg2 (fun b e => by injection e with e; omega)⟩ }⟩
end Go.Proofs.Ythbofhlfggkolaa
