/- The contract of the program's own Parse. -/
import Derived.Test.YtmghklokbmdenaaDoorPgRun
set_option linter.unusedVariables false
set_option linter.unusedSimpArgs false
namespace Go.Proofs.YtmghklokbmdenaaDoor
open Go.RowKit
attribute [local go_sem] Oper.semAt_some
theorem lines_call (s : ByteArray) (w : World) : Calls Tryd.prog 11 #[.string s] w (fun e w' => e = .returned (.func (.func 19) #[] #[.pointer (some ⟨w.heap.size, 0, none⟩)]) ∧ w' = w.alloc (.cells #[.string s] 9)) := by
  go_enter Tryd.func11, Tryd.ntmps11
  go_wp2_with fail
  go_ret
  exact ⟨rfl, rfl⟩
/-- a program as a value: its numbers, and its rows -/
abbrev PrA (p : Pg.Pr) (vM vL vI : Value) : Array Value := #[.int .i64 p.w, .int .i64 p.win, .int .i64 p.fuel, .int .i64 (p.regs.getD 0 0), .int .i64 (p.regs.getD 1 0), .int .i64 (p.regs.getD 2 0), .int .i64 (p.regs.getD 3 0), vM, vL, vI]
abbrev P0A : Array Value := PrA Pg.p0 (.slice none 0 0) (.slice none 0 0) (.slice none 0 0)
/-- its rows in memory -/
structure Rows3 (w : World) (p : Pg.Pr) (vM vL vI : Value) : Prop where
  rM : w.ownsRow 0 45 3 vM p.mems.length (flt memC p.mems)
  rL : w.ownsRow 0 38 2 vL p.labels.length (flt labC p.labels)
  rI : w.ownsRow 0 42 9 vI p.ins.length (flt insL p.ins)
/-- what Parse answers -/
def ParG (R : Except (Nat × Nat) Pg.Pr) (w : World) (e : Ending) (w' : World) : Prop := Below w.heap.size w w' ∧ match R with
  | .error (k, m) => e = .returned (.tuple #[.agg P0A, .int .i64 (k : Int), .int .i64 (m : Int), .bool false])
  | .ok p => ∃ vM vL vI, e = .returned (.tuple #[.agg (PrA p vM vL vI), .int .i64 0, .int .i64 0, .bool true]) ∧ Rows3 w' p vM vL vI
/-- the blocks of a call of Parse: its results, its line, the iterator's cell -/
structure PBase (w W : World) (d : List UInt8) (k : Nat) (r : List UInt8) : Prop where
  below : Below w.heap.size w W
  prog : W.heap[w.heap.size]? = some (.cells P0A 29 (0, 0))
  r1 : W.heap[w.heap.size + 1]? = some (.cells #[.int .i64 0] 3 (0, 0))
  r2 : W.heap[w.heap.size + 2]? = some (.cells #[.int .i64 0] 3 (0, 0))
  r3 : W.heap[w.heap.size + 3]? = some (.cells #[.bool false] 4 (0, 0))
  line : W.heap[w.heap.size + 6]? = some (.cells #[.int .i64 (k : Int)] 3 (0, 0))
  own : W.heap[w.heap.size + 7]? = some (.cells #[bstr r] 9 (0, 0))
  big : w.heap.size + 8 ≤ W.heap.size
/-- between two lines: so many are read -/
def PInv (w : World) (d : List UInt8) (L : Nat) (r : List UInt8) (k : Nat) (W : World) : Prop :=
  PBase w W d k r ∧ ∃ (q : Pg.Rs) (S : Nat → Prop), Pg.run Pg.r0 0 ((Pg.lines d).take k) = .ok q ∧ RSet W (w.heap.size + 5) q S ∧ (∀ x, S x → x = w.heap.size + 4 ∨ x = w.heap.size + 5 ∨ L < x) ∧ ∀ x, S x → x < W.heap.size
/-- left early: what the results hold -/
def PEnd (w : World) (d : List UInt8) (W : World) : Prop := Below w.heap.size w W ∧ w.heap.size + 8 ≤ W.heap.size ∧ ∃ k m : Nat, Pg.run Pg.r0 0 (Pg.lines d) = .error (k, m) ∧
  W.heap[w.heap.size]? = some (.cells P0A 29 (0, 0)) ∧ W.heap[w.heap.size + 1]? = some (.cells #[.int .i64 (k : Int)] 3 (0, 0)) ∧ W.heap[w.heap.size + 2]? = some (.cells #[.int .i64 (m : Int)] 3 (0, 0)) ∧ W.heap[w.heap.size + 3]? = some (.cells #[.bool false] 4 (0, 0))
theorem infoPr : (Tryd.prog.info? 29).map (·.size) = some 10 := by kernel_rfl
section
variable {w W W' : World} {d r r' : List UInt8} {L k : Nat} {T : Nat → Prop}
theorem PBase.fr (h : PBase w W d k r) (hf : Fr T W W') (hT : ∀ x, T x → x = w.heap.size + 4 ∨ x = w.heap.size + 5 ∨ w.heap.size + 8 ≤ x) : PBase w W' d k r := by
  have hk : ∀ j, j < 8 ∧ j ≠ 4 ∧ j ≠ 5 → W'.heap[w.heap.size + j]? = W.heap[w.heap.size + j]? := fun j hj => hf.block _ (by have := h.big; omega) (fun hx => by have := hT _ hx; omega)
  exact ⟨h.below.trans (hf.below (fun x hx => by have := hT x hx; omega) h.below.size), (hk 0 (by omega)).trans h.prog, (hk 1 (by omega)).trans h.r1, (hk 2 (by omega)).trans h.r2, (hk 3 (by omega)).trans h.r3, (hk 6 (by omega)).trans h.line, (hk 7 (by omega)).trans h.own, Nat.le_trans h.big hf.size⟩
theorem PInv.fr (h : PInv w d L r k W) (hf : Fr T W W') (hT : ∀ x, T x → w.heap.size + 8 ≤ x ∧ x ≤ L) : PInv w d L r k W' := by
  obtain ⟨hb, q, S, h1, h2, h3, h4⟩ := h
  refine ⟨hb.fr hf (fun x hx => .inr (.inr (hT x hx).1)), q, S, h1, h2.fr hf (fun x hx ht => ?_), h3, fun x hx => Nat.lt_of_lt_of_le (h4 x hx) hf.size⟩
  have := hT x ht
  rcases h3 x hx with e | e | e <;> omega
theorem PEnd.fr (h : PEnd w d W) (hf : Fr T W W') (hT : ∀ x, T x → w.heap.size + 8 ≤ x) : PEnd w d W' := by
  obtain ⟨h1, hbig, k, m, h2, h3, h4, h5, h6⟩ := h
  have hk : ∀ j, j < 8 → W'.heap[w.heap.size + j]? = W.heap[w.heap.size + j]? := fun j hj => hf.block _ (by omega) (fun hx => by have := hT _ hx; omega)
  exact ⟨h1.trans (hf.below (fun x hx => by have := hT x hx; omega) h1.size), Nat.le_trans hbig hf.size, k, m, h2, (hk 0 (by omega)).trans h3, (hk 1 (by omega)).trans h4, (hk 2 (by omega)).trans h5, (hk 3 (by omega)).trans h6⟩
theorem set_other {W : World} {a b : Nat} {u v : Value} (h : W.cell? ⟨b, 0, none⟩ = some v) (hn : b ≠ a) : (W.setCell ⟨a, 0, none⟩ u).cell? ⟨b, 0, none⟩ = some v := (Fr.setCell (p := ⟨a, 0, none⟩) u).cell (p := ⟨b, 0, none⟩) h hn
/-- the world behind the three stores of a return -/
theorem fin_raw {C : Array Value} (hbel : Below w.heap.size w W) (hbig : w.heap.size + 8 ≤ W.heap.size) (hp0 : W.heap[w.heap.size]? = some (.cells C 29 (0, 0))) (hp1 : W.heap[w.heap.size + 1]? = some (.cells #[.int .i64 0] 3 (0, 0))) (hp2 : W.heap[w.heap.size + 2]? = some (.cells #[.int .i64 0] 3 (0, 0))) (hp3 : W.heap[w.heap.size + 3]? = some (.cells #[.bool false] 4 (0, 0))) (kk m : Int) (b : Bool) : ∃ E, E = (((W.setCell ⟨w.heap.size + 1, 0, none⟩ (.int .i64 kk)).setCell ⟨w.heap.size + 2, 0, none⟩ (.int .i64 m)).setCell ⟨w.heap.size + 3, 0, none⟩ (.bool b)) ∧ Below w.heap.size w E ∧ w.heap.size + 8 ≤ E.heap.size ∧
    E.heap[w.heap.size]? = some (.cells C 29 (0, 0)) ∧ E.heap[w.heap.size + 1]? = some (.cells #[.int .i64 kk] 3 (0, 0)) ∧ E.heap[w.heap.size + 2]? = some (.cells #[.int .i64 m] 3 (0, 0)) ∧ E.heap[w.heap.size + 3]? = some (.cells #[.bool b] 4 (0, 0)) ∧ (∀ p : Nat, w.heap.size + 4 ≤ p → E.heap[p]? = W.heap[p]?) ∧ ∀ p : Nat, p < w.heap.size → E.heap[p]? = W.heap[p]? := by
  refine ⟨_, rfl, ?_⟩
  have e1 := heap_setCell_same W (w.heap.size + 1) 0 _ _ (.int .i64 kk) hp1
  have o1 : ∀ p : Nat, p ≠ w.heap.size + 1 → (W.setCell ⟨w.heap.size + 1, 0, none⟩ (.int .i64 kk)).heap[p]? = W.heap[p]? := fun p hp => Below.heap_setCell _ _ _ _ hp
  have e2 := heap_setCell_same (W.setCell ⟨w.heap.size + 1, 0, none⟩ (.int .i64 kk)) (w.heap.size + 2) 0 _ _ (.int .i64 m) ((o1 _ (by omega)).trans hp2)
  have o2 : ∀ p : Nat, p ≠ w.heap.size + 2 → ((W.setCell ⟨w.heap.size + 1, 0, none⟩ (.int .i64 kk)).setCell ⟨w.heap.size + 2, 0, none⟩ (.int .i64 m)).heap[p]? = (W.setCell ⟨w.heap.size + 1, 0, none⟩ (.int .i64 kk)).heap[p]? := fun p hp => Below.heap_setCell _ _ _ _ hp
  have e3 := heap_setCell_same ((W.setCell ⟨w.heap.size + 1, 0, none⟩ (.int .i64 kk)).setCell ⟨w.heap.size + 2, 0, none⟩ (.int .i64 m)) (w.heap.size + 3) 0 _ _ (.bool b) ((o2 _ (by omega)).trans ((o1 _ (by omega)).trans hp3))
  have o3 : ∀ p : Nat, p ≠ w.heap.size + 3 → (((W.setCell ⟨w.heap.size + 1, 0, none⟩ (.int .i64 kk)).setCell ⟨w.heap.size + 2, 0, none⟩ (.int .i64 m)).setCell ⟨w.heap.size + 3, 0, none⟩ (.bool b)).heap[p]? = ((W.setCell ⟨w.heap.size + 1, 0, none⟩ (.int .i64 kk)).setCell ⟨w.heap.size + 2, 0, none⟩ (.int .i64 m)).heap[p]? := fun p hp => Below.heap_setCell _ _ _ _ hp
  have hf : Fr (fun x => w.heap.size < x) W (((W.setCell ⟨w.heap.size + 1, 0, none⟩ (.int .i64 kk)).setCell ⟨w.heap.size + 2, 0, none⟩ (.int .i64 m)).setCell ⟨w.heap.size + 3, 0, none⟩ (.bool b)) :=
    ⟨rfl, rfl, rfl, by simp, fun x hx hn => (o3 x (by omega)).trans ((o2 x (by omega)).trans (o1 x (by omega)))⟩
  have hsz : (((W.setCell ⟨w.heap.size + 1, 0, none⟩ (.int .i64 kk)).setCell ⟨w.heap.size + 2, 0, none⟩ (.int .i64 m)).setCell ⟨w.heap.size + 3, 0, none⟩ (.bool b)).heap.size = W.heap.size := by simp
  refine ⟨hbel.trans (hf.below (fun x hx => by omega) hbel.size), (by show _ ≤ (((W.setCell _ _).setCell _ _).setCell _ _).heap.size; omega), ?_, ?_, ?_, e3, ?_, ?_⟩
  · exact (o3 _ (by omega)).trans ((o2 _ (by omega)).trans ((o1 _ (by omega)).trans hp0))
  · exact (o3 _ (by omega)).trans ((o2 _ (by omega)).trans e1)
  · exact (o3 _ (by omega)).trans e2
  · exact fun p hp => (o3 _ (by omega)).trans ((o2 _ (by omega)).trans (o1 _ (by omega)))
  · exact fun p hp => (o3 _ (by omega)).trans ((o2 _ (by omega)).trans (o1 _ (by omega)))
theorem PBase.fin (h : PBase w W d k r) (kk m : Int) (b : Bool) : ∃ E, E = (((W.setCell ⟨w.heap.size + 1, 0, none⟩ (.int .i64 kk)).setCell ⟨w.heap.size + 2, 0, none⟩ (.int .i64 m)).setCell ⟨w.heap.size + 3, 0, none⟩ (.bool b)).drew ∧ Below w.heap.size w E ∧ w.heap.size + 8 ≤ E.heap.size ∧
    E.heap[w.heap.size]? = some (.cells P0A 29 (0, 0)) ∧ E.heap[w.heap.size + 1]? = some (.cells #[.int .i64 kk] 3 (0, 0)) ∧ E.heap[w.heap.size + 2]? = some (.cells #[.int .i64 m] 3 (0, 0)) ∧ E.heap[w.heap.size + 3]? = some (.cells #[.bool b] 4 (0, 0)) ∧ (∀ p : Nat, w.heap.size + 4 ≤ p → E.heap[p]? = W.heap[p]?) ∧ ∀ p : Nat, p < w.heap.size → E.heap[p]? = W.heap[p]? := by
  obtain ⟨E, hE, g1, g2, g3, g4, g5, g6, g7, g8⟩ := fin_raw h.below h.big h.prog h.r1 h.r2 h.r3 kk m b
  exact ⟨E.drew, by rw [hE], below_drewN g1 1, g2, g3, g4, g5, g6, g7, g8⟩
/-- a line is counted -/
theorem PBase.next (h : PBase w W d k r) : PBase w (W.setCell ⟨w.heap.size + 6, 0, none⟩ (.int .i64 ((k : Int) + 1))) d (k + 1) r := by
  have e1 := heap_setCell_same W (w.heap.size + 6) 0 _ _ (.int .i64 ((k : Int) + 1)) h.line
  have o1 : ∀ p : Nat, p ≠ w.heap.size + 6 → (W.setCell ⟨w.heap.size + 6, 0, none⟩ (.int .i64 ((k : Int) + 1))).heap[p]? = W.heap[p]? := fun p hp => Below.heap_setCell _ _ _ _ hp
  have hf : Fr (fun x => x = w.heap.size + 6) W (W.setCell ⟨w.heap.size + 6, 0, none⟩ (.int .i64 ((k : Int) + 1))) := Fr.setCell (p := ⟨w.heap.size + 6, 0, none⟩) _
  exact ⟨h.below.trans (hf.below (fun x hx => by omega) h.below.size), (o1 _ (by omega)).trans h.prog, (o1 _ (by omega)).trans h.r1, (o1 _ (by omega)).trans h.r2, (o1 _ (by omega)).trans h.r3, e1, (o1 _ (by omega)).trans h.own, by rw [World.size_setCell]; exact h.big⟩
theorem Fr.putObj (W : World) (l : Nat) (o : Obj) : Fr (fun x => x = l) W (W.putObj l o) := ⟨rfl, rfl, rfl, by simp [World.putObj], fun x _ hx => World.putObj_heap_other hx⟩
theorem PInv.upd (h : PInv w d L r k W) (hL : w.heap.size + 8 ≤ L) (hu : Upd (w.heap.size + 7) r' W W') : PInv w d L r' k W' := by
  obtain ⟨hb, q, S, h1, h2, h3, h4⟩ := h
  obtain ⟨n, rfl⟩ := hu
  have hf : Fr (fun x => x = w.heap.size + 7) W ((W.setCell ⟨w.heap.size + 7, 0, none⟩ (bstr r')).drewN n) := (Fr.setCell (p := ⟨w.heap.size + 7, 0, none⟩) _).to_drew n
  have hk : ∀ j, j < 7 → ((W.setCell ⟨w.heap.size + 7, 0, none⟩ (bstr r')).drewN n).heap[w.heap.size + j]? = W.heap[w.heap.size + j]? := fun j hj => hf.block _ (by have := hb.big; omega) (by omega)
  refine ⟨⟨hb.below.trans (hf.below (fun x hx => by omega) hb.below.size), (hk 0 (by omega)).trans hb.prog, (hk 1 (by omega)).trans hb.r1, (hk 2 (by omega)).trans hb.r2, (hk 3 (by omega)).trans hb.r3, (hk 6 (by omega)).trans hb.line, ?_, Nat.le_trans hb.big hf.size⟩, q, S, h1, h2.fr hf (fun x hx e => ?_), h3, fun x hx => Nat.lt_of_lt_of_le (h4 x hx) hf.size⟩
  · exact heap_setCell_same W _ 0 _ _ _ hb.own
  · rcases h3 x hx with e1 | e1 | e1 <;> omega
end
/-- the world where the loop begins -/
def W0of (w : World) (d : List UInt8) : World := ((((((((w.alloc (.cells P0A 29)).alloc (.cells #[.int .i64 0] 3)).alloc (.cells #[.int .i64 0] 3)).alloc (.cells #[.bool false] 4)).alloc (.map #[] 0)).alloc
  (.cells (HeadC Pg.p0 (.slice none 0 0) (.slice none 0 0) (.slice none 0 0) 0 (w.heap.size + 4) false (.slice none 0 0)) 50)).alloc (.cells #[.int .i64 0] 3)).alloc (.cells #[bstr d] 9))
theorem push_at {a : Array Obj} {x : Obj} {k : Nat} (h : k < a.size) : (a.push x)[k]? = a[k]? := by rw [Array.getElem?_push, if_neg (by omega)]
theorem push_new {a : Array Obj} {x : Obj} {k : Nat} (h : k = a.size) : (a.push x)[k]? = some x := by rw [Array.getElem?_push, if_pos h]
theorem W0of_size (w : World) (d : List UInt8) : (W0of w d).heap.size = w.heap.size + 8 := by simp [W0of]
theorem W0of_inv (w : World) (d : List UInt8) : PInv w d (w.heap.size + 9) d 0 (W0of w d) := by
  have hh : (W0of w d).heap = (((((((w.heap.push (.cells P0A 29)).push (.cells #[.int .i64 0] 3)).push (.cells #[.int .i64 0] 3)).push (.cells #[.bool false] 4)).push (.map #[] 0)).push
    (.cells (HeadC Pg.p0 (.slice none 0 0) (.slice none 0 0) (.slice none 0 0) 0 (w.heap.size + 4) false (.slice none 0 0)) 50)).push (.cells #[.int .i64 0] 3)).push (.cells #[bstr d] 9) := rfl
  have hb : Below w.heap.size w (W0of w d) := upA (upA (upA (upA (upA (upA (upA (upA (up0 w) _) _) _) _) _) _) _) _
  have hm : NMap (W0of w d) (w.heap.size + 4) 0 (.map []) := by
    have h1 := World.ownsMap_made ((((w.alloc (.cells P0A 29)).alloc (.cells #[.int .i64 0] 3)).alloc (.cells #[.int .i64 0] 3)).alloc (.cells #[.bool false] 4)) Tryd.prog 9 (plainElem Tryd.prog 3 (H := Unit))
    rw [show ((((w.alloc (.cells P0A 29)).alloc (.cells #[.int .i64 0] 3)).alloc (.cells #[.int .i64 0] 3)).alloc (.cells #[.bool false] 4)).heap.size = w.heap.size + 4 by simp] at h1
    exact ((h1.alloc _).alloc _).alloc _
  refine ⟨⟨hb, ?_, ?_, ?_, ?_, ?_, ?_, by rw [W0of_size]; omega⟩, Pg.r0, fun x => x = w.heap.size + 4 ∨ x = w.heap.size + 5, rfl, ⟨w.heap.size + 4, .slice none 0 0, .slice none 0 0, .slice none 0 0, .slice none 0 0, ?_, ⟨World.ownsRow_nil _ _ _ _, World.ownsRow_nil _ _ _ _, World.ownsRow_nil _ _ _ _, World.ownsRow_nil _ _ _ _⟩, ⟨_, hm, NmOk.nil⟩, ?_, ?_, Pg.inv0⟩, ?_, ?_⟩
  · rw [hh]; repeat rw [push_at (by simp only [Array.size_push]; omega)]
    rw [push_new (by simp only [Array.size_push])]; try rfl
  · rw [hh]; repeat rw [push_at (by simp only [Array.size_push]; omega)]
    rw [push_new (by simp only [Array.size_push])]; try rfl
  · rw [hh]; repeat rw [push_at (by simp only [Array.size_push]; omega)]
    rw [push_new (by simp only [Array.size_push])]; try rfl
  · rw [hh]; repeat rw [push_at (by simp only [Array.size_push]; omega)]
    rw [push_new (by simp only [Array.size_push])]; try rfl
  · rw [hh]; repeat rw [push_at (by simp only [Array.size_push]; omega)]
    rw [push_new (by simp only [Array.size_push])]; try rfl
  · rw [hh]; repeat rw [push_at (by simp only [Array.size_push]; omega)]
    rw [push_new (by simp only [Array.size_push])]; try rfl
  · rw [hh]; repeat rw [push_at (by simp only [Array.size_push]; omega)]
    rw [push_new (by simp only [Array.size_push])]; rfl
  · intro x hx
    unfold Foot at hx
    simp [Value.ownBlock] at hx
    omega
  · intro x hx
    rw [W0of_size]; omega
  · intro x hx
    omega
  · intro x hx
    rw [W0of_size]; omega
/-- four results in variables -/
theorem res4 {fn : Func} {p0 p1 p2 p3 : Tmp} (h : fn.results = #[.cell p0 29, .cell p1 3, .cell p2 3, .cell p3 4]) (tmps : Array Value) (w : World) (g0 g1 g2 g3 : Nat) (C : Array Value) (k m : Int) (b : Bool) (hC : C.size = 10)
    (h0 : tmps.getD p0 undef = .pointer (some ⟨g0, 0, none⟩)) (h1 : tmps.getD p1 undef = .pointer (some ⟨g1, 0, none⟩)) (h2 : tmps.getD p2 undef = .pointer (some ⟨g2, 0, none⟩)) (h3 : tmps.getD p3 undef = .pointer (some ⟨g3, 0, none⟩))
    (q0 : w.heap[g0]? = some (.cells C 29 (0, 0))) (q1 : w.heap[g1]? = some (.cells #[.int .i64 k] 3 (0, 0))) (q2 : w.heap[g2]? = some (.cells #[.int .i64 m] 3 (0, 0))) (q3 : w.heap[g3]? = some (.cells #[.bool b] 4 (0, 0))) :
    (results fn tmps).run Tryd.prog w = .ok (.tuple #[.agg C, .int .i64 k, .int .i64 m, .bool b]) w := by
  have l0 := run_loadVar_row (P := Tryd.prog) w g0 29 29 C (0, 0) _ q0 Tryd.underlying29 rfl (by rw [infoPr, hC])
  have c1 : w.cell? ⟨g1, 0, none⟩ = some (.int .i64 k) := cell_of_row _ _ 0 _ _ _ q1
  have c2 : w.cell? ⟨g2, 0, none⟩ = some (.int .i64 m) := cell_of_row _ _ 0 _ _ _ q2
  have c3 : w.cell? ⟨g3, 0, none⟩ = some (.bool b) := cell_of_row _ _ 0 _ _ _ q3
  have e0 : tmps[p0]?.getD undef = .pointer (some ⟨g0, 0, none⟩) := by simpa using h0
  have e1 : tmps[p1]?.getD undef = .pointer (some ⟨g1, 0, none⟩) := by simpa using h1
  have e2 : tmps[p2]?.getD undef = .pointer (some ⟨g2, 0, none⟩) := by simpa using h2
  have e3 : tmps[p3]?.getD undef = .pointer (some ⟨g3, 0, none⟩) := by simpa using h3
  have ui := Tryd.underlying3
  have ub := Tryd.underlying4
  have l1 : (loadVar 3 ⟨g1, 0, none⟩).run Tryd.prog w = .ok (.int .i64 k) w := by simp [loadVar, isAgg, go_sem, ui, c1]
  have l2 : (loadVar 3 ⟨g2, 0, none⟩).run Tryd.prog w = .ok (.int .i64 m) w := by simp [loadVar, isAgg, go_sem, ui, c2]
  have l3 : (loadVar 4 ⟨g3, 0, none⟩).run Tryd.prog w = .ok (.bool b) w := by simp [loadVar, isAgg, go_sem, ub, c3]
  simp [results, h, e0, e1, e2, e3, asAddr, l0, l1, l2, l3, Sem.run_bind, Result.andThen]
/-- a program stored whole into its variable -/
theorem wp_storePr {w : World} {ops : Array Oper} {rest : List Oper} {o : Oper} {a : Act} {Q : Exit → Act → World → Prop} (hgd : o.guard = none) (x y : Operand) (ho : o.op = .store 29 x y)
    (g : Nat) (C : Array Value) (hx : a.eval x = .pointer (some ⟨g, 0, none⟩)) (hy : a.eval y = .agg C) (hC : C.size = 10) (h1 : C.all (·.oneCell') = true) (old : Array Value) (t : TypeId) (hold : old.size = 10) (hg : w.heap[g]? = some (.cells old t (0, 0)))
    (h : ∀ W, W.heap[g]? = some (.cells C t (0, 0)) → Fr (fun k => k = g) w W → wpList Tryd.prog ops Q rest (a.put o.dst undef) W) : wpList Tryd.prog ops Q (o :: rest) a w := by
  refine wpList_store_row hgd _ x y ho g _ hx hy t _ hg (by rw [hC]; exact infoPr) (by rw [hC, hold]) h1 ?_
  refine h _ (setRow_heap _ _ _ _ _ _ hg) ⟨rfl, rfl, rfl, by simp [World.setRow], fun k hk hn => ?_⟩
  have e' : ¬ g = k := fun x => hn x.symm
  simp [World.setRow, Array.getElem?_modify, e']
end Go.Proofs.YtmghklokbmdenaaDoor
