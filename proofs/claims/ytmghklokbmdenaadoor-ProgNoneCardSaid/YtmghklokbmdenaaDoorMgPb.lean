/- Merged: PgFr, PgTell, PgRd, PgMid. -/
import Derived.Test.YtmghklokbmdenaaDoorSnTop
import Derived.Test.YtmghklokbmdenaaDoorMgPa
import Derived.Test.YtmghklokbmdenaaDoorHeldS
import Derived.Maps.OwnSet
import Derived.Deep.AppendLies
import Derived.Test.YtmghklokbmdenaaDoorWdMath
set_option linter.unusedVariables false
set_option linter.unusedSimpArgs false
namespace Go.Proofs.YtmghklokbmdenaaDoor
section
open Go.RowKit
/-- all blocks that were there are as they were, but those of S -/
structure Fr (S : Nat → Prop) (w w' : World) : Prop where
  os : w'.os = w.os
  tape : w'.tape = w.tape
  output : w'.output = w.output
  size : w.heap.size ≤ w'.heap.size
  block : ∀ k, k < w.heap.size → ¬ S k → w'.heap[k]? = w.heap[k]?
theorem Fr.refl (S : Nat → Prop) (w : World) : Fr S w w := ⟨rfl, rfl, rfl, Nat.le_refl _, fun _ _ _ => rfl⟩
theorem Fr.of_below {S : Nat → Prop} {w w' : World} (h : Below w.heap.size w w') : Fr S w w' := ⟨h.os, h.tape, h.output, h.size, fun k hk _ => h.block k hk⟩
theorem Fr.trans {S S' : Nat → Prop} {a b c : World} (h : Fr S a b) (k : Fr S' b c) (hs : ∀ x, S' x → S x ∨ a.heap.size ≤ x) : Fr S a c :=
  ⟨k.os.trans h.os, k.tape.trans h.tape, k.output.trans h.output, Nat.le_trans h.size k.size, fun i hi hn => (k.block i (Nat.lt_of_lt_of_le hi h.size) (fun hx => (hs i hx).elim hn (fun h2 => by omega))).trans (h.block i hi hn)⟩
theorem Fr.up {S : Nat → Prop} {a b c : World} (h : Fr S a b) (k : Below b.heap.size b c) : Fr S a c := h.trans (S' := fun _ => False) (Fr.of_below k) (fun x hx => hx.elim)
theorem Fr.below {B : Nat} {S : Nat → Prop} {w w' : World} (h : Fr S w w') (hS : ∀ k, S k → B ≤ k) (hB : B ≤ w.heap.size) : Below B w w' := ⟨h.os, h.tape, h.output, h.size, fun k hk => h.block k (by omega) (fun hx => by have := hS k hx; omega)⟩
theorem Fr.wider {S S' : Nat → Prop} {w w' : World} (h : Fr S w w') (hs : ∀ k, k < w.heap.size → S k → S' k) : Fr S' w w' := ⟨h.os, h.tape, h.output, h.size, fun k hk hn => h.block k hk (fun hS => hn (hs k hk hS))⟩
theorem Fr.setCell {w : World} {p : Addr} (u : Value) : Fr (fun k => k = p.block) w (w.setCell p u) := ⟨rfl, rfl, rfl, by simp, fun k _ hn => Below.heap_setCell _ _ _ _ hn⟩
theorem Fr.of_grown {w w' : World} {row : Option Nat} (h : w.grownBy w' row) : Fr (fun k => row = some k) w w' := ⟨h.os, h.tape, h.output, h.size, fun k hk hn => h.block k hk (fun e => hn e.symm)⟩
theorem Fr.of_grownF {w w' : World} {row : Nat} (h : w.grownBy w' (some row)) : Fr (fun k => k = row) w w' := ⟨h.os, h.tape, h.output, h.size, fun k hk hn => h.block k hk (fun e => hn (by injection e))⟩
theorem Fr.of_drew {S : Nat → Prop} {w w' : World} (n : Nat) (h : Fr S (w.drewN n) w') : Fr S w w' := ⟨h.os, h.tape, h.output, h.size, h.block⟩
theorem Fr.to_drew {S : Nat → Prop} {w w' : World} (n : Nat) (h : Fr S w w') : Fr S w (w'.drewN n) := ⟨h.os, h.tape, h.output, h.size, h.block⟩
theorem Fr.cell {S : Nat → Prop} {w w' : World} (hf : Fr S w w') {p : Addr} {v : Value} (h : w.cell? p = some v) (hn : ¬ S p.block) : w'.cell? p = some v := (World.cell?_of_block (hf.block p.block (World.block_lt_of_cell? w p h) hn)).trans h
theorem own_frm {S : Nat → Prop} {w w' : World} {B n m : Nat} {e : TypeId} {v : Value} {xs : List Value} (h : w.ownsRow B e m v n xs) (hf : Fr S w w') (hv : ∀ k, v.ownBlock = some k → ¬ S k) : w'.ownsRow B e m v n xs := by
  refine ⟨h.1, ?_⟩
  rcases h.2 with h2 | ⟨g, cap, cur, rfl, hg, hh, r⟩
  · exact .inl h2
  · have hlt : g < w.heap.size := (Array.getElem?_eq_some_iff.1 hh).1
    exact .inr ⟨g, cap, cur, rfl, hg, (hf.block g hlt (hv g rfl)).trans hh, r⟩
theorem map_fr {w w' : World} {T : Nat → Prop} {H : Type} {P : Program} {k : TypeId} {R : Value → Option (DataW H × List MemPlace)} {b n : Nat} {D : DataW H} (h : w.ownsMap P k R b n D) (hf : Fr T w w') (hb : ¬ T b) : w'.ownsMap P k R b n D := by
  have hlt := h.lt
  obtain ⟨es, clock, hb', r⟩ := h
  exact ⟨es, clock, (hf.block b hlt hb).trans hb', r⟩
theorem ownm_ne_map {w : World} {e : TypeId} {v : Value} {n m b : Nat} {xs : List Value} {es : Array MapEntry} {ck : Nat} (h : w.ownsRow 0 e m v n xs) (hb : w.heap[b]? = some (.map es ck)) : v.ownBlock ≠ some b := fun e1 => by
  rcases h.2 with ⟨rfl, _⟩ | ⟨g, cap, cur, rfl, _, hh, _⟩
  · simp [Value.ownBlock] at e1
  · simp [Value.ownBlock] at e1
    subst e1
    rw [hh] at hb; cases hb
theorem ownm_ne_loop {w : World} {e : TypeId} {v : Value} {n m b : Nat} {xs : List Value} {r : Loop} (h : w.ownsRow 0 e m v n xs) (hb : w.heap[b]? = some (.loop r)) : v.ownBlock ≠ some b := fun e1 => by
  rcases h.2 with ⟨rfl, _⟩ | ⟨g, cap, cur, rfl, _, hh, _⟩
  · simp [Value.ownBlock] at e1
  · simp [Value.ownBlock] at e1
    subst e1
    rw [hh] at hb; cases hb
theorem ownm_ne_cells {w : World} {e t : TypeId} {v : Value} {n m b : Nat} {xs : List Value} {cs : Array Value} {fr : Nat × Nat} (h : w.ownsRow 0 e m v n xs) (hb : w.heap[b]? = some (.cells cs t fr)) (hne : e ≠ t) : v.ownBlock ≠ some b := fun e1 => by
  rcases h.2 with ⟨rfl, _⟩ | ⟨g, cap, cur, rfl, _, hh, _⟩
  · simp [Value.ownBlock] at e1
  · simp [Value.ownBlock] at e1
    subst e1
    rw [hh] at hb
    injection hb with hb
    injection hb with _ h2 _
    exact hne h2
theorem ownm_ne_own {w : World} {e t : TypeId} {v v' : Value} {n n' m m' k : Nat} {xs xs' : List Value} (h : w.ownsRow 0 e m v n xs) (h' : w.ownsRow 0 t m' v' n' xs') (hne : e ≠ t) (hk : v'.ownBlock = some k) : v.ownBlock ≠ some k := by
  rcases h'.2 with ⟨rfl, _⟩ | ⟨g, cap, cur, rfl, _, hh, _⟩
  · simp [Value.ownBlock] at hk
  · simp [Value.ownBlock] at hk
    subst hk
    exact ownm_ne_cells h hh hne
/- rows of structs, their cells one behind the other -/
section
variable {α : Type} (enc : α → List Value)
def flt : List α → List Value
  | [] => []
  | a :: l => enc a ++ flt l
theorem flt_len {m : Nat} (hm : ∀ a, (enc a).length = m) : ∀ l : List α, (flt enc l).length = l.length * m
  | [] => by simp [flt]
  | a :: l => by
    simp only [flt, List.length_append, hm, flt_len hm l, List.length_cons, Nat.succ_mul]
    omega
theorem flt_app : ∀ (a b : List α), flt enc (a ++ b) = flt enc a ++ flt enc b
  | [], b => rfl
  | x :: a, b => by
    show enc x ++ flt enc (a ++ b) = enc x ++ flt enc a ++ flt enc b
    rw [flt_app a b, List.append_assoc]
theorem flt_one (a : α) : flt enc [a] = enc a := by simp [flt]
theorem flt_at {m : Nat} (hm : ∀ a, (enc a).length = m) : ∀ (l : List α) (j : Nat) (a : α) (k : Nat), l[j]? = some a → k < m → (flt enc l)[j * m + k]? = (enc a)[k]?
  | [], j, a, k, h, _ => by simp at h
  | u :: l, 0, a, k, h, hk => by
    simp at h
    subst h
    show (enc u ++ flt enc l)[0 * m + k]? = _
    rw [Nat.zero_mul, Nat.zero_add, List.getElem?_append_left (by rw [hm]; exact hk)]
  | u :: l, j + 1, a, k, h, hk => by
    have := flt_at hm l j a k (by simpa using h) hk
    show (enc u ++ flt enc l)[(j + 1) * m + k]? = _
    rw [List.getElem?_append_right (by rw [hm, Nat.succ_mul]; omega), ← this]
    congr 1
    rw [hm, Nat.succ_mul]
    omega
/-- block g reads as those structs, m cells each -/
def RowR (m : Nat) (w : World) (g : Nat) (l : List α) : Prop := ∀ j a, l[j]? = some a → g < w.heap.size ∧ ∀ k, k < m → w.cell? ⟨g, j * m + k, none⟩ = (enc a)[k]?
end
section
variable {α : Type} {enc : α → List Value} {m : Nat}
theorem RowR.fr {S : Nat → Prop} {w w' : World} {g : Nat} {l : List α} (h : RowR enc m w g l) (hf : Fr S w w') (hg : 0 < l.length → ¬ S g) : RowR enc m w' g l := fun j a hj => by
  obtain ⟨h0, h1⟩ := h j a hj
  have hl : 0 < l.length := by have := (List.getElem?_eq_some_iff.1 hj).1; omega
  exact ⟨Nat.lt_of_lt_of_le h0 hf.size, fun k hk => (World.cell?_of_block (hf.block g h0 (hg hl))).trans (h1 k hk)⟩
theorem RowR.up {w w' : World} {g : Nat} {l : List α} (h : RowR enc m w g l) (hb : Below w.heap.size w w') : RowR enc m w' g l := h.fr (S := fun _ => False) (Fr.of_below hb) (fun _ hk => hk)
theorem own_RowR (hm : ∀ a, (enc a).length = m) {w : World} {B n : Nat} {e : TypeId} {v : Value} {l : List α} (hm0 : 0 < m) (h : w.ownsRow B e m v n (flt enc l)) : ∃ g A cap, v = .slice A l.length cap ∧ (0 < l.length → A = some ⟨g, 0, none⟩ ∧ v.ownBlock = some g) ∧ l.length ≤ cap ∧ cap ≤ maxLen ∧ RowR enc m w g l := by
  have hl : n = l.length := by
    have := h.1
    rw [flt_len enc hm] at this
    exact (Nat.eq_of_mul_eq_mul_right hm0 this).symm
  subst hl
  have h' := h
  rcases h.2 with ⟨rfl, hn⟩ | ⟨g, cap, cur, rfl, hb, hg, hnc, hmx, hs, ht⟩
  · have h0 : l = [] := List.eq_nil_of_length_eq_zero hn
    subst h0
    exact ⟨0, none, 0, rfl, fun h => by simp at h, by simp, by simp [maxLen], fun j t ht => by simp at ht⟩
  · have hlt := (Array.getElem?_eq_some_iff.1 hg).1
    refine ⟨g, _, cap, rfl, fun _ => ⟨rfl, rfl⟩, hnc, hmx, fun j t htj => ⟨hlt, fun k hk => ?_⟩⟩
    have hj : j < l.length := (List.getElem?_eq_some_iff.1 htj).1
    have hjk : j * m + k < l.length * m := by
      have : (j + 1) * m ≤ l.length * m := Nat.mul_le_mul_right m hj
      rw [Nat.succ_mul] at this
      omega
    rw [h'.cellAt (j * m + k) (by simpa using hjk), flt_at enc hm l j t k htj hk]
end
/-- an instruction as a value -/
abbrev IV (i : Sy.In) : Value := .agg (InsC i.kind i.op i.d i.a i.b (strOfNums i.name) i.target)
def memC (x : Pg.Mm) : List Value := [.string (strOfNums x.name), .bool x.secret, .int .i64 x.n]
def labC (x : Pg.Lb) : List Value := [.string (strOfNums x.name), .int .i64 x.at_]
def insL (i : Sy.In) : List Value := (InsC i.kind i.op i.d i.a i.b (strOfNums i.name) i.target).toList
def lnC (k : Nat) : List Value := [.int .i64 (k : Int)]
theorem memC_len (x : Pg.Mm) : (memC x).length = 3 := rfl
theorem labC_len (x : Pg.Lb) : (labC x).length = 2 := rfl
theorem insL_len (x : Sy.In) : (insL x).length = 9 := rfl
theorem lnC_len (x : Nat) : (lnC x).length = 1 := rfl
end
end Go.Proofs.YtmghklokbmdenaaDoor
namespace Go.Proofs.YtmghklokbmdenaaDoor
section
open Go.RowKit
theorem wok_any (n : Int) (w : World) : Calls Tryd.prog 62 #[.int .i64 n] w (Ret (.bool (Wd.okB n)) w) := by
  by_cases h1 : 1 ≤ n
  all_goals by_cases h2 : n ≤ 16
  all_goals
    go_enter Tryd.func62, Tryd.ntmps62
    go_wp2
    go_ret
    exact Ret.b rfl (by simp [Wd.okB]; omega)
theorem wsize_any (n : Int) (w : World) : Calls Tryd.prog 45 #[.int .i64 n] w (Ret (.int .i64 (Pg.size n)) w) := by
  have e : Wd.sizeV n = Pg.size n := by
    unfold Wd.sizeV Pg.size
    by_cases h : 1 ≤ n ∧ n ≤ 16
    · rw [if_pos h, if_pos (Wd.okB_iff.2 h)]
    · rw [if_neg h, if_neg (fun e => h (Wd.okB_iff.1 e))]
  rw [← e]
  by_cases h1 : Wd.okB n = true
  · have h2 := Wd.okB_iff.1 h1
    have h3 : 1 ≤ n := h2.1
    have h4 : n ≤ 16 := h2.2
    clear h2
    go_enter Tryd.func45, Tryd.ntmps45
    go_wp2_with (go_at_call 62; refine (wok_any _ _).mono ?_; rintro e w' ⟨rfl, rfl⟩)
    go_ret
    refine Ret.i rfl ?_
    have hz := Wd.sizeV_bd n
    unfold Wd.sizeV at *; rw [if_pos h1] at *
    exact IntWalk.wrap64_in _ (by omega)
  · have h1 : Wd.okB n = false := by simpa using h1
    go_enter Tryd.func45, Tryd.ntmps45
    go_wp2_with (go_at_call 62; refine (wok_any _ _).mono ?_; rintro e w' ⟨rfl, rfl⟩)
    go_ret
    refine Ret.i rfl ?_
    unfold Wd.sizeV
    rw [if_neg (by rw [h1]; simp)]
theorem level_any (s : Bool) (w : World) : Calls Tryd.prog 26 #[.bool s] w (Ret (.int .i64 (if s = true then 2 else 1)) w) := by
  cases s
  all_goals
    go_enter Tryd.func26, Tryd.ntmps26
    go_wp2
    go_ret
    exact Ret.i rfl rfl
theorem goes_any (i : Sy.In) (w : World) : Calls Tryd.prog 30 #[IV i] w (RetB (.bool (Pg.goes i)) w) := by
  obtain ⟨kd, op, d, va, vb, nm, tg⟩ := i
  unfold Pg.goes
  by_cases h5 : kd = 5
  · subst h5
    go_enter Tryd.func30, Tryd.ntmps30
    go_wp2_with fail
    go_ret
    exact ⟨rfl, upA (up0 w) _⟩
  by_cases h6 : kd = 6
  · subst h6
    go_enter Tryd.func30, Tryd.ntmps30
    go_wp2_with fail
    go_ret
    exact ⟨rfl, upA (up0 w) _⟩
  · have d5 : decide (kd = 5) = false := by simp [h5]
    have d6 : decide (kd = 6) = false := by simp [h6]
    go_enter Tryd.func30, Tryd.ntmps30
    go_wp2_with fail
    go_ret
    exact ⟨by rw [show (kd == 5) = false by simpa using h5, show (kd == 6) = false by simpa using h6]; simp [h5, h6]; rfl, upA (up0 w) _⟩
/-- what tell does -/
def TellP (g j : Nat) (bg : Bool) (x n most : Int) (w : World) (e : Ending) (w' : World) : Prop :=
  if bg = false ∧ x = 0 ∧ 1 ≤ n ∧ n ≤ most then e = .returned (.bool true) ∧ w' = w.setCell ⟨g, j, none⟩ (.int .i64 n) else e = .returned (.bool false) ∧ w' = w
theorem TellP.no {g j : Nat} {bg : Bool} {x n most : Int} {w : World} (h : ¬ (bg = false ∧ x = 0 ∧ 1 ≤ n ∧ n ≤ most)) : TellP g j bg x n most w (.returned (.bool false)) w := by unfold TellP; rw [if_neg h]; exact ⟨rfl, rfl⟩
theorem TellP.yes {g j : Nat} {bg : Bool} {x n most : Int} {w : World} (h : bg = false ∧ x = 0 ∧ 1 ≤ n ∧ n ≤ most) : TellP g j bg x n most w (.returned (.bool true)) (w.setCell ⟨g, j, none⟩ (.int .i64 n)) := by unfold TellP; rw [if_pos h]; exact ⟨rfl, rfl⟩
theorem tell_any (g j : Nat) (w : World) (bg : Bool) (x n most : Int) (hb : w.cell? ⟨g, 12, none⟩ = some (.bool bg)) (hx : w.cell? ⟨g, j, none⟩ = some (.int .i64 x)) (hf : w.frozen? ⟨g, j, none⟩ = false) :
    Calls Tryd.prog 25 #[.pointer (some ⟨g, 0, none⟩), .pointer (some ⟨g, j, none⟩), .int .i64 n, .int .i64 most] w (TellP g j bg x n most w) := by
  cases bg with
  | true =>
    go_enter Tryd.func25, Tryd.ntmps25
    go_wp2_with fail
    go_ret
    exact TellP.no (fun h => by simp at h)
  | false =>
    by_cases hx0 : x = 0
    · subst hx0
      by_cases h1 : n < 1
      · go_enter Tryd.func25, Tryd.ntmps25
        go_wp2_with fail
        go_ret
        exact TellP.no (fun h => by omega)
      · have d1 : decide (n < 1) = false := by simp; omega
        have d1' : 1 ≤ n := by omega
        by_cases h2 : most < n
        · go_enter Tryd.func25, Tryd.ntmps25
          go_wp2_with fail
          go_ret
          exact TellP.no (fun h => by omega)
        · have d2 : decide (most < n) = false := by simp; omega
          have d2' : n ≤ most := by omega
          go_enter Tryd.func25, Tryd.ntmps25
          go_wp2_with fail
          go_ret
          exact TellP.yes ⟨rfl, rfl, d1', d2'⟩
    · have d0 : decide (x = 0) = false := by simp [hx0]
      go_enter Tryd.func25, Tryd.ntmps25
      go_wp2_with fail
      go_ret
      exact TellP.no (fun h => hx0 h.2.1)
/-- a name, as a map's reader has it -/
def klit (k : List Int) : Lit := .string (strOfNums k).data.toList
theorem klit_ne {j k : List Int} (hj : Cd.isB j) (hk : Cd.isB k) (h : j ≠ k) : klit j ≠ klit k := by
  intro e
  apply h
  unfold klit at e
  simp only [Lit.string.injEq] at e
  exact Cd.bytesOf_inj hj hk (by rw [strOfNums_data, strOfNums_data] at e; exact e)
theorem klit_key (k : List Int) : WideAt.IsKeyLit (klit k) := by simp [klit, WideAt.IsKeyLit]
theorem key_of {t : List Int} (hl : t.length ≤ 1000000) : keyOf Tryd.prog 9 (.string (strOfNums t)) = some (klit t) :=
  WideMaps.keyOf_string_mk Tryd.underlying9 (by rw [show (strOfNums t).size = t.length from strOfNums_size t]; simp only [maxLen]; omega)
abbrev NMap (w : World) (b n : Nat) (D : DataW Unit) : Prop := w.ownsMap Tryd.prog 9 (plainElem Tryd.prog 3) b n D
theorem nlook {w : World} {b n : Nat} {D : DataW Unit} (hm : NMap w b n D) {t : List Int} (hl : t.length ≤ 1000000) :
    ∃ a : Int, D.atKey (klit t) (.lit (.int .i64 0)) = .lit (.int .i64 a) ∧ (Instr.lookup 47 (.map (some b)) (.string (strOfNums t)) true).run Tryd.prog w = .ok (.tuple #[.int .i64 a, .bool (Maps.has D (klit t))]) w := by
  obtain ⟨v, ps, hrun, hv⟩ := hm.look_ok (t := 47) (e := 3) (Maps.string_keyed Tryd.underlying9) Tryd.underlying47 (z := .int .i64 0) (by kernel_rfl) (zd := .lit (.int .i64 0)) (zp := []) (plainElem_int Tryd.underlying3 (by decide)) (key_of hl)
  obtain ⟨c, rfl, hc, _⟩ := plainElem_int_inv Tryd.underlying3 hv
  simp only [Prod.mk.injEq] at hc
  exact ⟨c, hc.1, hrun⟩
theorem nput {w : World} {b n : Nat} {D : DataW Unit} (hm : NMap w b n D) {t : List Int} (hl : t.length ≤ 1000000) {a : Int} (ha : I64 a) (hf : n ≤ 2000000) (hn : Maps.has D (klit t) = false) :
    ∃ w', (Instr.mapUpdate 47 (.map (some b)) (.string (strOfNums t)) (.int .i64 a)).run Tryd.prog w = .ok () w' ∧ NMap w' b (n + 1) (D.put (klit t) (.lit (.int .i64 a))) ∧ Fr (fun k => k = b) w w' := by
  obtain ⟨w', h1, h2, h3⟩ := hm.update (t := 47) (e := 3) (Maps.string_keyed Tryd.underlying9) Tryd.underlying47 (by simp only [maxLen]; omega) (key_of hl) (plainElem_int Tryd.underlying3 (a := a) (WalkArith.wf_i64 (by unfold I64 at ha; omega)))
  exact ⟨w', h1, h2, Fr.of_grownF h3⟩
/-- what name does -/
def NameP (b n : Nat) (D : DataW Unit) (t : List Int) (a : Int) (w : World) (e : Ending) (w' : World) : Prop :=
  if Maps.has D (klit t) = true then e = .returned (.bool false) ∧ w' = w else e = .returned (.bool true) ∧ NMap w' b (n + 1) (D.put (klit t) (.lit (.int .i64 a))) ∧ Fr (fun k => k = b) w w'
theorem NameP.no {b n : Nat} {D : DataW Unit} {t : List Int} {a : Int} {w : World} (h : Maps.has D (klit t) = true) : NameP b n D t a w (.returned (.bool false)) w := by unfold NameP; rw [if_pos h]; exact ⟨rfl, rfl⟩
theorem NameP.yes {b n : Nat} {D : DataW Unit} {t : List Int} {a : Int} {w w' : World} (h : ¬ Maps.has D (klit t) = true) (hm : NMap w' b (n + 1) (D.put (klit t) (.lit (.int .i64 a)))) (hf : Fr (fun k => k = b) w w') : NameP b n D t a w (.returned (.bool true)) w' := by unfold NameP; rw [if_neg h]; exact ⟨rfl, hm, hf⟩
theorem name_any (g b n : Nat) (D : DataW Unit) (t : List Int) (a : Int) (w : World) (hc : w.cell? ⟨g, 11, none⟩ = some (.map (some b))) (hm : NMap w b n D) (hl : t.length ≤ 1000000) (ha : I64 a) (hf : n ≤ 2000000) :
    Calls Tryd.prog 46 #[.pointer (some ⟨g, 0, none⟩), .string (strOfNums t), .int .i64 a] w (NameP b n D t a w) := by
  obtain ⟨c, _, hlook⟩ := nlook hm hl
  by_cases h : Maps.has D (klit t) = true
  · rw [h] at hlook
    have HN := fun w => NameP.no (b := b) (n := n) (a := a) (w := w) h
    have HN := Lib.hid HN
    generalize strOfNums t = s at *
    clear hm h
    go_enter Tryd.func46, Tryd.ntmps46
    go_wp2_with fail
    go_ret
    exact HN.out _
  · have h' : Maps.has D (klit t) = false := by simpa using h
    rw [h'] at hlook
    obtain ⟨w1, hput, hm1, hF⟩ := nput hm hl ha hf h'
    generalize hs : strOfNums t = s at *
    have HY := NameP.yes (b := b) (n := n) (a := a) (w := w) h hm1 hF
    have HY := Lib.hid HY
    clear hm hm1 hF h h'
    go_enter Tryd.func46, Tryd.ntmps46
    go_wp2_with fail
    go_ret
    exact HY.out
end
end Go.Proofs.YtmghklokbmdenaaDoor
namespace Go.Proofs.YtmghklokbmdenaaDoor
section
open Go.RowKit
namespace Pg
def nameAt (p : Pr) (t : List Int) : Int := match labelOf t p.labels with
  | some a => a
  | none => if isMem t p.mems then -1 else 0
theorem labelOf_snoc (t : List Int) (l : Lb) : ∀ ls : List Lb, labelOf t (ls ++ [l]) = match labelOf t ls with
    | some a => some a
    | none => if l.name = t then some l.at_ else none
  | [] => by simp [labelOf]
  | a :: ls => by
    rw [List.cons_append, labelOf, labelOf]
    by_cases h : a.name = t
    · rw [if_pos h, if_pos h]
    · rw [if_neg h, if_neg h, labelOf_snoc t l ls]
theorem isMem_snoc (t : List Int) (l : List Mm) (m : Mm) : isMem t (l ++ [m]) = (isMem t l || decide (m.name = t)) := by simp [isMem]
end Pg
/-- the map holds each name that is told: where its label stands, or -1 of a region -/
def NmOk (D : DataW Unit) (p : Pg.Pr) : Prop := ∀ k, Cd.isB k → Maps.has D (klit k) = Pg.known p k ∧ D.atKey (klit k) (.lit (.int .i64 0)) = .lit (.int .i64 (Pg.nameAt p k))
theorem NmOk.nil : NmOk (.map []) Pg.p0 := fun k _ => ⟨rfl, rfl⟩
theorem NmOk.same {D : DataW Unit} {p q : Pg.Pr} (h : NmOk D p) (h1 : q.mems = p.mems) (h2 : q.labels = p.labels) : NmOk D q := fun k hk => by
  have := h k hk
  unfold Pg.known Pg.nameAt at *
  rw [h1, h2]
  exact this
theorem NmOk.mem {D : DataW Unit} {p : Pg.Pr} (h : NmOk D p) (hD : Maps.IsMap D) {t : List Int} (hk : Cd.isB t) (hn : Pg.known p t = false) (s : Bool) (n : Int) :
    NmOk (D.put (klit t) (.lit (.int .i64 (-1)))) { p with mems := p.mems ++ [⟨t, s, n⟩] } := fun j hj => by
  by_cases e : j = t
  · subst e
    rw [Maps.has_put_same hD (klit_key _), Maps.atKey_put_same hD (klit_key _)]
    simp only [Pg.known, Bool.or_eq_false_iff] at hn
    have h2 : Pg.labelOf j p.labels = none := by cases hl : Pg.labelOf j p.labels with | none => rfl | some a => rw [hl] at hn; simp at hn
    refine ⟨?_, ?_⟩
    · simp [Pg.known, Pg.isMem_snoc]
    · simp [Pg.nameAt, h2, Pg.isMem_snoc]
  · rw [Maps.has_put_other (klit_ne hj hk e), Maps.atKey_put_other (klit_ne hj hk e)]
    have := h j hj
    have e' : ¬ t = j := fun h => e h.symm
    simp only [Pg.known, Pg.nameAt, Pg.isMem_snoc, e', decide_false, Bool.or_false] at *
    exact this
theorem NmOk.label {D : DataW Unit} {p : Pg.Pr} (h : NmOk D p) (hD : Maps.IsMap D) {t : List Int} (hk : Cd.isB t) (hn : Pg.known p t = false) (a : Int) :
    NmOk (D.put (klit t) (.lit (.int .i64 a))) { p with labels := p.labels ++ [⟨t, a⟩] } := fun j hj => by
  by_cases e : j = t
  · subst e
    rw [Maps.has_put_same hD (klit_key _), Maps.atKey_put_same hD (klit_key _)]
    simp only [Pg.known, Bool.or_eq_false_iff] at hn
    have h2 : Pg.labelOf j p.labels = none := by cases hl : Pg.labelOf j p.labels with | none => rfl | some a => rw [hl] at hn; simp at hn
    refine ⟨?_, ?_⟩
    · simp [Pg.known, Pg.labelOf_snoc, h2]
    · simp [Pg.nameAt, h2, Pg.labelOf_snoc]
  · rw [Maps.has_put_other (klit_ne hj hk e), Maps.atKey_put_other (klit_ne hj hk e)]
    have := h j hj
    have e' : ¬ t = j := fun h => e h.symm
    have h3 : Pg.labelOf j (p.labels ++ [⟨t, a⟩]) = Pg.labelOf j p.labels := by
      rw [Pg.labelOf_snoc]
      cases Pg.labelOf j p.labels with
      | some b => rfl
      | none => simp [e']
    unfold Pg.known Pg.nameAt at *
    simp only [h3]
    exact this
abbrev HeadC (p : Pg.Pr) (vM vL vI : Value) (n : Int) (b : Nat) (bg : Bool) (vA : Value) : Array Value :=
  #[.int .i64 p.w, .int .i64 p.win, .int .i64 p.fuel, .int .i64 (p.regs.getD 0 0), .int .i64 (p.regs.getD 1 0), .int .i64 (p.regs.getD 2 0), .int .i64 (p.regs.getD 3 0), vM, vL, vI, .int .i64 n, .map (some b), .bool bg, vA]
/-- the reader's rows: regions, labels, instructions, their lines -/
structure Rows4 (w : World) (p : Pg.Pr) (at_ : List Nat) (vM vL vI vA : Value) : Prop where
  rM : w.ownsRow 0 45 3 vM p.mems.length (flt memC p.mems)
  rL : w.ownsRow 0 38 2 vL p.labels.length (flt labC p.labels)
  rI : w.ownsRow 0 42 9 vI p.ins.length (flt insL p.ins)
  rA : w.ownsRow 0 3 1 vA at_.length (flt lnC at_)
/-- the blocks of a reader -/
def Foot (g b : Nat) (vM vL vI vA : Value) (k : Nat) : Prop := k = g ∨ k = b ∨ vM.ownBlock = some k ∨ vL.ownBlock = some k ∨ vI.ownBlock = some k ∨ vA.ownBlock = some k
structure RIs (w : World) (g b : Nat) (r : Pg.Rs) (vM vL vI vA : Value) (S : Nat → Prop) : Prop where
  head : w.heap[g]? = some (.cells (HeadC r.p vM vL vI (Pg.cells r.p.mems) b r.begun vA) 50 (0, 0))
  rows : Rows4 w r.p r.at_ vM vL vI vA
  map : ∃ D, NMap w b (r.p.mems.length + r.p.labels.length) D ∧ NmOk D r.p
  foot : ∀ k, Foot g b vM vL vI vA k → S k
  lt : ∀ k, S k → k < w.heap.size
  inv : Pg.Inv r
/-- the reader, told from outside -/
def RSet (w : World) (g : Nat) (r : Pg.Rs) (S : Nat → Prop) : Prop := ∃ b vM vL vI vA, RIs w g b r vM vL vI vA S
section
variable {w w' : World} {g b : Nat} {r : Pg.Rs} {vM vL vI vA : Value} {S T : Nat → Prop}
theorem Rows4.fr {p : Pg.Pr} {at_ : List Nat} (h : Rows4 w p at_ vM vL vI vA) (hf : Fr T w w') (hM : ∀ k, vM.ownBlock = some k → ¬ T k) (hL : ∀ k, vL.ownBlock = some k → ¬ T k) (hI : ∀ k, vI.ownBlock = some k → ¬ T k) (hA : ∀ k, vA.ownBlock = some k → ¬ T k) : Rows4 w' p at_ vM vL vI vA :=
  ⟨own_frm h.rM hf hM, own_frm h.rL hf hL, own_frm h.rI hf hI, own_frm h.rA hf hA⟩
theorem RIs.fr (h : RIs w g b r vM vL vI vA S) (hf : Fr T w w') (hd : ∀ k, S k → ¬ T k) : RIs w' g b r vM vL vI vA S := by
  obtain ⟨D, hm, hD⟩ := h.map
  have hF := fun k hk => hd k (h.foot k hk)
  exact ⟨(hf.block g (h.lt g (h.foot g (.inl rfl))) (hF g (.inl rfl))).trans h.head, h.rows.fr hf (fun k hk => hF k (.inr (.inr (.inl hk)))) (fun k hk => hF k (.inr (.inr (.inr (.inl hk))))) (fun k hk => hF k (.inr (.inr (.inr (.inr (.inl hk)))))) (fun k hk => hF k (.inr (.inr (.inr (.inr (.inr hk)))))),
    ⟨D, map_fr hm hf (hF b (.inr (.inl rfl))), hD⟩, h.foot, fun k hk => Nat.lt_of_lt_of_le (h.lt k hk) hf.size, h.inv⟩
theorem RIs.up (h : RIs w g b r vM vL vI vA S) (hb : Below w.heap.size w w') : RIs w' g b r vM vL vI vA S := h.fr (T := fun _ => False) (Fr.of_below hb) (fun k _ hk => hk)
theorem RIs.cell (h : RIs w g b r vM vL vI vA S) (j : Nat) : w.cell? ⟨g, j, none⟩ = (HeadC r.p vM vL vI (Pg.cells r.p.mems) b r.begun vA)[j]? := cell_of_row w g j _ _ _ h.head
theorem RIs.glt (h : RIs w g b r vM vL vI vA S) : g < w.heap.size := h.lt g (h.foot g (.inl rfl))
theorem RIs.ne (h : RIs w g b r vM vL vI vA S) : g ≠ b ∧ (vM.ownBlock ≠ some g ∧ vL.ownBlock ≠ some g ∧ vI.ownBlock ≠ some g ∧ vA.ownBlock ≠ some g) ∧ (vM.ownBlock ≠ some b ∧ vL.ownBlock ≠ some b ∧ vI.ownBlock ≠ some b ∧ vA.ownBlock ≠ some b) := by
  obtain ⟨D, ⟨es, ck, hb, _⟩, _⟩ := h.map
  refine ⟨fun e => ?_, ⟨ownm_ne_cells h.rows.rM h.head (by decide), ownm_ne_cells h.rows.rL h.head (by decide), ownm_ne_cells h.rows.rI h.head (by decide), ownm_ne_cells h.rows.rA h.head (by decide)⟩, ownm_ne_map h.rows.rM hb, ownm_ne_map h.rows.rL hb, ownm_ne_map h.rows.rI hb, ownm_ne_map h.rows.rA hb⟩
  have := h.head
  rw [e, hb] at this; cases this
theorem RSet.fr (h : RSet w g r S) (hf : Fr T w w') (hd : ∀ k, S k → ¬ T k) : RSet w' g r S := by
  obtain ⟨b, vM, vL, vI, vA, h⟩ := h
  exact ⟨b, vM, vL, vI, vA, h.fr hf hd⟩
theorem RSet.up (h : RSet w g r S) (hb : Below w.heap.size w w') : RSet w' g r S := h.fr (T := fun _ => False) (Fr.of_below hb) (fun k _ hk => hk)
end
/-- what a method of the reader leaves: it answers v; the reader is r, with a foot that has grown by new blocks alone; all else is as it was -/
def RdP (g : Nat) (r : Pg.Rs) (S : Nat → Prop) (v : Value) (w : World) (e : Ending) (w' : World) : Prop :=
  e = .returned v ∧ ∃ S', RSet w' g r S' ∧ Fr S w w' ∧ ∀ k, S' k → S k ∨ w.heap.size ≤ k
/-- what add leaves: true and the reader that is told more, or false, and all but the reader is as it was -/
def AddP (g : Nat) (o : Option Pg.Rs) (S : Nat → Prop) (w : World) (e : Ending) (w' : World) : Prop := match o with
  | some r => RdP g r S (.bool true) w e w'
  | none => e = .returned (.bool false) ∧ Fr S w w'
end
end Go.Proofs.YtmghklokbmdenaaDoor
namespace Go.Proofs.YtmghklokbmdenaaDoor
section
open Go.RowKit
structure RMid (w0 w : World) (g b : Nat) (S : Nat → Prop) (p : Pg.Pr) (at_ : List Nat) (n : Int) (bg : Bool) (cnt : Nat) (D : DataW Unit) (vM vL vI vA : Value) : Prop where
  head : w.heap[g]? = some (.cells (HeadC p vM vL vI n b bg vA) 50 (0, 0))
  rows : Rows4 w p at_ vM vL vI vA
  map : NMap w b cnt D
  fr : Fr S w0 w
  foot : ∀ k, Foot g b vM vL vI vA k → S k ∨ w0.heap.size ≤ k
  old : g < w0.heap.size ∧ b < w0.heap.size
section
variable {w0 w w' : World} {g b : Nat} {S T : Nat → Prop} {p : Pg.Pr} {at_ : List Nat} {n : Int} {bg : Bool} {cnt : Nat} {D : DataW Unit} {vM vL vI vA : Value} {r : Pg.Rs}
theorem RIs.mid (h : RIs w g b r vM vL vI vA S) : ∃ D, RMid w w g b S r.p r.at_ (Pg.cells r.p.mems) r.begun (r.p.mems.length + r.p.labels.length) D vM vL vI vA ∧ NmOk D r.p := by
  obtain ⟨D, hm, hD⟩ := h.map
  exact ⟨D, ⟨h.head, h.rows, hm, Fr.refl _ _, fun k hk => .inl (h.foot k hk), h.lt g (h.foot g (.inl rfl)), h.lt b (h.foot b (.inr (.inl rfl)))⟩, hD⟩
theorem RMid.glt (h : RMid w0 w g b S p at_ n bg cnt D vM vL vI vA) : g < w.heap.size := Nat.lt_of_lt_of_le h.old.1 h.fr.size
theorem RMid.cell (h : RMid w0 w g b S p at_ n bg cnt D vM vL vI vA) (j : Nat) : w.cell? ⟨g, j, none⟩ = (HeadC p vM vL vI n b bg vA)[j]? := cell_of_row w g j _ _ _ h.head
theorem RMid.frz (h : RMid w0 w g b S p at_ n bg cnt D vM vL vI vA) (j : Nat) : w.frozen? ⟨g, j, none⟩ = false := frozen_of_row _ _ _ _ _ h.head
theorem RMid.ne (h : RMid w0 w g b S p at_ n bg cnt D vM vL vI vA) : g ≠ b ∧ (vM.ownBlock ≠ some g ∧ vL.ownBlock ≠ some g ∧ vI.ownBlock ≠ some g ∧ vA.ownBlock ≠ some g) ∧ (vM.ownBlock ≠ some b ∧ vL.ownBlock ≠ some b ∧ vI.ownBlock ≠ some b ∧ vA.ownBlock ≠ some b) := by
  obtain ⟨es, ck, hb, _⟩ := h.map
  refine ⟨fun e => ?_, ⟨ownm_ne_cells h.rows.rM h.head (by decide), ownm_ne_cells h.rows.rL h.head (by decide), ownm_ne_cells h.rows.rI h.head (by decide), ownm_ne_cells h.rows.rA h.head (by decide)⟩, ownm_ne_map h.rows.rM hb, ownm_ne_map h.rows.rL hb, ownm_ne_map h.rows.rI hb, ownm_ne_map h.rows.rA hb⟩
  have := h.head
  rw [e, hb] at this; cases this
/-- a step that touches none of the reader -/
theorem RMid.up (h : RMid w0 w g b S p at_ n bg cnt D vM vL vI vA) (hb : Below w.heap.size w w') : RMid w0 w' g b S p at_ n bg cnt D vM vL vI vA := by
  have hf : Fr (fun _ => False) w w' := Fr.of_below hb
  exact ⟨(hf.block g h.glt (fun x => x)).trans h.head, h.rows.fr hf (fun _ _ x => x) (fun _ _ x => x) (fun _ _ x => x) (fun _ _ x => x), map_fr h.map hf (fun x => x), h.fr.trans hf (fun x hx => hx.elim), h.foot, h.old⟩
/-- the struct is written -/
theorem RMid.put (h : RMid w0 w g b S p at_ n bg cnt D vM vL vI vA) {n' : Int} {bg' : Bool} {p' : Pg.Pr} (hm : p'.mems = p.mems) (hl : p'.labels = p.labels) (hi : p'.ins = p.ins) (hf : Fr (fun k => k = g) w w') (hh : w'.heap[g]? = some (.cells (HeadC p' vM vL vI n' b bg' vA) 50 (0, 0))) : RMid w0 w' g b S p' at_ n' bg' cnt D vM vL vI vA := by
  obtain ⟨n1, ⟨g1, g2, g3, g4⟩, _⟩ := h.ne
  have hr := h.rows.fr hf (fun k hk e => g1 (by rw [hk, e])) (fun k hk e => g2 (by rw [hk, e])) (fun k hk e => g3 (by rw [hk, e])) (fun k hk e => g4 (by rw [hk, e]))
  refine ⟨hh, ⟨by rw [hm]; exact hr.rM, by rw [hl]; exact hr.rL, by rw [hi]; exact hr.rI, hr.rA⟩, map_fr h.map hf (fun e => n1 e.symm), h.fr.trans hf (fun x hx => ?_), h.foot, h.old⟩
  subst hx
  exact h.foot x (.inl rfl)
/-- a name is put in the map -/
theorem RMid.name (h : RMid w0 w g b S p at_ n bg cnt D vM vL vI vA) {cnt' : Nat} {D' : DataW Unit} (hf : Fr (fun k => k = b) w w') (hm : NMap w' b cnt' D') : RMid w0 w' g b S p at_ n bg cnt' D' vM vL vI vA := by
  obtain ⟨n1, _, b1, b2, b3, b4⟩ := h.ne
  refine ⟨(hf.block g h.glt (fun e => n1 e)).trans h.head, h.rows.fr hf (fun k hk e => b1 (by rw [hk, e])) (fun k hk e => b2 (by rw [hk, e])) (fun k hk e => b3 (by rw [hk, e])) (fun k hk e => b4 (by rw [hk, e])), hm, h.fr.trans hf (fun x hx => ?_), h.foot, h.old⟩
  subst hx
  exact h.foot x (.inr (.inl rfl))
theorem RMid.done (h : RMid w0 w g b S r.p r.at_ (Pg.cells r.p.mems) r.begun (r.p.mems.length + r.p.labels.length) D vM vL vI vA) (hD : NmOk D r.p) (hI : Pg.Inv r) (hS : ∀ k, S k → k < w0.heap.size) {v : Value} : RdP g r S v w0 (.returned v) w := by
  obtain ⟨D1, hm1⟩ : ∃ D, NMap w b (r.p.mems.length + r.p.labels.length) D := ⟨_, h.map⟩
  have hlt : ∀ k, Foot g b vM vL vI vA k → k < w.heap.size := fun k hk => by
    have hrow := h.rows
    rcases hk with rfl | rfl | hk | hk | hk | hk
    · exact h.glt
    · exact Nat.lt_of_lt_of_le h.old.2 h.fr.size
    · exact (hrow.rM.lt k hk).2
    · exact (hrow.rL.lt k hk).2
    · exact (hrow.rI.lt k hk).2
    · exact (hrow.rA.lt k hk).2
  refine ⟨rfl, fun k => S k ∨ (w0.heap.size ≤ k ∧ k < w.heap.size), ⟨b, vM, vL, vI, vA, h.head, h.rows, ⟨D, h.map, hD⟩, fun k hk => ?_, fun k hk => ?_, hI⟩, h.fr, fun k hk => hk.imp id (fun x => x.1)⟩
  · rcases h.foot k hk with h1 | h1
    · exact .inl h1
    · exact .inr ⟨h1, hlt k hk⟩
  · rcases hk with hk | hk
    · exact Nat.lt_of_lt_of_le (hS k hk) h.fr.size
    · exact hk.2
theorem RMid.fin (h : RMid w0 w g b S p at_ n bg cnt D vM vL vI vA) (r : Pg.Rs) (ep : p = r.p) (ea : at_ = r.at_) (en : n = Pg.cells r.p.mems) (eb : bg = r.begun) (ec : cnt = r.p.mems.length + r.p.labels.length) (hD : NmOk D r.p) (hI : Pg.Inv r) (hS : ∀ k, S k → k < w0.heap.size) {v : Value} : RdP g r S v w0 (.returned v) w := by
  subst ep ea en eb ec
  exact h.done hD hI hS
/-- a row of the reader takes one more at its end -/
theorem RMid.appM (h : RMid w0 w g b S p at_ n bg cnt D vM vL vI vA) {w1 w2 : World} {a : Pg.Mm} {gk cap : Nat} (hb : Below w.heap.size w w1) (hown : w2.ownsRow 0 45 3 (.slice (some ⟨gk, 0, none⟩) (p.mems.length + 1) cap) (p.mems.length + 1) (flt memC p.mems ++ memC a)) (hgr : w1.grownBy w2 vM.ownBlock) (hat : vM.ownBlock = some gk ∨ gk = w1.heap.size) :
    RMid w0 (w2.setCell ⟨g, 7, none⟩ (.slice (some ⟨gk, 0, none⟩) (p.mems.length + 1) cap)) g b S ({ p with mems := p.mems ++ [a] }) at_ n bg cnt D (.slice (some ⟨gk, 0, none⟩) (p.mems.length + 1) cap) vL vI vA := by
  obtain ⟨n1, ⟨gM, gL, gI, gA⟩, bM, bL, bI, bA⟩ := h.ne
  have hgw := h.glt
  have hF2 : Fr (fun k => vM.ownBlock = some k) w w2 := (Fr.of_below (S := fun k => vM.ownBlock = some k) hb).trans (Fr.of_grown hgr) (fun x hx => .inl hx)
  have hd2 : w2.heap[g]? = some (.cells (HeadC p vM vL vI n b bg vA) 50 (0, 0)) := (hF2.block g hgw gM).trans h.head
  have hgk : gk ≠ g := fun e => by
    subst e
    rcases hat with h1 | h1
    · exact gM h1
    · have := hb.size; omega
  have hFg : Fr (fun k => k = g) w2 (w2.setCell ⟨g, 7, none⟩ (.slice (some ⟨gk, 0, none⟩) (p.mems.length + 1) cap)) := Fr.setCell (p := ⟨g, 7, none⟩) _
  have hF3 : Fr (fun k => k = g ∨ vM.ownBlock = some k) w (w2.setCell ⟨g, 7, none⟩ (.slice (some ⟨gk, 0, none⟩) (p.mems.length + 1) cap)) := (hF2.wider (S' := fun k => k = g ∨ vM.ownBlock = some k) (fun k _ hk => .inr hk)).trans hFg (fun x hx => .inl (.inl hx))
  have hd3 := heap_setCell_same w2 g 7 _ _ (.slice (some ⟨gk, 0, none⟩) (p.mems.length + 1) cap) hd2
  have ho := h.rows
  have oL := own_frm ho.rL hF3 (fun k hk e => e.elim (fun e => gL (by rw [hk, e])) (fun e => ownm_ne_own ho.rM ho.rL (by decide) hk e))
  have oI := own_frm ho.rI hF3 (fun k hk e => e.elim (fun e => gI (by rw [hk, e])) (fun e => ownm_ne_own ho.rM ho.rI (by decide) hk e))
  have oA := own_frm ho.rA hF3 (fun k hk e => e.elim (fun e => gA (by rw [hk, e])) (fun e => ownm_ne_own ho.rM ho.rA (by decide) hk e))
  have oM : (w2.setCell ⟨g, 7, none⟩ (.slice (some ⟨gk, 0, none⟩) (p.mems.length + 1) cap)).ownsRow 0 45 3 (.slice (some ⟨gk, 0, none⟩) (p.mems.length + 1) cap) (p.mems ++ [a]).length (flt memC (p.mems ++ [a])) := by
    rw [flt_app, flt_one, List.length_append]
    exact own_frm hown hFg (fun k hk e => by simp [Value.ownBlock] at hk; omega)
  refine ⟨by rw [hd3]; rfl, ⟨oM, oL, oI, oA⟩, map_fr h.map hF3 (fun e => e.elim (fun e => n1 e.symm) (fun e => bM e)), h.fr.trans hF3 (fun x hx => ?_), fun k hk => ?_, h.old⟩
  · rcases hx with rfl | hx
    · exact h.foot x (.inl rfl)
    · exact h.foot x (by unfold Foot; simp [hx])
  · have hnew : (k = gk) → S k ∨ w0.heap.size ≤ k := fun e => by
      subst e
      rcases hat with h1 | h1
      · exact h.foot k (by unfold Foot; simp [h1])
      · right; have := hb.size; have := h.fr.size; omega
    unfold Foot at hk
    rcases hk with hk | hk | hk | hk | hk | hk
    · exact h.foot k (.inl hk)
    · exact h.foot k (.inr (.inl hk))
    · exact hnew (by simp [Value.ownBlock] at hk; exact hk.symm)
    · exact h.foot k (by unfold Foot; simp [hk])
    · exact h.foot k (by unfold Foot; simp [hk])
    · exact h.foot k (by unfold Foot; simp [hk])
/-- a row of the reader takes one more at its end -/
theorem RMid.appL (h : RMid w0 w g b S p at_ n bg cnt D vM vL vI vA) {w1 w2 : World} {a : Pg.Lb} {gk cap : Nat} (hb : Below w.heap.size w w1) (hown : w2.ownsRow 0 38 2 (.slice (some ⟨gk, 0, none⟩) (p.labels.length + 1) cap) (p.labels.length + 1) (flt labC p.labels ++ labC a)) (hgr : w1.grownBy w2 vL.ownBlock) (hat : vL.ownBlock = some gk ∨ gk = w1.heap.size) :
    RMid w0 (w2.setCell ⟨g, 8, none⟩ (.slice (some ⟨gk, 0, none⟩) (p.labels.length + 1) cap)) g b S ({ p with labels := p.labels ++ [a] }) at_ n bg cnt D vM (.slice (some ⟨gk, 0, none⟩) (p.labels.length + 1) cap) vI vA := by
  obtain ⟨n1, ⟨gM, gL, gI, gA⟩, bM, bL, bI, bA⟩ := h.ne
  have hgw := h.glt
  have hF2 : Fr (fun k => vL.ownBlock = some k) w w2 := (Fr.of_below (S := fun k => vL.ownBlock = some k) hb).trans (Fr.of_grown hgr) (fun x hx => .inl hx)
  have hd2 : w2.heap[g]? = some (.cells (HeadC p vM vL vI n b bg vA) 50 (0, 0)) := (hF2.block g hgw gL).trans h.head
  have hgk : gk ≠ g := fun e => by
    subst e
    rcases hat with h1 | h1
    · exact gL h1
    · have := hb.size; omega
  have hFg : Fr (fun k => k = g) w2 (w2.setCell ⟨g, 8, none⟩ (.slice (some ⟨gk, 0, none⟩) (p.labels.length + 1) cap)) := Fr.setCell (p := ⟨g, 8, none⟩) _
  have hF3 : Fr (fun k => k = g ∨ vL.ownBlock = some k) w (w2.setCell ⟨g, 8, none⟩ (.slice (some ⟨gk, 0, none⟩) (p.labels.length + 1) cap)) := (hF2.wider (S' := fun k => k = g ∨ vL.ownBlock = some k) (fun k _ hk => .inr hk)).trans hFg (fun x hx => .inl (.inl hx))
  have hd3 := heap_setCell_same w2 g 8 _ _ (.slice (some ⟨gk, 0, none⟩) (p.labels.length + 1) cap) hd2
  have ho := h.rows
  have oM := own_frm ho.rM hF3 (fun k hk e => e.elim (fun e => gM (by rw [hk, e])) (fun e => ownm_ne_own ho.rL ho.rM (by decide) hk e))
  have oI := own_frm ho.rI hF3 (fun k hk e => e.elim (fun e => gI (by rw [hk, e])) (fun e => ownm_ne_own ho.rL ho.rI (by decide) hk e))
  have oA := own_frm ho.rA hF3 (fun k hk e => e.elim (fun e => gA (by rw [hk, e])) (fun e => ownm_ne_own ho.rL ho.rA (by decide) hk e))
  have oL : (w2.setCell ⟨g, 8, none⟩ (.slice (some ⟨gk, 0, none⟩) (p.labels.length + 1) cap)).ownsRow 0 38 2 (.slice (some ⟨gk, 0, none⟩) (p.labels.length + 1) cap) (p.labels ++ [a]).length (flt labC (p.labels ++ [a])) := by
    rw [flt_app, flt_one, List.length_append]
    exact own_frm hown hFg (fun k hk e => by simp [Value.ownBlock] at hk; omega)
  refine ⟨by rw [hd3]; rfl, ⟨oM, oL, oI, oA⟩, map_fr h.map hF3 (fun e => e.elim (fun e => n1 e.symm) (fun e => bL e)), h.fr.trans hF3 (fun x hx => ?_), fun k hk => ?_, h.old⟩
  · rcases hx with rfl | hx
    · exact h.foot x (.inl rfl)
    · exact h.foot x (by unfold Foot; simp [hx])
  · have hnew : (k = gk) → S k ∨ w0.heap.size ≤ k := fun e => by
      subst e
      rcases hat with h1 | h1
      · exact h.foot k (by unfold Foot; simp [h1])
      · right; have := hb.size; have := h.fr.size; omega
    unfold Foot at hk
    rcases hk with hk | hk | hk | hk | hk | hk
    · exact h.foot k (.inl hk)
    · exact h.foot k (.inr (.inl hk))
    · exact h.foot k (by unfold Foot; simp [hk])
    · exact hnew (by simp [Value.ownBlock] at hk; exact hk.symm)
    · exact h.foot k (by unfold Foot; simp [hk])
    · exact h.foot k (by unfold Foot; simp [hk])
/-- a row of the reader takes one more at its end -/
theorem RMid.appI (h : RMid w0 w g b S p at_ n bg cnt D vM vL vI vA) {w1 w2 : World} {a : Sy.In} {gk cap : Nat} (hb : Below w.heap.size w w1) (hown : w2.ownsRow 0 42 9 (.slice (some ⟨gk, 0, none⟩) (p.ins.length + 1) cap) (p.ins.length + 1) (flt insL p.ins ++ insL a)) (hgr : w1.grownBy w2 vI.ownBlock) (hat : vI.ownBlock = some gk ∨ gk = w1.heap.size) :
    RMid w0 (w2.setCell ⟨g, 9, none⟩ (.slice (some ⟨gk, 0, none⟩) (p.ins.length + 1) cap)) g b S ({ p with ins := p.ins ++ [a] }) at_ n bg cnt D vM vL (.slice (some ⟨gk, 0, none⟩) (p.ins.length + 1) cap) vA := by
  obtain ⟨n1, ⟨gM, gL, gI, gA⟩, bM, bL, bI, bA⟩ := h.ne
  have hgw := h.glt
  have hF2 : Fr (fun k => vI.ownBlock = some k) w w2 := (Fr.of_below (S := fun k => vI.ownBlock = some k) hb).trans (Fr.of_grown hgr) (fun x hx => .inl hx)
  have hd2 : w2.heap[g]? = some (.cells (HeadC p vM vL vI n b bg vA) 50 (0, 0)) := (hF2.block g hgw gI).trans h.head
  have hgk : gk ≠ g := fun e => by
    subst e
    rcases hat with h1 | h1
    · exact gI h1
    · have := hb.size; omega
  have hFg : Fr (fun k => k = g) w2 (w2.setCell ⟨g, 9, none⟩ (.slice (some ⟨gk, 0, none⟩) (p.ins.length + 1) cap)) := Fr.setCell (p := ⟨g, 9, none⟩) _
  have hF3 : Fr (fun k => k = g ∨ vI.ownBlock = some k) w (w2.setCell ⟨g, 9, none⟩ (.slice (some ⟨gk, 0, none⟩) (p.ins.length + 1) cap)) := (hF2.wider (S' := fun k => k = g ∨ vI.ownBlock = some k) (fun k _ hk => .inr hk)).trans hFg (fun x hx => .inl (.inl hx))
  have hd3 := heap_setCell_same w2 g 9 _ _ (.slice (some ⟨gk, 0, none⟩) (p.ins.length + 1) cap) hd2
  have ho := h.rows
  have oM := own_frm ho.rM hF3 (fun k hk e => e.elim (fun e => gM (by rw [hk, e])) (fun e => ownm_ne_own ho.rI ho.rM (by decide) hk e))
  have oL := own_frm ho.rL hF3 (fun k hk e => e.elim (fun e => gL (by rw [hk, e])) (fun e => ownm_ne_own ho.rI ho.rL (by decide) hk e))
  have oA := own_frm ho.rA hF3 (fun k hk e => e.elim (fun e => gA (by rw [hk, e])) (fun e => ownm_ne_own ho.rI ho.rA (by decide) hk e))
  have oI : (w2.setCell ⟨g, 9, none⟩ (.slice (some ⟨gk, 0, none⟩) (p.ins.length + 1) cap)).ownsRow 0 42 9 (.slice (some ⟨gk, 0, none⟩) (p.ins.length + 1) cap) (p.ins ++ [a]).length (flt insL (p.ins ++ [a])) := by
    rw [flt_app, flt_one, List.length_append]
    exact own_frm hown hFg (fun k hk e => by simp [Value.ownBlock] at hk; omega)
  refine ⟨by rw [hd3]; rfl, ⟨oM, oL, oI, oA⟩, map_fr h.map hF3 (fun e => e.elim (fun e => n1 e.symm) (fun e => bI e)), h.fr.trans hF3 (fun x hx => ?_), fun k hk => ?_, h.old⟩
  · rcases hx with rfl | hx
    · exact h.foot x (.inl rfl)
    · exact h.foot x (by unfold Foot; simp [hx])
  · have hnew : (k = gk) → S k ∨ w0.heap.size ≤ k := fun e => by
      subst e
      rcases hat with h1 | h1
      · exact h.foot k (by unfold Foot; simp [h1])
      · right; have := hb.size; have := h.fr.size; omega
    unfold Foot at hk
    rcases hk with hk | hk | hk | hk | hk | hk
    · exact h.foot k (.inl hk)
    · exact h.foot k (.inr (.inl hk))
    · exact h.foot k (by unfold Foot; simp [hk])
    · exact h.foot k (by unfold Foot; simp [hk])
    · exact hnew (by simp [Value.ownBlock] at hk; exact hk.symm)
    · exact h.foot k (by unfold Foot; simp [hk])
/-- a row of the reader takes one more at its end -/
theorem RMid.appA (h : RMid w0 w g b S p at_ n bg cnt D vM vL vI vA) {w1 w2 : World} {a : Nat} {gk cap : Nat} (hb : Below w.heap.size w w1) (hown : w2.ownsRow 0 3 1 (.slice (some ⟨gk, 0, none⟩) (at_.length + 1) cap) (at_.length + 1) (flt lnC at_ ++ lnC a)) (hgr : w1.grownBy w2 vA.ownBlock) (hat : vA.ownBlock = some gk ∨ gk = w1.heap.size) :
    RMid w0 (w2.setCell ⟨g, 13, none⟩ (.slice (some ⟨gk, 0, none⟩) (at_.length + 1) cap)) g b S (p) (at_ ++ [a]) n bg cnt D vM vL vI (.slice (some ⟨gk, 0, none⟩) (at_.length + 1) cap) := by
  obtain ⟨n1, ⟨gM, gL, gI, gA⟩, bM, bL, bI, bA⟩ := h.ne
  have hgw := h.glt
  have hF2 : Fr (fun k => vA.ownBlock = some k) w w2 := (Fr.of_below (S := fun k => vA.ownBlock = some k) hb).trans (Fr.of_grown hgr) (fun x hx => .inl hx)
  have hd2 : w2.heap[g]? = some (.cells (HeadC p vM vL vI n b bg vA) 50 (0, 0)) := (hF2.block g hgw gA).trans h.head
  have hgk : gk ≠ g := fun e => by
    subst e
    rcases hat with h1 | h1
    · exact gA h1
    · have := hb.size; omega
  have hFg : Fr (fun k => k = g) w2 (w2.setCell ⟨g, 13, none⟩ (.slice (some ⟨gk, 0, none⟩) (at_.length + 1) cap)) := Fr.setCell (p := ⟨g, 13, none⟩) _
  have hF3 : Fr (fun k => k = g ∨ vA.ownBlock = some k) w (w2.setCell ⟨g, 13, none⟩ (.slice (some ⟨gk, 0, none⟩) (at_.length + 1) cap)) := (hF2.wider (S' := fun k => k = g ∨ vA.ownBlock = some k) (fun k _ hk => .inr hk)).trans hFg (fun x hx => .inl (.inl hx))
  have hd3 := heap_setCell_same w2 g 13 _ _ (.slice (some ⟨gk, 0, none⟩) (at_.length + 1) cap) hd2
  have ho := h.rows
  have oM := own_frm ho.rM hF3 (fun k hk e => e.elim (fun e => gM (by rw [hk, e])) (fun e => ownm_ne_own ho.rA ho.rM (by decide) hk e))
  have oL := own_frm ho.rL hF3 (fun k hk e => e.elim (fun e => gL (by rw [hk, e])) (fun e => ownm_ne_own ho.rA ho.rL (by decide) hk e))
  have oI := own_frm ho.rI hF3 (fun k hk e => e.elim (fun e => gI (by rw [hk, e])) (fun e => ownm_ne_own ho.rA ho.rI (by decide) hk e))
  have oA : (w2.setCell ⟨g, 13, none⟩ (.slice (some ⟨gk, 0, none⟩) (at_.length + 1) cap)).ownsRow 0 3 1 (.slice (some ⟨gk, 0, none⟩) (at_.length + 1) cap) (at_ ++ [a]).length (flt lnC (at_ ++ [a])) := by
    rw [flt_app, flt_one, List.length_append]
    exact own_frm hown hFg (fun k hk e => by simp [Value.ownBlock] at hk; omega)
  refine ⟨by rw [hd3]; rfl, ⟨oM, oL, oI, oA⟩, map_fr h.map hF3 (fun e => e.elim (fun e => n1 e.symm) (fun e => bA e)), h.fr.trans hF3 (fun x hx => ?_), fun k hk => ?_, h.old⟩
  · rcases hx with rfl | hx
    · exact h.foot x (.inl rfl)
    · exact h.foot x (by unfold Foot; simp [hx])
  · have hnew : (k = gk) → S k ∨ w0.heap.size ≤ k := fun e => by
      subst e
      rcases hat with h1 | h1
      · exact h.foot k (by unfold Foot; simp [h1])
      · right; have := hb.size; have := h.fr.size; omega
    unfold Foot at hk
    rcases hk with hk | hk | hk | hk | hk | hk
    · exact h.foot k (.inl hk)
    · exact h.foot k (.inr (.inl hk))
    · exact h.foot k (by unfold Foot; simp [hk])
    · exact h.foot k (by unfold Foot; simp [hk])
    · exact h.foot k (by unfold Foot; simp [hk])
    · exact hnew (by simp [Value.ownBlock] at hk; exact hk.symm)
end
end
end Go.Proofs.YtmghklokbmdenaaDoor
