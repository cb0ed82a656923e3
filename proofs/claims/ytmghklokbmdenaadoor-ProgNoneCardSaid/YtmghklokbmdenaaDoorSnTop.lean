/- The landed syns: what it prints, Print; the contract of stage 5's awake. -/
import Derived.Test.YtmghklokbmdenaaDoorMgSn
import Derived.Lib.ItoaNum
import Derived.Test.YtmghklokbmdenaaDoorMgSy
import Derived.Test.YtmghklokbmdenaaDoorSnShelf
import Derived.Test.YtmghklokbmdenaaDoorMgMem
import Derived.WalkKit
import Derived.Test.YtmghklokbmdenaaDoorSnMid
import Derived.Laws.StructEq
set_option linter.unusedVariables false
set_option linter.unusedSimpArgs false
namespace Go.Proofs.YtmghklokbmdenaaDoor
section
namespace Sn
open Sy (In It Vl St)
/-- a number's text, as strconv.Itoa has it -/
def itoaI (n : Int) : List Int := (Lib.itoa n).map fun b => (b.toNat : Int)
def bb (l : List Int) : List UInt8 := l.map fun n => UInt8.ofNat n.toNat
theorem bb_append (a b : List Int) : bb (a ++ b) = bb a ++ bb b := by simp [bb]
theorem bb_itoa (n : Int) : bb (itoaI n) = Lib.itoa n := by
  unfold bb itoaI
  rw [List.map_map]
  have : ∀ l : List UInt8, l.map ((fun n : Int => UInt8.ofNat n.toNat) ∘ fun b : UInt8 => (b.toNat : Int)) = l := fun l => by
    induction l with
    | nil => rfl
    | cons x l ih => simp [ih]
  exact this _
def rT' (d : Int) : List Int := 114 :: itoaI d
def vT' (v : Vl) : List Int := if v.reg = true then rT' v.n else itoaI v.n
def opsL0 : List (List Int) := [] :: Sy.ops
def opTx (n : Int) : List Int := if 0 ≤ n ∧ n < 11 then opsL0.getD n.toNat [] else []
/-- what stands for a piece -/
def txt (i : It) (p : Int) : List Int :=
  if p = 78 then itoaI i.n else if p = 77 then i.name else if p = 76 then i.ins.name else if p = 79 then opTx i.ins.op else if p = 68 then rT' i.ins.d else if p = 65 then vT' i.ins.a else if p = 66 then vT' i.ins.b else [p]
def writeL (f : Fm) (i : It) : List Int := f.word ++ f.rest.flatMap (txt i)
def fits (i : It) (f : Fm) : Bool := decide (f.kind = i.kind) && decide (f.ins = i.ins.kind) && decide (f.secret = i.secret)
def lineL (i : It) : List Int := match forms.find? (fits i) with
  | some f => writeL f i
  | none => []
theorem dg_dec : ∀ (f u : Nat), u < 10 ^ (f + 1) → (Lib.decDigits u).map (fun b => (b.toNat : Int)) = Sy.dg (f + 1) u
  | 0, u, h => by
    have hu : u < 10 := by simpa using h
    rw [Lib.decDigits, dif_pos hu, Sy.dg_small hu]
    simp
    omega
  | f + 1, u, h => by
    by_cases hu : u < 10
    · rw [Lib.decDigits, dif_pos hu, Sy.dg_small hu]
      simp
      omega
    · rw [Lib.decDigits, dif_neg hu, Sy.dg_big hu, List.map_append, dg_dec f (u / 10) (by rw [Nat.pow_succ] at h; omega)]
      congr 1
      simp
      omega
theorem dgs {n : Int} (h : Sy.okN n) : itoaI n = Sy.digits n := by
  obtain ⟨h0, h1⟩ := h
  unfold itoaI Lib.itoa Sy.digits
  rw [if_neg (by omega), if_neg (by omega)]
  exact dg_dec 19 n.toNat (by have : (10 : Nat) ^ 20 = 100000000000000000000 := by decide
                              rw [this]; omega)
theorem dgr {d : Int} (h : Sy.okR d) : itoaI d = Sy.digits d := dgs ⟨h.1, by have := h.2; omega⟩
theorem dgv {v : Vl} (h : Sy.okV v) : vT' v = Sy.vT v := by
  unfold vT' Sy.vT rT' Sy.rT
  rcases h with ⟨h1, h2⟩ | ⟨h1, h2⟩
  · rw [if_pos h1, if_pos h1, dgr h2]
  · rw [if_neg (by rw [h1]; decide), if_neg (by rw [h1]; decide), dgs h2]
theorem dgo {n : Int} (h : Sy.okO n) : opTx n = Sy.opT n := by
  obtain ⟨h0, h1⟩ := h
  rcases (by omega : n = 1 ∨ n = 2 ∨ n = 3 ∨ n = 4 ∨ n = 5 ∨ n = 6 ∨ n = 7 ∨ n = 8 ∨ n = 9 ∨ n = 10) with rfl | rfl | rfl | rfl | rfl | rfl | rfl | rfl | rfl | rfl <;> rfl
theorem dgv0 : vT' Sy.v0 = Sy.vT Sy.v0 := dgv (.inr ⟨rfl, by decide, by decide⟩)
set_option maxHeartbeats 2000000 in
/-- what a line tells is printed as the document says -/
theorem line_ok {i : It} (h : Sy.Ok i) : lineL i = Sy.text i := by
  cases h with
  | none => rfl
  | @num k n h1 h2 h3 =>
    have e := dgs h3
    rcases (by omega : k = 1 ∨ k = 2 ∨ k = 3) with rfl | rfl | rfl
    · rw [show lineL ⟨1, n, false, [], Sy.i0⟩ = writeL ⟨[119, 105, 100, 116, 104], [32, 78], 1, 0, 0, false⟩ ⟨1, n, false, [], Sy.i0⟩ from rfl]
      simp [writeL, txt, Sy.text, e]
    · rw [show lineL ⟨2, n, false, [], Sy.i0⟩ = writeL ⟨[119, 105, 110, 100, 111, 119], [32, 78], 2, 0, 0, false⟩ ⟨2, n, false, [], Sy.i0⟩ from rfl]
      simp [writeL, txt, Sy.text, e]
    · rw [show lineL ⟨3, n, false, [], Sy.i0⟩ = writeL ⟨[102, 117, 101, 108], [32, 78], 3, 0, 0, false⟩ ⟨3, n, false, [], Sy.i0⟩ from rfl]
      simp [writeL, txt, Sy.text, e]
  | @reg s d h =>
    have e := dgr h
    cases s
    · rw [show lineL ⟨4, 0, false, [], { Sy.i0 with d := d }⟩ = writeL ⟨[112, 117, 98, 108, 105, 99], [32, 68], 4, 0, 0, false⟩ ⟨4, 0, false, [], { Sy.i0 with d := d }⟩ from rfl]
      simp [writeL, txt, Sy.text, Sy.kindT, Sy.rT, rT', e]
    · rw [show lineL ⟨4, 0, true, [], { Sy.i0 with d := d }⟩ = writeL ⟨[115, 101, 99, 114, 101, 116], [32, 68], 4, 0, 0, true⟩ ⟨4, 0, true, [], { Sy.i0 with d := d }⟩ from rfl]
      simp [writeL, txt, Sy.text, Sy.kindT, Sy.rT, rT', e]
  | @mem s m n h1 h2 =>
    have e := dgs h2
    cases s
    · rw [show lineL ⟨5, n, false, m, Sy.i0⟩ = writeL ⟨[112, 117, 98, 108, 105, 99], [32, 77, 32, 78], 5, 0, 0, false⟩ ⟨5, n, false, m, Sy.i0⟩ from rfl]
      simp [writeL, txt, Sy.text, Sy.kindT, e]
    · rw [show lineL ⟨5, n, true, m, Sy.i0⟩ = writeL ⟨[115, 101, 99, 114, 101, 116], [32, 77, 32, 78], 5, 0, 0, true⟩ ⟨5, n, true, m, Sy.i0⟩ from rfl]
      simp [writeL, txt, Sy.text, Sy.kindT, e]
  | @label m h =>
    rw [show lineL ⟨6, 0, false, m, Sy.i0⟩ = writeL ⟨[], [77, 58], 6, 0, 0, false⟩ ⟨6, 0, false, m, Sy.i0⟩ from rfl]
    simp [writeL, txt, Sy.text]
  | @ins i h =>
    cases h with
    | @alu op d a b h1 h2 h3 h4 =>
      rw [show lineL ⟨7, 0, false, [], ⟨1, op, d, a, b, [], 0⟩⟩ = writeL ⟨[], [79, 32, 68, 44, 32, 65, 44, 32, 66], 7, 1, 0, false⟩ ⟨7, 0, false, [], ⟨1, op, d, a, b, [], 0⟩⟩ from rfl]
      simp [writeL, txt, Sy.text, Sy.insT, Sy.two, Sy.addrT, Sy.rT, rT', dgo h1, dgr h2, dgv h3, dgv h4]
    | @load d a b h1 h2 h3 =>
      rw [show lineL ⟨7, 0, false, [], ⟨2, 0, d, a, b, [], 0⟩⟩ = writeL ⟨[108, 111, 97, 100], [32, 68, 44, 32, 91, 65, 32, 43, 32, 66, 93], 7, 2, 0, false⟩ ⟨7, 0, false, [], ⟨2, 0, d, a, b, [], 0⟩⟩ from rfl]
      simp [writeL, txt, Sy.text, Sy.insT, Sy.two, Sy.addrT, Sy.rT, rT', dgr h1, dgv h2, dgv h3]
    | @store d a b h1 h2 h3 =>
      rw [show lineL ⟨7, 0, false, [], ⟨3, 0, d, a, b, [], 0⟩⟩ = writeL ⟨[115, 116, 111, 114, 101], [32, 91, 65, 32, 43, 32, 66, 93, 44, 32, 68], 7, 3, 0, false⟩ ⟨7, 0, false, [], ⟨3, 0, d, a, b, [], 0⟩⟩ from rfl]
      simp [writeL, txt, Sy.text, Sy.insT, Sy.two, Sy.addrT, Sy.rT, rT', dgr h1, dgv h2, dgv h3]
    | @cmov d a b h1 h2 h3 =>
      rw [show lineL ⟨7, 0, false, [], ⟨4, 0, d, a, b, [], 0⟩⟩ = writeL ⟨[99, 109, 111, 118], [32, 68, 44, 32, 65, 44, 32, 66], 7, 4, 0, false⟩ ⟨7, 0, false, [], ⟨4, 0, d, a, b, [], 0⟩⟩ from rfl]
      simp [writeL, txt, Sy.text, Sy.insT, Sy.two, Sy.addrT, Sy.rT, rT', dgr h1, dgv h2, dgv h3]
    | @br op a b n h1 h2 h3 h4 =>
      rw [show lineL ⟨7, 0, false, [], ⟨5, op, 0, a, b, n, 0⟩⟩ = writeL ⟨[98, 114], [32, 79, 32, 65, 44, 32, 66, 44, 32, 76], 7, 5, 0, false⟩ ⟨7, 0, false, [], ⟨5, op, 0, a, b, n, 0⟩⟩ from rfl]
      simp [writeL, txt, Sy.text, Sy.insT, Sy.two, Sy.addrT, Sy.rT, rT', dgo h1, dgv h2, dgv h3]
    | @jmp n h1 =>
      rw [show lineL ⟨7, 0, false, [], ⟨6, 0, 0, Sy.v0, Sy.v0, n, 0⟩⟩ = writeL ⟨[106, 109, 112], [32, 76], 7, 6, 0, false⟩ ⟨7, 0, false, [], ⟨6, 0, 0, Sy.v0, Sy.v0, n, 0⟩⟩ from rfl]
      simp [writeL, txt, Sy.text, Sy.insT, Sy.two, Sy.addrT, Sy.rT, rT']
    | @call n h1 =>
      rw [show lineL ⟨7, 0, false, [], ⟨8, 0, 0, Sy.v0, Sy.v0, n, 0⟩⟩ = writeL ⟨[99, 97, 108, 108], [32, 76], 7, 8, 0, false⟩ ⟨7, 0, false, [], ⟨8, 0, 0, Sy.v0, Sy.v0, n, 0⟩⟩ from rfl]
      simp [writeL, txt, Sy.text, Sy.insT, Sy.two, Sy.addrT, Sy.rT, rT']
    | @ind a h1 =>
      rw [show lineL ⟨7, 0, false, [], ⟨7, 0, 0, a, Sy.v0, [], 0⟩⟩ = writeL ⟨[105, 110, 100], [32, 65], 7, 7, 0, false⟩ ⟨7, 0, false, [], ⟨7, 0, 0, a, Sy.v0, [], 0⟩⟩ from rfl]
      simp [writeL, txt, Sy.text, Sy.insT, Sy.two, Sy.addrT, Sy.rT, rT', dgv h1]
    | ret =>
      rw [show lineL ⟨7, 0, false, [], ⟨9, 0, 0, Sy.v0, Sy.v0, [], 0⟩⟩ = writeL ⟨[114, 101, 116], [], 7, 9, 0, false⟩ ⟨7, 0, false, [], ⟨9, 0, 0, Sy.v0, Sy.v0, [], 0⟩⟩ from rfl]
      simp [writeL, txt, Sy.text, Sy.insT, Sy.two, Sy.addrT, Sy.rT, rT']
    | fence =>
      rw [show lineL ⟨7, 0, false, [], ⟨10, 0, 0, Sy.v0, Sy.v0, [], 0⟩⟩ = writeL ⟨[102, 101, 110, 99, 101], [], 7, 10, 0, false⟩ ⟨7, 0, false, [], ⟨10, 0, 0, Sy.v0, Sy.v0, [], 0⟩⟩ from rfl]
      simp [writeL, txt, Sy.text, Sy.insT, Sy.two, Sy.addrT, Sy.rT, rT']
    | halt =>
      rw [show lineL ⟨7, 0, false, [], ⟨11, 0, 0, Sy.v0, Sy.v0, [], 0⟩⟩ = writeL ⟨[104, 97, 108, 116], [], 7, 11, 0, false⟩ ⟨7, 0, false, [], ⟨11, 0, 0, Sy.v0, Sy.v0, [], 0⟩⟩ from rfl]
      simp [writeL, txt, Sy.text, Sy.insT, Sy.two, Sy.addrT, Sy.rT, rT']
end Sn
end
section
open Go.RowKit
abbrev tB : TypeId := 85
theorem infoBu : (Tryd.prog.info? 85).map (·.size) = some 2 := by kernel_rfl
theorem liesBu : liesAt Tryd.prog Tryd.prog.depth 85 (2 / Tryd.prog.cellsOf 85) 0 85 1 = true := by kernel_rfl
set_option maxHeartbeats 1000000 in
set_option maxRecDepth 100000 in
theorem wcopy_used (b : Nat) (w : World) (h0 : w.cell? ⟨b, 0, none⟩ = some (.pointer (some ⟨b, 0, none⟩))) :
    Calls Tryd.prog 50 #[.pointer (some ⟨b, 0, none⟩)] w fun e w' => e = .returned (.tuple #[]) ∧ w' = w := by
  obtain ⟨j, hj, _⟩ := Option.map_eq_some_iff.1 infoBu
  go_enter Tryd.func50, Tryd.ntmps50
  go_wp2
  rw [Lib.run_neq_ptr_same w _ Tryd.underlying82 hj]
  go_wp2
  go_end0
  exact ⟨rfl, rfl⟩
set_option maxHeartbeats 1000000 in
set_option maxRecDepth 100000 in
theorem wcopy_fresh (b : Nat) (w : World) (h0 : w.cell? ⟨b, 0, none⟩ = some (.pointer none)) (hsh : w.shape? b = some (85, 2)) (hfz : w.frozen? ⟨b, 0, none⟩ = false) :
    Calls Tryd.prog 50 #[.pointer (some ⟨b, 0, none⟩)] w fun e w' => e = .returned (.tuple #[]) ∧ w' = w.setCell ⟨b, 0, none⟩ (.pointer (some ⟨b, 0, none⟩)) := by
  obtain ⟨j, hj, hjs⟩ := Option.map_eq_some_iff.1 infoBu
  go_enter Tryd.func50, Tryd.ntmps50
  go_wp2
  rw [Lib.run_to_unsafe w ⟨b, 0, none⟩ Tryd.underlying82 Tryd.underlying117 hj (by rw [hjs]; decide) hsh (Nat.zero_lt_succ 1)]
  simp only [Result.andThen]
  rw [Oper.upon_value]
  go_wp2
  rw [run_callFunc_extern Tryd.func65 (by kernel_rfl) (by kernel_rfl) (by kernel_rfl) (e := Extern.AbiNoEscape.same) (by kernel_rfl)]
  rw [Lib.run_noEscape]
  simp only [Result.andThen]
  rw [Oper.upon_value]
  go_wp2
  rw [Lib.run_from_unsafe w ⟨b, 0, none⟩ Tryd.underlying117 Tryd.underlying82 hj hsh liesBu]
  simp only [Result.andThen]
  rw [Oper.upon_value]
  go_wp2
  go_end0
  exact ⟨rfl, rfl⟩
theorem wcopy (B b : Nat) (bs : List Value) (w : World) (h : Lib.IsBuilderF 85 5 B b bs w) :
    Calls Tryd.prog 50 #[.pointer (some ⟨b, 0, none⟩)] w fun e w' => e = .returned (.tuple #[]) ∧ (Lib.BuilderAtF 85 5 B b (.pointer (some ⟨b, 0, none⟩)) bs w' ∧ Below B w w' ∧ Lib.OthersKept 5 (some b) w w') := by
  rcases h with h | h
  · refine (wcopy_fresh b w h.cell0 h.shape h.frozen0).mono ?_
    rintro e w' ⟨rfl, rfl⟩
    exact ⟨rfl, h.used _, (Below.refl B w).setCell (p := ⟨b, 0, none⟩) h.1 _, (Lib.OthersKept.refl _ _ w).setCell ⟨b, 0, none⟩ rfl _⟩
  · refine (wcopy_used b w h.cell0).mono ?_
    rintro e w' ⟨rfl, rfl⟩
    exact ⟨rfl, h, Below.refl B _, Lib.OthersKept.refl _ _ _⟩
set_option maxHeartbeats 2000000 in
set_option maxRecDepth 100000 in
theorem wstr (B b : Nat) (bs : List Value) (s : ByteArray) (w : World) (h : Lib.IsBuilderF 85 5 B b bs w) (hlen : bs.length + s.size ≤ 140737488355328) (hBw : B ≤ w.heap.size) :
    Calls Tryd.prog 33 #[.pointer (some ⟨b, 0, none⟩), .string s] w fun e w' => e = .returned (.tuple #[.int .i64 s.size, .nilIface]) ∧ (Lib.BuilderAtF 85 5 B b (.pointer (some ⟨b, 0, none⟩)) (bs ++ Lib.strCells s) w' ∧ Below B w w' ∧ Lib.OthersKept 5 (some b) w w') := by
  obtain ⟨i0, hi, hz0, hz1, hz2⟩ := info_parts (show (Tryd.prog.info? 5).map (fun i => (i.zero, i.size, i.bytes)) = some (some (.int .u8 0), 1, 1) by kernel_rfl)
  go_enter Tryd.func33, Tryd.ntmps33
  go_wp2_with (go_at_call 50; refine (wcopy B b bs _ h).mono ?_)
  rintro e w1 ⟨rfl, h1, hb1, hk1⟩
  obtain ⟨hB, v, hbk, hown, hne⟩ := h1
  have c0 : w1.cell? ⟨b, 0, none⟩ = some (.pointer (some ⟨b, 0, none⟩)) := by rw [Lib.cell_of_heap hbk]; rfl
  have c1 : w1.cell? ⟨b, 1, none⟩ = some v := by rw [Lib.cell_of_heap hbk]; rfl
  go_wp2_with (at_builtin; refine Lib.wpList_append_own_stringF _ rfl _ _ 83 9 rfl B 5 i0 Tryd.underlying83 Tryd.underlying9 hi hz0 hz1 hz2 _ _ _ rfl hown s rfl ?c3 ?c4 ?c5 ?_)
  case c3 => unfold maxLen; omega
  case c4 => omega
  case c5 => have := hb1.size; omega
  intro v' w2 hown' hgrow _
  have hlt : b < w1.heap.size := by
    rcases Nat.lt_or_ge b w1.heap.size with h' | h'
    · exact h'
    · simp [Array.getElem?_eq_none h'] at hbk
  have hb2 : w2.heap[b]? = some (.cells #[.pointer (some ⟨b, 0, none⟩), v] 85 (0, 0)) := by
    rw [hgrow.block b hlt (fun e => hne e.symm)]
    exact hbk
  have d0 : w2.cell? ⟨b, 0, none⟩ = some (.pointer (some ⟨b, 0, none⟩)) := by rw [Lib.cell_of_heap hb2]; rfl
  have d1 : w2.cell? ⟨b, 1, none⟩ = some v := by rw [Lib.cell_of_heap hb2]; rfl
  have f1 : w2.frozen? ⟨b, 1, none⟩ = false := Lib.frozen_of_heap hb2 1
  obtain ⟨ao, n', cap, rfl⟩ : ∃ ao n' cap, v' = .slice ao n' cap := by
    rcases hown'.2 with ⟨hv, _⟩ | ⟨g, cap, cur, fz, hv, _⟩
    · exact ⟨_, _, _, hv⟩
    · exact ⟨_, _, _, hv⟩
  go_wp2
  go_ret2
  refine ⟨rfl, ?_, ?_, (hk1.grown hgrow (Lib.ownsRowF_kind hown)).setCell ⟨b, 1, none⟩ rfl _⟩
  · exact Lib.BuilderAtF.put (T := 85) (e := 5) hB hb2 (bs' := bs ++ Lib.strCells s) (by simpa [Lib.strCells_length] using hown') (by decide)
  · exact (hb1.grown hgrow (by have := hb1.size; omega) (fun k hk => (hown.lt k hk).1)).setCell (p := ⟨b, 1, none⟩) hB _
end
section
open Go.RowKit
def I64 (n : Int) : Prop := -9223372036854775808 ≤ n ∧ n ≤ 9223372036854775807
theorem str_of (l : List UInt8) (t : List Int) (h : Sn.bb t = l) : (⟨l.toArray⟩ : ByteArray) = strOfNums t := by subst h; rfl
theorem below_grow (w : World) (k : Nat) (os : Array Obj) : Below w.heap.size w (Sort.grow (w.drewN k) os) :=
  ⟨rfl, rfl, rfl, by show w.heap.size ≤ (w.heap ++ os).size; simp, fun i hi => by show (w.heap ++ os)[i]? = w.heap[i]?; exact Array.getElem?_append_left hi⟩
theorem itoa_any (n : Int) (hn : I64 n) (w : World) (T : Sn.Tab w) : Calls Tryd.prog 73 #[.int .i64 n] w (RetB (.string (strOfNums (Sn.itoaI n))) w) := by
  refine (Tryd.strconv_Itoa n hn.1 hn.2 w T.pow).mono ?_
  rintro e w' ⟨rfl, k, os, rfl⟩
  exact ⟨by rw [str_of _ _ (Sn.bb_itoa n)], below_grow w k os⟩
theorem reg_str (t : List Int) : (⟨#[114]⟩ : ByteArray) ++ strOfNums t = strOfNums (114 :: t) := by
  apply ByteArray.ext
  simp [strOfNums]
theorem itoa_len (n : Int) (hn : I64 n) : (Sn.itoaI n).length ≤ 21 := by
  unfold Sn.itoaI
  rw [List.length_map]
  have key : ∀ (f u : Nat), u < 10 ^ (f + 1) → (Lib.decDigits u).length ≤ f + 1 := by
    intro f
    induction f with
    | zero =>
      intro u h
      rw [Lib.decDigits, dif_pos (by simpa using h)]
      simp
    | succ f ih =>
      intro u h
      by_cases hu : u < 10
      · rw [Lib.decDigits, dif_pos hu]; simp
      · rw [Lib.decDigits, dif_neg hu, List.length_append]
        have := ih (u / 10) (by rw [Nat.pow_succ] at h; omega)
        simp
        omega
  have e : (10 : Nat) ^ 20 = 100000000000000000000 := by decide
  obtain ⟨h0, h1⟩ := hn
  unfold Lib.itoa
  split
  · have := key 19 n.natAbs (by rw [e]; omega)
    simp
    omega
  · have := key 19 n.toNat (by rw [e]; omega)
    omega
set_option maxRecDepth 100000 in
set_option maxHeartbeats 4000000 in
theorem regText_any (n : Int) (hn : I64 n) (w : World) (T : Sn.Tab w) : Calls Tryd.prog 75 #[.int .i64 n] w (RetB (.string (strOfNums (Sn.rT' n))) w) := by
  have HT := Lib.hid T; have HN := Lib.hid hn
  have hlen := itoa_len n hn
  have hsz : (strOfNums (Sn.itoaI n)).size ≤ 21 := by rw [strOfNums_size]; exact hlen
  have hrs := reg_str (Sn.itoaI n)
  clear T hn
  unfold Sn.rT'
  go_enter Tryd.func75, Tryd.ntmps75
  go_wp2_with (go_at_call 73; refine (itoa_any n HN.out _ HT.out).mono ?_; rintro e w1 ⟨rfl, hb1⟩)
  go_ret
  exact ⟨rfl, hb1⟩
set_option maxRecDepth 100000 in
set_option maxHeartbeats 4000000 in
theorem valText_any (v : Sy.Vl) (hn : I64 v.n) (w : World) (T : Sn.Tab w) : Calls Tryd.prog 76 #[VV v] w (RetB (.string (strOfNums (Sn.vT' v))) w) := by
  have HT := Lib.hid T; have HN := Lib.hid hn
  clear T hn
  obtain ⟨r, n⟩ := v
  unfold Sn.vT'
  cases r
  all_goals
    go_enter Tryd.func76, Tryd.ntmps76
    go_wp2_with (first
      | (go_at_call 73; refine (itoa_any n HN.out _ (HT.out.below (upA (up0 w) _))).mono ?_; rintro e w1 ⟨rfl, hb1⟩)
      | (go_at_call 75; refine (regText_any n HN.out _ (HT.out.below (upA (up0 w) _))).mono ?_; rintro e w1 ⟨rfl, hb1⟩))
    go_ret
    exact ⟨rfl, upT (upA (up0 w) _) hb1⟩
/-- an item's numbers are words of 64 places -/
structure It64 (i : Sy.It) : Prop where
  n : I64 i.n
  op : I64 i.ins.op
  d : I64 i.ins.d
  a : I64 i.ins.a.n
  b : I64 i.ins.b.n
end
section
open Go.RowKit
set_option maxRecDepth 100000 in
set_option maxHeartbeats 4000000 in
theorem text_N (i : Sy.It) (h64 : It64 i) (w : World) (T : Sn.Tab w) : Calls Tryd.prog 69 #[ItV i, .int .i32 78] w (RetB (.string (strOfNums (Sn.txt i 78))) w) := by
  rw [show Sn.txt i 78 = Sn.itoaI i.n from rfl]
  have HT := Lib.hid T; have H64 := Lib.hid h64
  clear T h64
  go_enter Tryd.func69, Tryd.ntmps69
  go_wp2_with (go_at_call 73; refine (itoa_any i.n H64.out.n _ (HT.out.below (upA (up0 w) _))).mono ?_; rintro e w1 ⟨rfl, hb1⟩)
  go_ret
  exact ⟨rfl, upT (upA (up0 w) _) hb1⟩
set_option maxRecDepth 100000 in
set_option maxHeartbeats 4000000 in
theorem text_M (i : Sy.It) (h64 : It64 i) (w : World) (T : Sn.Tab w) : Calls Tryd.prog 69 #[ItV i, .int .i32 77] w (RetB (.string (strOfNums (Sn.txt i 77))) w) := by
  rw [show Sn.txt i 77 = i.name from rfl]
  have HT := Lib.hid T; have H64 := Lib.hid h64
  clear T h64
  go_enter Tryd.func69, Tryd.ntmps69
  go_wp2_with fail
  go_ret
  exact ⟨rfl, upA (up0 w) _⟩
set_option maxRecDepth 100000 in
set_option maxHeartbeats 4000000 in
theorem text_L (i : Sy.It) (h64 : It64 i) (w : World) (T : Sn.Tab w) : Calls Tryd.prog 69 #[ItV i, .int .i32 76] w (RetB (.string (strOfNums (Sn.txt i 76))) w) := by
  rw [show Sn.txt i 76 = i.ins.name from rfl]
  have HT := Lib.hid T; have H64 := Lib.hid h64
  clear T h64
  go_enter Tryd.func69, Tryd.ntmps69
  go_wp2_with fail
  go_ret
  exact ⟨rfl, upA (up0 w) _⟩
set_option maxRecDepth 100000 in
set_option maxHeartbeats 4000000 in
theorem text_O (i : Sy.It) (h64 : It64 i) (w : World) (T : Sn.Tab w) : Calls Tryd.prog 69 #[ItV i, .int .i32 79] w (RetB (.string (strOfNums (Sn.txt i 79))) w) := by
  rw [show Sn.txt i 79 = Sn.opTx i.ins.op from rfl]
  have HT := Lib.hid T; have H64 := Lib.hid h64
  clear T h64
  go_enter Tryd.func69, Tryd.ntmps69
  go_wp2_with (go_at_call 74; refine (opText_any i.ins.op _ (HT.out.below (upA (up0 w) _))).mono ?_; rintro e w1 ⟨rfl, hb1⟩)
  go_ret
  exact ⟨rfl, upT (upA (up0 w) _) hb1⟩
set_option maxRecDepth 100000 in
set_option maxHeartbeats 4000000 in
theorem text_D (i : Sy.It) (h64 : It64 i) (w : World) (T : Sn.Tab w) : Calls Tryd.prog 69 #[ItV i, .int .i32 68] w (RetB (.string (strOfNums (Sn.txt i 68))) w) := by
  rw [show Sn.txt i 68 = Sn.rT' i.ins.d from rfl]
  have HT := Lib.hid T; have H64 := Lib.hid h64
  clear T h64
  go_enter Tryd.func69, Tryd.ntmps69
  go_wp2_with (go_at_call 75; refine (regText_any i.ins.d H64.out.d _ (HT.out.below (upA (up0 w) _))).mono ?_; rintro e w1 ⟨rfl, hb1⟩)
  go_ret
  exact ⟨rfl, upT (upA (up0 w) _) hb1⟩
set_option maxRecDepth 100000 in
set_option maxHeartbeats 4000000 in
theorem text_A (i : Sy.It) (h64 : It64 i) (w : World) (T : Sn.Tab w) : Calls Tryd.prog 69 #[ItV i, .int .i32 65] w (RetB (.string (strOfNums (Sn.txt i 65))) w) := by
  rw [show Sn.txt i 65 = Sn.vT' i.ins.a from rfl]
  have HT := Lib.hid T; have H64 := Lib.hid h64
  clear T h64
  go_enter Tryd.func69, Tryd.ntmps69
  go_wp2_with (go_at_call 76; refine (valText_any i.ins.a H64.out.a _ (HT.out.below (upA (up0 w) _))).mono ?_; rintro e w1 ⟨rfl, hb1⟩)
  go_ret
  exact ⟨rfl, upT (upA (up0 w) _) hb1⟩
set_option maxRecDepth 100000 in
set_option maxHeartbeats 4000000 in
theorem text_B (i : Sy.It) (h64 : It64 i) (w : World) (T : Sn.Tab w) : Calls Tryd.prog 69 #[ItV i, .int .i32 66] w (RetB (.string (strOfNums (Sn.txt i 66))) w) := by
  rw [show Sn.txt i 66 = Sn.vT' i.ins.b from rfl]
  have HT := Lib.hid T; have H64 := Lib.hid h64
  clear T h64
  go_enter Tryd.func69, Tryd.ntmps69
  go_wp2_with (go_at_call 76; refine (valText_any i.ins.b H64.out.b _ (HT.out.below (upA (up0 w) _))).mono ?_; rintro e w1 ⟨rfl, hb1⟩)
  go_ret
  exact ⟨rfl, upT (upA (up0 w) _) hb1⟩
set_option maxRecDepth 100000 in
set_option maxHeartbeats 4000000 in
theorem text_S0 (i : Sy.It) (h64 : It64 i) (w : World) (T : Sn.Tab w) : Calls Tryd.prog 69 #[ItV i, .int .i32 32] w (RetB (.string (strOfNums (Sn.txt i 32))) w) := by
  rw [show Sn.txt i 32 = [32] from rfl]
  have HT := Lib.hid T; have H64 := Lib.hid h64
  clear T h64
  have he : Utf8.encode 32 = ⟨#[32]⟩ := rfl
  go_enter Tryd.func69, Tryd.ntmps69
  go_wp2_with fail
  go_ret
  exact ⟨rfl, upA (up0 w) _⟩
set_option maxRecDepth 100000 in
set_option maxHeartbeats 4000000 in
theorem text_S1 (i : Sy.It) (h64 : It64 i) (w : World) (T : Sn.Tab w) : Calls Tryd.prog 69 #[ItV i, .int .i32 44] w (RetB (.string (strOfNums (Sn.txt i 44))) w) := by
  rw [show Sn.txt i 44 = [44] from rfl]
  have HT := Lib.hid T; have H64 := Lib.hid h64
  clear T h64
  have he : Utf8.encode 44 = ⟨#[44]⟩ := rfl
  go_enter Tryd.func69, Tryd.ntmps69
  go_wp2_with fail
  go_ret
  exact ⟨rfl, upA (up0 w) _⟩
set_option maxRecDepth 100000 in
set_option maxHeartbeats 4000000 in
theorem text_S2 (i : Sy.It) (h64 : It64 i) (w : World) (T : Sn.Tab w) : Calls Tryd.prog 69 #[ItV i, .int .i32 58] w (RetB (.string (strOfNums (Sn.txt i 58))) w) := by
  rw [show Sn.txt i 58 = [58] from rfl]
  have HT := Lib.hid T; have H64 := Lib.hid h64
  clear T h64
  have he : Utf8.encode 58 = ⟨#[58]⟩ := rfl
  go_enter Tryd.func69, Tryd.ntmps69
  go_wp2_with fail
  go_ret
  exact ⟨rfl, upA (up0 w) _⟩
set_option maxRecDepth 100000 in
set_option maxHeartbeats 4000000 in
theorem text_S3 (i : Sy.It) (h64 : It64 i) (w : World) (T : Sn.Tab w) : Calls Tryd.prog 69 #[ItV i, .int .i32 91] w (RetB (.string (strOfNums (Sn.txt i 91))) w) := by
  rw [show Sn.txt i 91 = [91] from rfl]
  have HT := Lib.hid T; have H64 := Lib.hid h64
  clear T h64
  have he : Utf8.encode 91 = ⟨#[91]⟩ := rfl
  go_enter Tryd.func69, Tryd.ntmps69
  go_wp2_with fail
  go_ret
  exact ⟨rfl, upA (up0 w) _⟩
set_option maxRecDepth 100000 in
set_option maxHeartbeats 4000000 in
theorem text_S4 (i : Sy.It) (h64 : It64 i) (w : World) (T : Sn.Tab w) : Calls Tryd.prog 69 #[ItV i, .int .i32 93] w (RetB (.string (strOfNums (Sn.txt i 93))) w) := by
  rw [show Sn.txt i 93 = [93] from rfl]
  have HT := Lib.hid T; have H64 := Lib.hid h64
  clear T h64
  have he : Utf8.encode 93 = ⟨#[93]⟩ := rfl
  go_enter Tryd.func69, Tryd.ntmps69
  go_wp2_with fail
  go_ret
  exact ⟨rfl, upA (up0 w) _⟩
set_option maxRecDepth 100000 in
set_option maxHeartbeats 4000000 in
theorem text_S5 (i : Sy.It) (h64 : It64 i) (w : World) (T : Sn.Tab w) : Calls Tryd.prog 69 #[ItV i, .int .i32 43] w (RetB (.string (strOfNums (Sn.txt i 43))) w) := by
  rw [show Sn.txt i 43 = [43] from rfl]
  have HT := Lib.hid T; have H64 := Lib.hid h64
  clear T h64
  have he : Utf8.encode 43 = ⟨#[43]⟩ := rfl
  go_enter Tryd.func69, Tryd.ntmps69
  go_wp2_with fail
  go_ret
  exact ⟨rfl, upA (up0 w) _⟩
theorem ptext_any (i : Sy.It) (h64 : It64 i) (p : Int) (hp : p = 32 ∨ (p = 78 ∨ p = 77 ∨ p = 76 ∨ p = 79 ∨ p = 68 ∨ p = 65 ∨ p = 66 ∨ p = 44 ∨ p = 58 ∨ p = 91 ∨ p = 93 ∨ p = 43)) (w : World) (T : Sn.Tab w) :
    Calls Tryd.prog 69 #[ItV i, .int .i32 p] w (RetB (.string (strOfNums (Sn.txt i p))) w) := by
  rcases hp with rfl | rfl | rfl | rfl | rfl | rfl | rfl | rfl | rfl | rfl | rfl | rfl | rfl
  · exact text_S0 i h64 w T
  · exact text_N i h64 w T
  · exact text_M i h64 w T
  · exact text_L i h64 w T
  · exact text_O i h64 w T
  · exact text_D i h64 w T
  · exact text_A i h64 w T
  · exact text_B i h64 w T
  · exact text_S1 i h64 w T
  · exact text_S2 i h64 w T
  · exact text_S3 i h64 w T
  · exact text_S4 i h64 w T
  · exact text_S5 i h64 w T
end
section
open Go.RowKit
abbrev Bu (b : Nat) (t : List Int) (w : World) : Prop := Lib.IsBuilderF 85 5 b b (Lib.byteCells (Sn.bb t)) w
theorem buA_below {B b : Nat} {p : Value} {bs : List Value} {w w' : World} (h : Lib.BuilderAtF 85 5 B b p bs w) (hb : Below w.heap.size w w') : Lib.BuilderAtF 85 5 B b p bs w' := by
  obtain ⟨hB, v, hbk, hown, hne⟩ := h
  refine ⟨hB, v, (hb.block b (Array.getElem?_eq_some_iff.1 hbk).1).trans hbk, ⟨hown.1, ?_⟩, hne⟩
  rcases hown.2 with h | ⟨g, cap, cur, fz, hv, h1, h2, h3⟩
  · exact .inl h
  · exact .inr ⟨g, cap, cur, fz, hv, h1, (hb.block g (Array.getElem?_eq_some_iff.1 h2).1).trans h2, h3⟩
theorem bu_below {b : Nat} {t : List Int} {w w' : World} (h : Bu b t w) (hb : Below w.heap.size w w') : Bu b t w' := h.elim (fun x => .inl (buA_below x hb)) (fun x => .inr (buA_below x hb))
theorem bu_more (t u : List Int) : Lib.byteCells (Sn.bb t) ++ Lib.strCells (strOfNums u) = Lib.byteCells (Sn.bb (t ++ u)) := by
  rw [Sn.bb_append, Lib.byteCells_append]
  rfl
/-- an item whose names are not too long -/
structure Short (i : Sy.It) : Prop where
  n1 : i.name.length ≤ 50000
  n2 : i.ins.name.length ≤ 50000
theorem opTx_len (n : Int) : (Sn.opTx n).length ≤ 3 := by
  unfold Sn.opTx
  split
  · rename_i h
    obtain ⟨k, rfl⟩ : ∃ k : Nat, n = k := ⟨n.toNat, by omega⟩
    rw [Int.toNat_natCast]
    have hk : k < 11 := by omega
    rcases (by omega : k = 0 ∨ k = 1 ∨ k = 2 ∨ k = 3 ∨ k = 4 ∨ k = 5 ∨ k = 6 ∨ k = 7 ∨ k = 8 ∨ k = 9 ∨ k = 10) with rfl | rfl | rfl | rfl | rfl | rfl | rfl | rfl | rfl | rfl | rfl <;> decide
  · simp
theorem txt_len (i : Sy.It) (h64 : It64 i) (hs : Short i) (p : Int) : (Sn.txt i p).length ≤ 50000 := by
  have h1 := hs.n1; have h2 := hs.n2
  have e1 := itoa_len _ h64.n; have e2 := itoa_len _ h64.d; have e3 := itoa_len _ h64.a; have e4 := itoa_len _ h64.b
  have e5 := opTx_len i.ins.op
  have ev : ∀ v : Sy.Vl, (Sn.itoaI v.n).length ≤ 21 → (Sn.vT' v).length ≤ 22 := fun v h => by
    unfold Sn.vT' Sn.rT'
    split
    · simpa using h
    · omega
  have e6 := ev _ e3; have e7 := ev _ e4
  unfold Sn.txt Sn.rT'
  repeat' split
  all_goals first | omega | (simp; omega) | simp
/-- what is written of a form behind its j-th piece -/
def wrL (f : Sn.Fm) (i : Sy.It) (j : Nat) : List Int := f.word ++ (f.rest.take j).flatMap (Sn.txt i)
theorem wrL_step (f : Sn.Fm) (i : Sy.It) {j : Nat} (hj : j < f.rest.length) : wrL f i (j + 1) = wrL f i j ++ Sn.txt i (f.rest.getD j 0) := by
  unfold wrL
  rw [List.take_add_one]
  have : f.rest[j]? = some (f.rest.getD j 0) := by simp [List.getD, hj]
  rw [this]
  simp
theorem wrL_all (f : Sn.Fm) (i : Sy.It) : wrL f i f.rest.length = Sn.writeL f i := by unfold wrL Sn.writeL; rw [List.take_length]
theorem wrL_len (f : Sn.Fm) (hf : f ∈ Sn.forms) (i : Sy.It) (h64 : It64 i) (hs : Short i) : ∀ j, j ≤ f.rest.length → (wrL f i j).length ≤ 6 + j * 50000
  | 0, _ => by have := (Sn.form_bytes hf).2.2.1; unfold wrL; simp; omega
  | j + 1, h => by
    rw [wrL_step f i (by omega), List.length_append]
    have := wrL_len f hf i h64 hs j (by omega)
    have := txt_len i h64 hs (f.rest.getD j 0)
    omega
set_option maxRecDepth 100000 in
set_option maxHeartbeats 8000000 in
theorem write_any (f : Sn.Fm) (hf : f ∈ Sn.forms) (i : Sy.It) (h64 : It64 i) (hs : Short i) (w : World) (T : Sn.Tab w) :
    Calls Tryd.prog 64 #[FmV f, ItV i] w (RetB (.string (strOfNums (Sn.writeL f i))) w) := by
  have hfl := (Sn.form_bytes hf).2.2.2
  have hwl := wrL_len f hf i h64 hs
  have HF := Lib.hid hf; have H64 := Lib.hid h64; have HT := Lib.hid T; have HWL := Lib.hid hwl; have HS := Lib.hid hs
  clear hf h64 hs T hwl
  have hbox : ∀ a c, ((w.alloc a).alloc (.cells (ItC i) 55)).alloc c = ((w.alloc a).alloc (.cells (ItC i) 55)).alloc c := fun _ _ => rfl
  have hrow : ∀ a c, (((w.alloc a).alloc (.cells (ItC i) 55)).alloc c).heap[w.heap.size + 1]? = some (.cells (ItC i) 55 (0, 0)) := fun a c => by
    have h1 := heap_alloc_new (w.alloc a) (.cells (ItC i) 55)
    have h2 : (w.alloc a).heap.size = w.heap.size + 1 := by simp
    rw [h2] at h1
    exact (heap_alloc_old _ _ (by simp)).trans h1
  have hbu : ∀ a c, Bu (w.heap.size + 1 + 1) [] (((w.alloc a).alloc c).alloc (.cells #[.pointer none, .slice none 0 0] 85)) := fun a c => by
    have h := Lib.IsBuilderF.of (Lib.fresh_isBuilder 85 5 ((w.alloc a).alloc c))
    have h2 : ((w.alloc a).alloc c).heap.size = w.heap.size + 1 + 1 := by simp
    rw [h2] at h
    exact h
  have HROW := Lib.hid hrow; have HBU := Lib.hid hbu
  clear hbox hrow hbu
  go_enter Tryd.func64, Tryd.ntmps64
  go_wp2_with fail
  refine (wstr (w.heap.size + 1 + 1) (w.heap.size + 1 + 1) _ (strOfNums f.word) _ (HBU.out _ _) (by have := (Sn.form_bytes HF.out).2.2.1; rw [strOfNums_size]; simp [Lib.byteCells, Sn.bb]; omega) (by simp)).mono ?_
  rintro e w1 ⟨rfl, h1, b1, k1⟩
  have hR1 := k1 _ _ (HROW.out _ _) (by simp) (by intro c fz h; injection h with _ h; exact absurd h (by decide))
  have hB1 : Bu (w.heap.size + 1 + 1) (wrL f i 0) w1 := by
    have := bu_more [] f.word
    rw [this] at h1
    refine .inr ?_
    unfold wrL
    simpa using h1
  have T1 : Sn.Tab w1 := by
    refine HT.out.below ?_
    exact ⟨b1.os, b1.tape, b1.output, by have := b1.size; simp at this; omega, fun k hk => (b1.block k (by omega)).trans ((heap_alloc_old _ _ (by simp; omega)).trans ((heap_alloc_old _ _ (by simp; omega)).trans (heap_alloc_old _ _ hk)))⟩
  have hbw1 : Below w.heap.size w w1 := ⟨b1.os, b1.tape, b1.output, by have := b1.size; simp at this; omega, fun k hk => (b1.block k (by omega)).trans ((heap_alloc_old _ _ (by simp; omega)).trans ((heap_alloc_old _ _ (by simp; omega)).trans (heap_alloc_old _ _ hk)))⟩
  have hsz1 : w.heap.size + 1 + 1 + 1 ≤ w1.heap.size := by have := b1.size; simp at this; omega
  have c1 : w1.cell? ⟨w.heap.size, 1, none⟩ = some (.string (strOfNums f.rest)) := by
    have h0 : (((w.alloc (.cells #[.string (strOfNums f.word), .string (strOfNums f.rest), .int .i64 f.kind, .int .i64 f.ins, .int .i64 f.op, .bool f.secret] 68)).alloc (.cells (ItC i) 55)).alloc (.cells #[.pointer none, .slice none 0 0] 85)).heap[w.heap.size]? = some (.cells #[.string (strOfNums f.word), .string (strOfNums f.rest), .int .i64 f.kind, .int .i64 f.ins, .int .i64 f.op, .bool f.secret] 68 (0, 0)) :=
      (heap_alloc_old _ _ (by simp; omega)).trans ((heap_alloc_old _ _ (by simp)).trans (heap_alloc_new w _))
    exact cell_of_row _ _ 1 _ _ _ (k1 _ _ h0 (by simp; omega) (by intro c fz h; injection h with _ h; exact absurd h (by decide)))
  have HR1 := Lib.hid hR1; have HB1 := Lib.hid hB1; have HT1 := Lib.hid T1; have HW1 := Lib.hid hbw1
  clear hR1 hB1 T1 hbw1 h1 b1 k1
  go_wp2_with fail
  go_loopw [] (fun wx => ∃ (j : Nat), j ≤ f.rest.length ∧ wx.heap[w1.heap.size]? = some (.stringIter (strOfNums f.rest) j) ∧ Bu (w.heap.size + 1 + 1) (wrL f i j) wx ∧ wx.heap[w.heap.size + 1]? = some (.cells (ItC i) 55 (0, 0)) ∧ Below w.heap.size w wx) (fun wx => (f.rest.length + 1) - wx.iterPos w1.heap.size)
  case atStart =>
    exact ⟨0, Nat.zero_le _, World.iter_heap w1 (strOfNums f.rest) 0, bu_below HB1.out (upA (up0 w1) _), (heap_alloc_old _ _ (by omega)).trans HR1.out, upA HW1.out _⟩
  case round =>
    obtain ⟨j, hj, hit, hI, hR, hbw⟩ := hrel
    obtain ⟨wo, rfl⟩ : ∃ wo : World, wo = wr := ⟨_, rfl⟩
    have hlt := (Array.getElem?_eq_some_iff.1 hit).1
    have hpos : wo.iterPos w1.heap.size = j := by simp [World.iterPos, hit]
    by_cases hjl : j < f.rest.length
    · have hrun := fun ty => next_piece (P := Tryd.prog) HF.out hit hjl ty
      have hp := piece_of HF.out hjl
      have hstep := wrL_step f i hjl
      have hl1 := HWL.out j hj
      have hl2 := txt_len i H64.out HS.out (f.rest.getD j 0)
      have hit2 := Lib.iterAt_heap wo w1.heap.size (strOfNums f.rest) j (j + 1) hit
      have hI2 : Bu (w.heap.size + 1 + 1) (wrL f i j) (wo.iterAt w1.heap.size (strOfNums f.rest) (j + 1)) := hI.iterAt hit (j + 1)
      have hR2 := (Lib.iterAt_other wo w1.heap.size (w.heap.size + 1) (strOfNums f.rest) (j + 1) (by omega)).trans hR
      have hb2 := Lib.below_iterAt hbw (k := w1.heap.size) (by omega) (strOfNums f.rest) (j + 1)
      have hsz := Lib.iterAt_size wo w1.heap.size (strOfNums f.rest) (j + 1)
      generalize wo.iterAt w1.heap.size (strOfNums f.rest) (j + 1) = w2 at *
      have htx := ptext_any i H64.out _ hp w2 (HT.out.below hb2)
      have HIT := Lib.hid hit2; have HI := Lib.hid hI2; have HR := Lib.hid hR2; have HBW := Lib.hid hb2; have HTX := Lib.hid htx; have HST := Lib.hid hstep
      clear hit2 hI2 hR2 hb2 htx hp hit hI hR hbw hstep
      generalize f.rest.getD j 0 = p at *
      go_wp2_with (first
        | (refine wp_loadIt rfl _ rfl (w.heap.size + 1) rfl i _ _ HR.out ?_)
        | (go_at_call 69; refine HTX.out.mono ?_; rintro e w4 ⟨rfl, hb4⟩; have i4 := (hb4.block w1.heap.size (by omega)).trans HIT.out; have r4 := (hb4.block (w.heap.size + 1) (by omega)).trans HR.out; have u4 := bu_below HI.out hb4; have b4 := upT HBW.out hb4; have s4 := hb4.size)
        | (go_at_call 33; refine (wstr (w.heap.size + 1 + 1) (w.heap.size + 1 + 1) _ (strOfNums (Sn.txt i p)) _ u4 (by rw [strOfNums_size]; simp [Lib.byteCells, Sn.bb]; omega) (by omega)).mono ?_; rintro e w5 ⟨rfl, h5, b5, k5⟩))
      have i5 := k5 _ _ i4 (by simp; omega) (by intro c fz h; cases h)
      have r5 := k5 _ _ r4 (by simp) (by intro c fz h; injection h with _ h; exact absurd h (by decide))
      go_roundw
      case rel =>
        refine ⟨j + 1, by omega, i5, ?_, r5, ?_⟩
        · rw [HST.out]
          refine .inr ?_
          rw [← bu_more]
          exact h5
        · exact ⟨b5.os.trans b4.os, b5.tape.trans b4.tape, b5.output.trans b4.output, Nat.le_trans b4.size b5.size, fun k hk => (b5.block k (by omega)).trans (b4.block k hk)⟩
      case measure =>
        have e1 : w5.iterPos w1.heap.size = j + 1 := by simp [World.iterPos, i5]
        rw [e1, hpos]; omega
    · have hjs : ¬ j < (strOfNums f.rest).size := by rw [strOfNums_size]; exact hjl
      have hrun : ∀ ty, (Instr.next (.pointer (some ⟨w1.heap.size, 0, none⟩)) true ty).run Tryd.prog wo = .ok (.tuple #[.bool false]) wo := fun ty => Lib.run_next_end_at wo w1.heap.size (strOfNums f.rest) j ty hit hjs
      have hje : j = f.rest.length := by omega
      have hall := wrL_all f i
      rw [← hje] at hall
      rw [hall] at hI
      have HI := Lib.hid hI; have HBW := Lib.hid hbw
      clear hI hbw hit hR hall
      go_wp2_with (go_at_call 35; refine (Tryd.Builder_String_any_k (w.heap.size + 1 + 1) (w.heap.size + 1 + 1) (Sn.bb (Sn.writeL f i)) _ HI.out (by omega)).mono ?_; rintro e w6 ⟨rfl, _, b6, _⟩)
      go_ret
      exact ⟨rfl, ⟨b6.os.trans HBW.out.os, b6.tape.trans HBW.out.tape, b6.output.trans HBW.out.output, Nat.le_trans HBW.out.size b6.size, fun k hk => (b6.block k (by omega)).trans (HBW.out.block k hk)⟩⟩
end
section
open Go.RowKit
namespace Sn
theorem find_at {p : Fm → Bool} : ∀ (l : List Fm) (k : Nat) (f : Fm), l[k]? = some f → p f = true → (∀ (j : Nat) g, j < k → l[j]? = some g → p g = false) → l.find? p = some f
  | [], k, f, h, _, _ => by simp at h
  | x :: l, 0, f, h, hp, _ => by
    simp at h
    subst h
    simp [List.find?, hp]
  | x :: l, k + 1, f, h, hp, hn => by
    have h0 := hn 0 x (by omega) rfl
    rw [List.find?, h0]
    exact find_at l k f (by simpa using h) hp (fun j g hj hg => hn (j + 1) g (by omega) (by simpa using hg))
theorem find_no {p : Fm → Bool} {l : List Fm} (h : ∀ (j : Nat) g, l[j]? = some g → p g = false) : l.find? p = none := by
  rw [List.find?_eq_none]
  intro x hx
  obtain ⟨k, hk, e⟩ := List.getElem_of_mem hx
  rw [h k x (by rw [List.getElem?_eq_getElem hk, e])]
  decide
end Sn
theorem infoForm : (Tryd.prog.info? 68).map (·.size) = some 6 := by kernel_rfl
set_option maxRecDepth 100000 in
set_option maxHeartbeats 8000000 in
theorem pline_any (i : Sy.It) (h64 : It64 i) (hs : Short i) (w : World) (T : Sn.Tab w) : Calls Tryd.prog 49 #[ItV i] w (RetB (.string (strOfNums (Sn.lineL i))) w) := by
  have H64 := Lib.hid h64; have HS := Lib.hid hs; have HT := Lib.hid T
  obtain ⟨tt, fr, ho⟩ := T.f
  have HO := Lib.hid ho
  have hbox := heap_alloc_new w (.cells (ItC i) 55)
  have HBOX := Lib.hid hbox
  have hR : Sn.lineL i = match Sn.forms.find? (Sn.fits i) with | some f => Sn.writeL f i | none => [] := rfl
  have HR := Lib.hid hR
  clear ho T h64 hs hbox hR
  have hlw : (w.alloc (.cells (ItC i) 55)).heap[0]? = some (.cells Sn.formsC tt fr) := (heap_alloc_old _ _ (Array.getElem?_eq_some_iff.1 HO.out).1).trans HO.out
  have HLW := Lib.hid hlw
  clear hlw
  go_enter Tryd.func49, Tryd.ntmps49
  go_wp2_with (refine wpList_load_row (o := ⟨_, .load 69 (.global 0), _, _, _, none⟩) rfl _ _ rfl 0 rfl _ _ _ _ HLW.out Tryd.underlying69 rfl (by rw [Sn.forms_size]; exact Sn.infoForms) ?_)
  have hrow := fun k hk => Sn.forms_index (k := k) hk
  have HROW := Lib.hid hrow
  clear hrow HO HLW
  generalize Sn.formsC = C at *
  go_loopw [6] (fun v6 wx => ∃ k : Nat, v6 = .int .i64 (k : Int) ∧ k ≤ 20 ∧ Below w.heap.size w wx ∧ wx.heap[w.heap.size]? = some (.cells (ItC i) 55 (0, 0)) ∧ ∀ (j : Nat) f, j < k → Sn.forms[j]? = some f → Sn.fits i f = false) (fun v6 _ => 20 - (intOf v6).toNat)
  case atStart => exact ⟨0, rfl, by omega, upA (up0 w) _, HBOX.out, fun j f hj => by omega⟩
  case round =>
    obtain ⟨k, rfl, hk, hbw, hI, hno⟩ := hrel
    by_cases hkl : k < 20
    · obtain ⟨f, hf, hix⟩ := HROW.out k hkl
      have i1 : (k : Int) < 20 := by omega
      have i0 : (0 : Int) ≤ (k : Int) := by omega
      have hlt := (Array.getElem?_eq_some_iff.1 hI).1
      have hrow : ∀ o, (wr.alloc o).heap[w.heap.size]? = some (.cells (ItC i) 55 (0, 0)) := fun o => (heap_alloc_old _ _ hlt).trans hI
      have d0 := fun o => cell_of_row (wr.alloc o) _ 0 _ _ _ (hrow o)
      have d2 := fun o => cell_of_row (wr.alloc o) _ 2 _ _ _ (hrow o)
      have d4 := fun o => cell_of_row (wr.alloc o) _ 4 _ _ _ (hrow o)
      have HNO := Lib.hid hno; have HBW := Lib.hid hbw; have HI := Lib.hid hI; have HF := Lib.hid hf; have HROWI := Lib.hid hrow
      clear hno hbw hI hf hrow
      have next : Sn.fits i f = false → ∀ (j : Nat) g, j < k + 1 → Sn.forms[j]? = some g → Sn.fits i g = false := fun h j g hj hg => by
        rcases Nat.lt_or_ge j k with h1 | h1
        · exact HNO.out j g h1 hg
        · have h2 : j = k := by omega
          rw [h2, HF.out] at hg
          injection hg with hg
          rw [← hg]; exact h
      have NEXT := Lib.hid next
      clear next
      by_cases q1 : f.kind = i.kind
      · have p1 : (f.kind == i.kind) = true := by simpa using q1
        by_cases q2 : f.ins = i.ins.kind
        · have p2 : (f.ins == i.ins.kind) = true := by simpa using q2
          by_cases q3 : f.secret = i.secret
          · have p3 : (f.secret == i.secret) = true := by simpa using q3
            have hfit : Sn.fits i f = true := by unfold Sn.fits; rw [decide_eq_true q1, decide_eq_true q2, decide_eq_true q3]; rfl
            have hline : Sn.lineL i = Sn.writeL f i := by rw [HR.out, Sn.find_at Sn.forms k f HF.out hfit HNO.out]
            have HL := Lib.hid hline; have P1 := Lib.hid q1; have P2 := Lib.hid q2; have P3 := Lib.hid q3
            clear hline hfit q1 q2 q3
            go_wp2_with (first
              | (refine wp_loadIt rfl _ rfl w.heap.size rfl i _ _ (HROWI.out _) ?_)
              | (go_at_call 64; refine (write_any f (List.mem_of_getElem? HF.out) i H64.out HS.out _ (HT.out.below (upA HBW.out _))).mono ?_; rintro e w5 ⟨rfl, hb5⟩))
            go_ret
            refine ⟨?_, upT (upA HBW.out _) hb5⟩
            rw [HL.out]
            rfl
          · have p3 : (f.secret == i.secret) = false := by simpa using q3
            have hfit : Sn.fits i f = false := by unfold Sn.fits; rw [decide_eq_false q3]; simp
            have HFIT := Lib.hid hfit
            clear hfit
            go_wp2_with fail
            go_roundw
            case rel => exact ⟨k + 1, by go_num, by omega, upA HBW.out _, HROWI.out _, NEXT.out HFIT.out⟩
            case measure => simp [intOf]; omega
        · have p2 : (f.ins == i.ins.kind) = false := by simpa using q2
          have hfit : Sn.fits i f = false := by unfold Sn.fits; rw [decide_eq_false q2]; simp
          have HFIT := Lib.hid hfit
          clear hfit
          go_wp2_with fail
          go_roundw
          case rel => exact ⟨k + 1, by go_num, by omega, upA HBW.out _, HROWI.out _, NEXT.out HFIT.out⟩
          case measure => simp [intOf]; omega
      · have p1 : (f.kind == i.kind) = false := by simpa using q1
        have hfit : Sn.fits i f = false := by unfold Sn.fits; rw [decide_eq_false q1]; simp
        have HFIT := Lib.hid hfit
        clear hfit
        go_wp2_with fail
        go_roundw
        case rel => exact ⟨k + 1, by go_num, by omega, upA HBW.out _, HROWI.out _, NEXT.out HFIT.out⟩
        case measure => simp [intOf]; omega
    · have hnone : Sn.lineL i = [] := by
        rw [HR.out, Sn.find_no (fun j g hg => hno j g (by have := (List.getElem?_eq_some_iff.1 hg).1; have h20 : Sn.forms.length = 20 := rfl; omega) hg)]
      have i1 : ¬ (k : Int) < 20 := by omega
      have HN := Lib.hid hnone; have HBW := Lib.hid hbw
      clear hnone hno hbw
      go_wp2_with fail
      go_ret
      exact ⟨by rw [HN.out]; rfl, HBW.out⟩
end
section
open Go.RowKit
theorem eq_vl (d : Nat) (a b : Sy.Vl) (w : World) : (Op.equalIn (d + 2) 40 (VV a) (VV b)).run Tryd.prog w = .ok (decide (a = b)) w := by
  rw [run_equalIn_agg w (d + 1) _ _ _ (by kernel_rfl) (by kernel_rfl)]
  obtain ⟨r, n⟩ := a
  obtain ⟨r', n'⟩ := b
  simp only [Program.fieldsOf, Tryd.underlying40]
  by_cases h1 : r = r'
  · subst h1
    by_cases h2 : n = n'
    · subst h2
      go_simp
    · have h3 : (n == n') = false := by simpa using h2
      rw [decide_eq_false (fun h => h2 (by injection h))]
      go_simp
  · have h3 : (r == r') = false := by simpa using h1
    rw [decide_eq_false (fun h => h1 (by injection h))]
    go_simp
theorem eq_in (d : Nat) (x y : Sy.In) (w : World) (hx : ∀ c ∈ x.name, 0 ≤ c ∧ c < 256) (hy : ∀ c ∈ y.name, 0 ≤ c ∧ c < 256) : (Op.equalIn (d + 3) 42 (.agg (InsC x.kind x.op x.d x.a x.b (strOfNums x.name) x.target)) (.agg (InsC y.kind y.op y.d y.a y.b (strOfNums y.name) y.target))).run Tryd.prog w = .ok (decide (x = y)) w := by
  rw [run_equalIn_agg w (d + 2) _ _ _ (by kernel_rfl) (by kernel_rfl)]
  have hs := str_beq2 hx hy
  have ea := fun W => eq_vl d x.a y.a W
  have eb := fun W => eq_vl d x.b y.b W
  obtain ⟨k, o, dd, a, b, nm, tg⟩ := x
  obtain ⟨k', o', dd', a', b', nm', tg'⟩ := y
  simp only at hs ea eb
  simp only [Program.fieldsOf, Tryd.underlying42]
  by_cases e0 : k = k'
  · subst e0
    by_cases e1 : o = o'
    · subst e1
      by_cases e2 : dd = dd'
      · subst e2
        by_cases e3 : a = a'
        · subst e3
          simp only [decide_true] at ea
          by_cases e4 : b = b'
          · subst e4
            simp only [decide_true] at eb
            by_cases e5 : nm = nm'
            · subst e5
              simp only [decide_true] at hs
              by_cases e6 : tg = tg'
              · subst e6
                go_simp
              · rw [decide_eq_false (fun h => e6 (by injection h))]
                have f6 : (tg == tg') = false := by simpa using e6
                go_simp
            · rw [decide_eq_false (fun h => e5 (by injection h))]
              simp only [decide_eq_false e5] at hs
              go_simp
          · rw [decide_eq_false (fun h => e4 (by injection h))]
            simp only [decide_eq_false e4] at eb
            go_simp
        · rw [decide_eq_false (fun h => e3 (by injection h))]
          simp only [decide_eq_false e3] at ea
          go_simp
      · rw [decide_eq_false (fun h => e2 (by injection h))]
        have f2 : (dd == dd') = false := by simpa using e2
        go_simp
    · rw [decide_eq_false (fun h => e1 (by injection h))]
      have f1 : (o == o') = false := by simpa using e1
      go_simp
  · rw [decide_eq_false (fun h => e0 (by injection h))]
    have f0 : (k == k') = false := by simpa using e0
    go_simp
theorem eq_it (d : Nat) (x y : Sy.It) (w : World) (h1 : ∀ c ∈ x.name, 0 ≤ c ∧ c < 256) (h2 : ∀ c ∈ y.name, 0 ≤ c ∧ c < 256) (h3 : ∀ c ∈ x.ins.name, 0 ≤ c ∧ c < 256) (h4 : ∀ c ∈ y.ins.name, 0 ≤ c ∧ c < 256) : (Op.equalIn (d + 4) 55 (ItV x) (ItV y)).run Tryd.prog w = .ok (decide (x = y)) w := by
  rw [run_equalIn_agg w (d + 3) _ _ _ (by kernel_rfl) (by kernel_rfl)]
  have hs := str_beq2 h1 h2
  have ei := fun W => eq_in d x.ins y.ins W h3 h4
  obtain ⟨k, n, sec, nm, ins⟩ := x
  obtain ⟨k', n', sec', nm', ins'⟩ := y
  simp only at hs ei
  simp only [Program.fieldsOf, Tryd.underlying55]
  by_cases e0 : k = k'
  · subst e0
    by_cases e1 : n = n'
    · subst e1
      by_cases e2 : sec = sec'
      · subst e2
        by_cases e3 : nm = nm'
        · subst e3
          simp only [decide_true] at hs
          by_cases e4 : ins = ins'
          · subst e4
            simp only [decide_true] at ei
            go_simp
          · rw [decide_eq_false (fun h => e4 (by injection h))]
            simp only [decide_eq_false e4] at ei
            go_simp
        · rw [decide_eq_false (fun h => e3 (by injection h))]
          simp only [decide_eq_false e3] at hs
          go_simp
      · rw [decide_eq_false (fun h => e2 (by injection h))]
        have f2 : (sec == sec') = false := by simpa using e2
        go_simp
    · rw [decide_eq_false (fun h => e1 (by injection h))]
      have f1 : (n == n') = false := by simpa using e1
      go_simp
  · rw [decide_eq_false (fun h => e0 (by injection h))]
    have f0 : (k == k') = false := by simpa using e0
    go_simp
theorem neq_it (x y : Sy.It) (w : World) (h1 : ∀ c ∈ x.name, 0 ≤ c ∧ c < 256) (h2 : ∀ c ∈ y.name, 0 ≤ c ∧ c < 256) (h3 : ∀ c ∈ x.ins.name, 0 ≤ c ∧ c < 256) (h4 : ∀ c ∈ y.ins.name, 0 ≤ c ∧ c < 256) : (binOp .neq 55 (ItV x) (ItV y)).run Tryd.prog w = .ok (.bool (!decide (x = y))) w := by
  rw [run_neq_struct, eq_it 9996 x y w h1 h2 h3 h4]
  rfl
theorem eql_it (x y : Sy.It) (w : World) (h1 : ∀ c ∈ x.name, 0 ≤ c ∧ c < 256) (h2 : ∀ c ∈ y.name, 0 ≤ c ∧ c < 256) (h3 : ∀ c ∈ x.ins.name, 0 ≤ c ∧ c < 256) (h4 : ∀ c ∈ y.ins.name, 0 ≤ c ∧ c < 256) : (binOp .eql 55 (ItV x) (ItV y)).run Tryd.prog w = .ok (.bool (decide (x = y))) w := by
  rw [run_eql_struct, eq_it 9996 x y w h1 h2 h3 h4]
  rfl
end
section
open Go.RowKit
theorem runes_str (t : List Int) (ht : ∀ x ∈ t, 0 ≤ x ∧ x < 128) : Lx.runes (strOfNums t) = t := by
  have hsz := strOfNums_size t
  have key : ∀ (f p : Nat), t.length ≤ p + f → p ≤ t.length → Lx.runesF (strOfNums t) f p = t.drop p := by
    intro f
    induction f with
    | zero => intro p h1 h2; rw [List.drop_eq_nil_of_le (by omega)]; rfl
    | succ f ih =>
      intro p h1 h2
      unfold Lx.runesF
      by_cases hp : p < t.length
      · have hps : p < (strOfNums t).size := by omega
        have hb := ht (t.getD p 0) (by simp [List.getD, hp])
        have e : (strOfNums t)[p]'hps = UInt8.ofNat (t.getD p 0).toNat := by
          have := strOfNums_data t
          show (strOfNums t).data[p] = _
          have e2 : (strOfNums t).data.toList[p]? = some (UInt8.ofNat (t.getD p 0).toNat) := by rw [this]; simp [List.getD, hp]
          have e3 : (strOfNums t).data.toList[p]? = some ((strOfNums t).data[p]'hps) := by simp [Array.getElem?_toList, hps]
          rw [e3] at e2
          exact Option.some.inj e2
        have hv : (((strOfNums t)[p]'hps).toNat : Int) = t.getD p 0 := by
          rw [e]
          revert hb
          generalize t.getD p 0 = c
          intro hb
          simp
          omega
        have hd := decode_ascii (strOfNums t) p hps (by omega)
        rw [if_pos hps, hd, ih (p + 1) (by omega) (by omega), List.drop_eq_getElem_cons hp]
        simp only [hv]
        congr 1
        simp [List.getD, hp]
      · rw [if_neg (by omega), List.drop_eq_nil_of_le (by omega)]
  have := key (strOfNums t).size 0 (by omega) (Nat.zero_le _)
  simpa [Lx.runes] using this
/-- an item's names are bytes -/
structure Asc (i : Sy.It) : Prop where
  a : ∀ c ∈ i.name, 0 ≤ c ∧ c < 256
  b : ∀ c ∈ i.ins.name, 0 ≤ c ∧ c < 256
theorem word_lt {c : Int} (h : Lx.word c = true) : 0 ≤ c ∧ c < 128 := by
  simp [Lx.word, Lx.lower, Lx.dig] at h
  omega
theorem okName_lt {t : List Int} (h : Sy.okName t) : ∀ c ∈ t, 0 ≤ c ∧ c < 128 := by
  obtain ⟨⟨c, r, e, h1, h2⟩, _⟩ := h
  exact fun x hx => word_lt (h2 x hx)
theorem nil_asc : ∀ c ∈ ([] : List Int), 0 ≤ c ∧ c < 128 := fun c h => by cases h
theorem ok_asc {i : Sy.It} (h : Sy.Ok i) : (∀ c ∈ i.name, 0 ≤ c ∧ c < 128) ∧ (∀ c ∈ i.ins.name, 0 ≤ c ∧ c < 128) := by
  cases h with
  | none => exact ⟨nil_asc, nil_asc⟩
  | num _ _ _ => exact ⟨nil_asc, nil_asc⟩
  | reg _ => exact ⟨nil_asc, nil_asc⟩
  | mem h1 _ => exact ⟨okName_lt h1, nil_asc⟩
  | label h1 => exact ⟨okName_lt h1, nil_asc⟩
  | ins h1 =>
    refine ⟨nil_asc, ?_⟩
    cases h1 with
    | br _ _ _ h => exact okName_lt h
    | jmp h => exact okName_lt h
    | call h => exact okName_lt h
    | _ => exact nil_asc
theorem ok_Asc {i : Sy.It} (h : Sy.Ok i) : Asc i := ⟨fun c hc => by have := (ok_asc h).1 c hc; omega, fun c hc => by have := (ok_asc h).2 c hc; omega⟩
theorem dg_lt : ∀ (f n : Nat), ∀ c ∈ Sy.dg f n, 0 ≤ c ∧ c < 128
  | 0, n => nil_asc
  | f + 1, n => fun c hc => by
    unfold Sy.dg at hc
    split at hc
    · simp at hc; subst hc; omega
    · rw [List.mem_append] at hc
      rcases hc with hc | hc
      · exact dg_lt f _ c hc
      · simp at hc; subst hc; omega
theorem app_lt {a b : List Int} (h1 : ∀ c ∈ a, 0 ≤ c ∧ c < 128) (h2 : ∀ c ∈ b, 0 ≤ c ∧ c < 128) : ∀ c ∈ a ++ b, 0 ≤ c ∧ c < 128 := fun c hc => by
  rw [List.mem_append] at hc
  exact hc.elim (h1 c) (h2 c)
theorem digits_lt (n : Int) : ∀ c ∈ Sy.digits n, 0 ≤ c ∧ c < 128 := by
  unfold Sy.digits
  split
  · intro c hc; simp at hc; subst hc; omega
  · exact dg_lt _ _
theorem rT_lt (n : Int) : ∀ c ∈ Sy.rT n, 0 ≤ c ∧ c < 128 := fun c hc => by
  unfold Sy.rT at hc
  rw [List.mem_cons] at hc
  rcases hc with rfl | hc
  · omega
  · exact digits_lt n c hc
theorem vT_lt (v : Sy.Vl) : ∀ c ∈ Sy.vT v, 0 ≤ c ∧ c < 128 := by
  unfold Sy.vT
  split
  · exact rT_lt _
  · exact digits_lt _
theorem opT_lt (n : Int) : ∀ c ∈ Sy.opT n, 0 ≤ c ∧ c < 128 := by
  unfold Sy.opT
  split
  · rename_i h
    obtain ⟨h0, h1⟩ := h
    rcases (by omega : n = 1 ∨ n = 2 ∨ n = 3 ∨ n = 4 ∨ n = 5 ∨ n = 6 ∨ n = 7 ∨ n = 8 ∨ n = 9 ∨ n = 10) with rfl | rfl | rfl | rfl | rfl | rfl | rfl | rfl | rfl | rfl <;> decide
  · decide
theorem kT_lt (s : Bool) : ∀ c ∈ Sy.kindT s, 0 ≤ c ∧ c < 128 := by cases s <;> decide
theorem adT_lt (a b : Sy.Vl) : ∀ c ∈ Sy.addrT a b, 0 ≤ c ∧ c < 128 := app_lt (app_lt (app_lt (app_lt (by decide) (vT_lt a)) (by decide)) (vT_lt b)) (by decide)
theorem two_lt (a b : Sy.Vl) : ∀ c ∈ Sy.two a b, 0 ≤ c ∧ c < 128 := app_lt (app_lt (vT_lt a) (by decide)) (vT_lt b)
theorem insT_lt (i : Sy.In) (h : ∀ c ∈ i.name, 0 ≤ c ∧ c < 128) : ∀ c ∈ Sy.insT i, 0 ≤ c ∧ c < 128 := by
  unfold Sy.insT
  by_cases c1 : i.kind = 1
  · rw [if_pos c1]; exact app_lt (app_lt (app_lt (app_lt (opT_lt _) (by decide)) (rT_lt _)) (by decide)) (two_lt _ _)
  rw [if_neg c1]
  by_cases c2 : i.kind = 2
  · rw [if_pos c2]; exact app_lt (app_lt (app_lt (by decide) (rT_lt _)) (by decide)) (adT_lt _ _)
  rw [if_neg c2]
  by_cases c3 : i.kind = 3
  · rw [if_pos c3]; exact app_lt (app_lt (app_lt (by decide) (adT_lt _ _)) (by decide)) (rT_lt _)
  rw [if_neg c3]
  by_cases c4 : i.kind = 4
  · rw [if_pos c4]; exact app_lt (app_lt (app_lt (by decide) (rT_lt _)) (by decide)) (two_lt _ _)
  rw [if_neg c4]
  by_cases c5 : i.kind = 5
  · rw [if_pos c5]; exact app_lt (app_lt (app_lt (app_lt (app_lt (by decide) (opT_lt _)) (by decide)) (two_lt _ _)) (by decide)) h
  rw [if_neg c5]
  by_cases c6 : i.kind = 6
  · rw [if_pos c6]; exact app_lt (by decide) h
  rw [if_neg c6]
  by_cases c8 : i.kind = 8
  · rw [if_pos c8]; exact app_lt (by decide) h
  rw [if_neg c8]
  by_cases c7 : i.kind = 7
  · rw [if_pos c7]; exact app_lt (by decide) (vT_lt _)
  rw [if_neg c7]
  by_cases c9 : i.kind = 9
  · rw [if_pos c9]; exact by decide
  rw [if_neg c9]
  by_cases c10 : i.kind = 10
  · rw [if_pos c10]; exact by decide
  rw [if_neg c10]
  by_cases c11 : i.kind = 11
  · rw [if_pos c11]; exact by decide
  rw [if_neg c11]
  decide
theorem text_lt (i : Sy.It) (h : ∀ c ∈ i.name, 0 ≤ c ∧ c < 128) (h2 : ∀ c ∈ i.ins.name, 0 ≤ c ∧ c < 128) : ∀ c ∈ Sy.text i, 0 ≤ c ∧ c < 128 := by
  unfold Sy.text
  split
  · exact app_lt (by decide) (digits_lt _)
  split
  · exact app_lt (by decide) (digits_lt _)
  split
  · exact app_lt (by decide) (digits_lt _)
  split
  · exact app_lt (kT_lt _) (rT_lt _)
  split
  · exact app_lt (app_lt (app_lt (kT_lt _) h) (by decide)) (digits_lt _)
  split
  · exact app_lt h (by decide)
  split
  · exact insT_lt _ h2
  · exact nil_asc
/-- what is printed is what the document prints -/
theorem print_what (i : Sy.It) : match Sy.parse (Lx.runes (strOfNums (Sn.lineL i))) with
    | .ok j => if j = i then Sy.print i = some (Sn.lineL i) else Sy.print i = none
    | .error _ => Sy.print i = none := by
  by_cases h : Sy.Ok i
  · have hl := Sn.line_ok h
    have ha := ok_asc h
    rw [hl, runes_str _ (text_lt i ha.1 ha.2), Sy.say h]
    simp only [if_true]
    exact Sy.print_ok h
  · have hn := Sy.print_none h
    cases hp : Sy.parse (Lx.runes (strOfNums (Sn.lineL i))) with
    | error m => exact hn
    | ok j =>
      simp only
      rw [if_neg (fun e => h (by rw [← e]; exact Sy.parse_ok hp))]
      exact hn
theorem lineL_len (i : Sy.It) (h64 : It64 i) (hs : Short i) : (Sn.lineL i).length ≤ 1000000 := by
  unfold Sn.lineL
  cases h : Sn.forms.find? (Sn.fits i) with
  | none => simp
  | some f =>
    have hf := List.mem_of_find?_eq_some h
    have h1 := wrL_len f hf i h64 hs f.rest.length (Nat.le_refl _)
    rw [wrL_all] at h1
    have := (Sn.form_bytes hf).2.2.2
    simp only
    omega
/-- an item stored into a variable that was just made -/
theorem wp_storeNew {w : World} {ops : Array Oper} {rest : List Oper} {o : Oper} {a : Act} {Q : Exit → Act → World → Prop} (hgd : o.guard = none) (x y : Operand) (ho : o.op = .store 55 x y)
    (i : Sy.It) (hx : a.eval x = .pointer (some ⟨w.heap.size, 0, none⟩)) (hy : a.eval y = ItV i)
    (h : ∀ W, ItB W w.heap.size i → Below w.heap.size w W → W.heap.size = w.heap.size + 1 → wpList Tryd.prog ops Q rest (a.put o.dst undef) W) :
    wpList Tryd.prog ops Q (o :: rest) a (w.alloc (.cells (ItC Sy.t0) 55)) := by
  have n0 := heap_alloc_new w (.cells (ItC Sy.t0) 55)
  refine wp_storeIt hgd x y ho w.heap.size i hx hy _ _ n0 rfl ?_
  exact h _ (setRow_heap _ _ _ _ _ _ n0) (upS (upA (up0 w) _) _ (Nat.le_refl _) _) (by simp)
/-- what Print hands back, and what it leaves -/
def PrintP (w : World) (R : Option (List Int)) (e : Ending) (w' : World) : Prop :=
  (match R with
    | some t => e = .returned (.tuple #[.string (strOfNums t), .bool true])
    | none => e = .returned (.tuple #[.string ⟨#[]⟩, .bool false])) ∧ Below w.heap.size w w'
theorem PrintP.yes {w : World} {R : Option (List Int)} {e : Ending} {w' : World} {t : List Int} (hR : R = some t) (he : e = .returned (.tuple #[.string (strOfNums t), .bool true])) (hb : Below w.heap.size w w') : PrintP w R e w' := by
  subst hR; exact ⟨he, hb⟩
theorem PrintP.no {w : World} {R : Option (List Int)} {e : Ending} {w' : World} (hR : R = none) (he : e = .returned (.tuple #[.string ⟨#[]⟩, .bool false])) (hb : Below w.heap.size w w') : PrintP w R e w' := by
  subst hR; exact ⟨he, hb⟩
set_option maxRecDepth 100000 in
set_option maxHeartbeats 8000000 in
theorem print_err (i : Sy.It) (h64 : It64 i) (hs : Short i) (ha : Asc i) (w : World) (T : Sn.Tab w) (m : Nat) (hp : Sy.parse (Lx.runes (strOfNums (Sn.lineL i))) = .error m) : Calls Tryd.prog 32 #[ItV i] w (PrintP w (Sy.print i)) := by
  have hpl := fun W TT => pline_any i h64 hs W TT
  have hpa := fun W TT => parse_any (strOfNums (Sn.lineL i)) W TT (by rw [strOfNums_size]; exact lineL_len i h64 hs)
  have hw := print_what i
  rw [hp] at hpa hw
  simp only at hw
  have HPL := Lib.hid hpl; have HPA := Lib.hid hpa; have HT := Lib.hid T; have HW := Lib.hid hw
  have hbox := heap_alloc_new w (.cells (ItC i) 55)
  have HBOX := Lib.hid hbox
  clear hpl hpa T hbox hw hp h64 hs ha
  generalize Sy.print i = PR at *
  go_enter Tryd.func32, Tryd.ntmps32
  go_wp2_with (first
    | (refine wp_loadIt rfl _ rfl w.heap.size rfl i _ _ HBOX.out ?_)
    | (go_at_call 49; refine (HPL.out _ (HT.out.below (upA (up0 w) _))).mono ?_; rintro e w1 ⟨rfl, hb1⟩; have b1 := upT (upA (up0 w) _) hb1; have box1 := (hb1.block w.heap.size (by simp)).trans HBOX.out)
    | (go_at_call 12; refine (HPA.out _ (HT.out.below b1)).mono ?_; rintro e w2 ⟨rfl, hb2⟩; have b2 := upT b1 hb2; have box2 := (hb2.block w.heap.size (Array.getElem?_eq_some_iff.1 box1).1).trans box1; have hl2 := (Array.getElem?_eq_some_iff.1 box2).1)
    | (refine wp_storeNew rfl _ _ rfl Sy.t0 rfl rfl ?_; intro W3 hj3 hbw3 hsz3; have box3 := (hbw3.block w.heap.size hl2).trans box2; have b3 := upT b2 hbw3; have cj := fun k => cell_of_row _ _ k _ _ _ hj3; have ci := fun k => cell_of_row _ _ k _ _ _ box3))
  go_ret2
  exact PrintP.no HW.out rfl b3
set_option maxRecDepth 100000 in
set_option maxHeartbeats 8000000 in
theorem print_yes (i : Sy.It) (h64 : It64 i) (hs : Short i) (ha : Asc i) (w : World) (T : Sn.Tab w) (hp : Sy.parse (Lx.runes (strOfNums (Sn.lineL i))) = .ok i) : Calls Tryd.prog 32 #[ItV i] w (PrintP w (Sy.print i)) := by
  have hpl := fun W TT => pline_any i h64 hs W TT
  have hpa := fun W TT => parse_any (strOfNums (Sn.lineL i)) W TT (by rw [strOfNums_size]; exact lineL_len i h64 hs)
  have hw := print_what i
  rw [hp] at hpa hw
  simp only at hw
  simp only [if_true] at hw
  have hneq := fun W => neq_it i i W ha.a ha.a ha.b ha.b
  simp only [decide_true, Bool.not_true] at hneq
  have HPL := Lib.hid hpl; have HPA := Lib.hid hpa; have HT := Lib.hid T; have HW := Lib.hid hw
  have hbox := heap_alloc_new w (.cells (ItC i) 55)
  have HBOX := Lib.hid hbox
  clear hpl hpa T hbox hw hp h64 hs ha
  generalize Sy.print i = PR at *
  go_enter Tryd.func32, Tryd.ntmps32
  go_wp2_with (first
    | (refine wp_loadIt rfl _ rfl w.heap.size rfl i _ _ HBOX.out ?_)
    | (go_at_call 49; refine (HPL.out _ (HT.out.below (upA (up0 w) _))).mono ?_; rintro e w1 ⟨rfl, hb1⟩; have b1 := upT (upA (up0 w) _) hb1; have box1 := (hb1.block w.heap.size (by simp)).trans HBOX.out)
    | (go_at_call 12; refine (HPA.out _ (HT.out.below b1)).mono ?_; rintro e w2 ⟨rfl, hb2⟩; have b2 := upT b1 hb2; have box2 := (hb2.block w.heap.size (Array.getElem?_eq_some_iff.1 box1).1).trans box1; have hl2 := (Array.getElem?_eq_some_iff.1 box2).1)
    | (refine wp_storeNew rfl _ _ rfl i rfl rfl ?_; intro W3 hj3 hbw3 hsz3; have box3 := (hbw3.block w.heap.size hl2).trans box2; have b3 := upT b2 hbw3; have cj := fun k => cell_of_row _ _ k _ _ _ hj3; have ci := fun k => cell_of_row _ _ k _ _ _ box3))
  go_ret2
  exact PrintP.yes HW.out rfl b3
set_option maxRecDepth 100000 in
set_option maxHeartbeats 8000000 in
theorem print_no (i : Sy.It) (h64 : It64 i) (hs : Short i) (ha : Asc i) (w : World) (T : Sn.Tab w) (j : Sy.It) (hne : j ≠ i) (hp : Sy.parse (Lx.runes (strOfNums (Sn.lineL i))) = .ok j) : Calls Tryd.prog 32 #[ItV i] w (PrintP w (Sy.print i)) := by
  have hpl := fun W TT => pline_any i h64 hs W TT
  have hpa := fun W TT => parse_any (strOfNums (Sn.lineL i)) W TT (by rw [strOfNums_size]; exact lineL_len i h64 hs)
  have hw := print_what i
  rw [hp] at hpa hw
  simp only at hw
  rw [if_neg hne] at hw
  have hj := ok_Asc (Sy.parse_ok hp)
  have hneq := fun W => neq_it j i W hj.a ha.a hj.b ha.b
  simp only [decide_eq_false hne, Bool.not_false] at hneq
  have HPL := Lib.hid hpl; have HPA := Lib.hid hpa; have HT := Lib.hid T; have HW := Lib.hid hw
  have hbox := heap_alloc_new w (.cells (ItC i) 55)
  have HBOX := Lib.hid hbox
  clear hpl hpa T hbox hw hp h64 hs ha
  generalize Sy.print i = PR at *
  go_enter Tryd.func32, Tryd.ntmps32
  go_wp2_with (first
    | (refine wp_loadIt rfl _ rfl w.heap.size rfl i _ _ HBOX.out ?_)
    | (go_at_call 49; refine (HPL.out _ (HT.out.below (upA (up0 w) _))).mono ?_; rintro e w1 ⟨rfl, hb1⟩; have b1 := upT (upA (up0 w) _) hb1; have box1 := (hb1.block w.heap.size (by simp)).trans HBOX.out)
    | (go_at_call 12; refine (HPA.out _ (HT.out.below b1)).mono ?_; rintro e w2 ⟨rfl, hb2⟩; have b2 := upT b1 hb2; have box2 := (hb2.block w.heap.size (Array.getElem?_eq_some_iff.1 box1).1).trans box1; have hl2 := (Array.getElem?_eq_some_iff.1 box2).1)
    | (refine wp_storeNew rfl _ _ rfl j rfl rfl ?_; intro W3 hj3 hbw3 hsz3; have box3 := (hbw3.block w.heap.size hl2).trans box2; have b3 := upT b2 hbw3; have cj := fun k => cell_of_row _ _ k _ _ _ hj3; have ci := fun k => cell_of_row _ _ k _ _ _ box3))
  go_ret2
  exact PrintP.no HW.out rfl b3
theorem print_any (i : Sy.It) (h64 : It64 i) (hs : Short i) (ha : Asc i) (w : World) (T : Sn.Tab w) : Calls Tryd.prog 32 #[ItV i] w (PrintP w (Sy.print i)) := by
  cases hp : Sy.parse (Lx.runes (strOfNums (Sn.lineL i))) with
  | error m => exact print_err i h64 hs ha w T m hp
  | ok j =>
    by_cases hne : j = i
    · subst hne; exact print_yes j h64 hs ha w T hp
    · exact print_no i h64 hs ha w T j hne hp
end
section
open Go.RowKit
abbrev ax1 : Sy.It := ⟨7, 0, false, [], ⟨2, 0, 0, ⟨true, 1⟩, ⟨false, 2⟩, [], 0⟩⟩
abbrev ax4 : Sy.It := ⟨7, 0, false, [], ⟨1, 4, 1, ⟨false, 5⟩, ⟨false, 0⟩, [], 0⟩⟩
theorem aw1 : Sy.parse (Lx.runes ⟨#[32, 108, 111, 97, 100, 32, 114, 48, 32, 44, 91, 114, 49, 43, 32, 50, 93, 32, 59, 32, 120]⟩) = .ok ax1 := by kernel_rfl
theorem aw2 : Sy.parse (Lx.runes ⟨#[97, 100, 100, 32, 114, 48, 44, 32, 114, 49]⟩) = .error 10 := by kernel_rfl
theorem aw3 : Sy.parse (Lx.runes ⟨#[106, 109, 112, 32, 114, 49]⟩) = .error 4 := by kernel_rfl
theorem aw4 : Sy.parse (Lx.runes ⟨#[109, 111, 118, 32, 114, 49, 44, 32, 53]⟩) = .ok ax4 := by kernel_rfl
theorem ap1 : Sy.print ax1 = some [108, 111, 97, 100, 32, 114, 48, 44, 32, 91, 114, 49, 32, 43, 32, 50, 93] := by kernel_rfl
theorem ap4 : Sy.print ax4 = some [111, 114, 32, 114, 49, 44, 32, 53, 44, 32, 48] := by kernel_rfl
theorem parse_ok_ (s : ByteArray) (i : Sy.It) (h : Sy.parse (Lx.runes s) = .ok i) (hs : s.size ≤ 1000000) (w : World) (T : Sn.Tab w) : Calls Tryd.prog 12 #[.string s] w (RetB (.tuple #[ItV i, .int .i64 0, .bool true]) w) := by
  refine (parse_any s w T hs).mono ?_
  rw [h]
  exact fun e w' hh => ⟨hh.1, hh.2⟩
theorem parse_err_ (s : ByteArray) (m : Nat) (h : Sy.parse (Lx.runes s) = .error m) (hs : s.size ≤ 1000000) (w : World) (T : Sn.Tab w) : Calls Tryd.prog 12 #[.string s] w (RetB (.tuple #[ItV Sy.t0, .int .i64 (m : Int), .bool false]) w) := by
  refine (parse_any s w T hs).mono ?_
  rw [h]
  exact fun e w' hh => ⟨hh.1, hh.2⟩
theorem ok_64 {i : Sy.It} (h : Sy.Ok i) : It64 i := by
  have n0 : I64 0 := by unfold I64; omega
  have kN : ∀ {n : Int}, Sy.okN n → I64 n := fun h => by have := h.1; have := h.2; unfold I64; omega
  have kR : ∀ {n : Int}, Sy.okR n → I64 n := fun h => by have := h.1; have := h.2; unfold I64; omega
  have kO : ∀ {n : Int}, Sy.okO n → I64 n := fun h => by have := h.1; have := h.2; unfold I64; omega
  have kV : ∀ {v : Sy.Vl}, Sy.okV v → I64 v.n := fun h => by rcases h with ⟨_, h⟩ | ⟨_, h⟩ <;> (have := h.1; have := h.2; unfold I64; omega)
  cases h with
  | none => exact ⟨n0, n0, n0, n0, n0⟩
  | num _ _ h => exact ⟨kN h, n0, n0, n0, n0⟩
  | reg h => exact ⟨n0, n0, kR h, n0, n0⟩
  | mem _ h => exact ⟨kN h, n0, n0, n0, n0⟩
  | label _ => exact ⟨n0, n0, n0, n0, n0⟩
  | ins h =>
    cases h with
    | alu h1 h2 h3 h4 => exact ⟨n0, kO h1, kR h2, kV h3, kV h4⟩
    | load h2 h3 h4 => exact ⟨n0, n0, kR h2, kV h3, kV h4⟩
    | store h2 h3 h4 => exact ⟨n0, n0, kR h2, kV h3, kV h4⟩
    | cmov h2 h3 h4 => exact ⟨n0, n0, kR h2, kV h3, kV h4⟩
    | br h1 h3 h4 _ => exact ⟨n0, kO h1, n0, kV h3, kV h4⟩
    | jmp _ => exact ⟨n0, n0, n0, n0, n0⟩
    | call _ => exact ⟨n0, n0, n0, n0, n0⟩
    | ind h => exact ⟨n0, n0, n0, kV h, n0⟩
    | _ => exact ⟨n0, n0, n0, n0, n0⟩
theorem print_ok_ (i : Sy.It) (t : List Int) (h : Sy.print i = some t) (h64 : It64 i) (hs : Short i) (ha : Asc i) (w : World) (T : Sn.Tab w) : Calls Tryd.prog 32 #[ItV i] w (RetB (.tuple #[.string (strOfNums t), .bool true]) w) := by
  refine (print_any i h64 hs ha w T).mono ?_
  rw [h]
  exact fun e w' hh => ⟨hh.1, hh.2⟩
theorem print_no_ (i : Sy.It) (h : Sy.print i = none) (h64 : It64 i) (hs : Short i) (ha : Asc i) (w : World) (T : Sn.Tab w) : Calls Tryd.prog 32 #[ItV i] w (RetB (.tuple #[.string ⟨#[]⟩, .bool false]) w) := by
  refine (print_any i h64 hs ha w T).mono ?_
  rw [h]
  exact fun e w' hh => ⟨hh.1, hh.2⟩
end
end Go.Proofs.YtmghklokbmdenaaDoor
