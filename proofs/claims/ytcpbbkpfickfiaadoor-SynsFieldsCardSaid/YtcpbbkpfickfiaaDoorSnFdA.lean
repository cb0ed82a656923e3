/- What the walks of SynsFields lean on: strings out of rows, the closure's contract, the items that the lines name. -/
import Derived.Test.YtcpbbkpfickfiaaDoorMem2
import Derived.Test.YtcpbbkpfickfiaaDoorWdMath
import Derived.Test.YtcpbbkpfickfiaaDoorRetW
import Derived.WalkKit
import Derived.Test.YtcpbbkpfickfiaaDoorSnTop
import Derived.OrdersHeld
import Derived.RegionTactic
import Derived.ChangeAlike
import Derived.Deep.RegionHeld3
import Derived.Deep.Cut
import Derived.Deep.CutRange
import Derived.Deep.CutBlock
set_option linter.unusedVariables false
set_option linter.unusedSimpArgs false
namespace Go.Proofs.YtcpbbkpfickfiaaDoor
section
open Go.RowKit
theorem hmf (fn : Fn) (first cap : Array Value) (w : World) : (Instr.makeFunc fn first cap).run Tryd.prog w = .ok (.func fn first cap) w := rfl
/-- a row of strings, none longer than so much -/
def StrRow (R : Array Value) (B : Nat) : Prop := ∀ (q : Nat) v, R[q]? = some v → ∃ s : ByteArray, v = .string s ∧ s.size ≤ B
theorem wp_load_str {w : World} {ops : Array Oper} {rest : List Oper} {o : Oper} {a : Act} {Q : Exit → Act → World → Prop} (hgd : o.guard = none) (x : Operand) (ho : o.op = .load 9 x) (g q : Nat) (R : Array Value) (B : Nat) (t : TypeId) (fr : Nat × Nat)
    (hx : a.eval x = .pointer (some ⟨g, q, none⟩)) (hg : w.heap[g]? = some (.cells R t fr)) (hq : q < R.size) (hR : StrRow R B)
    (h : ∀ s : ByteArray, s.size ≤ B → wpList Tryd.prog ops Q rest (a.put o.dst (.string s)) w) : wpList Tryd.prog ops Q (o :: rest) a w := by
  obtain ⟨v, hv⟩ : ∃ v, R[q]? = some v := ⟨R[q], by simp [hq]⟩
  obtain ⟨s, rfl, hs⟩ := hR q v hv
  have hc := cell_of_row w g q R t fr hg
  rw [hv] at hc
  refine wpList_plain hgd fun K hK => ?_
  unfold Oper.wp execOp
  have hl : (loadVar 9 ⟨g, q, none⟩).run Tryd.prog w = .ok (.string s) w := by
    go_simp
  simp only [ho, hx, Instr.loadAt, Instr.sureAddr, Sem.run_bind, Sem.run_pure, Result.andThen_ok, hl]
  exact hK _ _ (h s hs)
set_option maxRecDepth 100000 in
theorem k_any (i : Nat) (A : Option Addr) (n c b : Nat) (z : List Int) (w : World) (hi : i < 1000) (hn : n = z.length) (hb : w.cell? ⟨b, 0, none⟩ = some (.slice A n c)) (hr : Rd w w.heap.size A (z.map (Value.int .i64))) :
    Calls Tryd.prog 21 #[.int .i64 (i : Int), .pointer (some ⟨b, 0, none⟩)] w (Ret (.int .i64 (z.getD i 0)) w) := by
  subst hn
  by_cases h : i < z.length
  · obtain ⟨ad, rfl, _, hc⟩ := hr.at_ h
    have i0 : (0 : Int) ≤ (i : Int) := by omega
    have i1 : (i : Int) < (z.length : Int) := by omega
    generalize z.getD i 0 = x at *
    go_enter Tryd.func21, Tryd.ntmps21
    go_wp2_with fail
    go_ret
    exact ⟨rfl, rfl⟩
  · have i1 : ¬ (i : Int) < (z.length : Int) := by omega
    have hg : z.getD i 0 = 0 := by simp [List.getD, h]
    rw [hg]
    go_enter Tryd.func21, Tryd.ntmps21
    go_wp2_with fail
    go_ret
    exact ⟨rfl, rfl⟩
theorem strRow_of {R : Array Value} {B : Nat} (h : R.toList.all (fun v => match v with | .string s => decide (s.size ≤ B) | _ => false) = true) : StrRow R B := fun q v hv => by
  have hm : v ∈ R.toList := by
    have : R.toList[q]? = some v := by simpa using hv
    exact List.mem_of_getElem? this
  have := List.all_eq_true.1 h v hm
  cases v <;> simp at this
  exact ⟨_, rfl, this⟩
abbrev vRow : Array Value := #[.string ⟨#[114, 48]⟩, .string ⟨#[114, 49]⟩, .string ⟨#[114, 50]⟩, .string ⟨#[114, 51]⟩, .string ⟨#[48]⟩, .string ⟨#[49]⟩, .string ⟨#[50]⟩, .string ⟨#[51]⟩, .string ⟨#[49, 53]⟩, .string ⟨#[55, 48, 48, 48, 48]⟩, .string ⟨#[114, 52]⟩, .string ⟨#[44]⟩]
set_option maxRecDepth 100000 in
set_option maxHeartbeats 4000000 in
theorem v_any (x : Int) (w : World) : Calls Tryd.prog 22 #[.int .i64 x] w fun e w' => ∃ s : ByteArray, e = .returned (.string s) ∧ s.size ≤ 5 ∧ Below w.heap.size w w' := by
  obtain ⟨q, hq, m12⟩ : ∃ q : Nat, q < 12 ∧ (bits .and .i64 x 255) % 12 = q := ⟨(x % 256 % 12).toNat, by omega, by have := Wd.bits_mask x 8 (by omega); rw [show (255 : Int) = 2 ^ 8 - 1 from rfl, this]; omega⟩
  have b0 : 0 ≤ bits .and .i64 x 255 := by have := Wd.bits_mask x 8 (by omega); rw [show (255 : Int) = 2 ^ 8 - 1 from rfl, this]; omega
  have hR : StrRow vRow 5 := strRow_of (by decide)
  have hn := heap_alloc_new w (.cells vRow 9)
  have HN := Lib.hid hn
  clear hn
  go_enter Tryd.func22, Tryd.ntmps22
  go_wp2_with (refine wp_load_str rfl _ rfl w.heap.size q vRow 5 _ _ rfl HN.out hq hR ?_; intro s hs)
  go_ret
  exact ⟨s, rfl, hs, upA (up0 w) _⟩
end
section
open Go.RowKit
/-- the value that a number stands for -/
def flV (n : Int) : Sy.Vl := if bits .and .i64 n 4 = 0 then ⟨false, [0, 7, 15, 99999].getD (bits .and .i64 n 3).toNat 0⟩ else ⟨true, bits .and .i64 n 3⟩
abbrev rgRow : Array Value := #[.string ⟨#[114, 48]⟩, .string ⟨#[114, 49]⟩, .string ⟨#[114, 50]⟩, .string ⟨#[114, 51]⟩]
abbrev nsRow : Array Value := #[.string ⟨#[48]⟩, .string ⟨#[55]⟩, .string ⟨#[49, 53]⟩, .string ⟨#[57, 57, 57, 57, 57]⟩]
abbrev niRow : Array Value := #[.int .i64 0, .int .i64 7, .int .i64 15, .int .i64 99999]
theorem resSV {fn : Func} {p u : Tmp} (h : fn.results = #[.tmp u, .cell p 25]) (tmps : Array Value) (w : World) (g : Nat) (t : TypeId) (c0 c1 : Value) (fr : Nat × Nat)
    (hp : tmps.getD p undef = .pointer (some ⟨g, 0, none⟩)) (hg : w.heap[g]? = some (.cells #[c0, c1] t fr)) : (results fn tmps).run Tryd.prog w = .ok (.tuple #[tmps.getD u undef, .agg #[c0, c1]]) w := by
  have hp' : tmps[p]?.getD undef = .pointer (some ⟨g, 0, none⟩) := by simpa using hp
  have hl := run_loadVar_row w g t 25 _ fr _ hg Tryd.underlying25 rfl infoV
  simp [results, h, hp', asAddr, hl, Sem.run_bind, Result.andThen]
set_option maxRecDepth 100000 in
set_option maxHeartbeats 8000000 in
theorem flv_num (n : Int) (b : Nat) (w : World) (h4 : bits .and .i64 n 4 = 0) :
    Calls Tryd.prog 10 #[.int .i64 n, .pointer (some ⟨b, 0, none⟩)] w (RetB (.tuple #[.string (strOfNums (Sy.vT (flV n))), VV (flV n)]) w) := by
  obtain ⟨q, hq, hq3⟩ : ∃ q : Nat, q < 4 ∧ bits .and .i64 n 3 = q := ⟨(n % 4).toNat, by omega, by have := Wd.bits_mask n 2 (by omega); rw [show (3 : Int) = 2 ^ 2 - 1 from rfl, this]; omega⟩
  have hf : flV n = ⟨false, [0, 7, 15, 99999].getD q 0⟩ := by unfold flV; rw [if_pos h4, hq3, Int.toNat_natCast]
  rw [hf]
  clear hf
  rcases (by omega : q = 0 ∨ q = 1 ∨ q = 2 ∨ q = 3) with rfl | rfl | rfl | rfl
  all_goals
    simp only [Int.cast_ofNat_Int, Int.natCast_zero, Int.natCast_one] at hq3
    go_enter Tryd.func10, Tryd.ntmps10
    go_wp2_with fail
    go_region
  all_goals
    go_wp2_with fail
    refine bodyPost_ret (resSV rfl _ _ w.heap.size _ _ _ _ rfl (show (((w.alloc _).alloc _).alloc _).heap[w.heap.size]? = _ from (heap_alloc_old _ _ (by simp; omega)).trans ((heap_alloc_old _ _ (by simp)).trans (heap_alloc_new w _)))) rfl ?_
    exact ⟨rfl, upD (upA (upA (upA (up0 w) _) _) _) 1⟩
set_option maxRecDepth 100000 in
set_option maxHeartbeats 8000000 in
theorem flv_reg (n : Int) (b g : Nat) (tt : TypeId) (fr : Nat × Nat) (w : World) (h4 : ¬ bits .and .i64 n 4 = 0) (hb : w.cell? ⟨b, 0, none⟩ = some (.slice (some ⟨g, 0, none⟩) 4 4)) (hg : w.heap[g]? = some (.cells rgRow tt fr)) :
    Calls Tryd.prog 10 #[.int .i64 n, .pointer (some ⟨b, 0, none⟩)] w (RetB (.tuple #[.string (strOfNums (Sy.vT (flV n))), VV (flV n)]) w) := by
  obtain ⟨q, hq, hq3⟩ : ∃ q : Nat, q < 4 ∧ bits .and .i64 n 3 = q := ⟨(n % 4).toNat, by omega, by have := Wd.bits_mask n 2 (by omega); rw [show (3 : Int) = 2 ^ 2 - 1 from rfl, this]; omega⟩
  have hf : flV n = ⟨true, (q : Int)⟩ := by unfold flV; rw [if_neg h4, hq3]
  rw [hf]
  clear hf
  have hgl := (Array.getElem?_eq_some_iff.1 hg).1
  have hbl : b < w.heap.size := World.block_lt_of_cell? w ⟨b, 0, none⟩ hb
  have cb : ∀ o, (w.alloc o).cell? ⟨b, 0, none⟩ = some (.slice (some ⟨g, 0, none⟩) 4 4) := fun o => (World.cell?_alloc_lt _ _ _ hbl).trans hb
  have cg : ∀ o k, (w.alloc o).cell? ⟨g, k, none⟩ = rgRow[k]? := fun o k => cell_of_row _ _ k _ _ _ ((heap_alloc_old _ _ hgl).trans hg)
  have hz := heap_alloc_new w (.cells #[.bool false, .int .i64 0] 25)
  have HZ := Lib.hid hz
  have h4b : (bits .and .i64 n 4 == 0) = false := by simpa using h4
  clear hb hg hz
  rcases (by omega : q = 0 ∨ q = 1 ∨ q = 2 ∨ q = 3) with rfl | rfl | rfl | rfl
  all_goals
    simp only [Int.cast_ofNat_Int, Int.natCast_zero, Int.natCast_one] at hq3
    go_enter Tryd.func10, Tryd.ntmps10
    go_wp2_with (refine wp_storeV (o := ⟨none, .store 25 (.tmp 4) (.tmp 26), _, _, _, none⟩) rfl _ _ rfl w.heap.size _ _ rfl rfl _ _ _ HZ.out rfl rfl ?_)
    (try simp only [Exit.inBlock, Exit.then])
    refine bodyPost_ret (resSV rfl _ _ w.heap.size _ _ _ _ rfl (setRow_heap _ _ _ _ _ _ HZ.out)) rfl ?_
    exact ⟨rfl, upS (upA (up0 w) _) _ (Nat.le_refl _) _⟩
end
section
theorem flV_ok (n : Int) : Sy.okV (flV n) := by
  obtain ⟨q, hq, hq3⟩ : ∃ q : Nat, q < 4 ∧ bits .and .i64 n 3 = q := ⟨(n % 4).toNat, by omega, by have := Wd.bits_mask n 2 (by omega); rw [show (3 : Int) = 2 ^ 2 - 1 from rfl, this]; omega⟩
  unfold flV
  rw [hq3]
  split
  · rw [Int.toNat_natCast]
    rcases (by omega : q = 0 ∨ q = 1 ∨ q = 2 ∨ q = 3) with rfl | rfl | rfl | rfl <;> exact .inr ⟨rfl, by decide, by decide⟩
  · exact .inl ⟨rfl, ⟨by show (0 : Int) ≤ (q : Int); omega, by show (q : Int) ≤ 3; omega⟩⟩
/-- the item that a line of SynsFields names: by its kind, the op's number from 0, the register, the two values -/
def flIn (k : Int) (q r : Nat) (x y : Sy.Vl) : Sy.In :=
  if k = 1 then ⟨2, 0, r, x, y, [], 0⟩ else if k = 2 then ⟨3, 0, r, x, y, [], 0⟩ else if k = 3 then ⟨4, 0, r, x, y, [], 0⟩
  else if k = 4 then ⟨5, (q : Int) + 1, 0, x, y, [116, 104, 101, 114, 101], 0⟩ else if k = 5 then ⟨7, 0, 0, x, Sy.v0, [], 0⟩ else ⟨1, (q : Int) + 1, r, x, y, [], 0⟩
theorem there_ok : Sy.okName [116, 104, 101, 114, 101] := ⟨⟨116, [104, 101, 114, 101], rfl, by decide, by decide⟩, by decide⟩
theorem flIn_ok (k : Int) (q r : Nat) (x y : Sy.Vl) (hq : q < 10) (hr : r < 4) (hx : Sy.okV x) (hy : Sy.okV y) : Sy.Ok ⟨7, 0, false, [], flIn k q r x y⟩ := by
  have hR : Sy.okR (r : Int) := ⟨by omega, by omega⟩
  have hO : Sy.okO ((q : Int) + 1) := ⟨by omega, by omega⟩
  refine .ins ?_
  unfold flIn
  by_cases h1 : k = 1
  · rw [if_pos h1]; exact .load hR hx hy
  rw [if_neg h1]
  by_cases h2 : k = 2
  · rw [if_pos h2]; exact .store hR hx hy
  rw [if_neg h2]
  by_cases h3 : k = 3
  · rw [if_pos h3]; exact .cmov hR hx hy
  rw [if_neg h3]
  by_cases h4 : k = 4
  · rw [if_pos h4]; exact .br hO hx hy there_ok
  rw [if_neg h4]
  by_cases h5 : k = 5
  · rw [if_pos h5]; exact .ind hx
  rw [if_neg h5]
  exact .alu hO hR hx hy
theorem strOfNums_app (a b : List Int) : strOfNums a ++ strOfNums b = strOfNums (a ++ b) := by
  apply ByteArray.ext
  simp [strOfNums]
theorem lit_nums (l : List Int) (a : Array UInt8) (h : Sn.bb l = a.toList) : (⟨a⟩ : ByteArray) = strOfNums l := by
  apply ByteArray.ext
  apply Array.ext'
  show a.toList = (strOfNums l).data.toList
  rw [strOfNums_data, ← h]
  rfl
section
variable (q r : Nat) (x y : Sy.Vl) (hq : q < 10)
theorem fl_alu : strOfNums (Sy.opT ((q : Int) + 1)) ++ ⟨#[32]⟩ ++ strOfNums (Sy.rT r) ++ ⟨#[44, 32]⟩ ++ strOfNums (Sy.vT x) ++ ⟨#[44, 32]⟩ ++ strOfNums (Sy.vT y) = strOfNums (Sy.text ⟨7, 0, false, [], ⟨1, (q : Int) + 1, r, x, y, [], 0⟩⟩) := by
  rw [lit_nums [32] #[32] rfl, lit_nums [44, 32] #[44, 32] rfl]
  simp only [strOfNums_app]
  simp [Sy.text, Sy.insT, Sy.two]
theorem fl_load : (⟨#[108, 111, 97, 100, 32]⟩ : ByteArray) ++ strOfNums (Sy.rT r) ++ ⟨#[44, 32, 91]⟩ ++ strOfNums (Sy.vT x) ++ ⟨#[32, 43, 32]⟩ ++ strOfNums (Sy.vT y) ++ ⟨#[93]⟩ = strOfNums (Sy.text ⟨7, 0, false, [], ⟨2, 0, r, x, y, [], 0⟩⟩) := by
  rw [lit_nums [108, 111, 97, 100, 32] #[108, 111, 97, 100, 32] rfl, lit_nums [44, 32, 91] #[44, 32, 91] rfl, lit_nums [32, 43, 32] #[32, 43, 32] rfl, lit_nums [93] #[93] rfl]
  simp only [strOfNums_app]
  simp [Sy.text, Sy.insT, Sy.addrT]
theorem fl_store : (⟨#[115, 116, 111, 114, 101, 32, 91]⟩ : ByteArray) ++ strOfNums (Sy.vT x) ++ ⟨#[32, 43, 32]⟩ ++ strOfNums (Sy.vT y) ++ ⟨#[93, 44, 32]⟩ ++ strOfNums (Sy.rT r) = strOfNums (Sy.text ⟨7, 0, false, [], ⟨3, 0, r, x, y, [], 0⟩⟩) := by
  rw [lit_nums [115, 116, 111, 114, 101, 32, 91] #[115, 116, 111, 114, 101, 32, 91] rfl, lit_nums [32, 43, 32] #[32, 43, 32] rfl, lit_nums [93, 44, 32] #[93, 44, 32] rfl]
  simp only [strOfNums_app]
  simp [Sy.text, Sy.insT, Sy.addrT]
theorem fl_cmov : (⟨#[99, 109, 111, 118, 32]⟩ : ByteArray) ++ strOfNums (Sy.rT r) ++ ⟨#[44, 32]⟩ ++ strOfNums (Sy.vT x) ++ ⟨#[44, 32]⟩ ++ strOfNums (Sy.vT y) = strOfNums (Sy.text ⟨7, 0, false, [], ⟨4, 0, r, x, y, [], 0⟩⟩) := by
  rw [lit_nums [99, 109, 111, 118, 32] #[99, 109, 111, 118, 32] rfl, lit_nums [44, 32] #[44, 32] rfl]
  simp only [strOfNums_app]
  simp [Sy.text, Sy.insT, Sy.two]
theorem fl_br : (⟨#[98, 114, 32]⟩ : ByteArray) ++ strOfNums (Sy.opT ((q : Int) + 1)) ++ ⟨#[32]⟩ ++ strOfNums (Sy.vT x) ++ ⟨#[44, 32]⟩ ++ strOfNums (Sy.vT y) ++ ⟨#[44, 32, 116, 104, 101, 114, 101]⟩ = strOfNums (Sy.text ⟨7, 0, false, [], ⟨5, (q : Int) + 1, 0, x, y, [116, 104, 101, 114, 101], 0⟩⟩) := by
  rw [lit_nums [98, 114, 32] #[98, 114, 32] rfl, lit_nums [32] #[32] rfl, lit_nums [44, 32] #[44, 32] rfl, lit_nums [44, 32, 116, 104, 101, 114, 101] #[44, 32, 116, 104, 101, 114, 101] rfl]
  simp only [strOfNums_app]
  simp [Sy.text, Sy.insT, Sy.two]
theorem fl_ind : (⟨#[105, 110, 100, 32]⟩ : ByteArray) ++ strOfNums (Sy.vT x) = strOfNums (Sy.text ⟨7, 0, false, [], ⟨7, 0, 0, x, Sy.v0, [], 0⟩⟩) := by
  rw [lit_nums [105, 110, 100, 32] #[105, 110, 100, 32] rfl]
  simp only [strOfNums_app]
  simp [Sy.text, Sy.insT]
end
end
section
open Go.RowKit
abbrev flOps : Array Value := #[.string ⟨#[97, 100, 100]⟩, .string ⟨#[115, 117, 98]⟩, .string ⟨#[97, 110, 100]⟩, .string ⟨#[111, 114]⟩, .string ⟨#[120, 111, 114]⟩, .string ⟨#[115, 104, 108]⟩, .string ⟨#[115, 104, 114]⟩, .string ⟨#[109, 117, 108]⟩, .string ⟨#[108, 116]⟩, .string ⟨#[101, 113]⟩]
theorem flOps_at (q : Nat) (hq : q < 10) : flOps[q]? = some (.string (strOfNums (Sy.opT ((q : Int) + 1)))) ∧ (strOfNums (Sy.opT ((q : Int) + 1))).size ≤ 3 := by
  rcases (by omega : q = 0 ∨ q = 1 ∨ q = 2 ∨ q = 3 ∨ q = 4 ∨ q = 5 ∨ q = 6 ∨ q = 7 ∨ q = 8 ∨ q = 9) with rfl | rfl | rfl | rfl | rfl | rfl | rfl | rfl | rfl | rfl <;> exact ⟨rfl, by decide⟩
theorem rgRow_at (r : Nat) (hr : r < 4) : rgRow[r]? = some (.string (strOfNums (Sy.rT r))) ∧ (strOfNums (Sy.rT r)).size ≤ 2 := by
  rcases (by omega : r = 0 ∨ r = 1 ∨ r = 2 ∨ r = 3) with rfl | rfl | rfl | rfl <;> exact ⟨rfl, by decide⟩
theorem flT_len (n : Int) : (strOfNums (Sy.vT (flV n))).size ≤ 5 := by
  have h := flV_ok n
  generalize flV n = v at *
  obtain ⟨rg, m⟩ := v
  rw [strOfNums_size]
  rcases h with ⟨h1, h2⟩ | ⟨h1, h2⟩
  · simp only at h1 h2
    subst h1
    obtain ⟨h3, h4⟩ := h2
    rcases (by omega : m = 0 ∨ m = 1 ∨ m = 2 ∨ m = 3) with rfl | rfl | rfl | rfl <;> decide
  · simp only at h1 h2
    subst h1
    show (Sy.digits m).length ≤ 5
    obtain ⟨c, rr, e, _, e2, _⟩ := Sy.digits_form h2
    rw [e, ← e2]
    exact digs_five _
theorem flv_any (n : Int) (b g : Nat) (tt : TypeId) (fr : Nat × Nat) (w : World) (hb : w.cell? ⟨b, 0, none⟩ = some (.slice (some ⟨g, 0, none⟩) 4 4)) (hg : w.heap[g]? = some (.cells rgRow tt fr)) :
    Calls Tryd.prog 10 #[.int .i64 n, .pointer (some ⟨b, 0, none⟩)] w (RetB (.tuple #[.string (strOfNums (Sy.vT (flV n))), VV (flV n)]) w) := by
  by_cases h4 : bits .and .i64 n 4 = 0
  · exact flv_num n b w h4
  · exact flv_reg n b g tt fr w h4 hb hg
theorem fl_textP {i : Sy.It} (h : Sy.Ok i) : Sy.parse (Lx.runes (strOfNums (Sy.text i))) = .ok i := by
  have ha := ok_asc h
  rw [runes_str _ (text_lt i ha.1 ha.2)]
  exact Sy.say h
theorem fl_textL {i : Sy.It} (h : Sy.Ok i) (h64 : It64 i) (hs : Short i) : (strOfNums (Sy.text i)).size ≤ 1000000 := by
  rw [strOfNums_size, ← Sn.line_ok h]
  exact lineL_len i h64 hs
theorem infoFl : (Tryd.prog.info? 27).map (·.size) = some 9 := by kernel_rfl
theorem step_storeFl {w : World} {ops : Array Oper} {o : Oper} {a : Act} {K : Act → World → Prop} {Q : Exit → Act → World → Prop} {E : Prop} (hgd : o.guard = none) (x y : Operand) (ho : o.op = .store 27 x y)
    (g : Nat) (kd op d : Int) (va vb : Sy.Vl) (nm : ByteArray) (tg : Int) (hx : a.eval x = .pointer (some ⟨g, 0, none⟩)) (hy : a.eval y = .agg (InsC kd op d va vb nm tg)) (t : TypeId) (os : Array Value) (hg : w.heap[g]? = some (.cells os t (0, 0))) (hs : os.size = 9)
    (h : K (a.put o.dst undef) (w.setRow g (InsC kd op d va vb nm tg))) :
    if Region.wanted o (yielded ops a.tmps) = true then Oper.wp Tryd.prog o a w K Q else E := by
  have hw : Region.wanted o (yielded ops a.tmps) = true := by simp [Region.wanted, hgd]
  rw [if_pos hw]
  exact wp_store_row _ x y ho g _ hx hy t _ hg infoFl (by rw [hs]; rfl) (by simp [oneI, oneB, oneS]) h
end
end Go.Proofs.YtcpbbkpfickfiaaDoor
