/- Merged: S8y, S8z. -/
import Derived.Test.YtjdiabjmphdhiaaMhF
set_option linter.unusedVariables false
set_option linter.unusedSimpArgs false
set_option maxRecDepth 100000
namespace Go.Proofs.Ytjdiabjmphdhiaa.Px
section
open Go.RowKit Go.Proofs.Ytjdiabjmphdhiaa.Rx
theorem cd_vc (s : S8) (L : List Int) (hI : PureC Try.prog 39 [.agg (s8R s)] (lR L) []) (hP : PureC Try.prog 36 [lR L] (.own 0 0 1 0 (Cd.putL L).length) [blkB (Cd.putL L)]) : Vc (vcFn Try.prog false 20 [.agg (s8R s)] [.cl [.agg (s8R s)] (lR L) [], .cl [lR L] (.own 0 0 1 0 (Cd.putL L).length) [blkB (Cd.putL L)]] [(0, 1)] (.own 0 0 1 0 (Cd.putL L).length) [blkB (Cd.putL L)]) :=
  vc_of (q := (S8.r0 s = S8.r0 s) ∧ (S8.r1 s = S8.r1 s) ∧ (S8.r2 s = S8.r2 s) ∧ (S8.r3 s = S8.r3 s) ∧ (List.length (S8.m s) = List.length (S8.m s)) ∧ (∀ (i : Nat), i < List.length (S8.m s) → ∀ (j : Nat), j < (1 : Nat) → AV.int IntKind.i64 (List.getD (S8.m s) i (0 : Int)) = AV.int IntKind.i64 (List.getD (S8.m s) i (0 : Int))) ∧ (List.length (S8.st s) = List.length (S8.st s)) ∧ (∀ (i : Nat), i < List.length (S8.st s) → ∀ (j : Nat), j < (1 : Nat) → AV.int IntKind.i64 (List.getD (S8.st s) i (0 : Int)) = AV.int IntKind.i64 (List.getD (S8.st s) i (0 : Int))) ∧ (S8.pc s = S8.pc s) ∧ (PureC Try.prog 39 [.agg (s8R s)] (lR L) []) ∧ (List.length L = List.length L) ∧ (∀ (i : Nat), i < List.length L → ∀ (j : Nat), j < (1 : Nat) → AV.int IntKind.i64 (List.getD L i (0 : Int)) = AV.int IntKind.i64 (List.getD L i (0 : Int))) ∧ (PureC Try.prog 36 [lR L] (.own 0 0 1 0 (Cd.putL L).length) [blkB (Cd.putL L)]) ∧ (List.length (Cd.putL L) = List.length (Cd.putL L)) ∧ (∀ (i : Nat), i < List.length (Cd.putL L) → ∀ (j : Nat), j < (1 : Nat) → AV.int IntKind.u8 (List.getD (Cd.putL L) i (0 : Int)) = AV.int IntKind.u8 (List.getD (Cd.putL L) i (0 : Int))) ∧ ((0 : Nat) = (0 : Nat)) ∧ (List.length (Cd.putL L) = List.length (Cd.putL L)) ∧ True) (by kernel_rfl)
    ⟨rfl,
 rfl,
 rfl,
 rfl,
 rfl,
 (fun _ _ _ _ => rfl),
 rfl,
 (fun _ _ _ _ => rfl),
 rfl,
 hI,
 rfl,
 (fun _ _ _ _ => rfl),
 hP,
 rfl,
 (fun _ _ _ _ => rfl),
 rfl,
 rfl, trivial⟩
theorem intsL_i {p : Pg} {s : S8} (hP : OkP p) (hs : OkS ((sumN p.ms : Nat) : Int) p.is.length s) : Cd.isI (intsL s) := by
  obtain ⟨⟨h0, h1, h2, h3⟩, hm, hc, hpc, hst, hsk⟩ := hs
  have hlen := hP.len
  have hsum := hP.sum
  intro x hx
  simp only [intsL, List.mem_append, List.mem_cons, List.not_mem_nil, or_false] at hx
  rcases hx with ((((rfl | rfl | rfl | rfl | rfl) | hx) | rfl) | hx) | rfl
  · omega
  · omega
  · omega
  · omega
  · omega
  · have := hm x hx; omega
  · omega
  · have := hsk x hx; omega
  · omega
theorem codeC8 {p : Pg} (s : S8) (hP : OkP p) (hs : OkS ((sumN p.ms : Nat) : Int) p.is.length s) : PureC Try.prog 20 [.agg (s8R s)] (.own 0 0 1 0 (Cd.putL (intsL s)).length) [blkB (Cd.putL (intsL s))] := by
  have h1 := hs.c
  have h2 := hP.sum
  have h3 := hs.st
  exact PureC.vc (cd_vc s _ (intsC s (by omega) (by omega)) (rputC (.row _) (by rw [intsL_len]; omega) (intsL_i hP hs)))
def incK (M : List Int) : Nat → List Int
  | 0 => M
  | k + 1 => (incK M k).set k ((incK M k).getD k 0 + 1)
def setK (M : List Int) : Nat → List Int
  | 0 => M
  | k + 1 => (setK M k).set k 99
def so1 (p : Pg) (s y : S8) (c M K : List Int) (k : Nat) : Sm := ⟨[(55, .int .i64 M.length), (15, .bptr 2 0), (7, .bptr 0 0), (10, .bptr 1 0), (14, .row 1 c.length (rowB c)), (6, .bool false), (56, .int .i64 k)],
  [(0, bx 28 (pgA p)), (1, bx 31 (s8R s)), (2, bx 31 (s8A y (.own 3 0 1 0 M.length) (.own 4 0 1 0 K.length))), (3, blkI M), (4, blkI K)], 5⟩
def so2 (p : Pg) (s y : S8) (c M K : List Int) (k : Nat) : Sm := ⟨[(72, .int .i64 K.length), (15, .bptr 2 0), (7, .bptr 0 0), (10, .bptr 1 0), (14, .row 1 c.length (rowB c)), (6, .bool false), (73, .int .i64 k)],
  [(0, bx 28 (pgA p)), (1, bx 31 (s8R s)), (2, bx 31 (s8A y (.own 3 0 1 0 M.length) (.own 4 0 1 0 K.length))), (3, blkI M), (4, blkI K)], 5⟩
def frS8y0 (s : S8) (y : S8) (Z : Prop) : Prop := (∀ (i : Nat), i < List.length (S8.m s) → ∀ (j : Nat), j < (1 : Nat) → AV.int IntKind.i64 (List.getD (S8.m s) i (0 : Int)) = AV.int IntKind.i64 (List.getD (S8.m s) i (0 : Int))) ∧ (List.length (S8.st s) = List.length (S8.st s)) ∧ (∀ (i : Nat), i < List.length (S8.st s) → ∀ (j : Nat), j < (1 : Nat) → AV.int IntKind.i64 (List.getD (S8.st s) i (0 : Int)) = AV.int IntKind.i64 (List.getD (S8.st s) i (0 : Int))) ∧ (S8.pc s = S8.pc s) ∧ (S8.r0 y = S8.r0 y) ∧ (S8.r1 y = S8.r1 y) ∧ (S8.r2 y = S8.r2 y) ∧ (S8.r3 y = S8.r3 y) ∧ ((0 : Nat) = (0 : Nat)) ∧ Z
theorem frS8y0_mk (s : S8) (y : S8) {Z : Prop} (z : Z) : frS8y0 s y Z := ⟨(fun _ _ _ _ => rfl), rfl, (fun _ _ _ _ => rfl), rfl, rfl, rfl, rfl, rfl, rfl, z⟩
def frS8y1 (p : Pg) (s : S8) (Z : Prop) : Prop := (List.length (Pg.ls p) = List.length (Pg.ls p)) ∧ (∀ (i : Nat), i < List.length (Pg.ls p) → ∀ (j : Nat), j < (2 : Nat) → rowL lbC (Pg.ls p) i j = rowL lbC (Pg.ls p) i j) ∧ (List.length (Pg.is p) = List.length (Pg.is p)) ∧ (∀ (i : Nat), i < List.length (Pg.is p) → ∀ (j : Nat), j < (9 : Nat) → rowL inC (Pg.is p) i j = rowL inC (Pg.is p) i j) ∧ (S8.r0 s = S8.r0 s) ∧ (S8.r1 s = S8.r1 s) ∧ (S8.r2 s = S8.r2 s) ∧ (S8.r3 s = S8.r3 s) ∧ (List.length (S8.m s) = List.length (S8.m s)) ∧ Z
theorem frS8y1_mk (p : Pg) (s : S8) {Z : Prop} (z : Z) : frS8y1 p s Z := ⟨rfl, (fun _ _ _ _ => rfl), rfl, (fun _ _ _ _ => rfl), rfl, rfl, rfl, rfl, rfl, z⟩
def frS8y2 (p : Pg) (Z : Prop) : Prop := (Pg.W p = Pg.W p) ∧ (Pg.win p = Pg.win p) ∧ (Pg.fuel p = Pg.fuel p) ∧ (Pg.r0 p = Pg.r0 p) ∧ (Pg.r1 p = Pg.r1 p) ∧ (Pg.r2 p = Pg.r2 p) ∧ (Pg.r3 p = Pg.r3 p) ∧ (List.length (Pg.ms p) = List.length (Pg.ms p)) ∧ (∀ (i : Nat), i < List.length (Pg.ms p) → ∀ (j : Nat), j < (3 : Nat) → rowL mmC (Pg.ms p) i j = rowL mmC (Pg.ms p) i j) ∧ Z
theorem frS8y2_mk (p : Pg) {Z : Prop} (z : Z) : frS8y2 p Z := ⟨rfl, rfl, rfl, rfl, rfl, rfl, rfl, rfl, (fun _ _ _ _ => rfl), z⟩
theorem ow1_step (p : Pg) (s y : S8) (c M K : List Int) (k : Nat) (hk : k < M.length) (hM : M.length < 1000) (hv : 0 ≤ M.getD k 0 ∧ M.getD k 0 ≤ 1000000) : Vc (vcC Try.prog false (ntOf Try.prog 6) (lpC Try.prog 6 0) (so1 p s y c M K k) [.b true] .nrm [(0, 0), (1, 1), (2, 2), (3, 3), (4, 4)] (so1 p s y c (M.set k (M.getD k 0 + 1)) K (k + 1))) :=
  vc_of (q := (decide ((↑k : Int) < (↑(List.length M) : Int)) = true) ∧ ((0 : Int) ≤ (↑k : Int) ∧ (↑k : Int) < (↑(List.length M) : Int)) ∧ (k + (0 : Nat) < List.length M) ∧ (inK IntKind.i64 (List.getD M (k + (0 : Nat)) (0 : Int) + (1 : Int))) ∧ ((0 : Int) ≤ (↑k : Int) ∧ (↑k : Int) < (↑(List.length M) : Int)) ∧ (k + (0 : Nat) < List.length M) ∧ (inK IntKind.i64 ((↑k : Int) + (1 : Int))) ∧ (frS8y2 p ((frS8y1 p s ((frS8y0 s y ((List.length M = List.length (List.set M k (List.getD M k (0 : Int) + (1 : Int)))) ∧ ((0 : Nat) = (0 : Nat)) ∧ (List.length K = List.length K) ∧ (S8.pc y = S8.pc y) ∧ (List.length M = List.length (List.set M k (List.getD M k (0 : Int) + (1 : Int)))) ∧ (∀ (i : Nat), i < List.length M → ∀ (j : Nat), j < (1 : Nat) → (bif Nat.beq i (k + (0 : Nat)) && Nat.ble (0 : Nat) j && Nat.blt j (1 : Nat) then List.getD [AV.int IntKind.i64 (List.getD M (k + (0 : Nat)) (0 : Int) + (1 : Int))] (j - (0 : Nat)) AV.junk else AV.int IntKind.i64 (List.getD M i (0 : Int))) = AV.int IntKind.i64 (List.getD (List.set M k (List.getD M k (0 : Int) + (1 : Int))) i (0 : Int))) ∧ (List.length K = List.length K) ∧ (∀ (i : Nat), i < List.length K → ∀ (j : Nat), j < (1 : Nat) → AV.int IntKind.i64 (List.getD K i (0 : Int)) = AV.int IntKind.i64 (List.getD K i (0 : Int))) ∧ ((↑(List.length M) : Int) = (↑(List.length (List.set M k (List.getD M k (0 : Int) + (1 : Int)))) : Int)) ∧ (List.length c = List.length c) ∧ (∀ (i : Nat), i < List.length c → ∀ (j : Nat), j < (1 : Nat) → AV.int IntKind.u8 (List.getD c i (0 : Int)) = AV.int IntKind.u8 (List.getD c i (0 : Int))) ∧ (false = false) ∧ ((↑k : Int) + (1 : Int) = (↑(k + (1 : Nat)) : Int)) ∧ True))))))) (by kernel_rfl)
    ⟨(decide_eq_true (by first | omega | (simp; omega) | (simp; done))),
 (by first | omega | rfl),
 (by first | omega | rfl),
 (show inK .i64 (M.getD k 0 + 1) from in64 (by omega) (by omega)),
 (by first | omega | rfl),
 (by first | omega | rfl),
 (in64 (by omega) (by omega)), (frS8y2_mk p (frS8y1_mk p s (frS8y0_mk s y ⟨List.length_set.symm,
 rfl,
 rfl,
 rfl,
 List.length_set.symm,
 set_row,
 rfl,
 (fun _ _ _ _ => rfl),
 (by rw [List.length_set]),
 rfl,
 (fun _ _ _ _ => rfl),
 rfl,
 (by first | omega | rfl), trivial⟩)))⟩
def frS8y3 (y : S8) (M : List Int) (K : List Int) (Z : Prop) : Prop := (List.length M = List.length M) ∧ ((0 : Nat) = (0 : Nat)) ∧ (List.length K = List.length K) ∧ (S8.pc y = S8.pc y) ∧ (List.length M = List.length M) ∧ (∀ (i : Nat), i < List.length M → ∀ (j : Nat), j < (1 : Nat) → AV.int IntKind.i64 (List.getD M i (0 : Int)) = AV.int IntKind.i64 (List.getD M i (0 : Int))) ∧ (List.length K = List.length K) ∧ (∀ (i : Nat), i < List.length K → ∀ (j : Nat), j < (1 : Nat) → AV.int IntKind.i64 (List.getD K i (0 : Int)) = AV.int IntKind.i64 (List.getD K i (0 : Int))) ∧ Z
theorem frS8y3_mk (y : S8) (M : List Int) (K : List Int) {Z : Prop} (z : Z) : frS8y3 y M K Z := ⟨rfl, rfl, rfl, rfl, rfl, (fun _ _ _ _ => rfl), rfl, (fun _ _ _ _ => rfl), z⟩
theorem ow1_end (p : Pg) (s y : S8) (c M K : List Int) (k : Nat) (hk : ¬ k < M.length) : Vc (vcC Try.prog false (ntOf Try.prog 6) (lpC Try.prog 6 0) (so1 p s y c M K k) [.b false] (.ext 0) [(0, 0), (1, 1), (2, 2), (3, 3), (4, 4)] (so1 p s y c M K k)) :=
  vc_of (q := (decide ((↑k : Int) < (↑(List.length M) : Int)) = false) ∧ (frS8y2 p ((frS8y1 p s ((frS8y0 s y ((frS8y3 y M K (((↑(List.length M) : Int) = (↑(List.length M) : Int)) ∧ (List.length c = List.length c) ∧ (∀ (i : Nat), i < List.length c → ∀ (j : Nat), j < (1 : Nat) → AV.int IntKind.u8 (List.getD c i (0 : Int)) = AV.int IntKind.u8 (List.getD c i (0 : Int))) ∧ (false = false) ∧ ((↑k : Int) = (↑k : Int)) ∧ True))))))))) (by kernel_rfl)
    ⟨(decide_eq_false (by first | omega | (simp; omega) | (simp; done))), (frS8y2_mk p (frS8y1_mk p s (frS8y0_mk s y (frS8y3_mk y M K ⟨rfl,
 rfl,
 (fun _ _ _ _ => rfl),
 rfl,
 rfl, trivial⟩))))⟩
theorem ow2_step (p : Pg) (s y : S8) (c M K : List Int) (k : Nat) (hk : k < K.length) (hK : K.length < 1000) : Vc (vcC Try.prog false (ntOf Try.prog 6) (lpC Try.prog 6 1) (so2 p s y c M K k) [.b true] .nrm [(0, 0), (1, 1), (2, 2), (3, 3), (4, 4)] (so2 p s y c M (K.set k 99) (k + 1))) :=
  vc_of (q := (decide ((↑k : Int) < (↑(List.length K) : Int)) = true) ∧ ((0 : Int) ≤ (↑k : Int) ∧ (↑k : Int) < (↑(List.length K) : Int)) ∧ (k + (0 : Nat) < List.length K) ∧ (inK IntKind.i64 ((↑k : Int) + (1 : Int))) ∧ (frS8y2 p ((frS8y1 p s ((frS8y0 s y ((List.length M = List.length M) ∧ ((0 : Nat) = (0 : Nat)) ∧ (List.length K = List.length (List.set K k (99 : Int))) ∧ (S8.pc y = S8.pc y) ∧ (List.length M = List.length M) ∧ (∀ (i : Nat), i < List.length M → ∀ (j : Nat), j < (1 : Nat) → AV.int IntKind.i64 (List.getD M i (0 : Int)) = AV.int IntKind.i64 (List.getD M i (0 : Int))) ∧ (List.length K = List.length (List.set K k (99 : Int))) ∧ (∀ (i : Nat), i < List.length K → ∀ (j : Nat), j < (1 : Nat) → (bif Nat.beq i (k + (0 : Nat)) && Nat.ble (0 : Nat) j && Nat.blt j (1 : Nat) then List.getD [AV.int IntKind.i64 (99 : Int)] (j - (0 : Nat)) AV.junk else AV.int IntKind.i64 (List.getD K i (0 : Int))) = AV.int IntKind.i64 (List.getD (List.set K k (99 : Int)) i (0 : Int))) ∧ ((↑(List.length K) : Int) = (↑(List.length (List.set K k (99 : Int))) : Int)) ∧ (List.length c = List.length c) ∧ (∀ (i : Nat), i < List.length c → ∀ (j : Nat), j < (1 : Nat) → AV.int IntKind.u8 (List.getD c i (0 : Int)) = AV.int IntKind.u8 (List.getD c i (0 : Int))) ∧ (false = false) ∧ ((↑k : Int) + (1 : Int) = (↑(k + (1 : Nat)) : Int)) ∧ True))))))) (by kernel_rfl)
    ⟨(decide_eq_true (by first | omega | (simp; omega) | (simp; done))),
 (by first | omega | rfl),
 (by first | omega | rfl),
 (in64 (by omega) (by omega)), (frS8y2_mk p (frS8y1_mk p s (frS8y0_mk s y ⟨rfl,
 rfl,
 List.length_set.symm,
 rfl,
 rfl,
 (fun _ _ _ _ => rfl),
 List.length_set.symm,
 set_row,
 (by rw [List.length_set]),
 rfl,
 (fun _ _ _ _ => rfl),
 rfl,
 (by first | omega | rfl), trivial⟩)))⟩
theorem ow2_end (p : Pg) (s y : S8) (c M K : List Int) (k : Nat) (hk : ¬ k < K.length) : Vc (vcC Try.prog false (ntOf Try.prog 6) (lpC Try.prog 6 1) (so2 p s y c M K k) [.b false] (.ext 2) [(0, 0), (1, 1), (2, 2), (3, 3), (4, 4)] (so2 p s y c M K k)) :=
  vc_of (q := (decide ((↑k : Int) < (↑(List.length K) : Int)) = false) ∧ (frS8y2 p ((frS8y1 p s ((frS8y0 s y ((frS8y3 y M K (((↑(List.length K) : Int) = (↑(List.length K) : Int)) ∧ (List.length c = List.length c) ∧ (∀ (i : Nat), i < List.length c → ∀ (j : Nat), j < (1 : Nat) → AV.int IntKind.u8 (List.getD c i (0 : Int)) = AV.int IntKind.u8 (List.getD c i (0 : Int))) ∧ (false = false) ∧ ((↑k : Int) = (↑k : Int)) ∧ True))))))))) (by kernel_rfl)
    ⟨(decide_eq_false (by first | omega | (simp; omega) | (simp; done))), (frS8y2_mk p (frS8y1_mk p s (frS8y0_mk s y (frS8y3_mk y M K ⟨rfl,
 rfl,
 (fun _ _ _ _ => rfl),
 rfl,
 rfl, trivial⟩))))⟩
def frS8y4 (m : List Int) (y : R8) (Z : Prop) : Prop := (S8.r0 (R8.s y) = S8.r0 (R8.s y)) ∧ (S8.r1 (R8.s y) = S8.r1 (R8.s y)) ∧ (S8.r2 (R8.s y) = S8.r2 (R8.s y)) ∧ (S8.r3 (R8.s y) = S8.r3 (R8.s y)) ∧ (List.length (S8.m (R8.s y)) = List.length (S8.m (R8.s y))) ∧ (∀ (i : Nat), i < List.length (S8.m (R8.s y)) → ∀ (j : Nat), j < (1 : Nat) → AV.int IntKind.i64 (List.getD (S8.m (R8.s y)) i (0 : Int)) = AV.int IntKind.i64 (List.getD (S8.m (R8.s y)) i (0 : Int))) ∧ (List.length (S8.st (R8.s y)) = List.length (S8.st (R8.s y))) ∧ (∀ (i : Nat), i < List.length (S8.st (R8.s y)) → ∀ (j : Nat), j < (1 : Nat) → AV.int IntKind.i64 (List.getD (S8.st (R8.s y)) i (0 : Int)) = AV.int IntKind.i64 (List.getD (S8.st (R8.s y)) i (0 : Int))) ∧ (S8.pc (R8.s y) = S8.pc (R8.s y)) ∧ Z
theorem frS8y4_mk (m : List Int) (y : R8) {Z : Prop} (z : Z) : frS8y4 m y Z := ⟨rfl, rfl, rfl, rfl, rfl, (fun _ _ _ _ => rfl), rfl, (fun _ _ _ _ => rfl), rfl, z⟩
def frS8y5 (m : List Int) (x : R8) (Z : Prop) : Prop := (S8.r0 (R8.s x) = S8.r0 (R8.s x)) ∧ (S8.r1 (R8.s x) = S8.r1 (R8.s x)) ∧ (S8.r2 (R8.s x) = S8.r2 (R8.s x)) ∧ (S8.r3 (R8.s x) = S8.r3 (R8.s x)) ∧ (List.length (S8.m (R8.s x)) = List.length (S8.m (R8.s x))) ∧ (∀ (i : Nat), i < List.length (S8.m (R8.s x)) → ∀ (j : Nat), j < (1 : Nat) → AV.int IntKind.i64 (List.getD (S8.m (R8.s x)) i (0 : Int)) = AV.int IntKind.i64 (List.getD (S8.m (R8.s x)) i (0 : Int))) ∧ (List.length (S8.st (R8.s x)) = List.length (S8.st (R8.s x))) ∧ (∀ (i : Nat), i < List.length (S8.st (R8.s x)) → ∀ (j : Nat), j < (1 : Nat) → AV.int IntKind.i64 (List.getD (S8.st (R8.s x)) i (0 : Int)) = AV.int IntKind.i64 (List.getD (S8.st (R8.s x)) i (0 : Int))) ∧ (S8.pc (R8.s x) = S8.pc (R8.s x)) ∧ Z
theorem frS8y5_mk (m : List Int) (x : R8) {Z : Prop} (z : Z) : frS8y5 m x Z := ⟨rfl, rfl, rfl, rfl, rfl, (fun _ _ _ _ => rfl), rfl, (fun _ _ _ _ => rfl), rfl, z⟩
def frS8y6 (m : List Int) (x : R8) (Z : Prop) : Prop := (∀ (i : Nat), i < List.length (S8.m (R8.s x)) → ∀ (j : Nat), j < (1 : Nat) → AV.int IntKind.i64 (List.getD (S8.m (R8.s x)) i (0 : Int)) = AV.int IntKind.i64 (List.getD (S8.m (R8.s x)) i (0 : Int))) ∧ (List.length (S8.st (R8.s x)) = List.length (S8.st (R8.s x))) ∧ (∀ (i : Nat), i < List.length (S8.st (R8.s x)) → ∀ (j : Nat), j < (1 : Nat) → AV.int IntKind.i64 (List.getD (S8.st (R8.s x)) i (0 : Int)) = AV.int IntKind.i64 (List.getD (S8.st (R8.s x)) i (0 : Int))) ∧ (S8.pc (R8.s x) = S8.pc (R8.s x)) ∧ Z
theorem frS8y6_mk (m : List Int) (x : R8) {Z : Prop} (z : Z) : frS8y6 m x Z := ⟨(fun _ _ _ _ => rfl), rfl, (fun _ _ _ _ => rfl), rfl, z⟩
def frS8y7 (m : List Int) (p : Pg) (x : R8) (Z : Prop) : Prop := (List.length (Pg.ls p) = List.length (Pg.ls p)) ∧ (∀ (i : Nat), i < List.length (Pg.ls p) → ∀ (j : Nat), j < (2 : Nat) → rowL lbC (Pg.ls p) i j = rowL lbC (Pg.ls p) i j) ∧ (List.length (Pg.is p) = List.length (Pg.is p)) ∧ (∀ (i : Nat), i < List.length (Pg.is p) → ∀ (j : Nat), j < (9 : Nat) → rowL inC (Pg.is p) i j = rowL inC (Pg.is p) i j) ∧ (S8.r0 (R8.s x) = S8.r0 (R8.s x)) ∧ (S8.r1 (R8.s x) = S8.r1 (R8.s x)) ∧ (S8.r2 (R8.s x) = S8.r2 (R8.s x)) ∧ (S8.r3 (R8.s x) = S8.r3 (R8.s x)) ∧ (List.length (S8.m (R8.s x)) = List.length (S8.m (R8.s x))) ∧ Z
theorem frS8y7_mk (m : List Int) (p : Pg) (x : R8) {Z : Prop} (z : Z) : frS8y7 m p x Z := ⟨rfl, (fun _ _ _ _ => rfl), rfl, (fun _ _ _ _ => rfl), rfl, rfl, rfl, rfl, rfl, z⟩
def frS8y8 (m : List Int) (x : R8) (y : R8) (Z : Prop) : Prop := (∀ (i : Nat), i < List.length (S8.m (R8.s x)) → ∀ (j : Nat), j < (1 : Nat) → AV.int IntKind.i64 (List.getD (S8.m (R8.s x)) i (0 : Int)) = AV.int IntKind.i64 (List.getD (S8.m (R8.s x)) i (0 : Int))) ∧ (List.length (S8.st (R8.s x)) = List.length (S8.st (R8.s x))) ∧ (∀ (i : Nat), i < List.length (S8.st (R8.s x)) → ∀ (j : Nat), j < (1 : Nat) → AV.int IntKind.i64 (List.getD (S8.st (R8.s x)) i (0 : Int)) = AV.int IntKind.i64 (List.getD (S8.st (R8.s x)) i (0 : Int))) ∧ (S8.pc (R8.s x) = S8.pc (R8.s x)) ∧ (S8.r0 (R8.s y) = S8.r0 (R8.s y)) ∧ (S8.r1 (R8.s y) = S8.r1 (R8.s y)) ∧ (S8.r2 (R8.s y) = S8.r2 (R8.s y)) ∧ (S8.r3 (R8.s y) = S8.r3 (R8.s y)) ∧ ((0 : Nat) = (0 : Nat)) ∧ Z
theorem frS8y8_mk (m : List Int) (x : R8) (y : R8) {Z : Prop} (z : Z) : frS8y8 m x y Z := ⟨(fun _ _ _ _ => rfl), rfl, (fun _ _ _ _ => rfl), rfl, rfl, rfl, rfl, rfl, rfl, z⟩
def frS8y9 (p : Pg) (Z : Prop) : Prop := (List.length (Pg.ls p) = List.length (Pg.ls p)) ∧ (∀ (i : Nat), i < List.length (Pg.ls p) → ∀ (j : Nat), j < (2 : Nat) → rowL lbC (Pg.ls p) i j = rowL lbC (Pg.ls p) i j) ∧ (List.length (Pg.is p) = List.length (Pg.is p)) ∧ (∀ (i : Nat), i < List.length (Pg.is p) → ∀ (j : Nat), j < (9 : Nat) → rowL inC (Pg.is p) i j = rowL inC (Pg.is p) i j) ∧ Z
theorem frS8y9_mk (p : Pg) {Z : Prop} (z : Z) : frS8y9 p Z := ⟨rfl, (fun _ _ _ _ => rfl), rfl, (fun _ _ _ _ => rfl), z⟩
theorem ow_vc (m l : List Int) (n : Int) (p : Pg) (a b : S8) (x y : R8) (c M1 S1 : List Int) (k1 k2 : Nat) (ha : a.st = []) (hS1 : S1.length < 1000) (hM : PureC Try.prog 9 [lR m] (.agg (pgA p)) []) (hS : PureC Try.prog 10 [.agg (pgA p), lR l, .int .i64 1] (.tup [.agg (s8N a), .agg (s8N b)]) []) (hX : PureC Try.prog 19 [.agg (pgA p), .agg (s8R a), .int .i64 (bits .and .i64 n 15)] (.tup [.agg (s8R x.s), obR x.o, .int .i64 x.k, .int .i64 x.e]) []) (hC : PureC Try.prog 20 [.agg (s8R x.s)] (.row 1 c.length (rowB c)) []) (hT : PureC Try.prog 16 [.agg (pgA p), .agg (s8R x.s)] (.tup [.agg (s8A y.s (.own 0 0 1 0 y.s.m.length) (.own 1 0 1 0 y.s.st.length)), .own 2 0 2 0 y.o.length, .int .i64 y.e]) [blkI y.s.m, blkI y.s.st, obB y.o]) (hF : PureC Try.prog 16 [.agg (pgA p), .agg (s8R x.s)] (.tup [.agg (s8R y.s), obR y.o, .int .i64 y.e]) []) (hR : PureC Try.prog 21 [.agg (pgA p), .agg (s8R x.s)] (.tup [.agg (s8R y.s), obR y.o, .int .i64 y.e]) []) (hE : PureC Try.prog 22 [.agg (s8R y.s), .agg (s8R y.s)] (.bool true) []) (hL1 : Ok Try.prog (ntOf Try.prog 6) (.loop (lpC Try.prog 6 0)) (so1 p x.s y.s c y.s.m y.s.st 0).st (.ext 0) (so1 p x.s y.s c M1 y.s.st k1).st) (hL2 : Ok Try.prog (ntOf Try.prog 6) (.loop (lpC Try.prog 6 1)) (so2 p x.s y.s c M1 y.s.st 0).st (.ext 2) (so2 p x.s y.s c M1 S1 k2).st) : Vc (vcFn Try.prog false 6 [lR m, lR l, .int .i64 n] [.cl [lR m] (.agg (pgA p)) [], .cl [.agg (pgA p), lR l, .int .i64 1] (.tup [.agg (s8N a), .agg (s8N b)]) [], .cl [.agg (pgA p), .agg (s8R a), .int .i64 (bits .and .i64 n 15)] (.tup [.agg (s8R x.s), obR x.o, .int .i64 x.k, .int .i64 x.e]) [], .cl [.agg (s8R x.s)] (.row 1 c.length (rowB c)) [], .cl [.agg (pgA p), .agg (s8R x.s)] (.tup [.agg (s8A y.s (.own 0 0 1 0 y.s.m.length) (.own 1 0 1 0 y.s.st.length)), .own 2 0 2 0 y.o.length, .int .i64 y.e]) [blkI y.s.m, blkI y.s.st, obB y.o], .lp [(0, 0), (1, 3), (2, 7), (3, 4), (4, 5)] (so1 p x.s y.s c y.s.m y.s.st 0) (.ext 0) (so1 p x.s y.s c M1 y.s.st k1), .lp [(0, 0), (1, 1), (2, 2), (3, 3), (4, 4)] (so2 p x.s y.s c M1 y.s.st 0) (.ext 2) (so2 p x.s y.s c M1 S1 k2), .cl [.agg (pgA p), .agg (s8R x.s)] (.tup [.agg (s8R y.s), obR y.o, .int .i64 y.e]) [], .cl [.agg (pgA p), .agg (s8R x.s)] (.tup [.agg (s8R y.s), obR y.o, .int .i64 y.e]) [], .cl [.agg (s8R x.s)] (.row 1 c.length (rowB c)) [], .by_ c, .by_ c, .b true, .b true, .b true, .cl [.agg (s8R y.s), .agg (s8R y.s)] (.bool true) [], .b true, .b true, .cl [] (.bool true) [], .b true] [] (.bool true) []) :=
  vc_of (q := (List.length m = List.length m) ∧ (∀ (i : Nat), i < List.length m → ∀ (j : Nat), j < (1 : Nat) → AV.int IntKind.i64 (List.getD m i (0 : Int)) = AV.int IntKind.i64 (List.getD m i (0 : Int))) ∧ (PureC Try.prog 9 [lR m] (.agg (pgA p)) []) ∧ (frS8y2 p ((frS8y9 p ((List.length l = List.length l) ∧ (∀ (i : Nat), i < List.length l → ∀ (j : Nat), j < (1 : Nat) → AV.int IntKind.i64 (List.getD l i (0 : Int)) = AV.int IntKind.i64 (List.getD l i (0 : Int))) ∧ ((1 : Int) = (1 : Int)) ∧ (PureC Try.prog 10 [.agg (pgA p), lR l, .int .i64 1] (.tup [.agg (s8N a), .agg (s8N b)]) []) ∧ (frS8y2 p ((frS8y9 p ((S8.r0 a = S8.r0 a) ∧ (S8.r1 a = S8.r1 a) ∧ (S8.r2 a = S8.r2 a) ∧ (S8.r3 a = S8.r3 a) ∧ (List.length (S8.m a) = List.length (S8.m a)) ∧ (∀ (i : Nat), i < List.length (S8.m a) → ∀ (j : Nat), j < (1 : Nat) → AV.int IntKind.i64 (List.getD (S8.m a) i (0 : Int)) = AV.int IntKind.i64 (List.getD (S8.m a) i (0 : Int))) ∧ (List.length (S8.st a) = (0 : Nat)) ∧ (S8.pc a = S8.pc a) ∧ (Go.bits Go.BinOp.and IntKind.i64 n (15 : Int) = Go.bits Go.BinOp.and IntKind.i64 n (15 : Int)) ∧ (PureC Try.prog 19 [.agg (pgA p), .agg (s8R a), .int .i64 (bits .and .i64 n 15)] (.tup [.agg (s8R x.s), obR x.o, .int .i64 x.k, .int .i64 x.e]) []) ∧ (frS8y5 m x ((PureC Try.prog 20 [.agg (s8R x.s)] (.row 1 c.length (rowB c)) []) ∧ (frS8y2 p ((frS8y7 m p x ((frS8y6 m x ((PureC Try.prog 16 [.agg (pgA p), .agg (s8R x.s)] (.tup [.agg (s8A y.s (.own 0 0 1 0 y.s.m.length) (.own 1 0 1 0 y.s.st.length)), .own 2 0 2 0 y.o.length, .int .i64 y.e]) [blkI y.s.m, blkI y.s.st, obB y.o]) ∧ (frS8y2 p ((frS8y7 m p x ((frS8y8 m x y ((List.length (S8.m (R8.s y)) = List.length (S8.m (R8.s y))) ∧ ((0 : Nat) = (0 : Nat)) ∧ (List.length (S8.st (R8.s y)) = List.length (S8.st (R8.s y))) ∧ (S8.pc (R8.s y) = S8.pc (R8.s y)) ∧ (List.length (S8.m (R8.s y)) = List.length (S8.m (R8.s y))) ∧ (∀ (i : Nat), i < List.length (S8.m (R8.s y)) → ∀ (j : Nat), j < (1 : Nat) → AV.int IntKind.i64 (List.getD (S8.m (R8.s y)) i (0 : Int)) = AV.int IntKind.i64 (List.getD (S8.m (R8.s y)) i (0 : Int))) ∧ (List.length (S8.st (R8.s y)) = List.length (S8.st (R8.s y))) ∧ (∀ (i : Nat), i < List.length (S8.st (R8.s y)) → ∀ (j : Nat), j < (1 : Nat) → AV.int IntKind.i64 (List.getD (S8.st (R8.s y)) i (0 : Int)) = AV.int IntKind.i64 (List.getD (S8.st (R8.s y)) i (0 : Int))) ∧ ((↑(List.length (S8.m (R8.s y))) : Int) = (↑(List.length (S8.m (R8.s y))) : Int)) ∧ (List.length c = List.length c) ∧ (∀ (i : Nat), i < List.length c → ∀ (j : Nat), j < (1 : Nat) → AV.int IntKind.u8 (List.getD c i (0 : Int)) = AV.int IntKind.u8 (List.getD c i (0 : Int))) ∧ (false = false) ∧ ((0 : Int) = (↑(0 : Nat) : Int)) ∧ (Ok Try.prog (ntOf Try.prog 6) (.loop (lpC Try.prog 6 0)) (so1 p x.s y.s c y.s.m y.s.st 0).st (.ext 0) (so1 p x.s y.s c M1 y.s.st k1).st) ∧ (frS8y2 p ((frS8y7 m p x ((frS8y8 m x y ((List.length M1 = List.length M1) ∧ ((0 : Nat) = (0 : Nat)) ∧ (List.length (S8.st (R8.s y)) = List.length (S8.st (R8.s y))) ∧ (S8.pc (R8.s y) = S8.pc (R8.s y)) ∧ (List.length M1 = List.length M1) ∧ (∀ (i : Nat), i < List.length M1 → ∀ (j : Nat), j < (1 : Nat) → AV.int IntKind.i64 (List.getD M1 i (0 : Int)) = AV.int IntKind.i64 (List.getD M1 i (0 : Int))) ∧ (List.length (S8.st (R8.s y)) = List.length (S8.st (R8.s y))) ∧ (∀ (i : Nat), i < List.length (S8.st (R8.s y)) → ∀ (j : Nat), j < (1 : Nat) → AV.int IntKind.i64 (List.getD (S8.st (R8.s y)) i (0 : Int)) = AV.int IntKind.i64 (List.getD (S8.st (R8.s y)) i (0 : Int))) ∧ ((↑(List.length (S8.st (R8.s y))) : Int) = (↑(List.length (S8.st (R8.s y))) : Int)) ∧ (List.length c = List.length c) ∧ (∀ (i : Nat), i < List.length c → ∀ (j : Nat), j < (1 : Nat) → AV.int IntKind.u8 (List.getD c i (0 : Int)) = AV.int IntKind.u8 (List.getD c i (0 : Int))) ∧ (false = false) ∧ ((0 : Int) = (↑(0 : Nat) : Int)) ∧ (Ok Try.prog (ntOf Try.prog 6) (.loop (lpC Try.prog 6 1)) (so2 p x.s y.s c M1 y.s.st 0).st (.ext 2) (so2 p x.s y.s c M1 S1 k2).st) ∧ ((0 : Nat) = (0 : Nat) ∧ List.length S1 = List.length S1 ∧ (List.length S1 + (1 : Nat)) * (8 : Nat) ≤ (140737488355328 : Nat) ∧ List.length S1 + (1 : Nat) ≤ (140737488355328 : Nat)) ∧ (frS8y2 p ((frS8y7 m p x ((frS8y6 m x ((PureC Try.prog 16 [.agg (pgA p), .agg (s8R x.s)] (.tup [.agg (s8R y.s), obR y.o, .int .i64 y.e]) []) ∧ (frS8y2 p ((frS8y7 m p x ((frS8y6 m x ((PureC Try.prog 21 [.agg (pgA p), .agg (s8R x.s)] (.tup [.agg (s8R y.s), obR y.o, .int .i64 y.e]) []) ∧ (frS8y5 m x ((PureC Try.prog 20 [.agg (s8R x.s)] (.row 1 c.length (rowB c)) []) ∧ (List.length c = List.length c) ∧ (∀ (i : Nat), i < List.length c → AV.int IntKind.u8 (List.getD c i (0 : Int)) = AV.int IntKind.u8 (List.getD c i (0 : Int))) ∧ (List.length c = List.length c) ∧ (∀ (i : Nat), i < List.length c → AV.int IntKind.u8 (List.getD c i (0 : Int)) = AV.int IntKind.u8 (List.getD c i (0 : Int))) ∧ ((ByteArray.toList (Go.strOfNums c) == ByteArray.toList (Go.strOfNums c)) = true) ∧ ((ByteArray.toList (Go.strOfNums c) == ByteArray.toList (Go.strOfNums c)) = true) ∧ ((ByteArray.toList (Go.strOfNums c) == ByteArray.toList (Go.strOfNums c)) = true) ∧ (frS8y4 m y ((frS8y4 m y ((PureC Try.prog 22 [.agg (s8R y.s), .agg (s8R y.s)] (.bool true) []) ∧ ((ByteArray.toList (Go.strOfNums c) == ByteArray.toList (Go.strOfNums c)) = true) ∧ (true = true) ∧ (PureC Try.prog 18 [] (.bool true) []) ∧ (true = true) ∧ (true = true) ∧ True))))))))))))))))))))))))))))))))))))))))))))))) (by kernel_rfl)
    ⟨rfl,
 (fun _ _ _ _ => rfl),
 hM, (frS8y2_mk p (frS8y9_mk p ⟨rfl,
 (fun _ _ _ _ => rfl),
 rfl,
 hS, (frS8y2_mk p (frS8y9_mk p ⟨rfl,
 rfl,
 rfl,
 rfl,
 rfl,
 (fun _ _ _ _ => rfl),
 (by rw [ha]; rfl),
 rfl,
 rfl,
 hX, (frS8y5_mk m x ⟨hC, (frS8y2_mk p (frS8y7_mk m p x (frS8y6_mk m x ⟨hT, (frS8y2_mk p (frS8y7_mk m p x (frS8y8_mk m x y ⟨rfl,
 rfl,
 rfl,
 rfl,
 rfl,
 (fun _ _ _ _ => rfl),
 rfl,
 (fun _ _ _ _ => rfl),
 rfl,
 rfl,
 (fun _ _ _ _ => rfl),
 rfl,
 (by first | omega | rfl),
 hL1, (frS8y2_mk p (frS8y7_mk m p x (frS8y8_mk m x y ⟨rfl,
 rfl,
 rfl,
 rfl,
 rfl,
 (fun _ _ _ _ => rfl),
 rfl,
 (fun _ _ _ _ => rfl),
 rfl,
 rfl,
 (fun _ _ _ _ => rfl),
 rfl,
 (by first | omega | rfl),
 hL2,
 (by first | omega | rfl), (frS8y2_mk p (frS8y7_mk m p x (frS8y6_mk m x ⟨hF, (frS8y2_mk p (frS8y7_mk m p x (frS8y6_mk m x ⟨hR, (frS8y5_mk m x ⟨hC,
 rfl,
 (fun _ _ => rfl),
 rfl,
 (fun _ _ => rfl),
 (by first | omega | rfl | (simp; done) | (simp; omega)),
 (by first | omega | rfl | (simp; done) | (simp; omega)),
 (by first | omega | rfl | (simp; done) | (simp; omega)), (frS8y4_mk m y (frS8y4_mk m y ⟨hE,
 (by first | omega | rfl | (simp; done) | (simp; omega)),
 rfl,
 awakeC8,
 rfl,
 rfl, trivial⟩))⟩)⟩)))⟩)))⟩)))⟩)))⟩)))⟩)⟩))⟩))⟩
theorem incK_len (M : List Int) : ∀ k, (incK M k).length = M.length
  | 0 => rfl
  | k + 1 => by rw [incK, List.length_set, incK_len M k]
theorem setK_len (M : List Int) : ∀ k, (setK M k).length = M.length
  | 0 => rfl
  | k + 1 => by rw [setK, List.length_set, setK_len M k]
theorem getD_bd {l : List Int} {B : Int} (hB : 0 < B) (h : ∀ x ∈ l, 0 ≤ x ∧ x < B) (n : Nat) : 0 ≤ l.getD n 0 ∧ l.getD n 0 < B := by
  rw [List.getD_eq_getElem?_getD]
  cases hq : l[n]? with
  | none => simp; omega
  | some x => exact h x (List.mem_of_getElem? hq)
theorem incK_bd {M : List Int} (h : ∀ x ∈ M, 0 ≤ x ∧ x < 65536) : ∀ k : Nat, ∀ x ∈ incK M k, 0 ≤ x ∧ x < 65536 + (k : Int)
  | 0, x, hx => by have := h x hx; omega
  | k + 1, x, hx => by
    have ih := incK_bd h k
    rcases List.mem_or_eq_of_mem_set hx with h1 | rfl
    · have := ih x h1; omega
    · have := getD_bd (by omega) ih k; omega
theorem so1_loop (p : Pg) (s y : S8) (c M K : List Int) (hM : M.length < 1000) (hb : ∀ x ∈ M, 0 ≤ x ∧ x < 65536) : Ok Try.prog (ntOf Try.prog 6) (.loop (lpC Try.prog 6 0)) (so1 p s y c M K 0).st (.ext 0) (so1 p s y c (incK M M.length) K M.length).st :=
  Ok.loop (P := Try.prog) (nt := ntOf Try.prog 6) (c := lpC Try.prog 6 0) (F := fun k => so1 p s y c (incK M k) K k) (m := M.length) (x := .ext 0) (J := so1 p s y c (incK M M.length) K M.length) (fun k hk => by
    have hl := incK_len M k
    have hv := getD_bd (by omega) (incK_bd hb k) k
    exact Ok.vc (ow1_step p s y c (incK M k) K k (by omega) (by omega) (by omega))) (Ok.vc (ow1_end p s y c _ K _ (by rw [incK_len]; omega))) (by simp)
theorem so2_loop (p : Pg) (s y : S8) (c M K : List Int) (hK : K.length < 1000) : Ok Try.prog (ntOf Try.prog 6) (.loop (lpC Try.prog 6 1)) (so2 p s y c M K 0).st (.ext 2) (so2 p s y c M (setK K K.length) K.length).st :=
  Ok.loop (P := Try.prog) (nt := ntOf Try.prog 6) (c := lpC Try.prog 6 1) (F := fun k => so2 p s y c M (setK K k) k) (m := K.length) (x := .ext 2) (J := so2 p s y c M (setK K K.length) K.length) (fun k hk => by
    have hl := setK_len K k
    exact Ok.vc (ow2_step p s y c M (setK K k) k (by omega) (by omega))) (Ok.vc (ow2_end p s y c M _ _ (by rw [setK_len]; omega))) (by simp)
theorem ownC8 (m l : List Int) (n : Int) : PureC Try.prog 6 [lR m, lR l, .int .i64 n] (.bool true) [] := by
  have hP := mkPg_ok m
  have hM := mkC m
  generalize mkPg m = p at hP hM
  have hS := statesC p l 1 hP
  have hs := sA_ok p l
  have ha : (sA p l).st = [] := rfl
  generalize sA p l = a at hS hs ha
  generalize sB p l 1 = b at hS
  have hn := and15 n
  have hX := runF p a (bits .and .i64 n 15) hP hs (by omega)
  have hxs := runD_ok hP hs (bits .and .i64 n 15).toNat
  generalize runD p ((sumN p.ms : Nat) : Int) a (bits .and .i64 n 15).toNat = x at hX hxs
  have hC := (codeC8 x.s hP hxs).frozen
  have hT := stepC p x.s hP hxs
  have hF := stepF p x.s hP hxs
  have hR := rstepC p x.s hP hxs
  have hys := runD_ok hP hxs 1
  have e1 := hys.c
  have e2 := hys.st
  have e3 := hP.sum
  have hr : PureC Try.prog 21 [.agg (pgA p), .agg (s8R x.s)] (.tup [.agg (s8R (runD p ((sumN p.ms : Nat) : Int) x.s 1).s), obR (runD p ((sumN p.ms : Nat) : Int) x.s 1).o, .int .i64 (runD p ((sumN p.ms : Nat) : Int) x.s 1).e]) [] := hR
  generalize runD p ((sumN p.ms : Nat) : Int) x.s 1 = y at hT hF hr hys e1 e2
  exact PureC.vc (ow_vc m l n p a b x y _ _ _ _ _ ha (by rw [setK_len]; omega) hM hS hX hC hT hF hr (sameC8 _ (by omega) (by omega)) (so1_loop p x.s y.s _ _ _ (by omega) hys.mem) (so2_loop p x.s y.s _ _ _ (by omega)))
theorem walk_SeqmOwn (A0 : Option Addr) (c0 : Nat) (z0 : List Int) (A1 : Option Addr) (c1 : Nat) (z1 : List Int) (a2 : Int) (W : World) (hc0 : z0.length ≤ c0) (hm0 : c0 ≤ maxLen) (hr0 : Rd W W.heap.size A0 (z0.map (Value.int .i64))) (hc1 : z1.length ≤ c1) (hm1 : c1 ≤ maxLen) (hr1 : Rd W W.heap.size A1 (z1.map (Value.int .i64))) : Calls Try.prog 6 #[.slice A0 z0.length c0, .slice A1 z1.length c1, .int .i64 a2] W (RetB (.bool true) W) :=
  (ownC8 z0 z1 a2).lawB (R := fun g => g < W.heap.size) (fun _ h => h) rfl (fun j x v hx hv => match j, hx, hv with
    | 0, rfl, rfl => .ofRd hr0 hc0 hm0
    | 1, rfl, rfl => .ofRd hr1 hc1 hm1
    | 2, rfl, rfl => .int _ _)
end
end Go.Proofs.Ytjdiabjmphdhiaa.Px
namespace Go.Proofs.Ytjdiabjmphdhiaa.Px
section
open Go.RowKit Go.Proofs.Ytjdiabjmphdhiaa.Rx
def cI (k : Nat) : In := ⟨8, 0, 0, ⟨false, 0⟩, ⟨false, 0⟩, ⟨#[]⟩, 2 * (k : Int) + 2⟩
def rI : In := ⟨9, 0, 0, ⟨false, 0⟩, ⟨false, 0⟩, ⟨#[]⟩, 0⟩
def isS : Nat → List In
  | 0 => []
  | k + 1 => isS k ++ [cI k, rI]
def pS (c : Nat) : Pg := ⟨1, 1, 50, 0, 0, 0, 0, [], [], isS c ++ [rI]⟩
def z8 : S8 := ⟨0, 0, 0, 0, [], [], 0⟩
def obS (c : Nat) : Nat → List Ob
  | 0 => []
  | k + 1 => obS c k ++ [⟨3, 2 * ((c : Int) - 1 - (k : Int)) + 1⟩]
def obE : List Ob → List Ob → Bool
  | [], [] => true
  | a :: l, b :: m => a.k == b.k && a.a == b.a && obE l m
  | _, _ => false
def chkS (c r : Nat) : Bool :=
  let x := runD (pS c) 0 z8 (c + r)
  if 4 < c then x.e == 2 && x.k == 5 && x.s.st.length == 4 && x.s.pc == 8 && x.o.length == 0
  else if c < r then x.e == 2 && x.k == 2 * c + 1 && x.s.st.length == 0 && x.o.length == c
  else x.e == 0 && x.k == c + r && x.s.st.length == c - r && obE x.o (obS c r)
theorem chk_all : ((List.range 8).all fun c => (List.range 8).all fun r => chkS c r) = true := by kernel_rfl
theorem twoI {L : List In} {k : Nat} : ∀ i, i < L.length + 2 → ∀ j, j < 9 → (bif Nat.blt i L.length then rowL inC L i j else [AV.int .i64 8, .int .i64 0, .int .i64 0, .bool false, .int .i64 0, .bool false, .int .i64 0, .str ⟨#[]⟩, .int .i64 (2 * (k : Int) + 2), .int .i64 9, .int .i64 0, .int .i64 0, .bool false, .int .i64 0, .bool false, .int .i64 0, .str ⟨#[]⟩, .int .i64 0].getD ((i - L.length + 0) * 9 + j) .junk) = rowL inC (L ++ [cI k, rI]) i j := by
  intro i hi j hj
  refine row_if (fun h => (rowL_left h).symm) (fun h => ?_)
  rw [rowL_right h]
  rcases (by omega : i = L.length ∨ i = L.length + 1) with rfl | rfl
  · rw [Nat.sub_self]
    exact match j, hj with | 0, _ => rfl | 1, _ => rfl | 2, _ => rfl | 3, _ => rfl | 4, _ => rfl | 5, _ => rfl | 6, _ => rfl | 7, _ => rfl | 8, _ => rfl
  · rw [Nat.add_sub_cancel_left]
    exact match j, hj with | 0, _ => rfl | 1, _ => rfl | 2, _ => rfl | 3, _ => rfl | 4, _ => rfl | 5, _ => rfl | 6, _ => rfl | 7, _ => rfl | 8, _ => rfl
theorem snocR {L : List In} : ∀ i, i < L.length + 1 → ∀ j, j < 9 → (bif Nat.blt (i + 0) L.length then rowL inC L (i + 0) j else [AV.int .i64 9, .int .i64 0, .int .i64 0, .bool false, .int .i64 0, .bool false, .int .i64 0, .str ⟨#[]⟩, .int .i64 0].getD ((i + 0 - L.length + 0) * 9 + j) .junk) = rowL inC (L ++ [rI]) i j := by
  intro i hi j hj
  simp only [Nat.add_zero]
  refine row_if (fun h => (rowL_left h).symm) (fun h => ?_)
  rw [rowL_right h]
  obtain rfl : i = L.length := by omega
  rw [Nat.sub_self]
  exact match j, hj with | 0, _ => rfl | 1, _ => rfl | 2, _ => rfl | 3, _ => rfl | 4, _ => rfl | 5, _ => rfl | 6, _ => rfl | 7, _ => rfl | 8, _ => rfl
theorem chk_at {c r : Nat} (hc : c < 8) (hr : r < 8) : chkS c r = true :=
  List.all_eq_true.1 (List.all_eq_true.1 chk_all c (List.mem_range.2 hc)) r (List.mem_range.2 hr)
theorem obE_eq : ∀ {l m : List Ob}, obE l m = true → l = m
  | [], [], _ => rfl
  | a :: l, b :: m, h => by
    simp only [obE, Bool.and_eq_true, beq_iff_eq] at h
    obtain ⟨⟨h1, h2⟩, h3⟩ := h
    obtain ⟨a1, a2⟩ := a
    obtain ⟨b1, b2⟩ := b
    simp only at h1 h2
    subst h1; subst h2
    rw [obE_eq h3]
  | [], _ :: _, h => by cases h
  | _ :: _, [], h => by cases h
theorem obS_len (c : Nat) : ∀ k, (obS c k).length = k
  | 0 => rfl
  | k + 1 => by simp [obS, obS_len c k]
theorem obS_get (c : Nat) : ∀ n k, k < n → (obS c n).getD k default = ⟨3, 2 * ((c : Int) - 1 - (k : Int)) + 1⟩
  | 0, k, h => absurd h (Nat.not_lt_zero k)
  | n + 1, k, h => by
    have hl := obS_len c n
    by_cases hk : k < n
    · have := obS_get c n k hk
      rw [← this]
      simp [obS, List.getD, List.getElem?_append_left (show k < (obS c n).length by omega)]
    · obtain rfl : k = n := by omega
      simp [obS, List.getD, List.getElem?_append_right (show (obS c k).length ≤ k by omega), hl]
theorem isS_len : ∀ k, (isS k).length = 2 * k
  | 0 => rfl
  | k + 1 => by simp [isS, isS_len k]; omega
theorem isS_mem : ∀ k, ∀ i ∈ isS k, (∃ q, q < k ∧ i = cI q) ∨ i = rI
  | 0, i, hi => by cases hi
  | k + 1, i, hi => by
    rcases List.mem_append.1 hi with h | h
    · rcases isS_mem k i h with ⟨q, h1, h2⟩ | h1
      · exact .inl ⟨q, by omega, h2⟩
      · exact .inr h1
    · simp only [List.mem_cons, List.not_mem_nil, or_false] at h
      rcases h with rfl | rfl
      · exact .inl ⟨k, by omega, rfl⟩
      · exact .inr rfl
theorem pS_len (c : Nat) : (pS c).is.length = 2 * c + 1 := by
  show (isS c ++ [rI]).length = _
  rw [List.length_append, isS_len]; rfl
theorem pS_ok {c : Nat} (hc : c < 8) : OkP (pS c) := by
  have hl := pS_len c
  refine ⟨fun i hi => ?_, by omega, by show (0 : Nat) < 1000; decide, by show (0 : Nat) ≤ 16; decide⟩
  have hr : OkI rI (pS c).is.length := ⟨⟨by decide, by decide⟩, okV0, okV0, ⟨by decide, by decide⟩, by decide, by show (0 : Int) ≤ _; omega⟩
  rcases List.mem_append.1 hi with h | h
  · rcases isS_mem c i h with ⟨q, h1, rfl⟩ | rfl
    · exact ⟨⟨by show (1 : Int) ≤ 8; decide, by show (8 : Int) ≤ 12; decide⟩, okV0, okV0, ⟨by show (0 : Int) ≤ 0; decide, by show (0 : Int) < 4; decide⟩, by show (0 : Int) ≤ 2 * (q : Int) + 2; omega, by show 2 * (q : Int) + 2 ≤ _; omega⟩
    · exact hr
  · rw [List.mem_singleton.1 h]; exact hr
theorem z8_ok (len : Int) (h : 0 ≤ len) : OkS 0 len z8 := ⟨⟨zz, zz, zz, zz⟩, fun x hx => (by cases hx), rfl, ⟨by decide, h⟩, by decide, fun x hx => (by cases hx)⟩
theorem and7 (n : Int) : ∃ c : Nat, c < 8 ∧ bits .and .i64 n 7 = c := by
  have h := Wd.bits_mask n 3 (by omega)
  have h2 : bits .and .i64 n 7 = n % 8 := h
  exact ⟨(n % 8).toNat, by omega, by rw [h2]; omega⟩
def insB (l : List In) : Blk := ⟨0, false, 45, .rows 9 l.length (rowL inC l)⟩
def pcS (am : AV) : List AV := [.int .i64 1, .int .i64 1, .int .i64 50, .int .i64 0, .int .i64 0, .int .i64 0, .int .i64 0, .nils, .nils, am]
def ps1 (c r : Nat) (L : List In) (k : Nat) : Sm := ⟨[(0, .int .i64 c), (1, .int .i64 r), (4, .bool false), (5, .bptr 0 0), (6, .int .i64 k)], [(0, bx 28 (pcS (.own 1 0 9 0 L.length))), (1, insB L)], 2⟩
def ps2 (c r : Nat) (s : S8) (o : List Ob) (j : Nat) (e : Int) (k : Nat) : Sm := ⟨[(0, .int .i64 c), (1, .int .i64 r), (4, .bool false), (7, .bptr 0 0), (8, obR o), (9, .int .i64 j), (10, .int .i64 e), (129, .int .i64 o.length), (130, .int .i64 k)], [(0, bx 31 (s8R s))], 1⟩
def frS8z0  (Z : Prop) : Prop := ((1 : Int) = (1 : Int)) ∧ ((1 : Int) = (1 : Int)) ∧ ((50 : Int) = (50 : Int)) ∧ ((0 : Int) = (0 : Int)) ∧ ((0 : Int) = (0 : Int)) ∧ ((0 : Int) = (0 : Int)) ∧ ((0 : Int) = (0 : Int)) ∧ ((0 : Nat) = (0 : Nat)) ∧ Z
theorem frS8z0_mk  {Z : Prop} (z : Z) : frS8z0  Z := ⟨rfl, rfl, rfl, rfl, rfl, rfl, rfl, rfl, z⟩
theorem ps_step (c r : Nat) (L : List In) (k : Nat) (hk : k < c) (hc : c < 8) (hL : L.length < 100) : Vc (vcC Try.prog false (ntOf Try.prog 5) (lpC Try.prog 5 0) (ps1 c r L k) [.b true] .nrm [(0, 0), (1, 1)] (ps1 c r (L ++ [cI k, rI]) (k + 1))) :=
  vc_of (q := (decide ((↑k : Int) < (↑c : Int)) = true) ∧ (inK IntKind.i64 ((2 : Int) * (↑k : Int))) ∧ (inK IntKind.i64 ((2 : Int) * (↑k : Int) + (2 : Int))) ∧ ((0 : Nat) = (0 : Nat) ∧ List.length L = List.length L ∧ (List.length L + (2 : Nat)) * (80 : Nat) ≤ (140737488355328 : Nat) ∧ List.length L + (2 : Nat) ≤ (140737488355328 : Nat)) ∧ (inK IntKind.i64 ((↑k : Int) + (1 : Int))) ∧ (frS8z0  ((List.length L + (2 : Nat) = List.length (L ++ [cI k, rI])) ∧ (List.length L + (2 : Nat) = List.length (L ++ [cI k, rI])) ∧ (∀ (i : Nat), i < List.length L + (2 : Nat) → ∀ (j : Nat), j < (9 : Nat) → (bif Nat.blt i (List.length L) then rowL inC L i j else List.getD [AV.int IntKind.i64 (8 : Int), AV.int IntKind.i64 (0 : Int), AV.int IntKind.i64 (0 : Int), AV.bool false, AV.int IntKind.i64 (0 : Int), AV.bool false, AV.int IntKind.i64 (0 : Int), AV.str (ByteArray.mk (Array.mk [])), AV.int IntKind.i64 ((2 : Int) * (↑k : Int) + (2 : Int)), AV.int IntKind.i64 (9 : Int), AV.int IntKind.i64 (0 : Int), AV.int IntKind.i64 (0 : Int), AV.bool false, AV.int IntKind.i64 (0 : Int), AV.bool false, AV.int IntKind.i64 (0 : Int), AV.str (ByteArray.mk (Array.mk [])), AV.int IntKind.i64 (0 : Int)] ((i - List.length L + (0 : Nat)) * (9 : Nat) + j) AV.junk) = rowL inC (L ++ [cI k, rI]) i j) ∧ ((↑c : Int) = (↑c : Int)) ∧ ((↑r : Int) = (↑r : Int)) ∧ (false = false) ∧ ((↑k : Int) + (1 : Int) = (↑(k + (1 : Nat)) : Int)) ∧ True))) (by kernel_rfl)
    ⟨(decide_eq_true (by first | omega | (simp; omega) | (simp; done))),
 (in64 (by omega) (by omega)),
 (in64 (by omega) (by omega)),
 (by first | omega | rfl),
 (in64 (by omega) (by omega)), (frS8z0_mk  ⟨(by first | omega | rfl | (simp; done) | (simp; omega)),
 (by first | omega | rfl | (simp; done) | (simp; omega)),
 twoI,
 rfl,
 rfl,
 rfl,
 (by first | omega | rfl), trivial⟩)⟩
theorem ps_end (c r : Nat) (L : List In) : Vc (vcC Try.prog false (ntOf Try.prog 5) (lpC Try.prog 5 0) (ps1 c r L c) [.b false] (.ext 0) [(0, 0), (1, 1)] (ps1 c r L c)) :=
  vc_of (q := (decide ((↑c : Int) < (↑c : Int)) = false) ∧ (frS8z0  ((List.length L = List.length L) ∧ (List.length L = List.length L) ∧ (∀ (i : Nat), i < List.length L → ∀ (j : Nat), j < (9 : Nat) → rowL inC L i j = rowL inC L i j) ∧ ((↑c : Int) = (↑c : Int)) ∧ ((↑r : Int) = (↑r : Int)) ∧ (false = false) ∧ ((↑c : Int) = (↑c : Int)) ∧ True))) (by kernel_rfl)
    ⟨(decide_eq_false (by first | omega | (simp; omega) | (simp; done))), (frS8z0_mk  ⟨rfl,
 rfl,
 (fun _ _ _ _ => rfl),
 rfl,
 rfl,
 rfl,
 rfl, trivial⟩)⟩
theorem p2_step (c r : Nat) (s : S8) (o : List Ob) (j : Nat) (e : Int) (k : Nat) (hk : k < o.length) (ho : o.length < 100) (hc : c < 8) (h : o.getD k default = ⟨3, 2 * ((c : Int) - 1 - (k : Int)) + 1⟩) : Vc (vcC Try.prog false (ntOf Try.prog 5) (lpC Try.prog 5 1) (ps2 c r s o j e k) [.b true, .b false] .nrm [(0, 0)] (ps2 c r s o j e (k + 1))) :=
  vc_of (q := (decide ((↑k : Int) < (↑(List.length o) : Int)) = true) ∧ ((0 : Int) ≤ (↑k : Int) ∧ (↑k : Int) < (↑(List.length o) : Int)) ∧ (inK IntKind.i64 ((↑c : Int) - (1 : Int))) ∧ (inK IntKind.i64 ((↑c : Int) - (1 : Int) - (↑k : Int))) ∧ (inK IntKind.i64 ((2 : Int) * ((↑c : Int) - (1 : Int) - (↑k : Int)))) ∧ (inK IntKind.i64 ((2 : Int) * ((↑c : Int) - (1 : Int) - (↑k : Int)) + (1 : Int))) ∧ ((!bif Ob.k (List.getD o k Inhabited.default) == (3 : Int) then bif Ob.a (List.getD o k Inhabited.default) == (2 : Int) * ((↑c : Int) - (1 : Int) - (↑k : Int)) + (1 : Int) then true else false else false) = false) ∧ (inK IntKind.i64 ((↑k : Int) + (1 : Int))) ∧ (S8.r0 s = S8.r0 s) ∧ (S8.r1 s = S8.r1 s) ∧ (S8.r2 s = S8.r2 s) ∧ (S8.r3 s = S8.r3 s) ∧ (List.length (S8.m s) = List.length (S8.m s)) ∧ (∀ (i : Nat), i < List.length (S8.m s) → ∀ (j : Nat), j < (1 : Nat) → AV.int IntKind.i64 (List.getD (S8.m s) i (0 : Int)) = AV.int IntKind.i64 (List.getD (S8.m s) i (0 : Int))) ∧ (List.length (S8.st s) = List.length (S8.st s)) ∧ (∀ (i : Nat), i < List.length (S8.st s) → ∀ (j : Nat), j < (1 : Nat) → AV.int IntKind.i64 (List.getD (S8.st s) i (0 : Int)) = AV.int IntKind.i64 (List.getD (S8.st s) i (0 : Int))) ∧ (S8.pc s = S8.pc s) ∧ ((↑c : Int) = (↑c : Int)) ∧ ((↑r : Int) = (↑r : Int)) ∧ (false = false) ∧ (List.length o = List.length o) ∧ (∀ (i : Nat), i < List.length o → ∀ (j : Nat), j < (2 : Nat) → rowL obC o i j = rowL obC o i j) ∧ ((↑j : Int) = (↑j : Int)) ∧ (e = e) ∧ ((↑(List.length o) : Int) = (↑(List.length o) : Int)) ∧ ((↑k : Int) + (1 : Int) = (↑(k + (1 : Nat)) : Int)) ∧ True) (by kernel_rfl)
    ⟨(decide_eq_true (by first | omega | (simp; omega) | (simp; done))),
 (by first | omega | rfl),
 (in64 (by omega) (by omega)),
 (in64 (by omega) (by omega)),
 (in64 (by omega) (by omega)),
 (in64 (by omega) (by omega)),
 (by rw [h]; simp),
 (in64 (by omega) (by omega)),
 rfl,
 rfl,
 rfl,
 rfl,
 rfl,
 (fun _ _ _ _ => rfl),
 rfl,
 (fun _ _ _ _ => rfl),
 rfl,
 rfl,
 rfl,
 rfl,
 rfl,
 (fun _ _ _ _ => rfl),
 rfl,
 rfl,
 rfl,
 (by first | omega | rfl), trivial⟩
theorem p2_end (c r : Nat) (s : S8) (o : List Ob) (j : Nat) (e : Int) : Vc (vcC Try.prog false (ntOf Try.prog 5) (lpC Try.prog 5 1) (ps2 c r s o j e o.length) [.b false] (.ext 3) [(0, 0)] (ps2 c r s o j e o.length)) :=
  vc_of (q := (decide ((↑(List.length o) : Int) < (↑(List.length o) : Int)) = false) ∧ (S8.r0 s = S8.r0 s) ∧ (S8.r1 s = S8.r1 s) ∧ (S8.r2 s = S8.r2 s) ∧ (S8.r3 s = S8.r3 s) ∧ (List.length (S8.m s) = List.length (S8.m s)) ∧ (∀ (i : Nat), i < List.length (S8.m s) → ∀ (j : Nat), j < (1 : Nat) → AV.int IntKind.i64 (List.getD (S8.m s) i (0 : Int)) = AV.int IntKind.i64 (List.getD (S8.m s) i (0 : Int))) ∧ (List.length (S8.st s) = List.length (S8.st s)) ∧ (∀ (i : Nat), i < List.length (S8.st s) → ∀ (j : Nat), j < (1 : Nat) → AV.int IntKind.i64 (List.getD (S8.st s) i (0 : Int)) = AV.int IntKind.i64 (List.getD (S8.st s) i (0 : Int))) ∧ (S8.pc s = S8.pc s) ∧ ((↑c : Int) = (↑c : Int)) ∧ ((↑r : Int) = (↑r : Int)) ∧ (false = false) ∧ (List.length o = List.length o) ∧ (∀ (i : Nat), i < List.length o → ∀ (j : Nat), j < (2 : Nat) → rowL obC o i j = rowL obC o i j) ∧ ((↑j : Int) = (↑j : Int)) ∧ (e = e) ∧ ((↑(List.length o) : Int) = (↑(List.length o) : Int)) ∧ ((↑(List.length o) : Int) = (↑(List.length o) : Int)) ∧ True) (by kernel_rfl)
    ⟨(decide_eq_false (by first | omega | (simp; omega) | (simp; done))),
 rfl,
 rfl,
 rfl,
 rfl,
 rfl,
 (fun _ _ _ _ => rfl),
 rfl,
 (fun _ _ _ _ => rfl),
 rfl,
 rfl,
 rfl,
 rfl,
 rfl,
 (fun _ _ _ _ => rfl),
 rfl,
 rfl,
 rfl,
 rfl, trivial⟩
def frS8z1 (c : Nat) (r : Nat) (Z : Prop) : Prop := ((0 : Int) = (0 : Int)) ∧ ((0 : Int) = (0 : Int)) ∧ ((0 : Int) = (0 : Int)) ∧ ((0 : Int) = (0 : Int)) ∧ ((0 : Nat) = (0 : Nat)) ∧ ((0 : Nat) = (0 : Nat)) ∧ ((0 : Int) = (0 : Int)) ∧ ((↑c : Int) + (↑r : Int) = (↑c : Int) + (↑r : Int)) ∧ Z
theorem frS8z1_mk (c : Nat) (r : Nat) {Z : Prop} (z : Z) : frS8z1 c r Z := ⟨rfl, rfl, rfl, rfl, rfl, rfl, rfl, rfl, z⟩
def frS8z2  (Z : Prop) : Prop := ((1 : Int) = (1 : Int)) ∧ ((1 : Int) = (1 : Int)) ∧ ((50 : Int) = (50 : Int)) ∧ ((0 : Int) = (0 : Int)) ∧ ((0 : Int) = (0 : Int)) ∧ ((0 : Int) = (0 : Int)) ∧ ((0 : Int) = (0 : Int)) ∧ ((0 : Nat) = (0 : Nat)) ∧ ((0 : Nat) = (0 : Nat)) ∧ Z
theorem frS8z2_mk  {Z : Prop} (z : Z) : frS8z2  Z := ⟨rfl, rfl, rfl, rfl, rfl, rfl, rfl, rfl, rfl, z⟩
theorem pA_vc (c0 r0 : Int) (c r : Nat) (x : R8) (hc : bits .and .i64 c0 7 = c) (hr : bits .and .i64 r0 7 = r) (hc8 : c < 8) (hr8 : r < 8) (hl : (isS c).length < 100) (hL1 : Ok Try.prog (ntOf Try.prog 5) (.loop (lpC Try.prog 5 0)) (ps1 c r [] 0).st (.ext 0) (ps1 c r (isS c) c).st) (hX : PureC Try.prog 19 [.agg (pgA (pS c)), .agg (s8R z8), .int .i64 ((c : Int) + (r : Int))] (.tup [.agg (s8R x.s), obR x.o, .int .i64 x.k, .int .i64 x.e]) []) (h4 : 4 < c) (h1 : x.e = 2) (h2 : x.k = 5) (h3 : x.s.st.length = 4) (h5 : x.s.pc = 8) (h6 : x.o.length = 0) : Vc (vcFn Try.prog false 5 [.int .i64 c0, .int .i64 r0] [.lp [(0, 0)] (ps1 c r [] 0) (.ext 0) (ps1 c r (isS c) c), .cl [.agg (pgA (pS c)), .agg (s8R z8), .int .i64 ((c : Int) + (r : Int))] (.tup [.agg (s8R x.s), obR x.o, .int .i64 x.k, .int .i64 x.e]) [], .b true, .b true, .b true, .b true, .b true, .b true, .b true, .b true, .b true, .b true, .b true, .b true, .b true, .b true, .b true, .b true, .b true, .b true, .b true, .b true, .b true, .b true, .b true, .cl [] (.bool true) [], .b true] [] (.bool true) []) :=
  vc_of (q := (frS8z2  (((0 : Nat) = (0 : Nat)) ∧ (Go.bits Go.BinOp.and IntKind.i64 c0 (7 : Int) = (↑c : Int)) ∧ (Go.bits Go.BinOp.and IntKind.i64 r0 (7 : Int) = (↑r : Int)) ∧ (false = false) ∧ ((0 : Int) = (↑(0 : Nat) : Int)) ∧ (Ok Try.prog (ntOf Try.prog 5) (.loop (lpC Try.prog 5 0)) (ps1 c r [] 0).st (.ext 0) (ps1 c r (isS c) c).st) ∧ ((0 : Nat) = (0 : Nat) ∧ List.length (isS c) = List.length (isS c) ∧ (List.length (isS c) + (1 : Nat)) * (80 : Nat) ≤ (140737488355328 : Nat) ∧ List.length (isS c) + (1 : Nat) ≤ (140737488355328 : Nat)) ∧ (inK IntKind.i64 ((↑c : Int) + (↑r : Int))) ∧ (frS8z2  ((List.length (isS c) + (1 : Nat) = List.length (isS c ++ [rI])) ∧ (∀ (i : Nat), i < List.length (isS c) + (1 : Nat) → ∀ (j : Nat), j < (9 : Nat) → (bif Nat.blt (i + (0 : Nat)) (List.length (isS c)) then rowL inC (isS c) (i + (0 : Nat)) j else List.getD [AV.int IntKind.i64 (9 : Int), AV.int IntKind.i64 (0 : Int), AV.int IntKind.i64 (0 : Int), AV.bool false, AV.int IntKind.i64 (0 : Int), AV.bool false, AV.int IntKind.i64 (0 : Int), AV.str (ByteArray.mk (Array.mk [])), AV.int IntKind.i64 (0 : Int)] ((i + (0 : Nat) - List.length (isS c) + (0 : Nat)) * (9 : Nat) + j) AV.junk) = rowL inC (isS c ++ [rI]) i j) ∧ (frS8z1 c r ((PureC Try.prog 19 [.agg (pgA (pS c)), .agg (s8R z8), .int .i64 ((c : Int) + (r : Int))] (.tup [.agg (s8R x.s), obR x.o, .int .i64 x.k, .int .i64 x.e]) []) ∧ (decide ((↑c : Int) > (4 : Int)) = true) ∧ (decide ((↑c : Int) > (4 : Int)) = true) ∧ (decide ((↑c : Int) > (4 : Int)) = true) ∧ (inK IntKind.i64 ((↑c : Int) + (↑r : Int))) ∧ (decide ((↑c : Int) > (4 : Int)) = true) ∧ (decide ((↑c : Int) > (4 : Int)) = true) ∧ (decide ((↑c : Int) + (↑r : Int) ≥ (5 : Int)) = true) ∧ ((R8.e x == (2 : Int)) = true) ∧ ((R8.e x == (2 : Int)) = true) ∧ ((R8.e x == (2 : Int)) = true) ∧ (((↑(R8.k x) : Int) == (5 : Int)) = true) ∧ (((↑(R8.k x) : Int) == (5 : Int)) = true) ∧ (((↑(R8.k x) : Int) == (5 : Int)) = true) ∧ (((↑(R8.k x) : Int) == (5 : Int)) = true) ∧ (((↑(R8.k x) : Int) == (5 : Int)) = true) ∧ (((↑(List.length (S8.st (R8.s x))) : Int) == (4 : Int)) = true) ∧ (((↑(List.length (S8.st (R8.s x))) : Int) == (4 : Int)) = true) ∧ (((↑(List.length (S8.st (R8.s x))) : Int) == (4 : Int)) = true) ∧ (((↑(List.length (S8.st (R8.s x))) : Int) == (4 : Int)) = true) ∧ ((S8.pc (R8.s x) == (8 : Int)) = true) ∧ ((S8.pc (R8.s x) == (8 : Int)) = true) ∧ ((S8.pc (R8.s x) == (8 : Int)) = true) ∧ ((S8.pc (R8.s x) == (8 : Int)) = true) ∧ (((↑(List.length (R8.o x)) : Int) == (0 : Int)) = true) ∧ (PureC Try.prog 18 [] (.bool true) []) ∧ (((↑(List.length (R8.o x)) : Int) == (0 : Int)) = true) ∧ (true = true) ∧ True))))))) (by kernel_rfl)
    (frS8z2_mk  ⟨rfl,
 hc,
 hr,
 rfl,
 (by first | omega | rfl),
 hL1,
 (by first | omega | rfl),
 (in64 (by omega) (by omega)), (frS8z2_mk  ⟨(by first | omega | rfl | (simp; done) | (simp; omega)),
 snocR, (frS8z1_mk c r ⟨hX,
 (decide_eq_true (by first | omega | (simp; omega) | (simp; done))),
 (decide_eq_true (by first | omega | (simp; omega) | (simp; done))),
 (decide_eq_true (by first | omega | (simp; omega) | (simp; done))),
 (in64 (by omega) (by omega)),
 (decide_eq_true (by first | omega | (simp; omega) | (simp; done))),
 (decide_eq_true (by first | omega | (simp; omega) | (simp; done))),
 (decide_eq_true (by first | omega | (simp; omega) | (simp; done))),
 (beq_iff_eq.2 (by omega)),
 (beq_iff_eq.2 (by omega)),
 (beq_iff_eq.2 (by omega)),
 (beq_iff_eq.2 (by omega)),
 (beq_iff_eq.2 (by omega)),
 (beq_iff_eq.2 (by omega)),
 (beq_iff_eq.2 (by omega)),
 (beq_iff_eq.2 (by omega)),
 (beq_iff_eq.2 (by omega)),
 (beq_iff_eq.2 (by omega)),
 (beq_iff_eq.2 (by omega)),
 (beq_iff_eq.2 (by omega)),
 (beq_iff_eq.2 (by omega)),
 (beq_iff_eq.2 (by omega)),
 (beq_iff_eq.2 (by omega)),
 (beq_iff_eq.2 (by omega)),
 (beq_iff_eq.2 (by omega)),
 awakeC8,
 (beq_iff_eq.2 (by omega)),
 rfl, trivial⟩)⟩)⟩)
theorem pC_vc (c0 r0 : Int) (c r : Nat) (x : R8) (hc : bits .and .i64 c0 7 = c) (hr : bits .and .i64 r0 7 = r) (hc8 : c < 8) (hr8 : r < 8) (hl : (isS c).length < 100) (hL1 : Ok Try.prog (ntOf Try.prog 5) (.loop (lpC Try.prog 5 0)) (ps1 c r [] 0).st (.ext 0) (ps1 c r (isS c) c).st) (hX : PureC Try.prog 19 [.agg (pgA (pS c)), .agg (s8R z8), .int .i64 ((c : Int) + (r : Int))] (.tup [.agg (s8R x.s), obR x.o, .int .i64 x.k, .int .i64 x.e]) []) (h4 : ¬ 4 < c) (hcr : c < r) (h1 : x.e = 2) (h2 : x.k = 2 * c + 1) (h3 : x.s.st.length = 0) (h6 : x.o.length = c) : Vc (vcFn Try.prog false 5 [.int .i64 c0, .int .i64 r0] [.lp [(0, 0)] (ps1 c r [] 0) (.ext 0) (ps1 c r (isS c) c), .cl [.agg (pgA (pS c)), .agg (s8R z8), .int .i64 ((c : Int) + (r : Int))] (.tup [.agg (s8R x.s), obR x.o, .int .i64 x.k, .int .i64 x.e]) [], .b false, .b false, .b false, .b false, .b false, .b false, .b false, .b true, .b true, .b true, .b true, .b true, .b true, .b true, .b true, .b true, .b true, .b true, .b true, .b true, .b true, .b true, .b true, .b true, .b true, .cl [] (.bool true) [], .b true] [] (.bool true) []) :=
  vc_of (q := (frS8z2  (((0 : Nat) = (0 : Nat)) ∧ (Go.bits Go.BinOp.and IntKind.i64 c0 (7 : Int) = (↑c : Int)) ∧ (Go.bits Go.BinOp.and IntKind.i64 r0 (7 : Int) = (↑r : Int)) ∧ (false = false) ∧ ((0 : Int) = (↑(0 : Nat) : Int)) ∧ (Ok Try.prog (ntOf Try.prog 5) (.loop (lpC Try.prog 5 0)) (ps1 c r [] 0).st (.ext 0) (ps1 c r (isS c) c).st) ∧ ((0 : Nat) = (0 : Nat) ∧ List.length (isS c) = List.length (isS c) ∧ (List.length (isS c) + (1 : Nat)) * (80 : Nat) ≤ (140737488355328 : Nat) ∧ List.length (isS c) + (1 : Nat) ≤ (140737488355328 : Nat)) ∧ (inK IntKind.i64 ((↑c : Int) + (↑r : Int))) ∧ (frS8z2  ((List.length (isS c) + (1 : Nat) = List.length (isS c ++ [rI])) ∧ (∀ (i : Nat), i < List.length (isS c) + (1 : Nat) → ∀ (j : Nat), j < (9 : Nat) → (bif Nat.blt (i + (0 : Nat)) (List.length (isS c)) then rowL inC (isS c) (i + (0 : Nat)) j else List.getD [AV.int IntKind.i64 (9 : Int), AV.int IntKind.i64 (0 : Int), AV.int IntKind.i64 (0 : Int), AV.bool false, AV.int IntKind.i64 (0 : Int), AV.bool false, AV.int IntKind.i64 (0 : Int), AV.str (ByteArray.mk (Array.mk [])), AV.int IntKind.i64 (0 : Int)] ((i + (0 : Nat) - List.length (isS c) + (0 : Nat)) * (9 : Nat) + j) AV.junk) = rowL inC (isS c ++ [rI]) i j) ∧ (frS8z1 c r ((PureC Try.prog 19 [.agg (pgA (pS c)), .agg (s8R z8), .int .i64 ((c : Int) + (r : Int))] (.tup [.agg (s8R x.s), obR x.o, .int .i64 x.k, .int .i64 x.e]) []) ∧ (decide ((↑c : Int) > (4 : Int)) = false) ∧ (decide ((↑c : Int) > (4 : Int)) = false) ∧ (decide ((↑c : Int) > (4 : Int)) = false) ∧ (decide ((↑c : Int) > (4 : Int)) = false) ∧ (decide ((↑c : Int) > (4 : Int)) = false) ∧ (false = false) ∧ (decide ((↑c : Int) > (4 : Int)) = false) ∧ (decide ((↑r : Int) > (↑c : Int)) = true) ∧ ((R8.e x == (2 : Int)) = true) ∧ ((R8.e x == (2 : Int)) = true) ∧ ((R8.e x == (2 : Int)) = true) ∧ (inK IntKind.i64 ((2 : Int) * (↑c : Int))) ∧ ((R8.e x == (2 : Int)) = true) ∧ (inK IntKind.i64 ((2 : Int) * (↑c : Int) + (1 : Int))) ∧ ((R8.e x == (2 : Int)) = true) ∧ ((R8.e x == (2 : Int)) = true) ∧ (((↑(R8.k x) : Int) == (2 : Int) * (↑c : Int) + (1 : Int)) = true) ∧ (((↑(R8.k x) : Int) == (2 : Int) * (↑c : Int) + (1 : Int)) = true) ∧ (((↑(R8.k x) : Int) == (2 : Int) * (↑c : Int) + (1 : Int)) = true) ∧ (((↑(R8.k x) : Int) == (2 : Int) * (↑c : Int) + (1 : Int)) = true) ∧ (((↑(R8.k x) : Int) == (2 : Int) * (↑c : Int) + (1 : Int)) = true) ∧ (((↑(List.length (S8.st (R8.s x))) : Int) == (0 : Int)) = true) ∧ (((↑(List.length (S8.st (R8.s x))) : Int) == (0 : Int)) = true) ∧ (((↑(List.length (S8.st (R8.s x))) : Int) == (0 : Int)) = true) ∧ (((↑(List.length (S8.st (R8.s x))) : Int) == (0 : Int)) = true) ∧ (((↑(List.length (S8.st (R8.s x))) : Int) == (0 : Int)) = true) ∧ (((↑(List.length (R8.o x)) : Int) == (↑c : Int)) = true) ∧ (PureC Try.prog 18 [] (.bool true) []) ∧ (((↑(List.length (R8.o x)) : Int) == (↑c : Int)) = true) ∧ (true = true) ∧ True))))))) (by kernel_rfl)
    (frS8z2_mk  ⟨rfl,
 hc,
 hr,
 rfl,
 (by first | omega | rfl),
 hL1,
 (by first | omega | rfl),
 (in64 (by omega) (by omega)), (frS8z2_mk  ⟨(by first | omega | rfl | (simp; done) | (simp; omega)),
 snocR, (frS8z1_mk c r ⟨hX,
 (decide_eq_false (by first | omega | (simp; omega) | (simp; done))),
 (decide_eq_false (by first | omega | (simp; omega) | (simp; done))),
 (decide_eq_false (by first | omega | (simp; omega) | (simp; done))),
 (decide_eq_false (by first | omega | (simp; omega) | (simp; done))),
 (decide_eq_false (by first | omega | (simp; omega) | (simp; done))),
 rfl,
 (decide_eq_false (by first | omega | (simp; omega) | (simp; done))),
 (decide_eq_true (by first | omega | (simp; omega) | (simp; done))),
 (beq_iff_eq.2 (by omega)),
 (beq_iff_eq.2 (by omega)),
 (beq_iff_eq.2 (by omega)),
 (in64 (by omega) (by omega)),
 (beq_iff_eq.2 (by omega)),
 (in64 (by omega) (by omega)),
 (beq_iff_eq.2 (by omega)),
 (beq_iff_eq.2 (by omega)),
 (beq_iff_eq.2 (by omega)),
 (beq_iff_eq.2 (by omega)),
 (beq_iff_eq.2 (by omega)),
 (beq_iff_eq.2 (by omega)),
 (beq_iff_eq.2 (by omega)),
 (beq_iff_eq.2 (by omega)),
 (beq_iff_eq.2 (by omega)),
 (beq_iff_eq.2 (by omega)),
 (beq_iff_eq.2 (by omega)),
 (beq_iff_eq.2 (by omega)),
 (beq_iff_eq.2 (by omega)),
 awakeC8,
 (beq_iff_eq.2 (by omega)),
 rfl, trivial⟩)⟩)⟩)
theorem pD_vc (c0 r0 : Int) (c r : Nat) (x : R8) (hc : bits .and .i64 c0 7 = c) (hr : bits .and .i64 r0 7 = r) (hc8 : c < 8) (hr8 : r < 8) (hl : (isS c).length < 100) (hL1 : Ok Try.prog (ntOf Try.prog 5) (.loop (lpC Try.prog 5 0)) (ps1 c r [] 0).st (.ext 0) (ps1 c r (isS c) c).st) (hX : PureC Try.prog 19 [.agg (pgA (pS c)), .agg (s8R z8), .int .i64 ((c : Int) + (r : Int))] (.tup [.agg (s8R x.s), obR x.o, .int .i64 x.k, .int .i64 x.e]) []) (h4 : ¬ 4 < c) (hcr : ¬ c < r) (h1 : x.e = 0) (h2 : x.k = c + r) (h3 : x.s.st.length = c - r) (h6 : x.o.length = r) (hL2 : Ok Try.prog (ntOf Try.prog 5) (.loop (lpC Try.prog 5 1)) (ps2 c r x.s x.o x.k x.e 0).st (.ext 3) (ps2 c r x.s x.o x.k x.e x.o.length).st) : Vc (vcFn Try.prog false 5 [.int .i64 c0, .int .i64 r0] [.lp [(0, 0)] (ps1 c r [] 0) (.ext 0) (ps1 c r (isS c) c), .cl [.agg (pgA (pS c)), .agg (s8R z8), .int .i64 ((c : Int) + (r : Int))] (.tup [.agg (s8R x.s), obR x.o, .int .i64 x.k, .int .i64 x.e]) [], .b false, .b false, .b false, .b false, .b false, .b false, .b false, .b false, .lp [(0, 3)] (ps2 c r x.s x.o x.k x.e 0) (.ext 3) (ps2 c r x.s x.o x.k x.e x.o.length), .b true, .b true, .b true, .b true, .b true, .b true, .b true, .b true, .b true, .b true, .b true, .b true, .b true, .b true, .b true, .b true, .b true, .b true, .b true, .b true, .cl [] (.bool true) [], .b true] [] (.bool true) []) :=
  vc_of (q := (frS8z2  (((0 : Nat) = (0 : Nat)) ∧ (Go.bits Go.BinOp.and IntKind.i64 c0 (7 : Int) = (↑c : Int)) ∧ (Go.bits Go.BinOp.and IntKind.i64 r0 (7 : Int) = (↑r : Int)) ∧ (false = false) ∧ ((0 : Int) = (↑(0 : Nat) : Int)) ∧ (Ok Try.prog (ntOf Try.prog 5) (.loop (lpC Try.prog 5 0)) (ps1 c r [] 0).st (.ext 0) (ps1 c r (isS c) c).st) ∧ ((0 : Nat) = (0 : Nat) ∧ List.length (isS c) = List.length (isS c) ∧ (List.length (isS c) + (1 : Nat)) * (80 : Nat) ≤ (140737488355328 : Nat) ∧ List.length (isS c) + (1 : Nat) ≤ (140737488355328 : Nat)) ∧ (inK IntKind.i64 ((↑c : Int) + (↑r : Int))) ∧ (frS8z2  ((List.length (isS c) + (1 : Nat) = List.length (isS c ++ [rI])) ∧ (∀ (i : Nat), i < List.length (isS c) + (1 : Nat) → ∀ (j : Nat), j < (9 : Nat) → (bif Nat.blt (i + (0 : Nat)) (List.length (isS c)) then rowL inC (isS c) (i + (0 : Nat)) j else List.getD [AV.int IntKind.i64 (9 : Int), AV.int IntKind.i64 (0 : Int), AV.int IntKind.i64 (0 : Int), AV.bool false, AV.int IntKind.i64 (0 : Int), AV.bool false, AV.int IntKind.i64 (0 : Int), AV.str (ByteArray.mk (Array.mk [])), AV.int IntKind.i64 (0 : Int)] ((i + (0 : Nat) - List.length (isS c) + (0 : Nat)) * (9 : Nat) + j) AV.junk) = rowL inC (isS c ++ [rI]) i j) ∧ (frS8z1 c r ((PureC Try.prog 19 [.agg (pgA (pS c)), .agg (s8R z8), .int .i64 ((c : Int) + (r : Int))] (.tup [.agg (s8R x.s), obR x.o, .int .i64 x.k, .int .i64 x.e]) []) ∧ (decide ((↑c : Int) > (4 : Int)) = false) ∧ (decide ((↑c : Int) > (4 : Int)) = false) ∧ (decide ((↑c : Int) > (4 : Int)) = false) ∧ (decide ((↑c : Int) > (4 : Int)) = false) ∧ (decide ((↑c : Int) > (4 : Int)) = false) ∧ (false = false) ∧ (decide ((↑c : Int) > (4 : Int)) = false) ∧ (decide ((↑r : Int) > (↑c : Int)) = false) ∧ (S8.r0 (R8.s x) = S8.r0 (R8.s x)) ∧ (S8.r1 (R8.s x) = S8.r1 (R8.s x)) ∧ (S8.r2 (R8.s x) = S8.r2 (R8.s x)) ∧ (S8.r3 (R8.s x) = S8.r3 (R8.s x)) ∧ (List.length (S8.m (R8.s x)) = List.length (S8.m (R8.s x))) ∧ (∀ (i : Nat), i < List.length (S8.m (R8.s x)) → ∀ (j : Nat), j < (1 : Nat) → AV.int IntKind.i64 (List.getD (S8.m (R8.s x)) i (0 : Int)) = AV.int IntKind.i64 (List.getD (S8.m (R8.s x)) i (0 : Int))) ∧ (List.length (S8.st (R8.s x)) = List.length (S8.st (R8.s x))) ∧ (∀ (i : Nat), i < List.length (S8.st (R8.s x)) → ∀ (j : Nat), j < (1 : Nat) → AV.int IntKind.i64 (List.getD (S8.st (R8.s x)) i (0 : Int)) = AV.int IntKind.i64 (List.getD (S8.st (R8.s x)) i (0 : Int))) ∧ (S8.pc (R8.s x) = S8.pc (R8.s x)) ∧ ((↑c : Int) = (↑c : Int)) ∧ ((↑r : Int) = (↑r : Int)) ∧ (false = false) ∧ (List.length (R8.o x) = List.length (R8.o x)) ∧ (∀ (i : Nat), i < List.length (R8.o x) → ∀ (j : Nat), j < (2 : Nat) → rowL obC (R8.o x) i j = rowL obC (R8.o x) i j) ∧ ((↑(R8.k x) : Int) = (↑(R8.k x) : Int)) ∧ (R8.e x = R8.e x) ∧ ((↑(List.length (R8.o x)) : Int) = (↑(List.length (R8.o x)) : Int)) ∧ ((0 : Int) = (↑(0 : Nat) : Int)) ∧ (Ok Try.prog (ntOf Try.prog 5) (.loop (lpC Try.prog 5 1)) (ps2 c r x.s x.o x.k x.e 0).st (.ext 3) (ps2 c r x.s x.o x.k x.e x.o.length).st) ∧ ((R8.e x == (0 : Int)) = true) ∧ ((R8.e x == (0 : Int)) = true) ∧ ((R8.e x == (0 : Int)) = true) ∧ ((R8.e x == (0 : Int)) = true) ∧ (inK IntKind.i64 ((↑c : Int) + (↑r : Int))) ∧ ((R8.e x == (0 : Int)) = true) ∧ ((R8.e x == (0 : Int)) = true) ∧ (((↑(R8.k x) : Int) == (↑c : Int) + (↑r : Int)) = true) ∧ (((↑(R8.k x) : Int) == (↑c : Int) + (↑r : Int)) = true) ∧ (((↑(R8.k x) : Int) == (↑c : Int) + (↑r : Int)) = true) ∧ (((↑(R8.k x) : Int) == (↑c : Int) + (↑r : Int)) = true) ∧ (((↑(R8.k x) : Int) == (↑c : Int) + (↑r : Int)) = true) ∧ (((↑(R8.k x) : Int) == (↑c : Int) + (↑r : Int)) = true) ∧ (inK IntKind.i64 ((↑c : Int) - (↑r : Int))) ∧ (((↑(R8.k x) : Int) == (↑c : Int) + (↑r : Int)) = true) ∧ (((↑(R8.k x) : Int) == (↑c : Int) + (↑r : Int)) = true) ∧ (((↑(List.length (S8.st (R8.s x))) : Int) == (↑c : Int) - (↑r : Int)) = true) ∧ (((↑(List.length (S8.st (R8.s x))) : Int) == (↑c : Int) - (↑r : Int)) = true) ∧ (((↑(List.length (S8.st (R8.s x))) : Int) == (↑c : Int) - (↑r : Int)) = true) ∧ (((↑(List.length (S8.st (R8.s x))) : Int) == (↑c : Int) - (↑r : Int)) = true) ∧ (((↑(List.length (S8.st (R8.s x))) : Int) == (↑c : Int) - (↑r : Int)) = true) ∧ (((↑(List.length (R8.o x)) : Int) == (↑r : Int)) = true) ∧ (PureC Try.prog 18 [] (.bool true) []) ∧ (((↑(List.length (R8.o x)) : Int) == (↑r : Int)) = true) ∧ (true = true) ∧ True))))))) (by kernel_rfl)
    (frS8z2_mk  ⟨rfl,
 hc,
 hr,
 rfl,
 (by first | omega | rfl),
 hL1,
 (by first | omega | rfl),
 (in64 (by omega) (by omega)), (frS8z2_mk  ⟨(by first | omega | rfl | (simp; done) | (simp; omega)),
 snocR, (frS8z1_mk c r ⟨hX,
 (decide_eq_false (by first | omega | (simp; omega) | (simp; done))),
 (decide_eq_false (by first | omega | (simp; omega) | (simp; done))),
 (decide_eq_false (by first | omega | (simp; omega) | (simp; done))),
 (decide_eq_false (by first | omega | (simp; omega) | (simp; done))),
 (decide_eq_false (by first | omega | (simp; omega) | (simp; done))),
 rfl,
 (decide_eq_false (by first | omega | (simp; omega) | (simp; done))),
 (decide_eq_false (by first | omega | (simp; omega) | (simp; done))),
 rfl,
 rfl,
 rfl,
 rfl,
 rfl,
 (fun _ _ _ _ => rfl),
 rfl,
 (fun _ _ _ _ => rfl),
 rfl,
 rfl,
 rfl,
 rfl,
 rfl,
 (fun _ _ _ _ => rfl),
 rfl,
 rfl,
 rfl,
 (by first | omega | rfl),
 hL2,
 (beq_iff_eq.2 (by omega)),
 (beq_iff_eq.2 (by omega)),
 (beq_iff_eq.2 (by omega)),
 (beq_iff_eq.2 (by omega)),
 (in64 (by omega) (by omega)),
 (beq_iff_eq.2 (by omega)),
 (beq_iff_eq.2 (by omega)),
 (beq_iff_eq.2 (by omega)),
 (beq_iff_eq.2 (by omega)),
 (beq_iff_eq.2 (by omega)),
 (beq_iff_eq.2 (by omega)),
 (beq_iff_eq.2 (by omega)),
 (beq_iff_eq.2 (by omega)),
 (in64 (by omega) (by omega)),
 (beq_iff_eq.2 (by omega)),
 (beq_iff_eq.2 (by omega)),
 (beq_iff_eq.2 (by omega)),
 (beq_iff_eq.2 (by omega)),
 (beq_iff_eq.2 (by omega)),
 (beq_iff_eq.2 (by omega)),
 (beq_iff_eq.2 (by omega)),
 (beq_iff_eq.2 (by omega)),
 awakeC8,
 (beq_iff_eq.2 (by omega)),
 rfl, trivial⟩)⟩)⟩)
theorem ps_loop (c r : Nat) (hc : c < 8) : Ok Try.prog (ntOf Try.prog 5) (.loop (lpC Try.prog 5 0)) (ps1 c r [] 0).st (.ext 0) (ps1 c r (isS c) c).st :=
  Ok.loop (P := Try.prog) (nt := ntOf Try.prog 5) (c := lpC Try.prog 5 0) (F := fun k => ps1 c r (isS k) k) (m := c) (x := .ext 0) (J := ps1 c r (isS c) c) (fun k hk => Ok.vc (ps_step c r (isS k) k hk hc (by rw [isS_len]; omega))) (Ok.vc (ps_end c r _)) (by simp)
theorem p2_loop (c r : Nat) (s : S8) (o : List Ob) (j : Nat) (e : Int) (hc : c < 8) (ho : o.length < 100) (h : ∀ k, k < o.length → o.getD k default = ⟨3, 2 * ((c : Int) - 1 - (k : Int)) + 1⟩) : Ok Try.prog (ntOf Try.prog 5) (.loop (lpC Try.prog 5 1)) (ps2 c r s o j e 0).st (.ext 3) (ps2 c r s o j e o.length).st :=
  Ok.loop (P := Try.prog) (nt := ntOf Try.prog 5) (c := lpC Try.prog 5 1) (F := fun k => ps2 c r s o j e k) (m := o.length) (x := .ext 3) (J := ps2 c r s o j e o.length) (fun k hk => Ok.vc (p2_step c r s o j e k hk ho hc (h k hk))) (Ok.vc (p2_end c r s o j e)) (by simp)
theorem stacksC (c0 r0 : Int) : PureC Try.prog 5 [.int .i64 c0, .int .i64 r0] (.bool true) [] := by
  obtain ⟨c, hc8, hc⟩ := and7 c0
  obtain ⟨r, hr8, hr⟩ := and7 r0
  have hP := pS_ok hc8
  have hl : (isS c).length < 100 := by rw [isS_len]; omega
  have hX := runF (pS c) z8 ((c : Int) + (r : Int)) hP (z8_ok _ (by omega)) (by omega)
  rw [show ((c : Int) + (r : Int)).toNat = c + r by omega] at hX
  have hk := chk_at hc8 hr8
  unfold chkS at hk
  have hX2 : PureC Try.prog 19 [.agg (pgA (pS c)), .agg (s8R z8), .int .i64 ((c : Int) + (r : Int))] (.tup [.agg (s8R (runD (pS c) 0 z8 (c + r)).s), obR (runD (pS c) 0 z8 (c + r)).o, .int .i64 (runD (pS c) 0 z8 (c + r)).k, .int .i64 (runD (pS c) 0 z8 (c + r)).e]) [] := hX
  generalize runD (pS c) 0 z8 (c + r) = x at hX2 hk
  clear hX
  have hL1 := ps_loop c r hc8
  by_cases h4 : 4 < c
  · simp only [if_pos h4, Bool.and_eq_true, beq_iff_eq] at hk
    obtain ⟨⟨⟨⟨h1, h2⟩, h3⟩, h5⟩, h6⟩ := hk
    exact PureC.vc (pA_vc c0 r0 c r x hc hr hc8 hr8 hl hL1 hX2 h4 h1 h2 h3 h5 h6)
  · by_cases hcr : c < r
    · simp only [if_neg h4, if_pos hcr, Bool.and_eq_true, beq_iff_eq] at hk
      obtain ⟨⟨⟨h1, h2⟩, h3⟩, h6⟩ := hk
      exact PureC.vc (pC_vc c0 r0 c r x hc hr hc8 hr8 hl hL1 hX2 h4 hcr h1 h2 h3 h6)
    · simp only [if_neg h4, if_neg hcr, Bool.and_eq_true, beq_iff_eq] at hk
      obtain ⟨⟨⟨h1, h2⟩, h3⟩, h6⟩ := hk
      have e := obE_eq h6
      have hol : x.o.length = r := by rw [e, obS_len]
      exact PureC.vc (pD_vc c0 r0 c r x hc hr hc8 hr8 hl hL1 hX2 h4 hcr h1 h2 h3 hol (p2_loop c r x.s x.o x.k x.e hc8 (by omega) (fun k hk => by rw [e]; exact obS_get c r k (by omega))))
theorem walk_SeqmStacks (a0 a1 : Int) (W : World) : Calls Try.prog 5 #[.int .i64 a0, .int .i64 a1] W (RetB (.bool true) W) :=
  (stacksC a0 a1).lawB (R := fun g => g < W.heap.size) (fun _ h => h) rfl (fun j x v hx hv => match j, hx, hv with
    | 0, rfl, rfl => .int _ _
    | 1, rfl, rfl => .int _ _)
end
end Go.Proofs.Ytjdiabjmphdhiaa.Px
