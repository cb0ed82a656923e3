/- Merged: S8b, S8c, S8k. -/
import Derived.Test.YtjdiabjmphdhiaaMhC
set_option linter.unusedVariables false
set_option linter.unusedSimpArgs false
set_option maxRecDepth 100000
namespace Go.Proofs.Ytjdiabjmphdhiaa.Px
section
open Go.RowKit Go.Proofs.Ytjdiabjmphdhiaa.Rx
def obB (l : List Ob) : Blk := ⟨0, false, 49, .rows 2 l.length (rowL obC l)⟩
def S8.go (s : S8) (pc : Int) : S8 := { s with pc := pc }
/-- what an instruction does: the state behind it, what is observed, how it ended -/
def stepI (W c len : Int) (i : In) (s : S8) : S8 × List Ob × Int :=
  if i.kind = 1 then ((s.set i.d (Wd.doV W i.op (vlV W s i.a) (vlV W s i.b))).go (s.pc + 1), [], 0)
  else if i.kind = 4 then (if vlV W s i.a = 0 then s.go (s.pc + 1) else (s.set i.d (vlV W s i.b)).go (s.pc + 1), [], 0)
  else if i.kind = 2 then (if Wd.maskV W (vlV W s i.a + vlV W s i.b) < c then ((s.set i.d (s.m.getD (Wd.maskV W (vlV W s i.a + vlV W s i.b)).toNat 0)).go (s.pc + 1), [⟨1, Wd.maskV W (vlV W s i.a + vlV W s i.b)⟩], 0) else (s, [], 2))
  else if i.kind = 3 then (if Wd.maskV W (vlV W s i.a + vlV W s i.b) < c then ({ s with m := s.m.set (Wd.maskV W (vlV W s i.a + vlV W s i.b)).toNat (s.reg i.d), pc := s.pc + 1 }, [⟨2, Wd.maskV W (vlV W s i.a + vlV W s i.b)⟩], 0) else (s, [], 2))
  else if i.kind = 5 then (if Wd.doV W i.op (vlV W s i.a) (vlV W s i.b) = 0 then (s.go (s.pc + 1), [⟨3, s.pc + 1⟩], 0) else (s.go i.tg, [⟨3, i.tg⟩], 0))
  else if i.kind = 6 then (s.go i.tg, [], 0)
  else if i.kind = 7 then (s.go (if len < vlV W s i.a then len else vlV W s i.a), [⟨3, if len < vlV W s i.a then len else vlV W s i.a⟩], 0)
  else if i.kind = 8 then (if 4 ≤ s.st.length then (s, [], 2) else ({ s with st := s.st ++ [s.pc + 1], pc := i.tg }, [], 0))
  else if i.kind = 9 then (if s.st.length = 0 then (s, [], 2) else ({ s with st := s.st.take (s.st.length - 1), pc := s.st.getD (s.st.length - 1) 0 }, [⟨3, s.st.getD (s.st.length - 1) 0⟩], 0))
  else if i.kind = 10 then (s.go (s.pc + 1), [], 0)
  else if i.kind = 11 then (s, [], 1)
  else (s, [], 2)
/-- a machine's cells, its rows its own -/
def mcO (p : Pg) (c : Int) (s : S8) (sn : List Ob) : List AV := mcA p c s (.own 2 0 1 0 s.m.length) (.own 3 0 1 0 s.st.length) (.own 4 0 2 0 sn.length)
def runS (p : Pg) (c : Int) (s : S8) (sn : List Ob) (n done e : Int) : Sm := ⟨[(2, .int .i64 n), (6, .bptr 0 0), (10, .bptr 1 0), (11, .int .i64 done), (12, .int .i64 e)],
  [(0, bx 31 (stZ .nils)), (1, bx 79 (mcO p c s sn)), (2, blkI s.m), (3, blkI s.st), (4, obB sn)], 5⟩
def frS8b0 (s : S8) (sn : List Ob) (n : Int) (done : Int) (Z : Prop) : Prop := (List.length (S8.st s) = List.length (S8.st s)) ∧ (∀ (i : Nat), i < List.length (S8.st s) → ∀ (j : Nat), j < (1 : Nat) → AV.int IntKind.i64 (List.getD (S8.st s) i (0 : Int)) = AV.int IntKind.i64 (List.getD (S8.st s) i (0 : Int))) ∧ (List.length sn = List.length sn) ∧ (∀ (i : Nat), i < List.length sn → ∀ (j : Nat), j < (2 : Nat) → rowL obC sn i j = rowL obC sn i j) ∧ (n = n) ∧ (done + (1 : Int) = done + (1 : Int)) ∧ ((0 : Int) = (0 : Int)) ∧ Z
theorem frS8b0_mk (s : S8) (sn : List Ob) (n : Int) (done : Int) {Z : Prop} (z : Z) : frS8b0 s sn n done Z := ⟨rfl, (fun _ _ _ _ => rfl), rfl, (fun _ _ _ _ => rfl), rfl, rfl, rfl, z⟩
def frS8b1 (s : S8) (sn : List Ob) (Z : Prop) : Prop := ((0 : Nat) = (0 : Nat)) ∧ (List.length (S8.m s) = List.length (S8.m s)) ∧ ((0 : Nat) = (0 : Nat)) ∧ (List.length (S8.st s) = List.length (S8.st s)) ∧ (S8.pc s + (1 : Int) = S8.pc s + (1 : Int)) ∧ ((0 : Nat) = (0 : Nat)) ∧ (List.length sn = List.length sn) ∧ (List.length (S8.m s) = List.length (S8.m s)) ∧ (∀ (i : Nat), i < List.length (S8.m s) → ∀ (j : Nat), j < (1 : Nat) → AV.int IntKind.i64 (List.getD (S8.m s) i (0 : Int)) = AV.int IntKind.i64 (List.getD (S8.m s) i (0 : Int))) ∧ Z
theorem frS8b1_mk (s : S8) (sn : List Ob) {Z : Prop} (z : Z) : frS8b1 s sn Z := ⟨rfl, rfl, rfl, rfl, rfl, rfl, rfl, rfl, (fun _ _ _ _ => rfl), z⟩
def frS8b2 (p : Pg) (Z : Prop) : Prop := (Pg.r1 p = Pg.r1 p) ∧ (Pg.r2 p = Pg.r2 p) ∧ (Pg.r3 p = Pg.r3 p) ∧ (List.length (Pg.ms p) = List.length (Pg.ms p)) ∧ (∀ (i : Nat), i < List.length (Pg.ms p) → ∀ (j : Nat), j < (3 : Nat) → rowL mmC (Pg.ms p) i j = rowL mmC (Pg.ms p) i j) ∧ (List.length (Pg.ls p) = List.length (Pg.ls p)) ∧ (∀ (i : Nat), i < List.length (Pg.ls p) → ∀ (j : Nat), j < (2 : Nat) → rowL lbC (Pg.ls p) i j = rowL lbC (Pg.ls p) i j) ∧ (List.length (Pg.is p) = List.length (Pg.is p)) ∧ (∀ (i : Nat), i < List.length (Pg.is p) → ∀ (j : Nat), j < (9 : Nat) → rowL inC (Pg.is p) i j = rowL inC (Pg.is p) i j) ∧ Z
theorem frS8b2_mk (p : Pg) {Z : Prop} (z : Z) : frS8b2 p Z := ⟨rfl, rfl, rfl, rfl, (fun _ _ _ _ => rfl), rfl, (fun _ _ _ _ => rfl), rfl, (fun _ _ _ _ => rfl), z⟩
def frS8b3 (p : Pg) (Z : Prop) : Prop := ((0 : Int) = (0 : Int)) ∧ ((0 : Int) = (0 : Int)) ∧ ((0 : Int) = (0 : Int)) ∧ ((0 : Int) = (0 : Int)) ∧ ((0 : Int) = (0 : Int)) ∧ (Pg.W p = Pg.W p) ∧ (Pg.win p = Pg.win p) ∧ (Pg.fuel p = Pg.fuel p) ∧ (Pg.r0 p = Pg.r0 p) ∧ Z
theorem frS8b3_mk (p : Pg) {Z : Prop} (z : Z) : frS8b3 p Z := ⟨rfl, rfl, rfl, rfl, rfl, rfl, rfl, rfl, rfl, z⟩
def frS8b4 (n : Int) (op : Int) (d : Int) (tg : Int) (a : Vl) (b : Vl) (nm : ByteArray) (Z : Prop) : Prop := (op = op) ∧ (d = d) ∧ (Vl.reg a = Vl.reg a) ∧ (Vl.n a = Vl.n a) ∧ (Vl.reg b = Vl.reg b) ∧ (Vl.n b = Vl.n b) ∧ (nm = nm) ∧ (tg = tg) ∧ Z
theorem frS8b4_mk (n : Int) (op : Int) (d : Int) (tg : Int) (a : Vl) (b : Vl) (nm : ByteArray) {Z : Prop} (z : Z) : frS8b4 n op d tg a b nm Z := ⟨rfl, rfl, rfl, rfl, rfl, rfl, rfl, rfl, z⟩
def frS8b5 (p : Pg) (c : Int) (s : S8) (Z : Prop) : Prop := (List.length (Pg.ls p) = List.length (Pg.ls p)) ∧ (∀ (i : Nat), i < List.length (Pg.ls p) → ∀ (j : Nat), j < (2 : Nat) → rowL lbC (Pg.ls p) i j = rowL lbC (Pg.ls p) i j) ∧ (List.length (Pg.is p) = List.length (Pg.is p)) ∧ (∀ (i : Nat), i < List.length (Pg.is p) → ∀ (j : Nat), j < (9 : Nat) → rowL inC (Pg.is p) i j = rowL inC (Pg.is p) i j) ∧ (c = c) ∧ (S8.r0 s = S8.r0 s) ∧ (S8.r1 s = S8.r1 s) ∧ (S8.r2 s = S8.r2 s) ∧ (S8.r3 s = S8.r3 s) ∧ Z
theorem frS8b5_mk (p : Pg) (c : Int) (s : S8) {Z : Prop} (z : Z) : frS8b5 p c s Z := ⟨rfl, (fun _ _ _ _ => rfl), rfl, (fun _ _ _ _ => rfl), rfl, rfl, rfl, rfl, rfl, z⟩
def frS8b6 (p : Pg) (Z : Prop) : Prop := (Pg.W p = Pg.W p) ∧ (Pg.win p = Pg.win p) ∧ (Pg.fuel p = Pg.fuel p) ∧ (Pg.r0 p = Pg.r0 p) ∧ (Pg.r1 p = Pg.r1 p) ∧ (Pg.r2 p = Pg.r2 p) ∧ (Pg.r3 p = Pg.r3 p) ∧ (List.length (Pg.ms p) = List.length (Pg.ms p)) ∧ (∀ (i : Nat), i < List.length (Pg.ms p) → ∀ (j : Nat), j < (3 : Nat) → rowL mmC (Pg.ms p) i j = rowL mmC (Pg.ms p) i j) ∧ Z
theorem frS8b6_mk (p : Pg) {Z : Prop} (z : Z) : frS8b6 p Z := ⟨rfl, rfl, rfl, rfl, rfl, rfl, rfl, rfl, (fun _ _ _ _ => rfl), z⟩
def frS8b7 (p : Pg) (s : S8) (Z : Prop) : Prop := (List.length (Pg.ls p) = List.length (Pg.ls p)) ∧ (∀ (i : Nat), i < List.length (Pg.ls p) → ∀ (j : Nat), j < (2 : Nat) → rowL lbC (Pg.ls p) i j = rowL lbC (Pg.ls p) i j) ∧ (List.length (Pg.is p) = List.length (Pg.is p)) ∧ (∀ (i : Nat), i < List.length (Pg.is p) → ∀ (j : Nat), j < (9 : Nat) → rowL inC (Pg.is p) i j = rowL inC (Pg.is p) i j) ∧ (S8.pc s = S8.pc s) ∧ Z
theorem frS8b7_mk (p : Pg) (s : S8) {Z : Prop} (z : Z) : frS8b7 p s Z := ⟨rfl, (fun _ _ _ _ => rfl), rfl, (fun _ _ _ _ => rfl), rfl, z⟩
theorem st_alu (p : Pg) (c : Int) (s : S8) (sn : List Ob) (n done : Int) (op d tg : Int) (a b : Vl) (nm : ByteArray) (hn : done < n) (hn2 : n < 1000000) (hd0 : 0 ≤ done) (hp0 : -1 ≤ s.pc) (hp1 : s.pc < 1000000) (hA : PureC Try.prog 23 [.agg (pgA p), .int .i64 s.pc] (.agg (inA (⟨1, op, d, a, b, nm, tg⟩ : In))) []) (h0 : 0 ≤ d) (h1 : d < 4) (ha : okV a) (hb : okV b) : Vc (vcC Try.prog false (ntOf Try.prog 19) (lpC Try.prog 19 0) (runS p c s sn n done 0) [.b true, .b true, .b true, .inl, .cl [.agg (pgA p), .int .i64 s.pc] (.agg (inA (⟨1, op, d, a, b, nm, tg⟩ : In))) [], .fz, .cp [(mcP p c s .junk .junk .junk), .agg (inA (⟨1, op, d, a, b, nm, tg⟩ : In))] (.int .i64 (Wd.doV p.W op (vlV p.W s a) (vlV p.W s b))), .b true, .b true, .b true, .b true, .iz, .sv (mcO p c (s.set d (Wd.doV p.W op (vlV p.W s a) (vlV p.W s b))) sn)] .nrm [(0, 0), (1, 1), (2, 2), (3, 3), (4, 4)] (runS p c ((s.set d (Wd.doV p.W op (vlV p.W s a) (vlV p.W s b))).go (s.pc + 1)) sn n (done + 1) 0)) :=
  vc_of (q := (decide (done < n) = true) ∧ (decide (done < n) = true) ∧ (decide (done < n) = true) ∧ (frS8b6 p ((frS8b7 p s ((PureC Try.prog 23 [.agg (pgA p), .int .i64 s.pc] (.agg (inA (⟨1, op, d, a, b, nm, tg⟩ : In))) []) ∧ (frS8b6 p ((frS8b5 p c s ((S8.pc s = S8.pc s) ∧ ((1 : Int) = (1 : Int)) ∧ (frS8b4 n op d tg a b nm ((PureC Try.prog 73 [(mcP p c s .junk .junk .junk), .agg (inA (⟨1, op, d, a, b, nm, tg⟩ : In))] (.int .i64 (Wd.doV p.W op (vlV p.W s a) (vlV p.W s b))) []) ∧ (decide ((0 : Int) ≤ d) = true) ∧ (decide ((0 : Int) ≤ d) = true) ∧ (decide ((0 : Int) ≤ d) = true) ∧ (decide (d < (4 : Int)) = true) ∧ ((0 : Int) ≤ d ∧ d < (↑(4 : Nat) : Int)) ∧ ((11 : Nat) + Int.toNat d * (1 : Nat) + (1 : Nat) ≤ (19 : Nat)) ∧ (setR [AV.int IntKind.i64 (Pg.W p), AV.int IntKind.i64 (Pg.win p), AV.int IntKind.i64 (Pg.fuel p), AV.int IntKind.i64 (Pg.r0 p), AV.int IntKind.i64 (Pg.r1 p), AV.int IntKind.i64 (Pg.r2 p), AV.int IntKind.i64 (Pg.r3 p), AV.row (nat_lit 3) (List.length (Pg.ms p)) fun (a a_1 : Nat) => rowL mmC (Pg.ms p) a a_1, AV.row (nat_lit 2) (List.length (Pg.ls p)) fun (a a_1 : Nat) => rowL lbC (Pg.ls p) a a_1, AV.row (nat_lit 9) (List.length (Pg.is p)) fun (a a_1 : Nat) => rowL inC (Pg.is p) a a_1, AV.int IntKind.i64 c, AV.int IntKind.i64 (S8.r0 s), AV.int IntKind.i64 (S8.r1 s), AV.int IntKind.i64 (S8.r2 s), AV.int IntKind.i64 (S8.r3 s), AV.own (nat_lit 2) (nat_lit 0) (nat_lit 1) (nat_lit 0) (List.length (S8.m s)), AV.own (nat_lit 3) (nat_lit 0) (nat_lit 1) (nat_lit 0) (List.length (S8.st s)), AV.int IntKind.i64 (S8.pc s), AV.own (nat_lit 4) (nat_lit 0) (nat_lit 2) (nat_lit 0) (List.length sn)] ((11 : Nat) + Int.toNat d * (1 : Nat)) [AV.int IntKind.i64 (Wd.doV (Pg.W p) op (vlV (Pg.W p) s a) (vlV (Pg.W p) s b))] = [AV.int IntKind.i64 (Pg.W p), AV.int IntKind.i64 (Pg.win p), AV.int IntKind.i64 (Pg.fuel p), AV.int IntKind.i64 (Pg.r0 p), AV.int IntKind.i64 (Pg.r1 p), AV.int IntKind.i64 (Pg.r2 p), AV.int IntKind.i64 (Pg.r3 p), AV.row (nat_lit 3) (List.length (Pg.ms p)) fun (a a_1 : Nat) => rowL mmC (Pg.ms p) a a_1, AV.row (nat_lit 2) (List.length (Pg.ls p)) fun (a a_1 : Nat) => rowL lbC (Pg.ls p) a a_1, AV.row (nat_lit 9) (List.length (Pg.is p)) fun (a a_1 : Nat) => rowL inC (Pg.is p) a a_1, AV.int IntKind.i64 c, AV.int IntKind.i64 (if d = (0 : Int) then Wd.doV (Pg.W p) op (vlV (Pg.W p) s a) (vlV (Pg.W p) s b) else S8.r0 s), AV.int IntKind.i64 (if d = (1 : Int) then Wd.doV (Pg.W p) op (vlV (Pg.W p) s a) (vlV (Pg.W p) s b) else S8.r1 s), AV.int IntKind.i64 (if d = (2 : Int) then Wd.doV (Pg.W p) op (vlV (Pg.W p) s a) (vlV (Pg.W p) s b) else S8.r2 s), AV.int IntKind.i64 (if d = (3 : Int) then Wd.doV (Pg.W p) op (vlV (Pg.W p) s a) (vlV (Pg.W p) s b) else S8.r3 s), AV.own (nat_lit 2) (nat_lit 0) (nat_lit 1) (nat_lit 0) (List.length (S8.m s)), AV.own (nat_lit 3) (nat_lit 0) (nat_lit 1) (nat_lit 0) (List.length (S8.st s)), AV.int IntKind.i64 (S8.pc s), AV.own (nat_lit 4) (nat_lit 0) (nat_lit 2) (nat_lit 0) (List.length sn)]) ∧ (inK IntKind.i64 (S8.pc s + (1 : Int))) ∧ (inK IntKind.i64 (done + (1 : Int))) ∧ (frS8b3 p ((frS8b2 p ((c = c) ∧ ((if d = (0 : Int) then Wd.doV (Pg.W p) op (vlV (Pg.W p) s a) (vlV (Pg.W p) s b) else S8.r0 s) = if d = (0 : Int) then Wd.doV (Pg.W p) op (vlV (Pg.W p) s a) (vlV (Pg.W p) s b) else S8.r0 s) ∧ ((if d = (1 : Int) then Wd.doV (Pg.W p) op (vlV (Pg.W p) s a) (vlV (Pg.W p) s b) else S8.r1 s) = if d = (1 : Int) then Wd.doV (Pg.W p) op (vlV (Pg.W p) s a) (vlV (Pg.W p) s b) else S8.r1 s) ∧ ((if d = (2 : Int) then Wd.doV (Pg.W p) op (vlV (Pg.W p) s a) (vlV (Pg.W p) s b) else S8.r2 s) = if d = (2 : Int) then Wd.doV (Pg.W p) op (vlV (Pg.W p) s a) (vlV (Pg.W p) s b) else S8.r2 s) ∧ ((if d = (3 : Int) then Wd.doV (Pg.W p) op (vlV (Pg.W p) s a) (vlV (Pg.W p) s b) else S8.r3 s) = if d = (3 : Int) then Wd.doV (Pg.W p) op (vlV (Pg.W p) s a) (vlV (Pg.W p) s b) else S8.r3 s) ∧ (frS8b1 s sn ((frS8b0 s sn n done (True))))))))))))))))))) (by kernel_rfl)
    ⟨(decide_eq_true (by first | omega | (simp; omega) | (simp; done))),
 (decide_eq_true (by first | omega | (simp; omega) | (simp; done))),
 (decide_eq_true (by first | omega | (simp; omega) | (simp; done))), (frS8b6_mk p (frS8b7_mk p s ⟨hA, (frS8b6_mk p (frS8b5_mk p c s ⟨rfl,
 rfl, (frS8b4_mk n op d tg a b nm ⟨mdoC p c s (⟨1, op, d, a, b, nm, tg⟩ : In) ha hb,
 (decide_eq_true (by first | omega | (simp; omega) | (simp; done))),
 (decide_eq_true (by first | omega | (simp; omega) | (simp; done))),
 (decide_eq_true (by first | omega | (simp; omega) | (simp; done))),
 (decide_eq_true (by first | omega | (simp; omega) | (simp; done))),
 (by first | omega | rfl),
 (by first | omega | rfl),
 (by rcases four h0 h1 with rfl | rfl | rfl | rfl <;> rfl),
 (in64 (by omega) (by omega)),
 (in64 (by omega) (by omega)), (frS8b3_mk p (frS8b2_mk p ⟨rfl,
 (by first | omega | rfl | (simp; done) | (simp; omega)),
 (by first | omega | rfl | (simp; done) | (simp; omega)),
 (by first | omega | rfl | (simp; done) | (simp; omega)),
 (by first | omega | rfl | (simp; done) | (simp; omega)), (frS8b1_mk s sn (frS8b0_mk s sn n done trivial))⟩))⟩)⟩))⟩))⟩
def frS8b8 (s : S8) (sn : List Ob) (Z : Prop) : Prop := (S8.pc s + (1 : Int) = S8.pc s + (1 : Int)) ∧ ((0 : Nat) = (0 : Nat)) ∧ (List.length sn = List.length sn) ∧ (List.length (S8.m s) = List.length (S8.m s)) ∧ (∀ (i : Nat), i < List.length (S8.m s) → ∀ (j : Nat), j < (1 : Nat) → AV.int IntKind.i64 (List.getD (S8.m s) i (0 : Int)) = AV.int IntKind.i64 (List.getD (S8.m s) i (0 : Int))) ∧ (List.length (S8.st s) = List.length (S8.st s)) ∧ (∀ (i : Nat), i < List.length (S8.st s) → ∀ (j : Nat), j < (1 : Nat) → AV.int IntKind.i64 (List.getD (S8.st s) i (0 : Int)) = AV.int IntKind.i64 (List.getD (S8.st s) i (0 : Int))) ∧ (List.length sn = List.length sn) ∧ (∀ (i : Nat), i < List.length sn → ∀ (j : Nat), j < (2 : Nat) → rowL obC sn i j = rowL obC sn i j) ∧ Z
theorem frS8b8_mk (s : S8) (sn : List Ob) {Z : Prop} (z : Z) : frS8b8 s sn Z := ⟨rfl, rfl, rfl, rfl, (fun _ _ _ _ => rfl), rfl, (fun _ _ _ _ => rfl), rfl, (fun _ _ _ _ => rfl), z⟩
def frS8b9 (c : Int) (s : S8) (Z : Prop) : Prop := (c = c) ∧ (S8.r0 s = S8.r0 s) ∧ (S8.r1 s = S8.r1 s) ∧ (S8.r2 s = S8.r2 s) ∧ (S8.r3 s = S8.r3 s) ∧ ((0 : Nat) = (0 : Nat)) ∧ (List.length (S8.m s) = List.length (S8.m s)) ∧ ((0 : Nat) = (0 : Nat)) ∧ (List.length (S8.st s) = List.length (S8.st s)) ∧ Z
theorem frS8b9_mk (c : Int) (s : S8) {Z : Prop} (z : Z) : frS8b9 c s Z := ⟨rfl, rfl, rfl, rfl, rfl, rfl, rfl, rfl, rfl, z⟩
theorem st_cmov0 (p : Pg) (c : Int) (s : S8) (sn : List Ob) (n done : Int) (op d tg : Int) (a b : Vl) (nm : ByteArray) (hn : done < n) (hn2 : n < 1000000) (hd0 : 0 ≤ done) (hp0 : -1 ≤ s.pc) (hp1 : s.pc < 1000000) (hA : PureC Try.prog 23 [.agg (pgA p), .int .i64 s.pc] (.agg (inA (⟨4, op, d, a, b, nm, tg⟩ : In))) []) (ha : okV a) (hz : (vlV p.W s a) = 0) : Vc (vcC Try.prog false (ntOf Try.prog 19) (lpC Try.prog 19 0) (runS p c s sn n done 0) [.b true, .b true, .b true, .inl, .cl [.agg (pgA p), .int .i64 s.pc] (.agg (inA (⟨4, op, d, a, b, nm, tg⟩ : In))) [], .inl, .fz, .cp [(mcP p c s .junk .junk .junk), .agg (vlA a)] (.int .i64 (vlV p.W s a)), .b false] .nrm [(0, 0), (1, 1), (2, 2), (3, 3), (4, 4)] (runS p c (s.go (s.pc + 1)) sn n (done + 1) 0)) :=
  vc_of (q := (decide (done < n) = true) ∧ (decide (done < n) = true) ∧ (decide (done < n) = true) ∧ (frS8b6 p ((frS8b7 p s ((PureC Try.prog 23 [.agg (pgA p), .int .i64 s.pc] (.agg (inA (⟨4, op, d, a, b, nm, tg⟩ : In))) []) ∧ (frS8b6 p ((frS8b5 p c s ((S8.pc s = S8.pc s) ∧ (Vl.reg a = Vl.reg a) ∧ (Vl.n a = Vl.n a) ∧ (PureC Try.prog 62 [(mcP p c s .junk .junk .junk), .agg (vlA a)] (.int .i64 (vlV p.W s a)) []) ∧ ((vlV (Pg.W p) s a != (0 : Int)) = false) ∧ (inK IntKind.i64 (S8.pc s + (1 : Int))) ∧ (inK IntKind.i64 (done + (1 : Int))) ∧ (frS8b3 p ((frS8b2 p ((frS8b9 c s ((frS8b8 s sn ((n = n) ∧ (done + (1 : Int) = done + (1 : Int)) ∧ ((0 : Int) = (0 : Int)) ∧ True))))))))))))))))) (by kernel_rfl)
    ⟨(decide_eq_true (by first | omega | (simp; omega) | (simp; done))),
 (decide_eq_true (by first | omega | (simp; omega) | (simp; done))),
 (decide_eq_true (by first | omega | (simp; omega) | (simp; done))), (frS8b6_mk p (frS8b7_mk p s ⟨hA, (frS8b6_mk p (frS8b5_mk p c s ⟨rfl,
 rfl,
 rfl,
 valC p c s a ha,
 (by rw [hz]; rfl),
 (in64 (by omega) (by omega)),
 (in64 (by omega) (by omega)), (frS8b3_mk p (frS8b2_mk p (frS8b9_mk c s (frS8b8_mk s sn ⟨rfl,
 rfl,
 rfl, trivial⟩))))⟩))⟩))⟩
theorem st_cmov1 (p : Pg) (c : Int) (s : S8) (sn : List Ob) (n done : Int) (op d tg : Int) (a b : Vl) (nm : ByteArray) (hn : done < n) (hn2 : n < 1000000) (hd0 : 0 ≤ done) (hp0 : -1 ≤ s.pc) (hp1 : s.pc < 1000000) (hA : PureC Try.prog 23 [.agg (pgA p), .int .i64 s.pc] (.agg (inA (⟨4, op, d, a, b, nm, tg⟩ : In))) []) (ha : okV a) (hb : okV b) (hz : ¬ (vlV p.W s a) = 0) (h0 : 0 ≤ d) (h1 : d < 4) : Vc (vcC Try.prog false (ntOf Try.prog 19) (lpC Try.prog 19 0) (runS p c s sn n done 0) [.b true, .b true, .b true, .inl, .cl [.agg (pgA p), .int .i64 s.pc] (.agg (inA (⟨4, op, d, a, b, nm, tg⟩ : In))) [], .inl, .fz, .cp [(mcP p c s .junk .junk .junk), .agg (vlA a)] (.int .i64 (vlV p.W s a)), .b true, .cp [(mcP p c s .junk .junk .junk), .agg (vlA b)] (.int .i64 (vlV p.W s b)), .b true, .b true, .b true, .b true, .iz, .sv (mcO p c (s.set d (vlV p.W s b)) sn)] .nrm [(0, 0), (1, 1), (2, 2), (3, 3), (4, 4)] (runS p c ((s.set d (vlV p.W s b)).go (s.pc + 1)) sn n (done + 1) 0)) :=
  vc_of (q := (decide (done < n) = true) ∧ (decide (done < n) = true) ∧ (decide (done < n) = true) ∧ (frS8b6 p ((frS8b7 p s ((PureC Try.prog 23 [.agg (pgA p), .int .i64 s.pc] (.agg (inA (⟨4, op, d, a, b, nm, tg⟩ : In))) []) ∧ (frS8b6 p ((frS8b5 p c s ((S8.pc s = S8.pc s) ∧ (Vl.reg a = Vl.reg a) ∧ (Vl.n a = Vl.n a) ∧ (PureC Try.prog 62 [(mcP p c s .junk .junk .junk), .agg (vlA a)] (.int .i64 (vlV p.W s a)) []) ∧ ((vlV (Pg.W p) s a != (0 : Int)) = true) ∧ (frS8b6 p ((frS8b5 p c s ((S8.pc s = S8.pc s) ∧ (Vl.reg b = Vl.reg b) ∧ (Vl.n b = Vl.n b) ∧ (PureC Try.prog 62 [(mcP p c s .junk .junk .junk), .agg (vlA b)] (.int .i64 (vlV p.W s b)) []) ∧ (decide ((0 : Int) ≤ d) = true) ∧ (decide ((0 : Int) ≤ d) = true) ∧ (decide ((0 : Int) ≤ d) = true) ∧ (decide (d < (4 : Int)) = true) ∧ ((0 : Int) ≤ d ∧ d < (↑(4 : Nat) : Int)) ∧ ((11 : Nat) + Int.toNat d * (1 : Nat) + (1 : Nat) ≤ (19 : Nat)) ∧ (setR [AV.int IntKind.i64 (Pg.W p), AV.int IntKind.i64 (Pg.win p), AV.int IntKind.i64 (Pg.fuel p), AV.int IntKind.i64 (Pg.r0 p), AV.int IntKind.i64 (Pg.r1 p), AV.int IntKind.i64 (Pg.r2 p), AV.int IntKind.i64 (Pg.r3 p), AV.row (nat_lit 3) (List.length (Pg.ms p)) fun (a a_1 : Nat) => rowL mmC (Pg.ms p) a a_1, AV.row (nat_lit 2) (List.length (Pg.ls p)) fun (a a_1 : Nat) => rowL lbC (Pg.ls p) a a_1, AV.row (nat_lit 9) (List.length (Pg.is p)) fun (a a_1 : Nat) => rowL inC (Pg.is p) a a_1, AV.int IntKind.i64 c, AV.int IntKind.i64 (S8.r0 s), AV.int IntKind.i64 (S8.r1 s), AV.int IntKind.i64 (S8.r2 s), AV.int IntKind.i64 (S8.r3 s), AV.own (nat_lit 2) (nat_lit 0) (nat_lit 1) (nat_lit 0) (List.length (S8.m s)), AV.own (nat_lit 3) (nat_lit 0) (nat_lit 1) (nat_lit 0) (List.length (S8.st s)), AV.int IntKind.i64 (S8.pc s), AV.own (nat_lit 4) (nat_lit 0) (nat_lit 2) (nat_lit 0) (List.length sn)] ((11 : Nat) + Int.toNat d * (1 : Nat)) [AV.int IntKind.i64 (vlV (Pg.W p) s b)] = [AV.int IntKind.i64 (Pg.W p), AV.int IntKind.i64 (Pg.win p), AV.int IntKind.i64 (Pg.fuel p), AV.int IntKind.i64 (Pg.r0 p), AV.int IntKind.i64 (Pg.r1 p), AV.int IntKind.i64 (Pg.r2 p), AV.int IntKind.i64 (Pg.r3 p), AV.row (nat_lit 3) (List.length (Pg.ms p)) fun (a a_1 : Nat) => rowL mmC (Pg.ms p) a a_1, AV.row (nat_lit 2) (List.length (Pg.ls p)) fun (a a_1 : Nat) => rowL lbC (Pg.ls p) a a_1, AV.row (nat_lit 9) (List.length (Pg.is p)) fun (a a_1 : Nat) => rowL inC (Pg.is p) a a_1, AV.int IntKind.i64 c, AV.int IntKind.i64 (if d = (0 : Int) then vlV (Pg.W p) s b else S8.r0 s), AV.int IntKind.i64 (if d = (1 : Int) then vlV (Pg.W p) s b else S8.r1 s), AV.int IntKind.i64 (if d = (2 : Int) then vlV (Pg.W p) s b else S8.r2 s), AV.int IntKind.i64 (if d = (3 : Int) then vlV (Pg.W p) s b else S8.r3 s), AV.own (nat_lit 2) (nat_lit 0) (nat_lit 1) (nat_lit 0) (List.length (S8.m s)), AV.own (nat_lit 3) (nat_lit 0) (nat_lit 1) (nat_lit 0) (List.length (S8.st s)), AV.int IntKind.i64 (S8.pc s), AV.own (nat_lit 4) (nat_lit 0) (nat_lit 2) (nat_lit 0) (List.length sn)]) ∧ (inK IntKind.i64 (S8.pc s + (1 : Int))) ∧ (inK IntKind.i64 (done + (1 : Int))) ∧ (frS8b3 p ((frS8b2 p ((c = c) ∧ ((if d = (0 : Int) then vlV (Pg.W p) s b else S8.r0 s) = if d = (0 : Int) then vlV (Pg.W p) s b else S8.r0 s) ∧ ((if d = (1 : Int) then vlV (Pg.W p) s b else S8.r1 s) = if d = (1 : Int) then vlV (Pg.W p) s b else S8.r1 s) ∧ ((if d = (2 : Int) then vlV (Pg.W p) s b else S8.r2 s) = if d = (2 : Int) then vlV (Pg.W p) s b else S8.r2 s) ∧ ((if d = (3 : Int) then vlV (Pg.W p) s b else S8.r3 s) = if d = (3 : Int) then vlV (Pg.W p) s b else S8.r3 s) ∧ (frS8b1 s sn ((frS8b0 s sn n done (True))))))))))))))))))))) (by kernel_rfl)
    ⟨(decide_eq_true (by first | omega | (simp; omega) | (simp; done))),
 (decide_eq_true (by first | omega | (simp; omega) | (simp; done))),
 (decide_eq_true (by first | omega | (simp; omega) | (simp; done))), (frS8b6_mk p (frS8b7_mk p s ⟨hA, (frS8b6_mk p (frS8b5_mk p c s ⟨rfl,
 rfl,
 rfl,
 valC p c s a ha,
 (bne_iff_ne.2 hz), (frS8b6_mk p (frS8b5_mk p c s ⟨rfl,
 rfl,
 rfl,
 valC p c s b hb,
 (decide_eq_true (by first | omega | (simp; omega) | (simp; done))),
 (decide_eq_true (by first | omega | (simp; omega) | (simp; done))),
 (decide_eq_true (by first | omega | (simp; omega) | (simp; done))),
 (decide_eq_true (by first | omega | (simp; omega) | (simp; done))),
 (by first | omega | rfl),
 (by first | omega | rfl),
 (by rcases four h0 h1 with rfl | rfl | rfl | rfl <;> rfl),
 (in64 (by omega) (by omega)),
 (in64 (by omega) (by omega)), (frS8b3_mk p (frS8b2_mk p ⟨rfl,
 (by first | omega | rfl | (simp; done) | (simp; omega)),
 (by first | omega | rfl | (simp; done) | (simp; omega)),
 (by first | omega | rfl | (simp; done) | (simp; omega)),
 (by first | omega | rfl | (simp; done) | (simp; omega)), (frS8b1_mk s sn (frS8b0_mk s sn n done trivial))⟩))⟩))⟩))⟩))⟩
theorem snocI {l : List Int} {x : Int} : ∀ i, i < l.length + 1 → ∀ j, j < 1 → (bif Nat.blt i l.length then AV.int .i64 (l.getD i 0) else [AV.int .i64 x].getD ((i - l.length) * 1 + j) .junk) = .int .i64 ((l ++ [x]).getD i 0) := by
  intro i hi j hj
  obtain rfl : j = 0 := by omega
  by_cases h : i < l.length
  · have : Nat.blt i l.length = true := by rw [Nat.blt_eq]; exact h
    rw [this]
    simp [List.getD, List.getElem?_append_left h]
  · obtain rfl : i = l.length := by omega
    have : Nat.blt l.length l.length = false := by
      cases hb : Nat.blt l.length l.length with
      | false => rfl
      | true => rw [Nat.blt_eq] at hb; omega
    rw [this]
    simp [List.getD]
def frS8b10 (s : S8) (sn : List Ob) (Z : Prop) : Prop := (S8.pc s = S8.pc s) ∧ ((0 : Nat) = (0 : Nat)) ∧ (List.length sn = List.length sn) ∧ (List.length (S8.m s) = List.length (S8.m s)) ∧ (∀ (i : Nat), i < List.length (S8.m s) → ∀ (j : Nat), j < (1 : Nat) → AV.int IntKind.i64 (List.getD (S8.m s) i (0 : Int)) = AV.int IntKind.i64 (List.getD (S8.m s) i (0 : Int))) ∧ (List.length (S8.st s) = List.length (S8.st s)) ∧ (∀ (i : Nat), i < List.length (S8.st s) → ∀ (j : Nat), j < (1 : Nat) → AV.int IntKind.i64 (List.getD (S8.st s) i (0 : Int)) = AV.int IntKind.i64 (List.getD (S8.st s) i (0 : Int))) ∧ (List.length sn = List.length sn) ∧ (∀ (i : Nat), i < List.length sn → ∀ (j : Nat), j < (2 : Nat) → rowL obC sn i j = rowL obC sn i j) ∧ Z
theorem frS8b10_mk (s : S8) (sn : List Ob) {Z : Prop} (z : Z) : frS8b10 s sn Z := ⟨rfl, rfl, rfl, rfl, (fun _ _ _ _ => rfl), rfl, (fun _ _ _ _ => rfl), rfl, (fun _ _ _ _ => rfl), z⟩
def frS8b11 (s : S8) (n : Int) (op : Int) (d : Int) (a : Vl) (b : Vl) (nm : ByteArray) (Z : Prop) : Prop := (S8.pc s = S8.pc s) ∧ ((2 : Int) = (2 : Int)) ∧ (op = op) ∧ (d = d) ∧ (Vl.reg a = Vl.reg a) ∧ (Vl.n a = Vl.n a) ∧ (Vl.reg b = Vl.reg b) ∧ (Vl.n b = Vl.n b) ∧ (nm = nm) ∧ Z
theorem frS8b11_mk (s : S8) (n : Int) (op : Int) (d : Int) (a : Vl) (b : Vl) (nm : ByteArray) {Z : Prop} (z : Z) : frS8b11 s n op d a b nm Z := ⟨rfl, rfl, rfl, rfl, rfl, rfl, rfl, rfl, rfl, z⟩
theorem st_load0 (p : Pg) (c : Int) (s : S8) (sn : List Ob) (n done : Int) (op d tg : Int) (a b : Vl) (nm : ByteArray) (hn : done < n) (hn2 : n < 1000000) (hd0 : 0 ≤ done) (hp0 : -1 ≤ s.pc) (hp1 : s.pc < 1000000) (hA : PureC Try.prog 23 [.agg (pgA p), .int .i64 s.pc] (.agg (inA (⟨2, op, d, a, b, nm, tg⟩ : In))) []) (ha : okV a) (hb : okV b) (hc : c = s.m.length) (hs : okR s) (hx : ¬ (Wd.maskV p.W ((vlV p.W s a) + (vlV p.W s b))) < c) : Vc (vcC Try.prog false (ntOf Try.prog 19) (lpC Try.prog 19 0) (runS p c s sn n done 0) [.b true, .b true, .b true, .inl, .cl [.agg (pgA p), .int .i64 s.pc] (.agg (inA (⟨2, op, d, a, b, nm, tg⟩ : In))) [], .inl, .fz, .cp [(mcP p c s .junk .junk .junk), .agg (inA (⟨2, op, d, a, b, nm, tg⟩ : In))] (.tup [.int .i64 (Wd.maskV p.W ((vlV p.W s a) + (vlV p.W s b))), .bool (decide ((Wd.maskV p.W ((vlV p.W s a) + (vlV p.W s b))) < c))]), .b true] .nrm [(0, 0), (1, 1), (2, 2), (3, 3), (4, 4)] (runS p c s sn n (done + 1) 2)) :=
  vc_of (q := (decide (done < n) = true) ∧ (decide (done < n) = true) ∧ (decide (done < n) = true) ∧ (frS8b6 p ((frS8b7 p s ((PureC Try.prog 23 [.agg (pgA p), .int .i64 s.pc] (.agg (inA (⟨2, op, d, a, b, nm, tg⟩ : In))) []) ∧ (frS8b6 p ((frS8b5 p c s ((frS8b11 s n op d a b nm ((tg = tg) ∧ (PureC Try.prog 74 [(mcP p c s .junk .junk .junk), .agg (inA (⟨2, op, d, a, b, nm, tg⟩ : In))] (.tup [.int .i64 (Wd.maskV p.W ((vlV p.W s a) + (vlV p.W s b))), .bool (decide ((Wd.maskV p.W ((vlV p.W s a) + (vlV p.W s b))) < c))]) []) ∧ ((!decide (Wd.maskV (Pg.W p) (vlV (Pg.W p) s a + vlV (Pg.W p) s b) < c)) = true) ∧ (inK IntKind.i64 (done + (1 : Int))) ∧ (frS8b3 p ((frS8b2 p ((frS8b9 c s ((frS8b10 s sn ((n = n) ∧ (done + (1 : Int) = done + (1 : Int)) ∧ ((2 : Int) = (2 : Int)) ∧ True))))))))))))))))))) (by kernel_rfl)
    ⟨(decide_eq_true (by first | omega | (simp; omega) | (simp; done))),
 (decide_eq_true (by first | omega | (simp; omega) | (simp; done))),
 (decide_eq_true (by first | omega | (simp; omega) | (simp; done))), (frS8b6_mk p (frS8b7_mk p s ⟨hA, (frS8b6_mk p (frS8b5_mk p c s (frS8b11_mk s n op d a b nm ⟨rfl,
 madrC p c s (⟨2, op, d, a, b, nm, tg⟩ : In) ha hb hs,
 (by rw [decide_eq_false hx]; rfl),
 (in64 (by omega) (by omega)), (frS8b3_mk p (frS8b2_mk p (frS8b9_mk c s (frS8b10_mk s sn ⟨rfl,
 rfl,
 rfl, trivial⟩))))⟩)))⟩))⟩
theorem st_store0 (p : Pg) (c : Int) (s : S8) (sn : List Ob) (n done : Int) (op d tg : Int) (a b : Vl) (nm : ByteArray) (hn : done < n) (hn2 : n < 1000000) (hd0 : 0 ≤ done) (hp0 : -1 ≤ s.pc) (hp1 : s.pc < 1000000) (hA : PureC Try.prog 23 [.agg (pgA p), .int .i64 s.pc] (.agg (inA (⟨3, op, d, a, b, nm, tg⟩ : In))) []) (ha : okV a) (hb : okV b) (hc : c = s.m.length) (hs : okR s) (hx : ¬ (Wd.maskV p.W ((vlV p.W s a) + (vlV p.W s b))) < c) : Vc (vcC Try.prog false (ntOf Try.prog 19) (lpC Try.prog 19 0) (runS p c s sn n done 0) [.b true, .b true, .b true, .inl, .cl [.agg (pgA p), .int .i64 s.pc] (.agg (inA (⟨3, op, d, a, b, nm, tg⟩ : In))) [], .inl, .fz, .cp [(mcP p c s .junk .junk .junk), .agg (inA (⟨3, op, d, a, b, nm, tg⟩ : In))] (.tup [.int .i64 (Wd.maskV p.W ((vlV p.W s a) + (vlV p.W s b))), .bool (decide ((Wd.maskV p.W ((vlV p.W s a) + (vlV p.W s b))) < c))]), .b true] .nrm [(0, 0), (1, 1), (2, 2), (3, 3), (4, 4)] (runS p c s sn n (done + 1) 2)) :=
  vc_of (q := (decide (done < n) = true) ∧ (decide (done < n) = true) ∧ (decide (done < n) = true) ∧ (frS8b6 p ((frS8b7 p s ((PureC Try.prog 23 [.agg (pgA p), .int .i64 s.pc] (.agg (inA (⟨3, op, d, a, b, nm, tg⟩ : In))) []) ∧ (frS8b6 p ((frS8b5 p c s ((S8.pc s = S8.pc s) ∧ ((3 : Int) = (3 : Int)) ∧ (frS8b4 n op d tg a b nm ((PureC Try.prog 74 [(mcP p c s .junk .junk .junk), .agg (inA (⟨3, op, d, a, b, nm, tg⟩ : In))] (.tup [.int .i64 (Wd.maskV p.W ((vlV p.W s a) + (vlV p.W s b))), .bool (decide ((Wd.maskV p.W ((vlV p.W s a) + (vlV p.W s b))) < c))]) []) ∧ ((!decide (Wd.maskV (Pg.W p) (vlV (Pg.W p) s a + vlV (Pg.W p) s b) < c)) = true) ∧ (inK IntKind.i64 (done + (1 : Int))) ∧ (frS8b3 p ((frS8b2 p ((frS8b9 c s ((frS8b10 s sn ((n = n) ∧ (done + (1 : Int) = done + (1 : Int)) ∧ ((2 : Int) = (2 : Int)) ∧ True))))))))))))))))))) (by kernel_rfl)
    ⟨(decide_eq_true (by first | omega | (simp; omega) | (simp; done))),
 (decide_eq_true (by first | omega | (simp; omega) | (simp; done))),
 (decide_eq_true (by first | omega | (simp; omega) | (simp; done))), (frS8b6_mk p (frS8b7_mk p s ⟨hA, (frS8b6_mk p (frS8b5_mk p c s ⟨rfl,
 rfl, (frS8b4_mk n op d tg a b nm ⟨madrC p c s (⟨3, op, d, a, b, nm, tg⟩ : In) ha hb hs,
 (by rw [decide_eq_false hx]; rfl),
 (in64 (by omega) (by omega)), (frS8b3_mk p (frS8b2_mk p (frS8b9_mk c s (frS8b10_mk s sn ⟨rfl,
 rfl,
 rfl, trivial⟩))))⟩)⟩))⟩))⟩
def frS8b12 (s : S8) (Z : Prop) : Prop := (List.length (S8.m s) = List.length (S8.m s)) ∧ (∀ (i : Nat), i < List.length (S8.m s) → ∀ (j : Nat), j < (1 : Nat) → AV.int IntKind.i64 (List.getD (S8.m s) i (0 : Int)) = AV.int IntKind.i64 (List.getD (S8.m s) i (0 : Int))) ∧ (List.length (S8.st s) = List.length (S8.st s)) ∧ (∀ (i : Nat), i < List.length (S8.st s) → ∀ (j : Nat), j < (1 : Nat) → AV.int IntKind.i64 (List.getD (S8.st s) i (0 : Int)) = AV.int IntKind.i64 (List.getD (S8.st s) i (0 : Int))) ∧ Z
theorem frS8b12_mk (s : S8) {Z : Prop} (z : Z) : frS8b12 s Z := ⟨rfl, (fun _ _ _ _ => rfl), rfl, (fun _ _ _ _ => rfl), z⟩
theorem st_load1 (p : Pg) (c : Int) (s : S8) (sn : List Ob) (n done : Int) (op d tg : Int) (a b : Vl) (nm : ByteArray) (hn : done < n) (hn2 : n < 1000000) (hd0 : 0 ≤ done) (hp0 : -1 ≤ s.pc) (hp1 : s.pc < 1000000) (hA : PureC Try.prog 23 [.agg (pgA p), .int .i64 s.pc] (.agg (inA (⟨2, op, d, a, b, nm, tg⟩ : In))) []) (ha : okV a) (hb : okV b) (hc : c = s.m.length) (hs : okR s) (h0 : 0 ≤ d) (h1 : d < 4) (hx : (Wd.maskV p.W ((vlV p.W s a) + (vlV p.W s b))) < c) (hl : sn.length < 1000000) : Vc (vcC Try.prog false (ntOf Try.prog 19) (lpC Try.prog 19 0) (runS p c s sn n done 0) [.b true, .b true, .b true, .inl, .cl [.agg (pgA p), .int .i64 s.pc] (.agg (inA (⟨2, op, d, a, b, nm, tg⟩ : In))) [], .inl, .fz, .cp [(mcP p c s .junk .junk .junk), .agg (inA (⟨2, op, d, a, b, nm, tg⟩ : In))] (.tup [.int .i64 (Wd.maskV p.W ((vlV p.W s a) + (vlV p.W s b))), .bool (decide ((Wd.maskV p.W ((vlV p.W s a) + (vlV p.W s b))) < c))]), .b false, .inl, .cp [(mcP p c s (.row 1 s.m.length (rowI s.m)) .junk .junk), .int .i64 (Wd.maskV p.W ((vlV p.W s a) + (vlV p.W s b)))] (.int .i64 (s.m.getD (Wd.maskV p.W ((vlV p.W s a) + (vlV p.W s b))).toNat 0)), .b true, .b true, .b true, .b true, .iz, .sv (mcA p c (s.set d (s.m.getD (Wd.maskV p.W ((vlV p.W s a) + (vlV p.W s b))).toNat 0)) (.own 2 0 1 0 s.m.length) (.own 3 0 1 0 s.st.length) (.own 4 1 2 0 (sn.length + 1)))] .nrm [(0, 0), (1, 1), (2, 2), (3, 3), (4, 4)] (runS p c ((s.set d (s.m.getD (Wd.maskV p.W ((vlV p.W s a) + (vlV p.W s b))).toNat 0)).go (s.pc + 1)) (sn ++ [⟨1, (Wd.maskV p.W ((vlV p.W s a) + (vlV p.W s b)))⟩]) n (done + 1) 0)) :=
  vc_of (q := (decide (done < n) = true) ∧ (decide (done < n) = true) ∧ (decide (done < n) = true) ∧ (frS8b6 p ((frS8b7 p s ((PureC Try.prog 23 [.agg (pgA p), .int .i64 s.pc] (.agg (inA (⟨2, op, d, a, b, nm, tg⟩ : In))) []) ∧ (frS8b6 p ((frS8b5 p c s ((frS8b11 s n op d a b nm ((tg = tg) ∧ (PureC Try.prog 74 [(mcP p c s .junk .junk .junk), .agg (inA (⟨2, op, d, a, b, nm, tg⟩ : In))] (.tup [.int .i64 (Wd.maskV p.W ((vlV p.W s a) + (vlV p.W s b))), .bool (decide ((Wd.maskV p.W ((vlV p.W s a) + (vlV p.W s b))) < c))]) []) ∧ ((!decide (Wd.maskV (Pg.W p) (vlV (Pg.W p) s a + vlV (Pg.W p) s b) < c)) = false) ∧ ((0 : Nat) = (0 : Nat) ∧ List.length sn = List.length sn ∧ (List.length sn + (1 : Nat)) * (16 : Nat) ≤ (140737488355328 : Nat) ∧ List.length sn + (1 : Nat) ≤ (140737488355328 : Nat)) ∧ (frS8b6 p ((frS8b5 p c s ((List.length (S8.m s) = List.length (S8.m s)) ∧ (∀ (i : Nat), i < List.length (S8.m s) → ∀ (j : Nat), j < (1 : Nat) → AV.int IntKind.i64 (List.getD (S8.m s) (i + (0 : Nat)) (0 : Int)) = AV.int IntKind.i64 (List.getD (S8.m s) i (0 : Int))) ∧ (S8.pc s = S8.pc s) ∧ (Wd.maskV (Pg.W p) (vlV (Pg.W p) s a + vlV (Pg.W p) s b) = Wd.maskV (Pg.W p) (vlV (Pg.W p) s a + vlV (Pg.W p) s b)) ∧ (PureC Try.prog 76 [(mcP p c s (.row 1 s.m.length (rowI s.m)) .junk .junk), .int .i64 (Wd.maskV p.W ((vlV p.W s a) + (vlV p.W s b)))] (.int .i64 (s.m.getD (Wd.maskV p.W ((vlV p.W s a) + (vlV p.W s b))).toNat 0)) []) ∧ (decide ((0 : Int) ≤ d) = true) ∧ (decide ((0 : Int) ≤ d) = true) ∧ (decide ((0 : Int) ≤ d) = true) ∧ (decide (d < (4 : Int)) = true) ∧ ((0 : Int) ≤ d ∧ d < (↑(4 : Nat) : Int)) ∧ ((11 : Nat) + Int.toNat d * (1 : Nat) + (1 : Nat) ≤ (19 : Nat)) ∧ (setR [AV.int IntKind.i64 (Pg.W p), AV.int IntKind.i64 (Pg.win p), AV.int IntKind.i64 (Pg.fuel p), AV.int IntKind.i64 (Pg.r0 p), AV.int IntKind.i64 (Pg.r1 p), AV.int IntKind.i64 (Pg.r2 p), AV.int IntKind.i64 (Pg.r3 p), AV.row (nat_lit 3) (List.length (Pg.ms p)) fun (a a_1 : Nat) => rowL mmC (Pg.ms p) a a_1, AV.row (nat_lit 2) (List.length (Pg.ls p)) fun (a a_1 : Nat) => rowL lbC (Pg.ls p) a a_1, AV.row (nat_lit 9) (List.length (Pg.is p)) fun (a a_1 : Nat) => rowL inC (Pg.is p) a a_1, AV.int IntKind.i64 c, AV.int IntKind.i64 (S8.r0 s), AV.int IntKind.i64 (S8.r1 s), AV.int IntKind.i64 (S8.r2 s), AV.int IntKind.i64 (S8.r3 s), AV.own (nat_lit 2) (nat_lit 0) (nat_lit 1) (nat_lit 0) (List.length (S8.m s)), AV.own (nat_lit 3) (nat_lit 0) (nat_lit 1) (nat_lit 0) (List.length (S8.st s)), AV.int IntKind.i64 (S8.pc s), AV.own (nat_lit 4) (nat_lit 1) (nat_lit 2) (nat_lit 0) (List.length sn + (1 : Nat))] ((11 : Nat) + Int.toNat d * (1 : Nat)) [AV.int IntKind.i64 (List.getD (S8.m s) (Int.toNat (Wd.maskV (Pg.W p) (vlV (Pg.W p) s a + vlV (Pg.W p) s b))) (0 : Int))] = [AV.int IntKind.i64 (Pg.W p), AV.int IntKind.i64 (Pg.win p), AV.int IntKind.i64 (Pg.fuel p), AV.int IntKind.i64 (Pg.r0 p), AV.int IntKind.i64 (Pg.r1 p), AV.int IntKind.i64 (Pg.r2 p), AV.int IntKind.i64 (Pg.r3 p), AV.row (nat_lit 3) (List.length (Pg.ms p)) fun (a a_1 : Nat) => rowL mmC (Pg.ms p) a a_1, AV.row (nat_lit 2) (List.length (Pg.ls p)) fun (a a_1 : Nat) => rowL lbC (Pg.ls p) a a_1, AV.row (nat_lit 9) (List.length (Pg.is p)) fun (a a_1 : Nat) => rowL inC (Pg.is p) a a_1, AV.int IntKind.i64 c, AV.int IntKind.i64 (if d = (0 : Int) then List.getD (S8.m s) (Int.toNat (Wd.maskV (Pg.W p) (vlV (Pg.W p) s a + vlV (Pg.W p) s b))) (0 : Int) else S8.r0 s), AV.int IntKind.i64 (if d = (1 : Int) then List.getD (S8.m s) (Int.toNat (Wd.maskV (Pg.W p) (vlV (Pg.W p) s a + vlV (Pg.W p) s b))) (0 : Int) else S8.r1 s), AV.int IntKind.i64 (if d = (2 : Int) then List.getD (S8.m s) (Int.toNat (Wd.maskV (Pg.W p) (vlV (Pg.W p) s a + vlV (Pg.W p) s b))) (0 : Int) else S8.r2 s), AV.int IntKind.i64 (if d = (3 : Int) then List.getD (S8.m s) (Int.toNat (Wd.maskV (Pg.W p) (vlV (Pg.W p) s a + vlV (Pg.W p) s b))) (0 : Int) else S8.r3 s), AV.own (nat_lit 2) (nat_lit 0) (nat_lit 1) (nat_lit 0) (List.length (S8.m s)), AV.own (nat_lit 3) (nat_lit 0) (nat_lit 1) (nat_lit 0) (List.length (S8.st s)), AV.int IntKind.i64 (S8.pc s), AV.own (nat_lit 4) (nat_lit 1) (nat_lit 2) (nat_lit 0) (List.length sn + (1 : Nat))]) ∧ (inK IntKind.i64 (S8.pc s + (1 : Int))) ∧ (inK IntKind.i64 (done + (1 : Int))) ∧ (frS8b3 p ((frS8b2 p ((c = c) ∧ ((if d = (0 : Int) then List.getD (S8.m s) (Int.toNat (Wd.maskV (Pg.W p) (vlV (Pg.W p) s a + vlV (Pg.W p) s b))) (0 : Int) else S8.r0 s) = if d = (0 : Int) then List.getD (S8.m s) (Int.toNat (Wd.maskV (Pg.W p) (vlV (Pg.W p) s a + vlV (Pg.W p) s b))) (0 : Int) else S8.r0 s) ∧ ((if d = (1 : Int) then List.getD (S8.m s) (Int.toNat (Wd.maskV (Pg.W p) (vlV (Pg.W p) s a + vlV (Pg.W p) s b))) (0 : Int) else S8.r1 s) = if d = (1 : Int) then List.getD (S8.m s) (Int.toNat (Wd.maskV (Pg.W p) (vlV (Pg.W p) s a + vlV (Pg.W p) s b))) (0 : Int) else S8.r1 s) ∧ ((if d = (2 : Int) then List.getD (S8.m s) (Int.toNat (Wd.maskV (Pg.W p) (vlV (Pg.W p) s a + vlV (Pg.W p) s b))) (0 : Int) else S8.r2 s) = if d = (2 : Int) then List.getD (S8.m s) (Int.toNat (Wd.maskV (Pg.W p) (vlV (Pg.W p) s a + vlV (Pg.W p) s b))) (0 : Int) else S8.r2 s) ∧ ((if d = (3 : Int) then List.getD (S8.m s) (Int.toNat (Wd.maskV (Pg.W p) (vlV (Pg.W p) s a + vlV (Pg.W p) s b))) (0 : Int) else S8.r3 s) = if d = (3 : Int) then List.getD (S8.m s) (Int.toNat (Wd.maskV (Pg.W p) (vlV (Pg.W p) s a + vlV (Pg.W p) s b))) (0 : Int) else S8.r3 s) ∧ ((0 : Nat) = (0 : Nat)) ∧ (List.length (S8.m s) = List.length (S8.m s)) ∧ ((0 : Nat) = (0 : Nat)) ∧ (List.length (S8.st s) = List.length (S8.st s)) ∧ (S8.pc s + (1 : Int) = S8.pc s + (1 : Int)) ∧ ((0 : Nat) = (0 : Nat)) ∧ (List.length sn + (1 : Nat) = List.length (sn ++ [Ob.mk (1 : Int) (Wd.maskV (Pg.W p) (vlV (Pg.W p) s a + vlV (Pg.W p) s b))])) ∧ (frS8b12 s ((List.length sn + (1 : Nat) = List.length (sn ++ [Ob.mk (1 : Int) (Wd.maskV (Pg.W p) (vlV (Pg.W p) s a + vlV (Pg.W p) s b))])) ∧ (∀ (i : Nat), i < List.length sn + (1 : Nat) → ∀ (j : Nat), j < (2 : Nat) → (bif Nat.blt i (List.length sn) then rowL obC sn i j else List.getD [AV.int IntKind.i64 (1 : Int), AV.int IntKind.i64 (Wd.maskV (Pg.W p) (vlV (Pg.W p) s a + vlV (Pg.W p) s b))] ((i - List.length sn + (0 : Nat)) * (2 : Nat) + j) AV.junk) = rowL obC (sn ++ [Ob.mk (1 : Int) (Wd.maskV (Pg.W p) (vlV (Pg.W p) s a + vlV (Pg.W p) s b))]) i j) ∧ (n = n) ∧ (done + (1 : Int) = done + (1 : Int)) ∧ ((0 : Int) = (0 : Int)) ∧ True))))))))))))))))))))) (by kernel_rfl)
    ⟨(decide_eq_true (by first | omega | (simp; omega) | (simp; done))),
 (decide_eq_true (by first | omega | (simp; omega) | (simp; done))),
 (decide_eq_true (by first | omega | (simp; omega) | (simp; done))), (frS8b6_mk p (frS8b7_mk p s ⟨hA, (frS8b6_mk p (frS8b5_mk p c s (frS8b11_mk s n op d a b nm ⟨rfl,
 madrC p c s (⟨2, op, d, a, b, nm, tg⟩ : In) ha hb hs,
 (by rw [decide_eq_true hx]; rfl),
 (by first | omega | rfl), (frS8b6_mk p (frS8b5_mk p c s ⟨rfl,
 (fun _ _ _ _ => rfl),
 rfl,
 rfl,
 mcellC p c s (Wd.maskV p.W ((vlV p.W s a) + (vlV p.W s b))) (Wd.maskV_bd _ _).1 (by rw [← hc]; exact hx),
 (decide_eq_true (by first | omega | (simp; omega) | (simp; done))),
 (decide_eq_true (by first | omega | (simp; omega) | (simp; done))),
 (decide_eq_true (by first | omega | (simp; omega) | (simp; done))),
 (decide_eq_true (by first | omega | (simp; omega) | (simp; done))),
 (by first | omega | rfl),
 (by first | omega | rfl),
 (by rcases four h0 h1 with rfl | rfl | rfl | rfl <;> rfl),
 (in64 (by omega) (by omega)),
 (in64 (by omega) (by omega)), (frS8b3_mk p (frS8b2_mk p ⟨rfl,
 (by first | omega | rfl | (simp; done) | (simp; omega)),
 (by first | omega | rfl | (simp; done) | (simp; omega)),
 (by first | omega | rfl | (simp; done) | (simp; omega)),
 (by first | omega | rfl | (simp; done) | (simp; omega)),
 rfl,
 rfl,
 rfl,
 rfl,
 rfl,
 rfl,
 (by first | omega | rfl | (simp; done) | (simp; omega)), (frS8b12_mk s ⟨(by first | omega | rfl | (simp; done) | (simp; omega)),
 (fun i hi j hj => row_if (fun h => (rowL_left h).symm) (fun h => by obtain rfl : i = _ := Nat.le_antisymm (Nat.lt_succ_iff.mp hi) (Nat.not_lt.mp h); rw [rowL_last, Nat.sub_self]; match j, hj with | 0, _ => rfl | 1, _ => rfl)),
 rfl,
 rfl,
 rfl, trivial⟩)⟩))⟩))⟩)))⟩))⟩
theorem st_store1 (p : Pg) (c : Int) (s : S8) (sn : List Ob) (n done : Int) (op d tg : Int) (a b : Vl) (nm : ByteArray) (hn : done < n) (hn2 : n < 1000000) (hd0 : 0 ≤ done) (hp0 : -1 ≤ s.pc) (hp1 : s.pc < 1000000) (hA : PureC Try.prog 23 [.agg (pgA p), .int .i64 s.pc] (.agg (inA (⟨3, op, d, a, b, nm, tg⟩ : In))) []) (ha : okV a) (hb : okV b) (hc : c = s.m.length) (hs : okR s) (h0 : 0 ≤ d) (h1 : d < 4) (hx : (Wd.maskV p.W ((vlV p.W s a) + (vlV p.W s b))) < c) (hl : sn.length < 1000000) : Vc (vcC Try.prog false (ntOf Try.prog 19) (lpC Try.prog 19 0) (runS p c s sn n done 0) [.b true, .b true, .b true, .inl, .cl [.agg (pgA p), .int .i64 s.pc] (.agg (inA (⟨3, op, d, a, b, nm, tg⟩ : In))) [], .inl, .fz, .cp [(mcP p c s .junk .junk .junk), .agg (inA (⟨3, op, d, a, b, nm, tg⟩ : In))] (.tup [.int .i64 (Wd.maskV p.W ((vlV p.W s a) + (vlV p.W s b))), .bool (decide ((Wd.maskV p.W ((vlV p.W s a) + (vlV p.W s b))) < c))]), .b false, .inl, .cp [(mcP p c s .junk .junk .junk), .int .i64 d] (.int .i64 (s.reg d)), .b true] .nrm [(0, 0), (1, 1), (2, 2), (3, 3), (4, 4)] (runS p c { s with m := s.m.set (Wd.maskV p.W ((vlV p.W s a) + (vlV p.W s b))).toNat (s.reg d), pc := s.pc + 1 } (sn ++ [⟨2, (Wd.maskV p.W ((vlV p.W s a) + (vlV p.W s b)))⟩]) n (done + 1) 0)) :=
  vc_of (q := (decide (done < n) = true) ∧ (decide (done < n) = true) ∧ (decide (done < n) = true) ∧ (frS8b6 p ((frS8b7 p s ((PureC Try.prog 23 [.agg (pgA p), .int .i64 s.pc] (.agg (inA (⟨3, op, d, a, b, nm, tg⟩ : In))) []) ∧ (frS8b6 p ((frS8b5 p c s ((S8.pc s = S8.pc s) ∧ ((3 : Int) = (3 : Int)) ∧ (frS8b4 n op d tg a b nm ((PureC Try.prog 74 [(mcP p c s .junk .junk .junk), .agg (inA (⟨3, op, d, a, b, nm, tg⟩ : In))] (.tup [.int .i64 (Wd.maskV p.W ((vlV p.W s a) + (vlV p.W s b))), .bool (decide ((Wd.maskV p.W ((vlV p.W s a) + (vlV p.W s b))) < c))]) []) ∧ ((!decide (Wd.maskV (Pg.W p) (vlV (Pg.W p) s a + vlV (Pg.W p) s b) < c)) = false) ∧ ((0 : Nat) = (0 : Nat) ∧ List.length sn = List.length sn ∧ (List.length sn + (1 : Nat)) * (16 : Nat) ≤ (140737488355328 : Nat) ∧ List.length sn + (1 : Nat) ≤ (140737488355328 : Nat)) ∧ (frS8b6 p ((frS8b5 p c s ((S8.pc s = S8.pc s) ∧ (d = d) ∧ (PureC Try.prog 78 [(mcP p c s .junk .junk .junk), .int .i64 d] (.int .i64 (s.reg d)) []) ∧ (decide (Wd.maskV (Pg.W p) (vlV (Pg.W p) s a + vlV (Pg.W p) s b) < (↑(List.length (S8.m s)) : Int)) = true) ∧ ((0 : Int) ≤ Wd.maskV (Pg.W p) (vlV (Pg.W p) s a + vlV (Pg.W p) s b) ∧ Wd.maskV (Pg.W p) (vlV (Pg.W p) s a + vlV (Pg.W p) s b) < (↑(List.length (S8.m s)) : Int)) ∧ (Int.toNat (Wd.maskV (Pg.W p) (vlV (Pg.W p) s a + vlV (Pg.W p) s b)) + (0 : Nat) < List.length (S8.m s)) ∧ (inK IntKind.i64 (S8.pc s + (1 : Int))) ∧ (inK IntKind.i64 (done + (1 : Int))) ∧ (frS8b3 p ((frS8b2 p ((c = c) ∧ (S8.r0 s = S8.r0 s) ∧ (S8.r1 s = S8.r1 s) ∧ (S8.r2 s = S8.r2 s) ∧ (S8.r3 s = S8.r3 s) ∧ ((0 : Nat) = (0 : Nat)) ∧ (List.length (S8.m s) = List.length (List.set (S8.m s) (Int.toNat (Wd.maskV (Pg.W p) (vlV (Pg.W p) s a + vlV (Pg.W p) s b))) (S8.reg s d))) ∧ ((0 : Nat) = (0 : Nat)) ∧ (List.length (S8.st s) = List.length (S8.st s)) ∧ (S8.pc s + (1 : Int) = S8.pc s + (1 : Int)) ∧ ((0 : Nat) = (0 : Nat)) ∧ (List.length sn + (1 : Nat) = List.length (sn ++ [Ob.mk (2 : Int) (Wd.maskV (Pg.W p) (vlV (Pg.W p) s a + vlV (Pg.W p) s b))])) ∧ (List.length (S8.m s) = List.length (List.set (S8.m s) (Int.toNat (Wd.maskV (Pg.W p) (vlV (Pg.W p) s a + vlV (Pg.W p) s b))) (S8.reg s d))) ∧ (∀ (i : Nat), i < List.length (S8.m s) → ∀ (j : Nat), j < (1 : Nat) → (bif Nat.beq i (Int.toNat (Wd.maskV (Pg.W p) (vlV (Pg.W p) s a + vlV (Pg.W p) s b)) + (0 : Nat)) && Nat.ble (0 : Nat) j && Nat.blt j (1 : Nat) then List.getD [AV.int IntKind.i64 (S8.reg s d)] (j - (0 : Nat)) AV.junk else AV.int IntKind.i64 (List.getD (S8.m s) i (0 : Int))) = AV.int IntKind.i64 (List.getD (List.set (S8.m s) (Int.toNat (Wd.maskV (Pg.W p) (vlV (Pg.W p) s a + vlV (Pg.W p) s b))) (S8.reg s d)) i (0 : Int))) ∧ (List.length (S8.st s) = List.length (S8.st s)) ∧ (∀ (i : Nat), i < List.length (S8.st s) → ∀ (j : Nat), j < (1 : Nat) → AV.int IntKind.i64 (List.getD (S8.st s) i (0 : Int)) = AV.int IntKind.i64 (List.getD (S8.st s) i (0 : Int))) ∧ (List.length sn + (1 : Nat) = List.length (sn ++ [Ob.mk (2 : Int) (Wd.maskV (Pg.W p) (vlV (Pg.W p) s a + vlV (Pg.W p) s b))])) ∧ (∀ (i : Nat), i < List.length sn + (1 : Nat) → ∀ (j : Nat), j < (2 : Nat) → (bif Nat.blt i (List.length sn) then rowL obC sn i j else List.getD [AV.int IntKind.i64 (2 : Int), AV.int IntKind.i64 (Wd.maskV (Pg.W p) (vlV (Pg.W p) s a + vlV (Pg.W p) s b))] ((i - List.length sn + (0 : Nat)) * (2 : Nat) + j) AV.junk) = rowL obC (sn ++ [Ob.mk (2 : Int) (Wd.maskV (Pg.W p) (vlV (Pg.W p) s a + vlV (Pg.W p) s b))]) i j) ∧ (n = n) ∧ (done + (1 : Int) = done + (1 : Int)) ∧ ((0 : Int) = (0 : Int)) ∧ True))))))))))))))))))) (by kernel_rfl)
    ⟨(decide_eq_true (by first | omega | (simp; omega) | (simp; done))),
 (decide_eq_true (by first | omega | (simp; omega) | (simp; done))),
 (decide_eq_true (by first | omega | (simp; omega) | (simp; done))), (frS8b6_mk p (frS8b7_mk p s ⟨hA, (frS8b6_mk p (frS8b5_mk p c s ⟨rfl,
 rfl, (frS8b4_mk n op d tg a b nm ⟨madrC p c s (⟨3, op, d, a, b, nm, tg⟩ : In) ha hb hs,
 (by rw [decide_eq_true hx]; rfl),
 (by first | omega | rfl), (frS8b6_mk p (frS8b5_mk p c s ⟨rfl,
 rfl,
 regC p c s d h0 h1,
 (decide_eq_true (by rw [← hc]; exact hx)),
 ⟨(Wd.maskV_bd _ _).1, by rw [← hc]; exact hx⟩,
 (by have := (Wd.maskV_bd p.W ((vlV p.W s a) + (vlV p.W s b))).1; rw [hc] at hx; omega),
 (in64 (by omega) (by omega)),
 (in64 (by omega) (by omega)), (frS8b3_mk p (frS8b2_mk p ⟨rfl,
 rfl,
 rfl,
 rfl,
 rfl,
 rfl,
 List.length_set.symm,
 rfl,
 rfl,
 rfl,
 rfl,
 (by first | omega | rfl | (simp; done) | (simp; omega)),
 List.length_set.symm,
 set_row,
 rfl,
 (fun _ _ _ _ => rfl),
 (by first | omega | rfl | (simp; done) | (simp; omega)),
 (fun i hi j hj => row_if (fun h => (rowL_left h).symm) (fun h => by obtain rfl : i = _ := Nat.le_antisymm (Nat.lt_succ_iff.mp hi) (Nat.not_lt.mp h); rw [rowL_last, Nat.sub_self]; match j, hj with | 0, _ => rfl | 1, _ => rfl)),
 rfl,
 rfl,
 rfl, trivial⟩))⟩))⟩)⟩))⟩))⟩
theorem st_br0 (p : Pg) (c : Int) (s : S8) (sn : List Ob) (n done : Int) (op d tg : Int) (a b : Vl) (nm : ByteArray) (hn : done < n) (hn2 : n < 1000000) (hd0 : 0 ≤ done) (hp0 : -1 ≤ s.pc) (hp1 : s.pc < 1000000) (hA : PureC Try.prog 23 [.agg (pgA p), .int .i64 s.pc] (.agg (inA (⟨5, op, d, a, b, nm, tg⟩ : In))) []) (ha : okV a) (hb : okV b) (hz : (Wd.doV p.W op (vlV p.W s a) (vlV p.W s b)) = 0) (hl : sn.length < 1000000) : Vc (vcC Try.prog false (ntOf Try.prog 19) (lpC Try.prog 19 0) (runS p c s sn n done 0) [.b true, .b true, .b true, .inl, .cl [.agg (pgA p), .int .i64 s.pc] (.agg (inA (⟨5, op, d, a, b, nm, tg⟩ : In))) [], .inl, .fz, .cp [(mcP p c s .junk .junk .junk), .agg (inA (⟨5, op, d, a, b, nm, tg⟩ : In))] (.int .i64 (Wd.doV p.W op (vlV p.W s a) (vlV p.W s b))), .b false] .nrm [(0, 0), (1, 1), (2, 2), (3, 3), (4, 4)] (runS p c (s.go (s.pc + 1)) (sn ++ [⟨3, s.pc + 1⟩]) n (done + 1) 0)) :=
  vc_of (q := (decide (done < n) = true) ∧ (decide (done < n) = true) ∧ (decide (done < n) = true) ∧ (frS8b6 p ((frS8b7 p s ((PureC Try.prog 23 [.agg (pgA p), .int .i64 s.pc] (.agg (inA (⟨5, op, d, a, b, nm, tg⟩ : In))) []) ∧ (frS8b6 p ((frS8b5 p c s ((S8.pc s = S8.pc s) ∧ ((5 : Int) = (5 : Int)) ∧ (frS8b4 n op d tg a b nm ((PureC Try.prog 73 [(mcP p c s .junk .junk .junk), .agg (inA (⟨5, op, d, a, b, nm, tg⟩ : In))] (.int .i64 (Wd.doV p.W op (vlV p.W s a) (vlV p.W s b))) []) ∧ ((Wd.doV (Pg.W p) op (vlV (Pg.W p) s a) (vlV (Pg.W p) s b) != (0 : Int)) = false) ∧ (inK IntKind.i64 (S8.pc s + (1 : Int))) ∧ ((0 : Nat) = (0 : Nat) ∧ List.length sn = List.length sn ∧ (List.length sn + (1 : Nat)) * (16 : Nat) ≤ (140737488355328 : Nat) ∧ List.length sn + (1 : Nat) ≤ (140737488355328 : Nat)) ∧ (inK IntKind.i64 (done + (1 : Int))) ∧ (frS8b3 p ((frS8b2 p ((frS8b9 c s ((S8.pc s + (1 : Int) = S8.pc s + (1 : Int)) ∧ ((0 : Nat) = (0 : Nat)) ∧ (List.length sn + (1 : Nat) = List.length (sn ++ [Ob.mk (3 : Int) (S8.pc s + (1 : Int))])) ∧ (frS8b12 s ((List.length sn + (1 : Nat) = List.length (sn ++ [Ob.mk (3 : Int) (S8.pc s + (1 : Int))])) ∧ (∀ (i : Nat), i < List.length sn + (1 : Nat) → ∀ (j : Nat), j < (2 : Nat) → (bif Nat.blt i (List.length sn) then rowL obC sn i j else List.getD [AV.int IntKind.i64 (3 : Int), AV.int IntKind.i64 (S8.pc s + (1 : Int))] ((i - List.length sn + (0 : Nat)) * (2 : Nat) + j) AV.junk) = rowL obC (sn ++ [Ob.mk (3 : Int) (S8.pc s + (1 : Int))]) i j) ∧ (n = n) ∧ (done + (1 : Int) = done + (1 : Int)) ∧ ((0 : Int) = (0 : Int)) ∧ True))))))))))))))))))) (by kernel_rfl)
    ⟨(decide_eq_true (by first | omega | (simp; omega) | (simp; done))),
 (decide_eq_true (by first | omega | (simp; omega) | (simp; done))),
 (decide_eq_true (by first | omega | (simp; omega) | (simp; done))), (frS8b6_mk p (frS8b7_mk p s ⟨hA, (frS8b6_mk p (frS8b5_mk p c s ⟨rfl,
 rfl, (frS8b4_mk n op d tg a b nm ⟨mdoC p c s (⟨5, op, d, a, b, nm, tg⟩ : In) ha hb,
 (by rw [hz]; rfl),
 (in64 (by omega) (by omega)),
 (by first | omega | rfl),
 (in64 (by omega) (by omega)), (frS8b3_mk p (frS8b2_mk p (frS8b9_mk c s ⟨rfl,
 rfl,
 (by first | omega | rfl | (simp; done) | (simp; omega)), (frS8b12_mk s ⟨(by first | omega | rfl | (simp; done) | (simp; omega)),
 (fun i hi j hj => row_if (fun h => (rowL_left h).symm) (fun h => by obtain rfl : i = _ := Nat.le_antisymm (Nat.lt_succ_iff.mp hi) (Nat.not_lt.mp h); rw [rowL_last, Nat.sub_self]; match j, hj with | 0, _ => rfl | 1, _ => rfl)),
 rfl,
 rfl,
 rfl, trivial⟩)⟩)))⟩)⟩))⟩))⟩
theorem st_br1 (p : Pg) (c : Int) (s : S8) (sn : List Ob) (n done : Int) (op d tg : Int) (a b : Vl) (nm : ByteArray) (hn : done < n) (hn2 : n < 1000000) (hd0 : 0 ≤ done) (hp0 : -1 ≤ s.pc) (hp1 : s.pc < 1000000) (hA : PureC Try.prog 23 [.agg (pgA p), .int .i64 s.pc] (.agg (inA (⟨5, op, d, a, b, nm, tg⟩ : In))) []) (ha : okV a) (hb : okV b) (hz : ¬ (Wd.doV p.W op (vlV p.W s a) (vlV p.W s b)) = 0) (hl : sn.length < 1000000) : Vc (vcC Try.prog false (ntOf Try.prog 19) (lpC Try.prog 19 0) (runS p c s sn n done 0) [.b true, .b true, .b true, .inl, .cl [.agg (pgA p), .int .i64 s.pc] (.agg (inA (⟨5, op, d, a, b, nm, tg⟩ : In))) [], .inl, .fz, .cp [(mcP p c s .junk .junk .junk), .agg (inA (⟨5, op, d, a, b, nm, tg⟩ : In))] (.int .i64 (Wd.doV p.W op (vlV p.W s a) (vlV p.W s b))), .b true] .nrm [(0, 0), (1, 1), (2, 2), (3, 3), (4, 4)] (runS p c (s.go tg) (sn ++ [⟨3, tg⟩]) n (done + 1) 0)) :=
  vc_of (q := (decide (done < n) = true) ∧ (decide (done < n) = true) ∧ (decide (done < n) = true) ∧ (frS8b6 p ((frS8b7 p s ((PureC Try.prog 23 [.agg (pgA p), .int .i64 s.pc] (.agg (inA (⟨5, op, d, a, b, nm, tg⟩ : In))) []) ∧ (frS8b6 p ((frS8b5 p c s ((S8.pc s = S8.pc s) ∧ ((5 : Int) = (5 : Int)) ∧ (frS8b4 n op d tg a b nm ((PureC Try.prog 73 [(mcP p c s .junk .junk .junk), .agg (inA (⟨5, op, d, a, b, nm, tg⟩ : In))] (.int .i64 (Wd.doV p.W op (vlV p.W s a) (vlV p.W s b))) []) ∧ ((Wd.doV (Pg.W p) op (vlV (Pg.W p) s a) (vlV (Pg.W p) s b) != (0 : Int)) = true) ∧ ((0 : Nat) = (0 : Nat) ∧ List.length sn = List.length sn ∧ (List.length sn + (1 : Nat)) * (16 : Nat) ≤ (140737488355328 : Nat) ∧ List.length sn + (1 : Nat) ≤ (140737488355328 : Nat)) ∧ (inK IntKind.i64 (done + (1 : Int))) ∧ (frS8b3 p ((frS8b2 p ((frS8b9 c s ((tg = tg) ∧ ((0 : Nat) = (0 : Nat)) ∧ (List.length sn + (1 : Nat) = List.length (sn ++ [Ob.mk (3 : Int) tg])) ∧ (frS8b12 s ((List.length sn + (1 : Nat) = List.length (sn ++ [Ob.mk (3 : Int) tg])) ∧ (∀ (i : Nat), i < List.length sn + (1 : Nat) → ∀ (j : Nat), j < (2 : Nat) → (bif Nat.blt i (List.length sn) then rowL obC sn i j else List.getD [AV.int IntKind.i64 (3 : Int), AV.int IntKind.i64 tg] ((i - List.length sn + (0 : Nat)) * (2 : Nat) + j) AV.junk) = rowL obC (sn ++ [Ob.mk (3 : Int) tg]) i j) ∧ (n = n) ∧ (done + (1 : Int) = done + (1 : Int)) ∧ ((0 : Int) = (0 : Int)) ∧ True))))))))))))))))))) (by kernel_rfl)
    ⟨(decide_eq_true (by first | omega | (simp; omega) | (simp; done))),
 (decide_eq_true (by first | omega | (simp; omega) | (simp; done))),
 (decide_eq_true (by first | omega | (simp; omega) | (simp; done))), (frS8b6_mk p (frS8b7_mk p s ⟨hA, (frS8b6_mk p (frS8b5_mk p c s ⟨rfl,
 rfl, (frS8b4_mk n op d tg a b nm ⟨mdoC p c s (⟨5, op, d, a, b, nm, tg⟩ : In) ha hb,
 (bne_iff_ne.2 hz),
 (by first | omega | rfl),
 (in64 (by omega) (by omega)), (frS8b3_mk p (frS8b2_mk p (frS8b9_mk c s ⟨rfl,
 rfl,
 (by first | omega | rfl | (simp; done) | (simp; omega)), (frS8b12_mk s ⟨(by first | omega | rfl | (simp; done) | (simp; omega)),
 (fun i hi j hj => row_if (fun h => (rowL_left h).symm) (fun h => by obtain rfl : i = _ := Nat.le_antisymm (Nat.lt_succ_iff.mp hi) (Nat.not_lt.mp h); rw [rowL_last, Nat.sub_self]; match j, hj with | 0, _ => rfl | 1, _ => rfl)),
 rfl,
 rfl,
 rfl, trivial⟩)⟩)))⟩)⟩))⟩))⟩
theorem st_jmp (p : Pg) (c : Int) (s : S8) (sn : List Ob) (n done : Int) (op d tg : Int) (a b : Vl) (nm : ByteArray) (hn : done < n) (hn2 : n < 1000000) (hd0 : 0 ≤ done) (hp0 : -1 ≤ s.pc) (hp1 : s.pc < 1000000) (hA : PureC Try.prog 23 [.agg (pgA p), .int .i64 s.pc] (.agg (inA (⟨6, op, d, a, b, nm, tg⟩ : In))) [])  : Vc (vcC Try.prog false (ntOf Try.prog 19) (lpC Try.prog 19 0) (runS p c s sn n done 0) [.b true, .b true, .b true, .inl, .cl [.agg (pgA p), .int .i64 s.pc] (.agg (inA (⟨6, op, d, a, b, nm, tg⟩ : In))) []] .nrm [(0, 0), (1, 1), (2, 2), (3, 3), (4, 4)] (runS p c (s.go tg) sn n (done + 1) 0)) :=
  vc_of (q := (decide (done < n) = true) ∧ (decide (done < n) = true) ∧ (decide (done < n) = true) ∧ (frS8b6 p ((frS8b7 p s ((PureC Try.prog 23 [.agg (pgA p), .int .i64 s.pc] (.agg (inA (⟨6, op, d, a, b, nm, tg⟩ : In))) []) ∧ (inK IntKind.i64 (done + (1 : Int))) ∧ (frS8b3 p ((frS8b2 p ((frS8b9 c s ((tg = tg) ∧ ((0 : Nat) = (0 : Nat)) ∧ (List.length sn = List.length sn) ∧ (List.length (S8.m s) = List.length (S8.m s)) ∧ (∀ (i : Nat), i < List.length (S8.m s) → ∀ (j : Nat), j < (1 : Nat) → AV.int IntKind.i64 (List.getD (S8.m s) i (0 : Int)) = AV.int IntKind.i64 (List.getD (S8.m s) i (0 : Int))) ∧ (List.length (S8.st s) = List.length (S8.st s)) ∧ (∀ (i : Nat), i < List.length (S8.st s) → ∀ (j : Nat), j < (1 : Nat) → AV.int IntKind.i64 (List.getD (S8.st s) i (0 : Int)) = AV.int IntKind.i64 (List.getD (S8.st s) i (0 : Int))) ∧ (List.length sn = List.length sn) ∧ (∀ (i : Nat), i < List.length sn → ∀ (j : Nat), j < (2 : Nat) → rowL obC sn i j = rowL obC sn i j) ∧ (n = n) ∧ (done + (1 : Int) = done + (1 : Int)) ∧ ((0 : Int) = (0 : Int)) ∧ True))))))))))) (by kernel_rfl)
    ⟨(decide_eq_true (by first | omega | (simp; omega) | (simp; done))),
 (decide_eq_true (by first | omega | (simp; omega) | (simp; done))),
 (decide_eq_true (by first | omega | (simp; omega) | (simp; done))), (frS8b6_mk p (frS8b7_mk p s ⟨hA,
 (in64 (by omega) (by omega)), (frS8b3_mk p (frS8b2_mk p (frS8b9_mk c s ⟨rfl,
 rfl,
 rfl,
 rfl,
 (fun _ _ _ _ => rfl),
 rfl,
 (fun _ _ _ _ => rfl),
 rfl,
 (fun _ _ _ _ => rfl),
 rfl,
 rfl,
 rfl, trivial⟩)))⟩))⟩
theorem st_ind (p : Pg) (c : Int) (s : S8) (sn : List Ob) (n done : Int) (op d tg : Int) (a b : Vl) (nm : ByteArray) (hn : done < n) (hn2 : n < 1000000) (hd0 : 0 ≤ done) (hp0 : -1 ≤ s.pc) (hp1 : s.pc < 1000000) (hA : PureC Try.prog 23 [.agg (pgA p), .int .i64 s.pc] (.agg (inA (⟨7, op, d, a, b, nm, tg⟩ : In))) []) (ha : okV a) (hl : sn.length < 1000000) : Vc (vcC Try.prog false (ntOf Try.prog 19) (lpC Try.prog 19 0) (runS p c s sn n done 0) [.b true, .b true, .b true, .inl, .cl [.agg (pgA p), .int .i64 s.pc] (.agg (inA (⟨7, op, d, a, b, nm, tg⟩ : In))) [], .cp [(mcP p c s .junk .junk .junk), .agg (vlA a)] (.int .i64 (vlV p.W s a))] .nrm [(0, 0), (1, 1), (2, 2), (3, 3), (4, 4)] (runS p c (s.go (if (p.is.length : Int) < (vlV p.W s a) then (p.is.length : Int) else (vlV p.W s a))) (sn ++ [⟨3, (if (p.is.length : Int) < (vlV p.W s a) then (p.is.length : Int) else (vlV p.W s a))⟩]) n (done + 1) 0)) :=
  vc_of (q := (decide (done < n) = true) ∧ (decide (done < n) = true) ∧ (decide (done < n) = true) ∧ (frS8b6 p ((frS8b7 p s ((PureC Try.prog 23 [.agg (pgA p), .int .i64 s.pc] (.agg (inA (⟨7, op, d, a, b, nm, tg⟩ : In))) []) ∧ (frS8b6 p ((frS8b5 p c s ((S8.pc s = S8.pc s) ∧ (Vl.reg a = Vl.reg a) ∧ (Vl.n a = Vl.n a) ∧ (PureC Try.prog 62 [(mcP p c s .junk .junk .junk), .agg (vlA a)] (.int .i64 (vlV p.W s a)) []) ∧ ((0 : Nat) = (0 : Nat) ∧ List.length sn = List.length sn ∧ (List.length sn + (1 : Nat)) * (16 : Nat) ≤ (140737488355328 : Nat) ∧ List.length sn + (1 : Nat) ≤ (140737488355328 : Nat)) ∧ (inK IntKind.i64 (done + (1 : Int))) ∧ (frS8b3 p ((frS8b2 p ((frS8b9 c s (((if (↑(List.length (Pg.is p)) : Int) < vlV (Pg.W p) s a then (↑(List.length (Pg.is p)) : Int) else vlV (Pg.W p) s a) = if (↑(List.length (Pg.is p)) : Int) < vlV (Pg.W p) s a then (↑(List.length (Pg.is p)) : Int) else vlV (Pg.W p) s a) ∧ ((0 : Nat) = (0 : Nat)) ∧ (List.length sn + (1 : Nat) = List.length (sn ++ [Ob.mk (3 : Int) (if (↑(List.length (Pg.is p)) : Int) < vlV (Pg.W p) s a then (↑(List.length (Pg.is p)) : Int) else vlV (Pg.W p) s a)])) ∧ (frS8b12 s ((List.length sn + (1 : Nat) = List.length (sn ++ [Ob.mk (3 : Int) (if (↑(List.length (Pg.is p)) : Int) < vlV (Pg.W p) s a then (↑(List.length (Pg.is p)) : Int) else vlV (Pg.W p) s a)])) ∧ (∀ (i : Nat), i < List.length sn + (1 : Nat) → ∀ (j : Nat), j < (2 : Nat) → (bif Nat.blt i (List.length sn) then rowL obC sn i j else List.getD [AV.int IntKind.i64 (3 : Int), AV.int IntKind.i64 (if (↑(List.length (Pg.is p)) : Int) < vlV (Pg.W p) s a then (↑(List.length (Pg.is p)) : Int) else vlV (Pg.W p) s a)] ((i - List.length sn + (0 : Nat)) * (2 : Nat) + j) AV.junk) = rowL obC (sn ++ [Ob.mk (3 : Int) (if (↑(List.length (Pg.is p)) : Int) < vlV (Pg.W p) s a then (↑(List.length (Pg.is p)) : Int) else vlV (Pg.W p) s a)]) i j) ∧ (n = n) ∧ (done + (1 : Int) = done + (1 : Int)) ∧ ((0 : Int) = (0 : Int)) ∧ True))))))))))))))))) (by kernel_rfl)
    ⟨(decide_eq_true (by first | omega | (simp; omega) | (simp; done))),
 (decide_eq_true (by first | omega | (simp; omega) | (simp; done))),
 (decide_eq_true (by first | omega | (simp; omega) | (simp; done))), (frS8b6_mk p (frS8b7_mk p s ⟨hA, (frS8b6_mk p (frS8b5_mk p c s ⟨rfl,
 rfl,
 rfl,
 valC p c s a ha,
 (by first | omega | rfl),
 (in64 (by omega) (by omega)), (frS8b3_mk p (frS8b2_mk p (frS8b9_mk c s ⟨(by first | omega | rfl),
 rfl,
 (by first | omega | rfl | (simp; done) | (simp; omega)), (frS8b12_mk s ⟨(by first | omega | rfl | (simp; done) | (simp; omega)),
 (fun i hi j hj => row_if (fun h => (rowL_left h).symm) (fun h => by obtain rfl : i = _ := Nat.le_antisymm (Nat.lt_succ_iff.mp hi) (Nat.not_lt.mp h); rw [rowL_last, Nat.sub_self]; match j, hj with | 0, _ => rfl | 1, _ => rfl)),
 rfl,
 rfl,
 rfl, trivial⟩)⟩)))⟩))⟩))⟩
theorem st_call0 (p : Pg) (c : Int) (s : S8) (sn : List Ob) (n done : Int) (op d tg : Int) (a b : Vl) (nm : ByteArray) (hn : done < n) (hn2 : n < 1000000) (hd0 : 0 ≤ done) (hp0 : -1 ≤ s.pc) (hp1 : s.pc < 1000000) (hA : PureC Try.prog 23 [.agg (pgA p), .int .i64 s.pc] (.agg (inA (⟨8, op, d, a, b, nm, tg⟩ : In))) []) (hk : 4 ≤ s.st.length) (hk2 : s.st.length < 1000) : Vc (vcC Try.prog false (ntOf Try.prog 19) (lpC Try.prog 19 0) (runS p c s sn n done 0) [.b true, .b true, .b true, .inl, .cl [.agg (pgA p), .int .i64 s.pc] (.agg (inA (⟨8, op, d, a, b, nm, tg⟩ : In))) [], .fz, .b true] .nrm [(0, 0), (1, 1), (2, 2), (3, 3), (4, 4)] (runS p c s sn n (done + 1) 2)) :=
  vc_of (q := (decide (done < n) = true) ∧ (decide (done < n) = true) ∧ (decide (done < n) = true) ∧ (frS8b6 p ((frS8b7 p s ((PureC Try.prog 23 [.agg (pgA p), .int .i64 s.pc] (.agg (inA (⟨8, op, d, a, b, nm, tg⟩ : In))) []) ∧ (decide ((↑(List.length (S8.st s)) : Int) ≥ (4 : Int)) = true) ∧ (inK IntKind.i64 (done + (1 : Int))) ∧ (frS8b3 p ((frS8b2 p ((frS8b9 c s ((frS8b10 s sn ((n = n) ∧ (done + (1 : Int) = done + (1 : Int)) ∧ ((2 : Int) = (2 : Int)) ∧ True))))))))))))) (by kernel_rfl)
    ⟨(decide_eq_true (by first | omega | (simp; omega) | (simp; done))),
 (decide_eq_true (by first | omega | (simp; omega) | (simp; done))),
 (decide_eq_true (by first | omega | (simp; omega) | (simp; done))), (frS8b6_mk p (frS8b7_mk p s ⟨hA,
 (decide_eq_true (by first | omega | (simp; omega) | (simp; done))),
 (in64 (by omega) (by omega)), (frS8b3_mk p (frS8b2_mk p (frS8b9_mk c s (frS8b10_mk s sn ⟨rfl,
 rfl,
 rfl, trivial⟩))))⟩))⟩
def frS8b13 (c : Int) (s : S8) (Z : Prop) : Prop := (c = c) ∧ (S8.r0 s = S8.r0 s) ∧ (S8.r1 s = S8.r1 s) ∧ (S8.r2 s = S8.r2 s) ∧ (S8.r3 s = S8.r3 s) ∧ ((0 : Nat) = (0 : Nat)) ∧ (List.length (S8.m s) = List.length (S8.m s)) ∧ ((0 : Nat) = (0 : Nat)) ∧ Z
theorem frS8b13_mk (c : Int) (s : S8) {Z : Prop} (z : Z) : frS8b13 c s Z := ⟨rfl, rfl, rfl, rfl, rfl, rfl, rfl, rfl, z⟩
theorem st_call1 (p : Pg) (c : Int) (s : S8) (sn : List Ob) (n done : Int) (op d tg : Int) (a b : Vl) (nm : ByteArray) (hn : done < n) (hn2 : n < 1000000) (hd0 : 0 ≤ done) (hp0 : -1 ≤ s.pc) (hp1 : s.pc < 1000000) (hA : PureC Try.prog 23 [.agg (pgA p), .int .i64 s.pc] (.agg (inA (⟨8, op, d, a, b, nm, tg⟩ : In))) []) (hk : ¬ 4 ≤ s.st.length) : Vc (vcC Try.prog false (ntOf Try.prog 19) (lpC Try.prog 19 0) (runS p c s sn n done 0) [.b true, .b true, .b true, .inl, .cl [.agg (pgA p), .int .i64 s.pc] (.agg (inA (⟨8, op, d, a, b, nm, tg⟩ : In))) [], .fz, .b false] .nrm [(0, 0), (1, 1), (2, 2), (3, 3), (4, 4)] (runS p c { s with st := s.st ++ [s.pc + 1], pc := tg } sn n (done + 1) 0)) :=
  vc_of (q := (decide (done < n) = true) ∧ (decide (done < n) = true) ∧ (decide (done < n) = true) ∧ (frS8b6 p ((frS8b7 p s ((PureC Try.prog 23 [.agg (pgA p), .int .i64 s.pc] (.agg (inA (⟨8, op, d, a, b, nm, tg⟩ : In))) []) ∧ (decide ((↑(List.length (S8.st s)) : Int) ≥ (4 : Int)) = false) ∧ (inK IntKind.i64 (S8.pc s + (1 : Int))) ∧ ((0 : Nat) = (0 : Nat) ∧ List.length (S8.st s) = List.length (S8.st s) ∧ (List.length (S8.st s) + (1 : Nat)) * (8 : Nat) ≤ (140737488355328 : Nat) ∧ List.length (S8.st s) + (1 : Nat) ≤ (140737488355328 : Nat)) ∧ (inK IntKind.i64 (done + (1 : Int))) ∧ (frS8b3 p ((frS8b2 p ((frS8b13 c s ((List.length (S8.st s) + (1 : Nat) = List.length (S8.st s ++ [S8.pc s + (1 : Int)])) ∧ (tg = tg) ∧ ((0 : Nat) = (0 : Nat)) ∧ (List.length sn = List.length sn) ∧ (List.length (S8.m s) = List.length (S8.m s)) ∧ (∀ (i : Nat), i < List.length (S8.m s) → ∀ (j : Nat), j < (1 : Nat) → AV.int IntKind.i64 (List.getD (S8.m s) i (0 : Int)) = AV.int IntKind.i64 (List.getD (S8.m s) i (0 : Int))) ∧ (List.length (S8.st s) + (1 : Nat) = List.length (S8.st s ++ [S8.pc s + (1 : Int)])) ∧ (∀ (i : Nat), i < List.length (S8.st s) + (1 : Nat) → ∀ (j : Nat), j < (1 : Nat) → (bif Nat.blt i (List.length (S8.st s)) then AV.int IntKind.i64 (List.getD (S8.st s) i (0 : Int)) else List.getD [AV.int IntKind.i64 (S8.pc s + (1 : Int))] ((i - List.length (S8.st s) + (0 : Nat)) * (1 : Nat) + j) AV.junk) = AV.int IntKind.i64 (List.getD (S8.st s ++ [S8.pc s + (1 : Int)]) i (0 : Int))) ∧ (List.length sn = List.length sn) ∧ (∀ (i : Nat), i < List.length sn → ∀ (j : Nat), j < (2 : Nat) → rowL obC sn i j = rowL obC sn i j) ∧ (n = n) ∧ (done + (1 : Int) = done + (1 : Int)) ∧ ((0 : Int) = (0 : Int)) ∧ True))))))))))) (by kernel_rfl)
    ⟨(decide_eq_true (by first | omega | (simp; omega) | (simp; done))),
 (decide_eq_true (by first | omega | (simp; omega) | (simp; done))),
 (decide_eq_true (by first | omega | (simp; omega) | (simp; done))), (frS8b6_mk p (frS8b7_mk p s ⟨hA,
 (decide_eq_false (by first | omega | (simp; omega) | (simp; done))),
 (in64 (by omega) (by omega)),
 (by first | omega | rfl),
 (in64 (by omega) (by omega)), (frS8b3_mk p (frS8b2_mk p (frS8b13_mk c s ⟨(by first | omega | rfl | (simp; done) | (simp; omega)),
 rfl,
 rfl,
 rfl,
 rfl,
 (fun _ _ _ _ => rfl),
 (by first | omega | rfl | (simp; done) | (simp; omega)),
 snocI,
 rfl,
 (fun _ _ _ _ => rfl),
 rfl,
 rfl,
 rfl, trivial⟩)))⟩))⟩
theorem st_ret0 (p : Pg) (c : Int) (s : S8) (sn : List Ob) (n done : Int) (op d tg : Int) (a b : Vl) (nm : ByteArray) (hn : done < n) (hn2 : n < 1000000) (hd0 : 0 ≤ done) (hp0 : -1 ≤ s.pc) (hp1 : s.pc < 1000000) (hA : PureC Try.prog 23 [.agg (pgA p), .int .i64 s.pc] (.agg (inA (⟨9, op, d, a, b, nm, tg⟩ : In))) []) (hk : s.st.length = 0) : Vc (vcC Try.prog false (ntOf Try.prog 19) (lpC Try.prog 19 0) (runS p c s sn n done 0) [.b true, .b true, .b true, .inl, .cl [.agg (pgA p), .int .i64 s.pc] (.agg (inA (⟨9, op, d, a, b, nm, tg⟩ : In))) [], .inl, .b true] .nrm [(0, 0), (1, 1), (2, 2), (3, 3), (4, 4)] (runS p c s sn n (done + 1) 2)) :=
  vc_of (q := (decide (done < n) = true) ∧ (decide (done < n) = true) ∧ (decide (done < n) = true) ∧ (frS8b6 p ((frS8b7 p s ((PureC Try.prog 23 [.agg (pgA p), .int .i64 s.pc] (.agg (inA (⟨9, op, d, a, b, nm, tg⟩ : In))) []) ∧ (inK IntKind.i64 ((↑(List.length (S8.st s)) : Int) - (1 : Int))) ∧ (decide ((↑(List.length (S8.st s)) : Int) - (1 : Int) < (0 : Int)) = true) ∧ (inK IntKind.i64 (done + (1 : Int))) ∧ (frS8b3 p ((frS8b2 p ((frS8b9 c s ((frS8b10 s sn ((n = n) ∧ (done + (1 : Int) = done + (1 : Int)) ∧ ((2 : Int) = (2 : Int)) ∧ True))))))))))))) (by kernel_rfl)
    ⟨(decide_eq_true (by first | omega | (simp; omega) | (simp; done))),
 (decide_eq_true (by first | omega | (simp; omega) | (simp; done))),
 (decide_eq_true (by first | omega | (simp; omega) | (simp; done))), (frS8b6_mk p (frS8b7_mk p s ⟨hA,
 (in64 (by omega) (by omega)),
 (decide_eq_true (by first | omega | (simp; omega) | (simp; done))),
 (in64 (by omega) (by omega)), (frS8b3_mk p (frS8b2_mk p (frS8b9_mk c s (frS8b10_mk s sn ⟨rfl,
 rfl,
 rfl, trivial⟩))))⟩))⟩
theorem st_fence (p : Pg) (c : Int) (s : S8) (sn : List Ob) (n done : Int) (op d tg : Int) (a b : Vl) (nm : ByteArray) (hn : done < n) (hn2 : n < 1000000) (hd0 : 0 ≤ done) (hp0 : -1 ≤ s.pc) (hp1 : s.pc < 1000000) (hA : PureC Try.prog 23 [.agg (pgA p), .int .i64 s.pc] (.agg (inA (⟨10, op, d, a, b, nm, tg⟩ : In))) [])  : Vc (vcC Try.prog false (ntOf Try.prog 19) (lpC Try.prog 19 0) (runS p c s sn n done 0) [.b true, .b true, .b true, .inl, .cl [.agg (pgA p), .int .i64 s.pc] (.agg (inA (⟨10, op, d, a, b, nm, tg⟩ : In))) []] .nrm [(0, 0), (1, 1), (2, 2), (3, 3), (4, 4)] (runS p c (s.go (s.pc + 1)) sn n (done + 1) 0)) :=
  vc_of (q := (decide (done < n) = true) ∧ (decide (done < n) = true) ∧ (decide (done < n) = true) ∧ (frS8b6 p ((frS8b7 p s ((PureC Try.prog 23 [.agg (pgA p), .int .i64 s.pc] (.agg (inA (⟨10, op, d, a, b, nm, tg⟩ : In))) []) ∧ (inK IntKind.i64 (S8.pc s + (1 : Int))) ∧ (inK IntKind.i64 (done + (1 : Int))) ∧ (frS8b3 p ((frS8b2 p ((frS8b9 c s ((frS8b8 s sn ((n = n) ∧ (done + (1 : Int) = done + (1 : Int)) ∧ ((0 : Int) = (0 : Int)) ∧ True))))))))))))) (by kernel_rfl)
    ⟨(decide_eq_true (by first | omega | (simp; omega) | (simp; done))),
 (decide_eq_true (by first | omega | (simp; omega) | (simp; done))),
 (decide_eq_true (by first | omega | (simp; omega) | (simp; done))), (frS8b6_mk p (frS8b7_mk p s ⟨hA,
 (in64 (by omega) (by omega)),
 (in64 (by omega) (by omega)), (frS8b3_mk p (frS8b2_mk p (frS8b9_mk c s (frS8b8_mk s sn ⟨rfl,
 rfl,
 rfl, trivial⟩))))⟩))⟩
theorem st_halt (p : Pg) (c : Int) (s : S8) (sn : List Ob) (n done : Int) (op d tg : Int) (a b : Vl) (nm : ByteArray) (hn : done < n) (hn2 : n < 1000000) (hd0 : 0 ≤ done) (hp0 : -1 ≤ s.pc) (hp1 : s.pc < 1000000) (hA : PureC Try.prog 23 [.agg (pgA p), .int .i64 s.pc] (.agg (inA (⟨11, op, d, a, b, nm, tg⟩ : In))) [])  : Vc (vcC Try.prog false (ntOf Try.prog 19) (lpC Try.prog 19 0) (runS p c s sn n done 0) [.b true, .b true, .b true, .inl, .cl [.agg (pgA p), .int .i64 s.pc] (.agg (inA (⟨11, op, d, a, b, nm, tg⟩ : In))) []] .nrm [(0, 0), (1, 1), (2, 2), (3, 3), (4, 4)] (runS p c s sn n (done + 1) 1)) :=
  vc_of (q := (decide (done < n) = true) ∧ (decide (done < n) = true) ∧ (decide (done < n) = true) ∧ (frS8b6 p ((frS8b7 p s ((PureC Try.prog 23 [.agg (pgA p), .int .i64 s.pc] (.agg (inA (⟨11, op, d, a, b, nm, tg⟩ : In))) []) ∧ (inK IntKind.i64 (done + (1 : Int))) ∧ (frS8b3 p ((frS8b2 p ((frS8b9 c s ((frS8b10 s sn ((n = n) ∧ (done + (1 : Int) = done + (1 : Int)) ∧ ((1 : Int) = (1 : Int)) ∧ True))))))))))))) (by kernel_rfl)
    ⟨(decide_eq_true (by first | omega | (simp; omega) | (simp; done))),
 (decide_eq_true (by first | omega | (simp; omega) | (simp; done))),
 (decide_eq_true (by first | omega | (simp; omega) | (simp; done))), (frS8b6_mk p (frS8b7_mk p s ⟨hA,
 (in64 (by omega) (by omega)), (frS8b3_mk p (frS8b2_mk p (frS8b9_mk c s (frS8b10_mk s sn ⟨rfl,
 rfl,
 rfl, trivial⟩))))⟩))⟩
theorem st_fault (p : Pg) (c : Int) (s : S8) (sn : List Ob) (n done : Int) (op d tg : Int) (a b : Vl) (nm : ByteArray) (hn : done < n) (hn2 : n < 1000000) (hd0 : 0 ≤ done) (hp0 : -1 ≤ s.pc) (hp1 : s.pc < 1000000) (hA : PureC Try.prog 23 [.agg (pgA p), .int .i64 s.pc] (.agg (inA (⟨12, op, d, a, b, nm, tg⟩ : In))) [])  : Vc (vcC Try.prog false (ntOf Try.prog 19) (lpC Try.prog 19 0) (runS p c s sn n done 0) [.b true, .b true, .b true, .inl, .cl [.agg (pgA p), .int .i64 s.pc] (.agg (inA (⟨12, op, d, a, b, nm, tg⟩ : In))) []] .nrm [(0, 0), (1, 1), (2, 2), (3, 3), (4, 4)] (runS p c s sn n (done + 1) 2)) :=
  vc_of (q := (decide (done < n) = true) ∧ (decide (done < n) = true) ∧ (decide (done < n) = true) ∧ (frS8b6 p ((frS8b7 p s ((PureC Try.prog 23 [.agg (pgA p), .int .i64 s.pc] (.agg (inA (⟨12, op, d, a, b, nm, tg⟩ : In))) []) ∧ (inK IntKind.i64 (done + (1 : Int))) ∧ (frS8b3 p ((frS8b2 p ((frS8b9 c s ((frS8b10 s sn ((n = n) ∧ (done + (1 : Int) = done + (1 : Int)) ∧ ((2 : Int) = (2 : Int)) ∧ True))))))))))))) (by kernel_rfl)
    ⟨(decide_eq_true (by first | omega | (simp; omega) | (simp; done))),
 (decide_eq_true (by first | omega | (simp; omega) | (simp; done))),
 (decide_eq_true (by first | omega | (simp; omega) | (simp; done))), (frS8b6_mk p (frS8b7_mk p s ⟨hA,
 (in64 (by omega) (by omega)), (frS8b3_mk p (frS8b2_mk p (frS8b9_mk c s (frS8b10_mk s sn ⟨rfl,
 rfl,
 rfl, trivial⟩))))⟩))⟩
def runR (p : Pg) (c : Int) (s : S8) (L : Nat) (pc : Int) (sn : List Ob) (n done e : Int) : Sm := ⟨[(2, .int .i64 n), (6, .bptr 0 0), (10, .bptr 1 0), (11, .int .i64 done), (12, .int .i64 e)],
  [(0, bx 31 (stZ .nils)), (1, bx 79 (mcA p c (s.go pc) (.own 2 0 1 0 s.m.length) (.own 3 0 1 0 L) (.own 4 0 2 0 sn.length))), (2, blkI s.m), (3, blkI s.st), (4, obB sn)], 5⟩
theorem last_nat {l : List Int} : ((l.length : Int) - 1).toNat = l.length - 1 := by omega
theorem take_get {l : List Int} {n : Nat} : ∀ i, i < n → ∀ j, j < 1 → rowI l i j = rowI (l.take n) i j := by
  intro i hi j hj
  unfold rowI
  simp [List.getD, List.getElem?_take, hi]
theorem st_ret1a (p : Pg) (c : Int) (s : S8) (sn : List Ob) (n done : Int) (op d tg : Int) (a b : Vl) (nm : ByteArray) (hn : done < n) (hn2 : n < 1000000) (hd0 : 0 ≤ done) (hp0 : -1 ≤ s.pc) (hp1 : s.pc < 1000000) (hA : PureC Try.prog 23 [.agg (pgA p), .int .i64 s.pc] (.agg (inA (⟨9, op, d, a, b, nm, tg⟩ : In))) []) (hk : ¬ s.st.length = 0) (hk2 : s.st.length < 1000) (hl : sn.length < 1000000) : Vc (vcC Try.prog false (ntOf Try.prog 19) (lpC Try.prog 19 0) (runS p c s sn n done 0) [.b true, .b true, .b true, .inl, .cl [.agg (pgA p), .int .i64 s.pc] (.agg (inA (⟨9, op, d, a, b, nm, tg⟩ : In))) [], .inl, .b false] .nrm [(0, 0), (1, 1), (2, 2), (3, 3), (4, 4)] (runR p c s (s.st.length - 1) (s.st.getD (s.st.length - 1) 0) (sn ++ [⟨3, (s.st.getD (s.st.length - 1) 0)⟩]) n (done + 1) 0)) :=
  vc_of (q := (decide (done < n) = true) ∧ (decide (done < n) = true) ∧ (decide (done < n) = true) ∧ (frS8b6 p ((frS8b7 p s ((PureC Try.prog 23 [.agg (pgA p), .int .i64 s.pc] (.agg (inA (⟨9, op, d, a, b, nm, tg⟩ : In))) []) ∧ (inK IntKind.i64 ((↑(List.length (S8.st s)) : Int) - (1 : Int))) ∧ (decide ((↑(List.length (S8.st s)) : Int) - (1 : Int) < (0 : Int)) = false) ∧ ((0 : Int) ≤ (↑(List.length (S8.st s)) : Int) - (1 : Int) ∧ (↑(List.length (S8.st s)) : Int) - (1 : Int) < (↑(List.length (S8.st s)) : Int)) ∧ (Int.toNat ((↑(List.length (S8.st s)) : Int) - (1 : Int)) + (0 : Nat) < List.length (S8.st s)) ∧ ((0 : Int) ≤ (↑(List.length (S8.st s)) : Int) - (1 : Int) ∧ (↑(List.length (S8.st s)) : Int) - (1 : Int) ≤ (↑(List.length (S8.st s)) : Int)) ∧ ((0 : Nat) = (0 : Nat) ∧ List.length sn = List.length sn ∧ (List.length sn + (1 : Nat)) * (16 : Nat) ≤ (140737488355328 : Nat) ∧ List.length sn + (1 : Nat) ≤ (140737488355328 : Nat)) ∧ (inK IntKind.i64 (done + (1 : Int))) ∧ (frS8b3 p ((frS8b2 p ((frS8b13 c s ((Int.toNat ((↑(List.length (S8.st s)) : Int) - (1 : Int)) = List.length (S8.st s) - (1 : Nat)) ∧ (List.getD (S8.st s) (Int.toNat ((↑(List.length (S8.st s)) : Int) - (1 : Int)) + (0 : Nat)) (0 : Int) = List.getD (S8.st s) (List.length (S8.st s) - (1 : Nat)) (0 : Int)) ∧ ((0 : Nat) = (0 : Nat)) ∧ (List.length sn + (1 : Nat) = List.length (sn ++ [Ob.mk (3 : Int) (List.getD (S8.st s) (List.length (S8.st s) - (1 : Nat)) (0 : Int))])) ∧ (frS8b12 s ((List.length sn + (1 : Nat) = List.length (sn ++ [Ob.mk (3 : Int) (List.getD (S8.st s) (List.length (S8.st s) - (1 : Nat)) (0 : Int))])) ∧ (∀ (i : Nat), i < List.length sn + (1 : Nat) → ∀ (j : Nat), j < (2 : Nat) → (bif Nat.blt i (List.length sn) then rowL obC sn i j else List.getD [AV.int IntKind.i64 (3 : Int), AV.int IntKind.i64 (List.getD (S8.st s) (Int.toNat ((↑(List.length (S8.st s)) : Int) - (1 : Int)) + (0 : Nat)) (0 : Int))] ((i - List.length sn + (0 : Nat)) * (2 : Nat) + j) AV.junk) = rowL obC (sn ++ [Ob.mk (3 : Int) (List.getD (S8.st s) (List.length (S8.st s) - (1 : Nat)) (0 : Int))]) i j) ∧ (n = n) ∧ (done + (1 : Int) = done + (1 : Int)) ∧ ((0 : Int) = (0 : Int)) ∧ True))))))))))))) (by kernel_rfl)
    ⟨(decide_eq_true (by first | omega | (simp; omega) | (simp; done))),
 (decide_eq_true (by first | omega | (simp; omega) | (simp; done))),
 (decide_eq_true (by first | omega | (simp; omega) | (simp; done))), (frS8b6_mk p (frS8b7_mk p s ⟨hA,
 (in64 (by omega) (by omega)),
 (decide_eq_false (by first | omega | (simp; omega) | (simp; done))),
 (by first | omega | rfl | (simp; done) | (simp; omega)),
 (by first | omega | rfl | (simp; done) | (simp; omega)),
 (by first | omega | rfl | (simp; done) | (simp; omega)),
 (by first | omega | rfl),
 (in64 (by omega) (by omega)), (frS8b3_mk p (frS8b2_mk p (frS8b13_mk c s ⟨(by first | omega | rfl | (simp; done) | (simp; omega)),
 (by rw [last_nat]; rfl),
 rfl,
 (by first | omega | rfl | (simp; done) | (simp; omega)), (frS8b12_mk s ⟨(by first | omega | rfl | (simp; done) | (simp; omega)),
 (fun i hi j hj => row_if (fun h => (rowL_left h).symm) (fun h => by obtain rfl : i = _ := Nat.le_antisymm (Nat.lt_succ_iff.mp hi) (Nat.not_lt.mp h); rw [rowL_last, Nat.sub_self]; match j, hj with | 0, _ => rfl | 1, _ => (show AV.int .i64 (s.st.getD (((s.st.length : Int) - 1).toNat + 0) 0) = _; rw [last_nat]; rfl))),
 rfl,
 rfl,
 rfl, trivial⟩)⟩)))⟩))⟩
theorem st_ret1b (p : Pg) (c : Int) (s : S8) (sn : List Ob) (n done : Int) (hk : ¬ s.st.length = 0) : Vc (vcShr 3 (s.st.length - 1) (runR p c s (s.st.length - 1) (s.st.getD (s.st.length - 1) 0) (sn ++ [⟨3, (s.st.getD (s.st.length - 1) 0)⟩]) n (done + 1) 0) [(0, 0), (1, 1), (2, 2), (3, 3), (4, 4)] (runS p c { s with st := s.st.take (s.st.length - 1), pc := (s.st.getD (s.st.length - 1) 0) } (sn ++ [⟨3, (s.st.getD (s.st.length - 1) 0)⟩]) n (done + 1) 0)) :=
  vc_of (q := ((0 : Nat) + (List.length (S8.st s) - (1 : Nat)) ≤ List.length (S8.st s) - (1 : Nat)) ∧ (List.length (S8.st s) - (1 : Nat) ≤ List.length (S8.st s)) ∧ (frS8b3 p ((frS8b2 p ((frS8b13 c s ((List.length (S8.st s) - (1 : Nat) = List.length (List.take (List.length (S8.st s) - (1 : Nat)) (S8.st s))) ∧ (List.getD (S8.st s) (List.length (S8.st s) - (1 : Nat)) (0 : Int) = List.getD (S8.st s) (List.length (S8.st s) - (1 : Nat)) (0 : Int)) ∧ ((0 : Nat) = (0 : Nat)) ∧ (List.length (sn ++ [Ob.mk (3 : Int) (List.getD (S8.st s) (List.length (S8.st s) - (1 : Nat)) (0 : Int))]) = List.length (sn ++ [Ob.mk (3 : Int) (List.getD (S8.st s) (List.length (S8.st s) - (1 : Nat)) (0 : Int))])) ∧ (List.length (S8.m s) = List.length (S8.m s)) ∧ (∀ (i : Nat), i < List.length (S8.m s) → ∀ (j : Nat), j < (1 : Nat) → AV.int IntKind.i64 (List.getD (S8.m s) i (0 : Int)) = AV.int IntKind.i64 (List.getD (S8.m s) i (0 : Int))) ∧ (List.length (S8.st s) - (1 : Nat) = List.length (List.take (List.length (S8.st s) - (1 : Nat)) (S8.st s))) ∧ (∀ (i : Nat), i < List.length (S8.st s) - (1 : Nat) → ∀ (j : Nat), j < (1 : Nat) → AV.int IntKind.i64 (List.getD (S8.st s) i (0 : Int)) = AV.int IntKind.i64 (List.getD (List.take (List.length (S8.st s) - (1 : Nat)) (S8.st s)) i (0 : Int))) ∧ (List.length (sn ++ [Ob.mk (3 : Int) (List.getD (S8.st s) (List.length (S8.st s) - (1 : Nat)) (0 : Int))]) = List.length (sn ++ [Ob.mk (3 : Int) (List.getD (S8.st s) (List.length (S8.st s) - (1 : Nat)) (0 : Int))])) ∧ (∀ (i : Nat), i < List.length (sn ++ [Ob.mk (3 : Int) (List.getD (S8.st s) (List.length (S8.st s) - (1 : Nat)) (0 : Int))]) → ∀ (j : Nat), j < (2 : Nat) → rowL obC (sn ++ [Ob.mk (3 : Int) (List.getD (S8.st s) (List.length (S8.st s) - (1 : Nat)) (0 : Int))]) i j = rowL obC (sn ++ [Ob.mk (3 : Int) (List.getD (S8.st s) (List.length (S8.st s) - (1 : Nat)) (0 : Int))]) i j) ∧ (n = n) ∧ (done + (1 : Int) = done + (1 : Int)) ∧ ((0 : Int) = (0 : Int)) ∧ True))))))) (by kernel_rfl)
    ⟨(by first | omega | rfl | (simp; done) | (simp; omega)),
 (by first | omega | rfl | (simp; done) | (simp; omega)), (frS8b3_mk p (frS8b2_mk p (frS8b13_mk c s ⟨(by first | omega | rfl | (simp; done) | (simp; omega)),
 rfl,
 rfl,
 rfl,
 rfl,
 (fun _ _ _ _ => rfl),
 (by first | omega | rfl | (simp; done) | (simp; omega)),
 take_get,
 rfl,
 (fun _ _ _ _ => rfl),
 rfl,
 rfl,
 rfl, trivial⟩)))⟩
end
end Go.Proofs.Ytjdiabjmphdhiaa.Px
namespace Go.Proofs.Ytjdiabjmphdhiaa.Px
section
open Go.RowKit Go.Proofs.Ytjdiabjmphdhiaa.Rx
def OkI (i : In) (len : Int) : Prop := (1 ≤ i.kind ∧ i.kind ≤ 12) ∧ okV i.a ∧ okV i.b ∧ (0 ≤ i.d ∧ i.d < 4) ∧ (0 ≤ i.tg ∧ i.tg ≤ len)
structure OkP (p : Pg) : Prop where
  ins : ∀ i ∈ p.is, OkI i p.is.length
  len : p.is.length < 1000
  ms : p.ms.length < 1000
  sum : sumN p.ms ≤ 16
structure OkS (c len : Int) (s : S8) : Prop where
  reg : okR s
  mem : ∀ x ∈ s.m, 0 ≤ x ∧ x < 65536
  c : c = s.m.length
  pc : -1 ≤ s.pc ∧ s.pc ≤ len
  st : s.st.length ≤ 100
  stk : ∀ x ∈ s.st, -1 ≤ x ∧ x ≤ len
/-- so many steps: the state, what was observed, how many were done, how it ended -/
structure R8 where
  s : S8
  o : List Ob
  k : Nat
  e : Int
def runD (p : Pg) (c : Int) (s : S8) : Nat → R8
  | 0 => ⟨s, [], 0, 0⟩
  | n + 1 => if (runD p c s n).e = 0 then ⟨(stepI p.W c p.is.length (atI p (runD p c s n).s.pc) (runD p c s n).s).1, (runD p c s n).o ++ (stepI p.W c p.is.length (atI p (runD p c s n).s.pc) (runD p c s n).s).2.1, (runD p c s n).k + 1, (stepI p.W c p.is.length (atI p (runD p c s n).s.pc) (runD p c s n).s).2.2⟩ else runD p c s n
theorem stepI_elim {Q : S8 × List Ob × Int → Prop} (W c len : Int) (i : In) (s : S8)
    (h1 : i.kind = 1 → Q ((s.set i.d (Wd.doV W i.op (vlV W s i.a) (vlV W s i.b))).go (s.pc + 1), [], 0))
    (h4a : i.kind = 4 → vlV W s i.a = 0 → Q (s.go (s.pc + 1), [], 0))
    (h4b : i.kind = 4 → ¬ vlV W s i.a = 0 → Q ((s.set i.d (vlV W s i.b)).go (s.pc + 1), [], 0))
    (h2a : i.kind = 2 → Wd.maskV W (vlV W s i.a + vlV W s i.b) < c → Q ((s.set i.d (s.m.getD (Wd.maskV W (vlV W s i.a + vlV W s i.b)).toNat 0)).go (s.pc + 1), [⟨1, Wd.maskV W (vlV W s i.a + vlV W s i.b)⟩], 0))
    (h2b : i.kind = 2 → ¬ Wd.maskV W (vlV W s i.a + vlV W s i.b) < c → Q (s, [], 2))
    (h3a : i.kind = 3 → Wd.maskV W (vlV W s i.a + vlV W s i.b) < c → Q ({ s with m := s.m.set (Wd.maskV W (vlV W s i.a + vlV W s i.b)).toNat (s.reg i.d), pc := s.pc + 1 }, [⟨2, Wd.maskV W (vlV W s i.a + vlV W s i.b)⟩], 0))
    (h3b : i.kind = 3 → ¬ Wd.maskV W (vlV W s i.a + vlV W s i.b) < c → Q (s, [], 2))
    (h5a : i.kind = 5 → Wd.doV W i.op (vlV W s i.a) (vlV W s i.b) = 0 → Q (s.go (s.pc + 1), [⟨3, s.pc + 1⟩], 0))
    (h5b : i.kind = 5 → ¬ Wd.doV W i.op (vlV W s i.a) (vlV W s i.b) = 0 → Q (s.go i.tg, [⟨3, i.tg⟩], 0))
    (h6 : i.kind = 6 → Q (s.go i.tg, [], 0))
    (h7 : i.kind = 7 → Q (s.go (if len < vlV W s i.a then len else vlV W s i.a), [⟨3, if len < vlV W s i.a then len else vlV W s i.a⟩], 0))
    (h8a : i.kind = 8 → 4 ≤ s.st.length → Q (s, [], 2))
    (h8b : i.kind = 8 → ¬ 4 ≤ s.st.length → Q ({ s with st := s.st ++ [s.pc + 1], pc := i.tg }, [], 0))
    (h9a : i.kind = 9 → s.st.length = 0 → Q (s, [], 2))
    (h9b : i.kind = 9 → ¬ s.st.length = 0 → Q ({ s with st := s.st.take (s.st.length - 1), pc := s.st.getD (s.st.length - 1) 0 }, [⟨3, s.st.getD (s.st.length - 1) 0⟩], 0))
    (h10 : i.kind = 10 → Q (s.go (s.pc + 1), [], 0))
    (h11 : i.kind = 11 → Q (s, [], 1))
    (h0 : (i.kind ≠ 1 ∧ i.kind ≠ 4 ∧ i.kind ≠ 2 ∧ i.kind ≠ 3 ∧ i.kind ≠ 5 ∧ i.kind ≠ 6 ∧ i.kind ≠ 7 ∧ i.kind ≠ 8 ∧ i.kind ≠ 9 ∧ i.kind ≠ 10 ∧ i.kind ≠ 11) → Q (s, [], 2)) : Q (stepI W c len i s) := by
  unfold stepI
  by_cases k1 : i.kind = 1
  · rw [if_pos k1]; exact h1 k1
  rw [if_neg k1]
  by_cases k4 : i.kind = 4
  · rw [if_pos k4]
    by_cases q : vlV W s i.a = 0
    · rw [if_pos q]; exact h4a k4 q
    · rw [if_neg q]; exact h4b k4 q
  rw [if_neg k4]
  by_cases k2 : i.kind = 2
  · rw [if_pos k2]
    by_cases q : Wd.maskV W (vlV W s i.a + vlV W s i.b) < c
    · rw [if_pos q]; exact h2a k2 q
    · rw [if_neg q]; exact h2b k2 q
  rw [if_neg k2]
  by_cases k3 : i.kind = 3
  · rw [if_pos k3]
    by_cases q : Wd.maskV W (vlV W s i.a + vlV W s i.b) < c
    · rw [if_pos q]; exact h3a k3 q
    · rw [if_neg q]; exact h3b k3 q
  rw [if_neg k3]
  by_cases k5 : i.kind = 5
  · rw [if_pos k5]
    by_cases q : Wd.doV W i.op (vlV W s i.a) (vlV W s i.b) = 0
    · rw [if_pos q]; exact h5a k5 q
    · rw [if_neg q]; exact h5b k5 q
  rw [if_neg k5]
  by_cases k6 : i.kind = 6
  · rw [if_pos k6]; exact h6 k6
  rw [if_neg k6]
  by_cases k7 : i.kind = 7
  · rw [if_pos k7]; exact h7 k7
  rw [if_neg k7]
  by_cases k8 : i.kind = 8
  · rw [if_pos k8]
    by_cases q : 4 ≤ s.st.length
    · rw [if_pos q]; exact h8a k8 q
    · rw [if_neg q]; exact h8b k8 q
  rw [if_neg k8]
  by_cases k9 : i.kind = 9
  · rw [if_pos k9]
    by_cases q : s.st.length = 0
    · rw [if_pos q]; exact h9a k9 q
    · rw [if_neg q]; exact h9b k9 q
  rw [if_neg k9]
  by_cases k10 : i.kind = 10
  · rw [if_pos k10]; exact h10 k10
  rw [if_neg k10]
  by_cases k11 : i.kind = 11
  · rw [if_pos k11]; exact h11 k11
  rw [if_neg k11]
  exact h0 ⟨k1, k4, k2, k3, k5, k6, k7, k8, k9, k10, k11⟩
theorem okV0 : okV ⟨false, 0⟩ := fun h => by cases h
theorem atI_ok {p : Pg} (h : OkP p) (pc : Int) : OkI (atI p pc) p.is.length ∧ ((atI p pc).kind ≠ 12 → 0 ≤ pc ∧ pc < p.is.length) := by
  by_cases hp : 0 ≤ pc ∧ pc < p.is.length
  · refine ⟨?_, fun _ => hp⟩
    rw [atI_in hp.1 hp.2]
    refine h.ins _ ?_
    have hlt : pc.toNat < p.is.length := by omega
    rw [List.getD_eq_getElem?_getD, List.getElem?_eq_getElem hlt]
    exact List.getElem_mem hlt
  · rw [atI_out hp]
    exact ⟨⟨⟨by decide, by decide⟩, okV0, okV0, ⟨by decide, by decide⟩, by decide, by show (0 : Int) ≤ _; omega⟩, fun hk => absurd rfl hk⟩
theorem set_ok {s : S8} (h : okR s) (n : Int) {v : Int} (hv : 0 ≤ v ∧ v < 65536) : okR (s.set n v) := by
  obtain ⟨h0, h1, h2, h3⟩ := h
  refine ⟨?_, ?_, ?_, ?_⟩ <;> (simp only [S8.set]; split <;> assumption)
theorem doV_bd (W op a b : Int) : 0 ≤ Wd.doV W op a b ∧ Wd.doV W op a b < 65536 := Wd.maskV_bd _ _
theorem mem_bd {m : List Int} (h : ∀ x ∈ m, 0 ≤ x ∧ x < 65536) (n : Nat) : 0 ≤ m.getD n 0 ∧ m.getD n 0 < 65536 := by
  rw [List.getD_eq_getElem?_getD]
  cases hq : m[n]? with
  | none => simp
  | some x => exact h x (List.mem_of_getElem? hq)
theorem stk_bd {l : List Int} {len : Int} (h : ∀ x ∈ l, -1 ≤ x ∧ x ≤ len) {n : Nat} (hn : n < l.length) : -1 ≤ l.getD n 0 ∧ l.getD n 0 ≤ len := by
  rw [List.getD_eq_getElem?_getD, List.getElem?_eq_getElem hn]
  exact h _ (List.getElem_mem hn)
theorem OkS.go {c len : Int} {s : S8} (h : OkS c len s) {pc : Int} (hp : -1 ≤ pc ∧ pc ≤ len) : OkS c len (s.go pc) := ⟨h.reg, h.mem, h.c, hp, h.st, h.stk⟩
theorem OkS.set {c len : Int} {s : S8} (h : OkS c len s) (n : Int) {v : Int} (hv : 0 ≤ v ∧ v < 65536) : OkS c len (s.set n v) := ⟨set_ok h.reg n hv, h.mem, h.c, h.pc, h.st, h.stk⟩
theorem stepI_ok {W c len : Int} {i : In} {s : S8} (hi : OkI i len) (hs : OkS c len s) (hl : 0 ≤ len) (hpc : i.kind ≠ 12 → 0 ≤ s.pc ∧ s.pc < len) : OkS c len (stepI W c len i s).1 := by
  obtain ⟨hk, ha, hb, hd, ht⟩ := hi
  have va := vlV_bd (W := W) hs.reg i.a
  have vb := vlV_bd (W := W) hs.reg i.b
  have nx : i.kind ≠ 12 → -1 ≤ s.pc + 1 ∧ s.pc + 1 ≤ len := fun h => by have := hpc h; omega
  have tg : -1 ≤ i.tg ∧ i.tg ≤ len := by omega
  exact stepI_elim (Q := fun r => OkS c len r.1) W c len i s
    (fun k => (hs.set _ (doV_bd _ _ _ _)).go (nx (by omega)))
    (fun k _ => hs.go (nx (by omega)))
    (fun k _ => (hs.set _ vb).go (nx (by omega)))
    (fun k _ => (hs.set _ (mem_bd hs.mem _)).go (nx (by omega)))
    (fun _ _ => hs)
    (fun k _ => ⟨hs.reg, fun x hx => by
      rcases List.mem_or_eq_of_mem_set hx with h | rfl
      · exact hs.mem x h
      · exact S8.reg_bd hs.reg _, by rw [List.length_set]; exact hs.c, nx (by omega), hs.st, hs.stk⟩)
    (fun _ _ => hs)
    (fun k _ => hs.go (nx (by omega)))
    (fun _ _ => hs.go tg)
    (fun _ => hs.go tg)
    (fun k => hs.go (by split <;> omega))
    (fun _ _ => hs)
    (fun k h4 => ⟨hs.reg, hs.mem, hs.c, tg, by simp only [List.length_append, List.length_singleton]; omega, fun x hx => by
      rcases List.mem_append.1 hx with h | h
      · exact hs.stk x h
      · rw [List.mem_singleton.1 h]; exact nx (by omega)⟩)
    (fun _ _ => hs)
    (fun _ h0 => ⟨hs.reg, hs.mem, hs.c, stk_bd hs.stk (n := s.st.length - 1) (by omega), by simp only [List.length_take]; have := hs.st; omega, fun x hx => hs.stk x (List.mem_of_mem_take hx)⟩)
    (fun k => hs.go (nx (by omega)))
    (fun _ => hs)
    (fun _ => hs)
theorem runD_ok {p : Pg} {c : Int} {s : S8} (hp : OkP p) (hs : OkS c p.is.length s) : ∀ n, OkS c p.is.length (runD p c s n).s
  | 0 => hs
  | n + 1 => by
    unfold runD
    split
    · exact stepI_ok (atI_ok hp _).1 (runD_ok hp hs n) (by omega) (atI_ok hp _).2
    · exact runD_ok hp hs n
theorem stepI_obs (W c len : Int) (i : In) (s : S8) : (stepI W c len i s).2.1.length ≤ 1 :=
  stepI_elim (Q := fun r => r.2.1.length ≤ 1) W c len i s (fun _ => by simp) (fun _ _ => by simp) (fun _ _ => by simp) (fun _ _ => by simp) (fun _ _ => by simp) (fun _ _ => by simp) (fun _ _ => by simp) (fun _ _ => by simp) (fun _ _ => by simp) (fun _ => by simp) (fun _ => by simp) (fun _ _ => by simp) (fun _ _ => by simp) (fun _ _ => by simp) (fun _ _ => by simp) (fun _ => by simp) (fun _ => by simp) (fun _ => by simp)
theorem runD_obs (p : Pg) (c : Int) (s : S8) : ∀ n, (runD p c s n).o.length ≤ n
  | 0 => Nat.le_refl _
  | n + 1 => by
    unfold runD
    have h1 := runD_obs p c s n
    split
    · have h2 := stepI_obs p.W c p.is.length (atI p (runD p c s n).s.pc) (runD p c s n).s
      simp only [List.length_append]; omega
    · omega
theorem runD_k (p : Pg) (c : Int) (s : S8) : ∀ n, (runD p c s n).k ≤ n ∧ ((runD p c s n).e = 0 → (runD p c s n).k = n) ∧ ∀ j, j ≤ (runD p c s n).k → (runD p c s j).k = j ∧ (j < (runD p c s n).k → (runD p c s j).e = 0) ∧ (j = (runD p c s n).k → runD p c s j = runD p c s n)
  | 0 => ⟨Nat.le_refl _, fun _ => rfl, fun j hj => by
      have : j ≤ 0 := hj
      obtain rfl : j = 0 := by omega
      exact ⟨rfl, fun h => absurd h (by simp [runD]), fun _ => rfl⟩⟩
  | n + 1 => by
    obtain ⟨h1, h2, h3⟩ := runD_k p c s n
    by_cases he : (runD p c s n).e = 0
    · have e1 := h2 he
      have e2 : (runD p c s (n + 1)).k = n + 1 := by rw [runD, if_pos he]; simp [e1]
      refine ⟨by omega, fun _ => e2, fun j hj => ?_⟩
      by_cases hj2 : j = n + 1
      · subst hj2
        exact ⟨e2, fun h => by omega, fun _ => rfl⟩
      · obtain ⟨k1, k2, k3⟩ := h3 j (by omega)
        refine ⟨k1, fun _ => ?_, fun h => by omega⟩
        by_cases hj3 : j = n
        · rw [hj3]; exact he
        · exact k2 (by omega)
    · have e2 : runD p c s (n + 1) = runD p c s n := by rw [runD, if_neg he]
      rw [e2]
      exact ⟨by omega, fun h => absurd h he, h3⟩
theorem round8 (p : Pg) (c : Int) (s : S8) (sn : List Ob) (n done : Int) (hP : OkP p) (hs : OkS c p.is.length s) (hl : sn.length < 1000000) (hn : done < n) (hn2 : n < 1000000) (hd0 : 0 ≤ done) : Ok Try.prog (ntOf Try.prog 19) (lpC Try.prog 19 0) (runS p c s sn n done 0).st .nrm (runS p c (stepI p.W c p.is.length (atI p s.pc) s).1 (sn ++ (stepI p.W c p.is.length (atI p s.pc) s).2.1) n (done + 1) (stepI p.W c p.is.length (atI p s.pc) s).2.2).st := by
  obtain ⟨hi, hpc⟩ := atI_ok hP s.pc
  have hA := atC p s.pc
  generalize atI p s.pc = i at hi hpc hA
  obtain ⟨k, op, d, a, b, nm, tg⟩ := i
  obtain ⟨hk, ha, hb, hd, ht⟩ := hi
  simp only at hk ha hb hd ht hpc
  have hp := hs.pc
  have hlen := hP.len
  have hp1 : s.pc < 1000000 := by omega
  have hst := hs.st
  rcases (by omega : k = 1 ∨ k = 2 ∨ k = 3 ∨ k = 4 ∨ k = 5 ∨ k = 6 ∨ k = 7 ∨ k = 8 ∨ k = 9 ∨ k = 10 ∨ k = 11 ∨ k = 12) with rfl | rfl | rfl | rfl | rfl | rfl | rfl | rfl | rfl | rfl | rfl | rfl
  · have e : stepI p.W c p.is.length ⟨1, op, d, a, b, nm, tg⟩ s = ((s.set d (Wd.doV p.W op (vlV p.W s a) (vlV p.W s b))).go (s.pc + 1), [], 0) := by simp [stepI]
    rw [e, List.append_nil]
    exact Ok.vc (st_alu p c s sn n done op d tg a b nm hn hn2 hd0 hp.1 hp1 hA hd.1 hd.2 ha hb)
  · by_cases hx : Wd.maskV p.W (vlV p.W s a + vlV p.W s b) < c
    · have e : stepI p.W c p.is.length ⟨2, op, d, a, b, nm, tg⟩ s = ((s.set d (s.m.getD (Wd.maskV p.W (vlV p.W s a + vlV p.W s b)).toNat 0)).go (s.pc + 1), [⟨1, Wd.maskV p.W (vlV p.W s a + vlV p.W s b)⟩], 0) := by simp [stepI, hx]
      rw [e]
      exact Ok.vc (st_load1 p c s sn n done op d tg a b nm hn hn2 hd0 hp.1 hp1 hA ha hb hs.c hs.reg hd.1 hd.2 hx hl)
    · have e : stepI p.W c p.is.length ⟨2, op, d, a, b, nm, tg⟩ s = (s, [], 2) := by simp [stepI, hx]
      rw [e, List.append_nil]
      exact Ok.vc (st_load0 p c s sn n done op d tg a b nm hn hn2 hd0 hp.1 hp1 hA ha hb hs.c hs.reg hx)
  · by_cases hx : Wd.maskV p.W (vlV p.W s a + vlV p.W s b) < c
    · have e : stepI p.W c p.is.length ⟨3, op, d, a, b, nm, tg⟩ s = ({ s with m := s.m.set (Wd.maskV p.W (vlV p.W s a + vlV p.W s b)).toNat (s.reg d), pc := s.pc + 1 }, [⟨2, Wd.maskV p.W (vlV p.W s a + vlV p.W s b)⟩], 0) := by simp [stepI, hx]
      rw [e]
      exact Ok.vc (st_store1 p c s sn n done op d tg a b nm hn hn2 hd0 hp.1 hp1 hA ha hb hs.c hs.reg hd.1 hd.2 hx hl)
    · have e : stepI p.W c p.is.length ⟨3, op, d, a, b, nm, tg⟩ s = (s, [], 2) := by simp [stepI, hx]
      rw [e, List.append_nil]
      exact Ok.vc (st_store0 p c s sn n done op d tg a b nm hn hn2 hd0 hp.1 hp1 hA ha hb hs.c hs.reg hx)
  · by_cases hz : vlV p.W s a = 0
    · have e : stepI p.W c p.is.length ⟨4, op, d, a, b, nm, tg⟩ s = (s.go (s.pc + 1), [], 0) := by simp [stepI, hz]
      rw [e, List.append_nil]
      exact Ok.vc (st_cmov0 p c s sn n done op d tg a b nm hn hn2 hd0 hp.1 hp1 hA ha hz)
    · have e : stepI p.W c p.is.length ⟨4, op, d, a, b, nm, tg⟩ s = ((s.set d (vlV p.W s b)).go (s.pc + 1), [], 0) := by simp [stepI, hz]
      rw [e, List.append_nil]
      exact Ok.vc (st_cmov1 p c s sn n done op d tg a b nm hn hn2 hd0 hp.1 hp1 hA ha hb hz hd.1 hd.2)
  · by_cases hz : Wd.doV p.W op (vlV p.W s a) (vlV p.W s b) = 0
    · have e : stepI p.W c p.is.length ⟨5, op, d, a, b, nm, tg⟩ s = (s.go (s.pc + 1), [⟨3, s.pc + 1⟩], 0) := by simp [stepI, hz]
      rw [e]
      exact Ok.vc (st_br0 p c s sn n done op d tg a b nm hn hn2 hd0 hp.1 hp1 hA ha hb hz hl)
    · have e : stepI p.W c p.is.length ⟨5, op, d, a, b, nm, tg⟩ s = (s.go tg, [⟨3, tg⟩], 0) := by simp [stepI, hz]
      rw [e]
      exact Ok.vc (st_br1 p c s sn n done op d tg a b nm hn hn2 hd0 hp.1 hp1 hA ha hb hz hl)
  · have e : stepI p.W c p.is.length ⟨6, op, d, a, b, nm, tg⟩ s = (s.go tg, [], 0) := by simp [stepI]
    rw [e, List.append_nil]
    exact Ok.vc (st_jmp p c s sn n done op d tg a b nm hn hn2 hd0 hp.1 hp1 hA)
  · have e : stepI p.W c p.is.length ⟨7, op, d, a, b, nm, tg⟩ s = (s.go (if (p.is.length : Int) < vlV p.W s a then (p.is.length : Int) else vlV p.W s a), [⟨3, if (p.is.length : Int) < vlV p.W s a then (p.is.length : Int) else vlV p.W s a⟩], 0) := by simp [stepI]
    rw [e]
    exact Ok.vc (st_ind p c s sn n done op d tg a b nm hn hn2 hd0 hp.1 hp1 hA ha hl)
  · by_cases hk : 4 ≤ s.st.length
    · have e : stepI p.W c p.is.length ⟨8, op, d, a, b, nm, tg⟩ s = (s, [], 2) := by simp [stepI, hk]
      rw [e, List.append_nil]
      exact Ok.vc (st_call0 p c s sn n done op d tg a b nm hn hn2 hd0 hp.1 hp1 hA hk (by omega))
    · have e : stepI p.W c p.is.length ⟨8, op, d, a, b, nm, tg⟩ s = ({ s with st := s.st ++ [s.pc + 1], pc := tg }, [], 0) := by simp [stepI, hk]
      rw [e, List.append_nil]
      exact Ok.vc (st_call1 p c s sn n done op d tg a b nm hn hn2 hd0 hp.1 hp1 hA hk)
  · by_cases hk : s.st.length = 0
    · have e : stepI p.W c p.is.length ⟨9, op, d, a, b, nm, tg⟩ s = (s, [], 2) := by simp [stepI, hk]
      rw [e, List.append_nil]
      exact Ok.vc (st_ret0 p c s sn n done op d tg a b nm hn hn2 hd0 hp.1 hp1 hA hk)
    · have e : stepI p.W c p.is.length ⟨9, op, d, a, b, nm, tg⟩ s = ({ s with st := s.st.take (s.st.length - 1), pc := s.st.getD (s.st.length - 1) 0 }, [⟨3, s.st.getD (s.st.length - 1) 0⟩], 0) := by simp [stepI, hk]
      rw [e]
      exact Ok.shr (Ok.vc (st_ret1a p c s sn n done op d tg a b nm hn hn2 hd0 hp.1 hp1 hA hk (by omega) hl)) (st_ret1b p c s sn n done hk)
  · have e : stepI p.W c p.is.length ⟨10, op, d, a, b, nm, tg⟩ s = (s.go (s.pc + 1), [], 0) := by simp [stepI]
    rw [e, List.append_nil]
    exact Ok.vc (st_fence p c s sn n done op d tg a b nm hn hn2 hd0 hp.1 hp1 hA)
  · have e : stepI p.W c p.is.length ⟨11, op, d, a, b, nm, tg⟩ s = (s, [], 1) := by simp [stepI]
    rw [e, List.append_nil]
    exact Ok.vc (st_halt p c s sn n done op d tg a b nm hn hn2 hd0 hp.1 hp1 hA)
  · have e : stepI p.W c p.is.length ⟨12, op, d, a, b, nm, tg⟩ s = (s, [], 2) := by simp [stepI]
    rw [e, List.append_nil]
    exact Ok.vc (st_fault p c s sn n done op d tg a b nm hn hn2 hd0 hp.1 hp1 hA)
theorem stepI_e (W c len : Int) (i : In) (s : S8) : (stepI W c len i s).2.2 = 0 ∨ (stepI W c len i s).2.2 = 1 ∨ (stepI W c len i s).2.2 = 2 :=
  stepI_elim (Q := fun r => r.2.2 = 0 ∨ r.2.2 = 1 ∨ r.2.2 = 2) W c len i s (fun _ => by simp) (fun _ _ => by simp) (fun _ _ => by simp) (fun _ _ => by simp) (fun _ _ => by simp) (fun _ _ => by simp) (fun _ _ => by simp) (fun _ _ => by simp) (fun _ _ => by simp) (fun _ => by simp) (fun _ => by simp) (fun _ _ => by simp) (fun _ _ => by simp) (fun _ _ => by simp) (fun _ _ => by simp) (fun _ => by simp) (fun _ => by simp) (fun _ => by simp)
theorem runD_e (p : Pg) (c : Int) (s : S8) : ∀ n, (runD p c s n).e = 0 ∨ (runD p c s n).e = 1 ∨ (runD p c s n).e = 2
  | 0 => .inl rfl
  | n + 1 => by
    unfold runD
    split
    · exact stepI_e _ _ _ _ _
    · exact runD_e p c s n
def frS8c0 (s : S8) (sn : List Ob) (Z : Prop) : Prop := (S8.pc s = S8.pc s) ∧ ((0 : Nat) = (0 : Nat)) ∧ (List.length sn = List.length sn) ∧ (List.length (S8.m s) = List.length (S8.m s)) ∧ (∀ (i : Nat), i < List.length (S8.m s) → ∀ (j : Nat), j < (1 : Nat) → AV.int IntKind.i64 (List.getD (S8.m s) i (0 : Int)) = AV.int IntKind.i64 (List.getD (S8.m s) i (0 : Int))) ∧ (List.length (S8.st s) = List.length (S8.st s)) ∧ (∀ (i : Nat), i < List.length (S8.st s) → ∀ (j : Nat), j < (1 : Nat) → AV.int IntKind.i64 (List.getD (S8.st s) i (0 : Int)) = AV.int IntKind.i64 (List.getD (S8.st s) i (0 : Int))) ∧ (List.length sn = List.length sn) ∧ (∀ (i : Nat), i < List.length sn → ∀ (j : Nat), j < (2 : Nat) → rowL obC sn i j = rowL obC sn i j) ∧ Z
theorem frS8c0_mk (s : S8) (sn : List Ob) {Z : Prop} (z : Z) : frS8c0 s sn Z := ⟨rfl, rfl, rfl, rfl, (fun _ _ _ _ => rfl), rfl, (fun _ _ _ _ => rfl), rfl, (fun _ _ _ _ => rfl), z⟩
def frS8c1 (c : Int) (s : S8) (Z : Prop) : Prop := (c = c) ∧ (S8.r0 s = S8.r0 s) ∧ (S8.r1 s = S8.r1 s) ∧ (S8.r2 s = S8.r2 s) ∧ (S8.r3 s = S8.r3 s) ∧ ((0 : Nat) = (0 : Nat)) ∧ (List.length (S8.m s) = List.length (S8.m s)) ∧ ((0 : Nat) = (0 : Nat)) ∧ (List.length (S8.st s) = List.length (S8.st s)) ∧ Z
theorem frS8c1_mk (c : Int) (s : S8) {Z : Prop} (z : Z) : frS8c1 c s Z := ⟨rfl, rfl, rfl, rfl, rfl, rfl, rfl, rfl, rfl, z⟩
def frS8c2 (p : Pg) (Z : Prop) : Prop := (Pg.r1 p = Pg.r1 p) ∧ (Pg.r2 p = Pg.r2 p) ∧ (Pg.r3 p = Pg.r3 p) ∧ (List.length (Pg.ms p) = List.length (Pg.ms p)) ∧ (∀ (i : Nat), i < List.length (Pg.ms p) → ∀ (j : Nat), j < (3 : Nat) → rowL mmC (Pg.ms p) i j = rowL mmC (Pg.ms p) i j) ∧ (List.length (Pg.ls p) = List.length (Pg.ls p)) ∧ (∀ (i : Nat), i < List.length (Pg.ls p) → ∀ (j : Nat), j < (2 : Nat) → rowL lbC (Pg.ls p) i j = rowL lbC (Pg.ls p) i j) ∧ (List.length (Pg.is p) = List.length (Pg.is p)) ∧ (∀ (i : Nat), i < List.length (Pg.is p) → ∀ (j : Nat), j < (9 : Nat) → rowL inC (Pg.is p) i j = rowL inC (Pg.is p) i j) ∧ Z
theorem frS8c2_mk (p : Pg) {Z : Prop} (z : Z) : frS8c2 p Z := ⟨rfl, rfl, rfl, rfl, (fun _ _ _ _ => rfl), rfl, (fun _ _ _ _ => rfl), rfl, (fun _ _ _ _ => rfl), z⟩
def frS8c3 (p : Pg) (Z : Prop) : Prop := ((0 : Int) = (0 : Int)) ∧ ((0 : Int) = (0 : Int)) ∧ ((0 : Int) = (0 : Int)) ∧ ((0 : Int) = (0 : Int)) ∧ ((0 : Int) = (0 : Int)) ∧ (Pg.W p = Pg.W p) ∧ (Pg.win p = Pg.win p) ∧ (Pg.fuel p = Pg.fuel p) ∧ (Pg.r0 p = Pg.r0 p) ∧ Z
theorem frS8c3_mk (p : Pg) {Z : Prop} (z : Z) : frS8c3 p Z := ⟨rfl, rfl, rfl, rfl, rfl, rfl, rfl, rfl, rfl, z⟩
theorem rn_end0 (p : Pg) (c : Int) (s : S8) (sn : List Ob) (n done : Int) (hn : ¬ done < n) (e : Int) : Vc (vcC Try.prog false (ntOf Try.prog 19) (lpC Try.prog 19 0) (runS p c s sn n done e) [.b false, .b false, .b false] (.ext 0) [(0, 0), (1, 1), (2, 2), (3, 3), (4, 4)] (runS p c s sn n done e)) :=
  vc_of (q := (decide (done < n) = false) ∧ (decide (done < n) = false) ∧ (decide (done < n) = false) ∧ (frS8c3 p ((frS8c2 p ((frS8c1 c s ((frS8c0 s sn ((n = n) ∧ (done = done) ∧ (e = e) ∧ True))))))))) (by kernel_rfl)
    ⟨(decide_eq_false (by first | omega | (simp; omega) | (simp; done))),
 (decide_eq_false (by first | omega | (simp; omega) | (simp; done))),
 (decide_eq_false (by first | omega | (simp; omega) | (simp; done))), (frS8c3_mk p (frS8c2_mk p (frS8c1_mk c s (frS8c0_mk s sn ⟨rfl,
 rfl,
 rfl, trivial⟩))))⟩
theorem rn_end1 (p : Pg) (c : Int) (s : S8) (sn : List Ob) (n done : Int) (hn : done < n) : Vc (vcC Try.prog false (ntOf Try.prog 19) (lpC Try.prog 19 0) (runS p c s sn n done 1) [.b true, .b true, .b true] (.ext 0) [(0, 0), (1, 1), (2, 2), (3, 3), (4, 4)] (runS p c s sn n done 1)) :=
  vc_of (q := (decide (done < n) = true) ∧ (decide (done < n) = true) ∧ (decide (done < n) = true) ∧ (frS8c3 p ((frS8c2 p ((frS8c1 c s ((frS8c0 s sn ((n = n) ∧ (done = done) ∧ ((1 : Int) = (1 : Int)) ∧ True))))))))) (by kernel_rfl)
    ⟨(decide_eq_true (by first | omega | (simp; omega) | (simp; done))),
 (decide_eq_true (by first | omega | (simp; omega) | (simp; done))),
 (decide_eq_true (by first | omega | (simp; omega) | (simp; done))), (frS8c3_mk p (frS8c2_mk p (frS8c1_mk c s (frS8c0_mk s sn ⟨rfl,
 rfl,
 rfl, trivial⟩))))⟩
theorem rn_end2 (p : Pg) (c : Int) (s : S8) (sn : List Ob) (n done : Int) (hn : done < n) : Vc (vcC Try.prog false (ntOf Try.prog 19) (lpC Try.prog 19 0) (runS p c s sn n done 2) [.b true, .b true, .b true] (.ext 0) [(0, 0), (1, 1), (2, 2), (3, 3), (4, 4)] (runS p c s sn n done 2)) :=
  vc_of (q := (decide (done < n) = true) ∧ (decide (done < n) = true) ∧ (decide (done < n) = true) ∧ (frS8c3 p ((frS8c2 p ((frS8c1 c s ((frS8c0 s sn ((n = n) ∧ (done = done) ∧ ((2 : Int) = (2 : Int)) ∧ True))))))))) (by kernel_rfl)
    ⟨(decide_eq_true (by first | omega | (simp; omega) | (simp; done))),
 (decide_eq_true (by first | omega | (simp; omega) | (simp; done))),
 (decide_eq_true (by first | omega | (simp; omega) | (simp; done))), (frS8c3_mk p (frS8c2_mk p (frS8c1_mk c s (frS8c0_mk s sn ⟨rfl,
 rfl,
 rfl, trivial⟩))))⟩
theorem run_loop (p : Pg) (c : Int) (s : S8) (n : Int) (hP : OkP p) (hs : OkS c p.is.length s) (hn2 : n < 1000000) : Ok Try.prog (ntOf Try.prog 19) (.loop (lpC Try.prog 19 0)) (runS p c s [] n 0 0).st (.ext 0) (runS p c (runD p c s n.toNat).s (runD p c s n.toNat).o n (runD p c s n.toNat).k (runD p c s n.toNat).e).st :=
  Ok.loop (P := Try.prog) (nt := ntOf Try.prog 19) (c := lpC Try.prog 19 0) (F := fun k => runS p c (runD p c s k).s (runD p c s k).o n (runD p c s k).k (runD p c s k).e) (m := (runD p c s n.toNat).k) (x := .ext 0) (J := runS p c (runD p c s n.toNat).s (runD p c s n.toNat).o n (runD p c s n.toNat).k (runD p c s n.toNat).e) (fun k hk => by
    obtain ⟨h1, h2, h3⟩ := runD_k p c s n.toNat
    obtain ⟨k1, k2, _⟩ := h3 k (by omega)
    have he := k2 hk
    have e1 : runD p c s (k + 1) = ⟨(stepI p.W c p.is.length (atI p (runD p c s k).s.pc) (runD p c s k).s).1, (runD p c s k).o ++ (stepI p.W c p.is.length (atI p (runD p c s k).s.pc) (runD p c s k).s).2.1, (runD p c s k).k + 1, (stepI p.W c p.is.length (atI p (runD p c s k).s.pc) (runD p c s k).s).2.2⟩ := by rw [runD, if_pos he]
    have ho := runD_obs p c s k
    show Ok _ _ _ (runS p c _ _ n ((runD p c s k).k : Int) (runD p c s k).e).st _ (runS p c (runD p c s (k + 1)).s (runD p c s (k + 1)).o n ((runD p c s (k + 1)).k : Int) (runD p c s (k + 1)).e).st
    rw [e1, he]
    exact round8 p c _ _ n _ hP (runD_ok hP hs k) (by omega) (by omega) (by omega) (by omega)) (by
    obtain ⟨h1, h2, h3⟩ := runD_k p c s n.toNat
    obtain ⟨k1, k2, k3⟩ := h3 (runD p c s n.toNat).k (Nat.le_refl _)
    show Ok _ _ _ (runS p c (runD p c s (runD p c s n.toNat).k).s (runD p c s (runD p c s n.toNat).k).o n ((runD p c s (runD p c s n.toNat).k).k : Int) (runD p c s (runD p c s n.toNat).k).e).st _ _
    rw [k3 rfl]
    by_cases hd : (runD p c s n.toNat).k < n.toNat
    · have he : (runD p c s n.toNat).e ≠ 0 := fun h => by have := h2 h; omega
      rcases runD_e p c s n.toNat with h | h | h
      · exact absurd h he
      · rw [h]; exact Ok.vc (rn_end1 p c _ _ n _ (by omega))
      · rw [h]; exact Ok.vc (rn_end2 p c _ _ n _ (by omega))
    · exact Ok.vc (rn_end0 p c _ _ n _ (by omega) _)) (by simp)
theorem run_vc (p : Pg) (s : S8) (n : Int) (hP : OkP p) (hs : OkS ((sumN p.ms : Nat) : Int) p.is.length s) (hn2 : n < 1000000) : Vc (vcFn Try.prog false 19 [.agg (pgA p), .agg (s8A s (.row 1 s.m.length (rowI s.m)) (.row 1 s.st.length (rowI s.st))), .int .i64 n] [.fz, .cl [.row 1 s.m.length (rowI s.m)] (.own 0 0 1 0 s.m.length) [blkI s.m], .cl [.row 1 s.st.length (rowI s.st)] (.own 0 0 1 0 s.st.length) [blkI s.st], .cl [.agg (progL p.W p.r0 p.r1 p.r2 p.r3 (memR p.ms))] (.int .i64 (sumN p.ms)) [], .lp [(0, 2), (1, 5), (2, 3), (3, 4)] (runS p ((sumN p.ms : Nat) : Int) s [] n 0 0) (.ext 0) (runS p ((sumN p.ms : Nat) : Int) (runD p ((sumN p.ms : Nat) : Int) s n.toNat).s (runD p ((sumN p.ms : Nat) : Int) s n.toNat).o n (runD p ((sumN p.ms : Nat) : Int) s n.toNat).k (runD p ((sumN p.ms : Nat) : Int) s n.toNat).e), .ll [1]] [(0, 2), (1, 3), (2, 4)] (.tup [.agg (s8A (runD p ((sumN p.ms : Nat) : Int) s n.toNat).s (.own 0 0 1 0 (runD p ((sumN p.ms : Nat) : Int) s n.toNat).s.m.length) (.own 1 0 1 0 (runD p ((sumN p.ms : Nat) : Int) s n.toNat).s.st.length)), .own 2 0 2 0 (runD p ((sumN p.ms : Nat) : Int) s n.toNat).o.length, .int .i64 (runD p ((sumN p.ms : Nat) : Int) s n.toNat).k, .int .i64 (runD p ((sumN p.ms : Nat) : Int) s n.toNat).e]) [blkI (runD p ((sumN p.ms : Nat) : Int) s n.toNat).s.m, blkI (runD p ((sumN p.ms : Nat) : Int) s n.toNat).s.st, obB (runD p ((sumN p.ms : Nat) : Int) s n.toNat).o]) :=
  vc_of (q := (List.length (S8.m s) = List.length (S8.m s)) ∧ (∀ (i : Nat), i < List.length (S8.m s) → ∀ (j : Nat), j < (1 : Nat) → AV.int IntKind.i64 (List.getD (S8.m s) i (0 : Int)) = AV.int IntKind.i64 (List.getD (S8.m s) i (0 : Int))) ∧ (PureC Try.prog 37 [.row 1 s.m.length (rowI s.m)] (.own 0 0 1 0 s.m.length) [blkI s.m]) ∧ (List.length (S8.st s) = List.length (S8.st s)) ∧ (∀ (i : Nat), i < List.length (S8.st s) → ∀ (j : Nat), j < (1 : Nat) → AV.int IntKind.i64 (List.getD (S8.st s) i (0 : Int)) = AV.int IntKind.i64 (List.getD (S8.st s) i (0 : Int))) ∧ (PureC Try.prog 37 [.row 1 s.st.length (rowI s.st)] (.own 0 0 1 0 s.st.length) [blkI s.st]) ∧ (Pg.W p = Pg.W p) ∧ (Pg.r0 p = Pg.r0 p) ∧ (Pg.r1 p = Pg.r1 p) ∧ (Pg.r2 p = Pg.r2 p) ∧ (Pg.r3 p = Pg.r3 p) ∧ (List.length (Pg.ms p) = List.length (Pg.ms p)) ∧ (∀ (i : Nat), i < List.length (Pg.ms p) → ∀ (j : Nat), j < (3 : Nat) → rowL mmC (Pg.ms p) i j = rowL mmC (Pg.ms p) i j) ∧ (PureC Try.prog 30 [.agg (progL p.W p.r0 p.r1 p.r2 p.r3 (memR p.ms))] (.int .i64 (sumN p.ms)) []) ∧ (frS8c3 p ((frS8c2 p (((↑(sumN (Pg.ms p)) : Int) = (↑(sumN (Pg.ms p)) : Int)) ∧ (S8.r0 s = S8.r0 s) ∧ (S8.r1 s = S8.r1 s) ∧ (S8.r2 s = S8.r2 s) ∧ (S8.r3 s = S8.r3 s) ∧ ((0 : Nat) = (0 : Nat)) ∧ (List.length (S8.m s) = List.length (S8.m s)) ∧ ((0 : Nat) = (0 : Nat)) ∧ (List.length (S8.st s) = List.length (S8.st s)) ∧ (S8.pc s = S8.pc s) ∧ ((0 : Nat) = (0 : Nat)) ∧ ((0 : Nat) = (0 : Nat)) ∧ (List.length (S8.m s) = List.length (S8.m s)) ∧ (∀ (i : Nat), i < List.length (S8.m s) → ∀ (j : Nat), j < (1 : Nat) → AV.int IntKind.i64 (List.getD (S8.m s) i (0 : Int)) = AV.int IntKind.i64 (List.getD (S8.m s) i (0 : Int))) ∧ (List.length (S8.st s) = List.length (S8.st s)) ∧ (∀ (i : Nat), i < List.length (S8.st s) → ∀ (j : Nat), j < (1 : Nat) → AV.int IntKind.i64 (List.getD (S8.st s) i (0 : Int)) = AV.int IntKind.i64 (List.getD (S8.st s) i (0 : Int))) ∧ ((0 : Nat) = (0 : Nat)) ∧ (n = n) ∧ ((0 : Int) = (0 : Int)) ∧ ((0 : Int) = (0 : Int)) ∧ (Ok Try.prog (ntOf Try.prog 19) (.loop (lpC Try.prog 19 0)) (runS p ((sumN p.ms : Nat) : Int) s [] n 0 0).st (.ext 0) (runS p ((sumN p.ms : Nat) : Int) (runD p ((sumN p.ms : Nat) : Int) s n.toNat).s (runD p ((sumN p.ms : Nat) : Int) s n.toNat).o n (runD p ((sumN p.ms : Nat) : Int) s n.toNat).k (runD p ((sumN p.ms : Nat) : Int) s n.toNat).e).st) ∧ (List.length (S8.m (R8.s (runD p (↑(sumN (Pg.ms p)) : Int) s (Int.toNat n)))) = List.length (S8.m (R8.s (runD p (↑(sumN (Pg.ms p)) : Int) s (Int.toNat n))))) ∧ (∀ (i : Nat), i < List.length (S8.m (R8.s (runD p (↑(sumN (Pg.ms p)) : Int) s (Int.toNat n)))) → ∀ (j : Nat), j < (1 : Nat) → AV.int IntKind.i64 (List.getD (S8.m (R8.s (runD p (↑(sumN (Pg.ms p)) : Int) s (Int.toNat n)))) i (0 : Int)) = AV.int IntKind.i64 (List.getD (S8.m (R8.s (runD p (↑(sumN (Pg.ms p)) : Int) s (Int.toNat n)))) i (0 : Int))) ∧ (List.length (S8.st (R8.s (runD p (↑(sumN (Pg.ms p)) : Int) s (Int.toNat n)))) = List.length (S8.st (R8.s (runD p (↑(sumN (Pg.ms p)) : Int) s (Int.toNat n))))) ∧ (∀ (i : Nat), i < List.length (S8.st (R8.s (runD p (↑(sumN (Pg.ms p)) : Int) s (Int.toNat n)))) → ∀ (j : Nat), j < (1 : Nat) → AV.int IntKind.i64 (List.getD (S8.st (R8.s (runD p (↑(sumN (Pg.ms p)) : Int) s (Int.toNat n)))) i (0 : Int)) = AV.int IntKind.i64 (List.getD (S8.st (R8.s (runD p (↑(sumN (Pg.ms p)) : Int) s (Int.toNat n)))) i (0 : Int))) ∧ (List.length (R8.o (runD p (↑(sumN (Pg.ms p)) : Int) s (Int.toNat n))) = List.length (R8.o (runD p (↑(sumN (Pg.ms p)) : Int) s (Int.toNat n)))) ∧ (∀ (i : Nat), i < List.length (R8.o (runD p (↑(sumN (Pg.ms p)) : Int) s (Int.toNat n))) → ∀ (j : Nat), j < (2 : Nat) → rowL obC (R8.o (runD p (↑(sumN (Pg.ms p)) : Int) s (Int.toNat n))) i j = rowL obC (R8.o (runD p (↑(sumN (Pg.ms p)) : Int) s (Int.toNat n))) i j) ∧ (S8.r0 (R8.s (runD p (↑(sumN (Pg.ms p)) : Int) s (Int.toNat n))) = S8.r0 (R8.s (runD p (↑(sumN (Pg.ms p)) : Int) s (Int.toNat n)))) ∧ (S8.r1 (R8.s (runD p (↑(sumN (Pg.ms p)) : Int) s (Int.toNat n))) = S8.r1 (R8.s (runD p (↑(sumN (Pg.ms p)) : Int) s (Int.toNat n)))) ∧ (S8.r2 (R8.s (runD p (↑(sumN (Pg.ms p)) : Int) s (Int.toNat n))) = S8.r2 (R8.s (runD p (↑(sumN (Pg.ms p)) : Int) s (Int.toNat n)))) ∧ (S8.r3 (R8.s (runD p (↑(sumN (Pg.ms p)) : Int) s (Int.toNat n))) = S8.r3 (R8.s (runD p (↑(sumN (Pg.ms p)) : Int) s (Int.toNat n)))) ∧ ((0 : Nat) = (0 : Nat)) ∧ (List.length (S8.m (R8.s (runD p (↑(sumN (Pg.ms p)) : Int) s (Int.toNat n)))) = List.length (S8.m (R8.s (runD p (↑(sumN (Pg.ms p)) : Int) s (Int.toNat n))))) ∧ ((0 : Nat) = (0 : Nat)) ∧ (List.length (S8.st (R8.s (runD p (↑(sumN (Pg.ms p)) : Int) s (Int.toNat n)))) = List.length (S8.st (R8.s (runD p (↑(sumN (Pg.ms p)) : Int) s (Int.toNat n))))) ∧ (S8.pc (R8.s (runD p (↑(sumN (Pg.ms p)) : Int) s (Int.toNat n))) = S8.pc (R8.s (runD p (↑(sumN (Pg.ms p)) : Int) s (Int.toNat n)))) ∧ ((0 : Nat) = (0 : Nat)) ∧ (List.length (R8.o (runD p (↑(sumN (Pg.ms p)) : Int) s (Int.toNat n))) = List.length (R8.o (runD p (↑(sumN (Pg.ms p)) : Int) s (Int.toNat n)))) ∧ ((↑(R8.k (runD p (↑(sumN (Pg.ms p)) : Int) s (Int.toNat n))) : Int) = (↑(R8.k (runD p (↑(sumN (Pg.ms p)) : Int) s (Int.toNat n))) : Int)) ∧ (R8.e (runD p (↑(sumN (Pg.ms p)) : Int) s (Int.toNat n)) = R8.e (runD p (↑(sumN (Pg.ms p)) : Int) s (Int.toNat n))) ∧ True))))) (by kernel_rfl)
    ⟨rfl,
 (fun _ _ _ _ => rfl),
 cloneC (.row s.m) (by have := hs.c; have := hP.sum; omega),
 rfl,
 (fun _ _ _ _ => rfl),
 cloneC (.row s.st) (by have := hs.st; omega),
 rfl,
 rfl,
 rfl,
 rfl,
 rfl,
 rfl,
 (fun _ _ _ _ => rfl),
 archCells p.W p.r0 p.r1 p.r2 p.r3 p.ms (by have := hP.ms; omega) hP.sum, (frS8c3_mk p (frS8c2_mk p ⟨rfl,
 rfl,
 rfl,
 rfl,
 rfl,
 rfl,
 rfl,
 rfl,
 rfl,
 rfl,
 rfl,
 rfl,
 rfl,
 (fun _ _ _ _ => rfl),
 rfl,
 (fun _ _ _ _ => rfl),
 rfl,
 rfl,
 rfl,
 rfl,
 run_loop p ((sumN p.ms : Nat) : Int) s n hP hs hn2,
 rfl,
 (fun _ _ _ _ => rfl),
 rfl,
 (fun _ _ _ _ => rfl),
 rfl,
 (fun _ _ _ _ => rfl),
 rfl,
 rfl,
 rfl,
 rfl,
 rfl,
 rfl,
 rfl,
 rfl,
 rfl,
 rfl,
 rfl,
 rfl,
 rfl, trivial⟩))⟩
theorem runC (p : Pg) (s : S8) (n : Int) (hP : OkP p) (hs : OkS ((sumN p.ms : Nat) : Int) p.is.length s) (hn2 : n < 1000000) : PureC Try.prog 19 [.agg (pgA p), .agg (s8A s (.row 1 s.m.length (rowI s.m)) (.row 1 s.st.length (rowI s.st))), .int .i64 n] (.tup [.agg (s8A (runD p ((sumN p.ms : Nat) : Int) s n.toNat).s (.own 0 0 1 0 (runD p ((sumN p.ms : Nat) : Int) s n.toNat).s.m.length) (.own 1 0 1 0 (runD p ((sumN p.ms : Nat) : Int) s n.toNat).s.st.length)), .own 2 0 2 0 (runD p ((sumN p.ms : Nat) : Int) s n.toNat).o.length, .int .i64 (runD p ((sumN p.ms : Nat) : Int) s n.toNat).k, .int .i64 (runD p ((sumN p.ms : Nat) : Int) s n.toNat).e]) [blkI (runD p ((sumN p.ms : Nat) : Int) s n.toNat).s.m, blkI (runD p ((sumN p.ms : Nat) : Int) s n.toNat).s.st, obB (runD p ((sumN p.ms : Nat) : Int) s n.toNat).o] := PureC.vc (run_vc p s n hP hs hn2)
end
end Go.Proofs.Ytjdiabjmphdhiaa.Px
namespace Go.Proofs.Ytjdiabjmphdhiaa.Px
section
open Go.RowKit Go.Proofs.Ytjdiabjmphdhiaa.Rx
def kptr (l : List Int) : AV := .rptr 1 (fun q => [AV.row 1 l.length (rowI l)].getD q .junk) 0
/-- number i of a row, or i itself -/
def kN (l : List Int) (i : Nat) : Int := if i < l.length then l.getD i 0 else (i : Int)
def dgS : Nat → ByteArray
  | 0 => ⟨#[48]⟩
  | 1 => ⟨#[49]⟩
  | 2 => ⟨#[50]⟩
  | 3 => ⟨#[51]⟩
  | 4 => ⟨#[52]⟩
  | _ => ⟨#[53]⟩
theorem k_in (l : List Int) (i : Nat) (h : i < l.length) (hi : i < 1000) : Vc (vcFn Try.prog false 26 [.int .i64 i, kptr l] [.b true] [] (.int .i64 (l.getD i 0)) []) :=
  vc_of (q := (decide ((↑i : Int) < (↑(List.length l) : Int)) = true) ∧ ((0 : Int) ≤ (↑i : Int) ∧ (↑i : Int) < (↑(List.length l) : Int)) ∧ (List.getD l i (0 : Int) = List.getD l i (0 : Int)) ∧ True) (by kernel_rfl)
    ⟨(decide_eq_true (by first | omega | (simp; omega) | (simp; done))),
 (by first | omega | rfl),
 rfl, trivial⟩
theorem k_out (l : List Int) (i : Nat) (h : ¬ i < l.length) (hi : i < 1000) : Vc (vcFn Try.prog false 26 [.int .i64 i, kptr l] [.b false] [] (.int .i64 i) []) :=
  vc_of (q := (decide ((↑i : Int) < (↑(List.length l) : Int)) = false) ∧ ((↑i : Int) = (↑i : Int)) ∧ True) (by kernel_rfl)
    ⟨(decide_eq_false (by first | omega | (simp; omega) | (simp; done))),
 rfl, trivial⟩
theorem kC (l : List Int) (i : Nat) (hi : i < 1000) : PureC Try.prog 26 [.int .i64 i, kptr l] (.int .i64 (kN l i)) [] := by
  unfold kN
  by_cases h : i < l.length
  · rw [if_pos h]; exact PureC.vc (k_in l i h hi)
  · rw [if_neg h]; exact PureC.vc (k_out l i h hi)
theorem dg0  : Vc (vcFn Try.prog true 27 [.int .i64 0] [] [] (.str (dgS 0)) []) :=
  vc_of (q := (Go.strOfNums [IntKind.wrap IntKind.u8 ((48 : Int) + Int.tmod (0 : Int) (10 : Int))] ++ ByteArray.mk (Array.mk []) = dgS (0 : Nat)) ∧ True) (by kernel_rfl)
    ⟨(by first | omega | rfl | (simp; done) | (simp; omega)), trivial⟩
theorem dg1  : Vc (vcFn Try.prog true 27 [.int .i64 1] [] [] (.str (dgS 1)) []) :=
  vc_of (q := (Go.strOfNums [IntKind.wrap IntKind.u8 ((48 : Int) + Int.tmod (1 : Int) (10 : Int))] ++ ByteArray.mk (Array.mk []) = dgS (1 : Nat)) ∧ True) (by kernel_rfl)
    ⟨(by first | omega | rfl | (simp; done) | (simp; omega)), trivial⟩
theorem dg2  : Vc (vcFn Try.prog true 27 [.int .i64 2] [] [] (.str (dgS 2)) []) :=
  vc_of (q := (Go.strOfNums [IntKind.wrap IntKind.u8 ((48 : Int) + Int.tmod (2 : Int) (10 : Int))] ++ ByteArray.mk (Array.mk []) = dgS (2 : Nat)) ∧ True) (by kernel_rfl)
    ⟨(by first | omega | rfl | (simp; done) | (simp; omega)), trivial⟩
theorem dg3  : Vc (vcFn Try.prog true 27 [.int .i64 3] [] [] (.str (dgS 3)) []) :=
  vc_of (q := (Go.strOfNums [IntKind.wrap IntKind.u8 ((48 : Int) + Int.tmod (3 : Int) (10 : Int))] ++ ByteArray.mk (Array.mk []) = dgS (3 : Nat)) ∧ True) (by kernel_rfl)
    ⟨(by first | omega | rfl | (simp; done) | (simp; omega)), trivial⟩
theorem dg4  : Vc (vcFn Try.prog true 27 [.int .i64 4] [] [] (.str (dgS 4)) []) :=
  vc_of (q := (Go.strOfNums [IntKind.wrap IntKind.u8 ((48 : Int) + Int.tmod (4 : Int) (10 : Int))] ++ ByteArray.mk (Array.mk []) = dgS (4 : Nat)) ∧ True) (by kernel_rfl)
    ⟨(by first | omega | rfl | (simp; done) | (simp; omega)), trivial⟩
theorem dg5  : Vc (vcFn Try.prog true 27 [.int .i64 5] [] [] (.str (dgS 5)) []) :=
  vc_of (q := (Go.strOfNums [IntKind.wrap IntKind.u8 ((48 : Int) + Int.tmod (5 : Int) (10 : Int))] ++ ByteArray.mk (Array.mk []) = dgS (5 : Nat)) ∧ True) (by kernel_rfl)
    ⟨(by first | omega | rfl | (simp; done) | (simp; omega)), trivial⟩
theorem digC (i : Nat) (hi : i < 6) : PureC Try.prog 27 [.int .i64 i] (.str (dgS i)) [] := match i, hi with
  | 0, _ => PureC.vc dg0
  | 1, _ => PureC.vc dg1
  | 2, _ => PureC.vc dg2
  | 3, _ => PureC.vc dg3
  | 4, _ => PureC.vc dg4
  | 5, _ => PureC.vc dg5
def x2 (x : Int) (s : Nat) : Int := Int.fdiv x (2 ^ s)
def vlN (x : Int) : Vl := if bits .and .i64 x 4 = 0 then ⟨false, bits .and .i64 x 3⟩ else ⟨true, bits .and .i64 x 3⟩
def v0 : Vl := ⟨false, 0⟩
def tmN (x : Int) (m : Int) : Int := Int.tmod (bits .and .i64 x 255) m
/-- an instruction of kind k of a number */ -/
def insOf (k : Nat) (x : Int) (n : Nat) : In := match k with
  | 1 => ⟨1, tmN (x2 x 16) 10 + 1, bits .and .i64 (x2 x 14) 3, vlN (x2 x 8), vlN (x2 x 11), ⟨#[]⟩, 0⟩
  | 2 => ⟨2, 0, bits .and .i64 (x2 x 14) 3, vlN (x2 x 8), vlN (x2 x 11), ⟨#[]⟩, 0⟩
  | 3 => ⟨3, 0, bits .and .i64 (x2 x 14) 3, vlN (x2 x 8), vlN (x2 x 11), ⟨#[]⟩, 0⟩
  | 4 => ⟨4, 0, bits .and .i64 (x2 x 14) 3, vlN (x2 x 8), vlN (x2 x 11), ⟨#[]⟩, 0⟩
  | 5 => ⟨5, ([9, 10, 3, 2] : List Int).getD (bits .and .i64 (x2 x 16) 3).toNat 0, 0, vlN (x2 x 8), vlN (x2 x 11), ⟨#[]⟩, tmN (x2 x 18) (n + 1)⟩
  | 6 => ⟨6, 0, 0, v0, v0, ⟨#[]⟩, tmN (x2 x 18) (n + 1)⟩
  | 7 => ⟨7, 0, 0, vlN (x2 x 8), v0, ⟨#[]⟩, 0⟩
  | 8 => ⟨8, 0, 0, v0, v0, ⟨#[]⟩, tmN (x2 x 18) (n + 1)⟩
  | k => ⟨k, 0, 0, v0, v0, ⟨#[]⟩, 0⟩
def kindL : List Nat := [1, 1, 2, 2, 2, 3, 3, 4, 5, 5, 5, 6, 7, 8, 9, 10, 11, 1]
def insN (x : Int) (n : Nat) : In := insOf (kindL.getD (tmN x 18).toNat 0) x n
theorem val_true (x : Int) (h : (bits .and .i64 x 4 == 0) = true) : Vc (vcFn Try.prog false 45 [.int .i64 x] [.b true] [] (.agg (vlA ⟨false, bits .and .i64 x 3⟩)) []) :=
  vc_of (q := ((Go.bits Go.BinOp.and IntKind.i64 x (4 : Int) == (0 : Int)) = true) ∧ (false = false) ∧ (Go.bits Go.BinOp.and IntKind.i64 x (3 : Int) = Go.bits Go.BinOp.and IntKind.i64 x (3 : Int)) ∧ True) (by kernel_rfl)
    ⟨h,
 rfl,
 rfl, trivial⟩
theorem val_false (x : Int) (h : (bits .and .i64 x 4 == 0) = false) : Vc (vcFn Try.prog false 45 [.int .i64 x] [.b false] [] (.agg (vlA ⟨true, bits .and .i64 x 3⟩)) []) :=
  vc_of (q := ((Go.bits Go.BinOp.and IntKind.i64 x (4 : Int) == (0 : Int)) = false) ∧ (true = true) ∧ (Go.bits Go.BinOp.and IntKind.i64 x (3 : Int) = Go.bits Go.BinOp.and IntKind.i64 x (3 : Int)) ∧ True) (by kernel_rfl)
    ⟨h,
 rfl,
 rfl, trivial⟩
theorem lvalC (x : Int) : PureC Try.prog 45 [.int .i64 x] (.agg (vlA (vlN x))) [] := by
  unfold vlN
  cases h : (bits .and .i64 x 4 == 0) with
  | true => rw [if_pos (by simpa using h)]; exact PureC.vc (val_true x h)
  | false => rw [if_neg (by simpa using h)]; exact PureC.vc (val_false x h)
theorem tm_bd (y m : Int) (hm : 0 < m) : 0 ≤ Int.tmod (bits .and .i64 y 255) m ∧ Int.tmod (bits .and .i64 y 255) m < m := by
  have h := Wd.bits_mask y 8 (by omega)
  have h2 : bits .and .i64 y 255 = y % 256 := h
  rw [h2, Int.tmod_eq_emod_of_nonneg (by omega)]
  exact ⟨Int.emod_nonneg _ (by omega), Int.emod_lt_of_pos _ hm⟩
theorem in_tm (y m : Int) (hm : 0 < m) (h1 : m ≤ 1000) : inK .i64 (Int.tmod (bits .and .i64 y 255) m + 1) := by
  have := tm_bd y m hm
  exact in64 (by omega) (by omega)
theorem bits3 (y : Int) : ∃ q : Nat, q < 4 ∧ bits .and .i64 y 3 = (q : Int) := by
  have h := Wd.bits_mask y 2 (by omega)
  have h2 : bits .and .i64 y 3 = y % 4 := h
  exact ⟨(y % 4).toNat, by omega, by omega⟩
def frS8k0 (x : Int) (n : Nat) (Z : Prop) : Prop := (Vl.reg (vlN (x2 x (8 : Nat))) = Vl.reg (vlN (x2 x (8 : Nat)))) ∧ (Vl.n (vlN (x2 x (8 : Nat))) = Vl.n (vlN (x2 x (8 : Nat)))) ∧ (Vl.reg (vlN (x2 x (11 : Nat))) = Vl.reg (vlN (x2 x (11 : Nat)))) ∧ (Vl.n (vlN (x2 x (11 : Nat))) = Vl.n (vlN (x2 x (11 : Nat)))) ∧ (ByteArray.mk (Array.mk []) = ByteArray.mk (Array.mk [])) ∧ ((0 : Int) = (0 : Int)) ∧ Z
theorem frS8k0_mk (x : Int) (n : Nat) {Z : Prop} (z : Z) : frS8k0 x n Z := ⟨rfl, rfl, rfl, rfl, rfl, rfl, z⟩
abbrev cS8k0 (x : Int) : Prop := (PureC Try.prog 45 [.int .i64 (x2 x 11)] (.agg (vlA (vlN (x2 x 11)))) [])
abbrev cS8k1 (x : Int) : Prop := (PureC Try.prog 45 [.int .i64 (x2 x 8)] (.agg (vlA (vlN (x2 x 8)))) [])
theorem ins0 (x : Int) (n : Nat) (hn : n < 100) (hq : Int.tmod (bits .and .i64 x 255) 18 = ((0 : Nat) : Int)) : Vc (vcFn Try.prog false 28 [.int .i64 x, .int .i64 n] [.iy 0, .cl [.int .i64 (x2 x 8)] (.agg (vlA (vlN (x2 x 8)))) [], .cl [.int .i64 (x2 x 11)] (.agg (vlA (vlN (x2 x 11)))) [], .ll [3, 4]] [] (.agg (inA (insOf 1 x n))) []) :=
  vc_of (q := ((18 : Int) ≠ (0 : Int)) ∧ (Int.tmod (Go.bits Go.BinOp.and IntKind.i64 x (255 : Int)) (18 : Int) = (↑(0 : Nat) : Int)) ∧ ((0 : Int) ≤ (↑(0 : Nat) : Int) ∧ (↑(0 : Nat) : Int) < (↑(18 : Nat) : Int)) ∧ ((0 : Nat) < (18 : Nat)) ∧ ((0 : Int) ≤ (8 : Int)) ∧ (Int.fdiv x ((2 : Int) ^ (8 : Nat)) = x2 x (8 : Nat)) ∧ cS8k1 x ∧ ((0 : Int) ≤ (11 : Int)) ∧ (Int.fdiv x ((2 : Int) ^ (11 : Nat)) = x2 x (11 : Nat)) ∧ cS8k0 x ∧ ((0 : Int) ≤ (16 : Int)) ∧ ((10 : Int) ≠ (0 : Int)) ∧ (inK IntKind.i64 (Int.tmod (Go.bits Go.BinOp.and IntKind.i64 (Int.fdiv x ((2 : Int) ^ (16 : Nat))) (255 : Int)) (10 : Int) + (1 : Int))) ∧ ((0 : Int) ≤ (14 : Int)) ∧ ((1 : Int) = (1 : Int)) ∧ (Int.tmod (Go.bits Go.BinOp.and IntKind.i64 (Int.fdiv x ((2 : Int) ^ (16 : Nat))) (255 : Int)) (10 : Int) + (1 : Int) = tmN (x2 x (16 : Nat)) (10 : Int) + (1 : Int)) ∧ (Go.bits Go.BinOp.and IntKind.i64 (Int.fdiv x ((2 : Int) ^ (14 : Nat))) (3 : Int) = Go.bits Go.BinOp.and IntKind.i64 (x2 x (14 : Nat)) (3 : Int)) ∧ (frS8k0 x n (True))) (by kernel_rfl)
    ⟨(by omega),
 (by first | omega | rfl),
 (by first | omega | rfl),
 (by first | omega | rfl),
 (by first | omega | rfl),
 (by first | omega | rfl | (simp; done) | (simp; omega)),
 lvalC _,
 (by first | omega | rfl),
 (by first | omega | rfl | (simp; done) | (simp; omega)),
 lvalC _,
 (by first | omega | rfl),
 (by omega),
 (in_tm _ _ (by omega) (by omega)),
 (by first | omega | rfl),
 rfl,
 (by first | omega | rfl | (simp; done) | (simp; omega)),
 (by first | omega | rfl | (simp; done) | (simp; omega)), (frS8k0_mk x n trivial)⟩
theorem ins1 (x : Int) (n : Nat) (hn : n < 100) (hq : Int.tmod (bits .and .i64 x 255) 18 = ((1 : Nat) : Int)) : Vc (vcFn Try.prog false 28 [.int .i64 x, .int .i64 n] [.iy 1, .cl [.int .i64 (x2 x 8)] (.agg (vlA (vlN (x2 x 8)))) [], .cl [.int .i64 (x2 x 11)] (.agg (vlA (vlN (x2 x 11)))) [], .ll [3, 4]] [] (.agg (inA (insOf 1 x n))) []) :=
  vc_of (q := ((18 : Int) ≠ (0 : Int)) ∧ (Int.tmod (Go.bits Go.BinOp.and IntKind.i64 x (255 : Int)) (18 : Int) = (↑(1 : Nat) : Int)) ∧ ((0 : Int) ≤ (↑(1 : Nat) : Int) ∧ (↑(1 : Nat) : Int) < (↑(18 : Nat) : Int)) ∧ ((1 : Nat) < (18 : Nat)) ∧ ((0 : Int) ≤ (8 : Int)) ∧ (Int.fdiv x ((2 : Int) ^ (8 : Nat)) = x2 x (8 : Nat)) ∧ cS8k1 x ∧ ((0 : Int) ≤ (11 : Int)) ∧ (Int.fdiv x ((2 : Int) ^ (11 : Nat)) = x2 x (11 : Nat)) ∧ cS8k0 x ∧ ((0 : Int) ≤ (16 : Int)) ∧ ((10 : Int) ≠ (0 : Int)) ∧ (inK IntKind.i64 (Int.tmod (Go.bits Go.BinOp.and IntKind.i64 (Int.fdiv x ((2 : Int) ^ (16 : Nat))) (255 : Int)) (10 : Int) + (1 : Int))) ∧ ((0 : Int) ≤ (14 : Int)) ∧ ((1 : Int) = (1 : Int)) ∧ (Int.tmod (Go.bits Go.BinOp.and IntKind.i64 (Int.fdiv x ((2 : Int) ^ (16 : Nat))) (255 : Int)) (10 : Int) + (1 : Int) = tmN (x2 x (16 : Nat)) (10 : Int) + (1 : Int)) ∧ (Go.bits Go.BinOp.and IntKind.i64 (Int.fdiv x ((2 : Int) ^ (14 : Nat))) (3 : Int) = Go.bits Go.BinOp.and IntKind.i64 (x2 x (14 : Nat)) (3 : Int)) ∧ (frS8k0 x n (True))) (by kernel_rfl)
    ⟨(by omega),
 (by first | omega | rfl),
 (by first | omega | rfl),
 (by first | omega | rfl),
 (by first | omega | rfl),
 (by first | omega | rfl | (simp; done) | (simp; omega)),
 lvalC _,
 (by first | omega | rfl),
 (by first | omega | rfl | (simp; done) | (simp; omega)),
 lvalC _,
 (by first | omega | rfl),
 (by omega),
 (in_tm _ _ (by omega) (by omega)),
 (by first | omega | rfl),
 rfl,
 (by first | omega | rfl | (simp; done) | (simp; omega)),
 (by first | omega | rfl | (simp; done) | (simp; omega)), (frS8k0_mk x n trivial)⟩
theorem ins2 (x : Int) (n : Nat) (hn : n < 100) (hq : Int.tmod (bits .and .i64 x 255) 18 = ((2 : Nat) : Int)) : Vc (vcFn Try.prog false 28 [.int .i64 x, .int .i64 n] [.iy 2, .cl [.int .i64 (x2 x 8)] (.agg (vlA (vlN (x2 x 8)))) [], .cl [.int .i64 (x2 x 11)] (.agg (vlA (vlN (x2 x 11)))) [], .ll [3, 4]] [] (.agg (inA (insOf 2 x n))) []) :=
  vc_of (q := ((18 : Int) ≠ (0 : Int)) ∧ (Int.tmod (Go.bits Go.BinOp.and IntKind.i64 x (255 : Int)) (18 : Int) = (↑(2 : Nat) : Int)) ∧ ((0 : Int) ≤ (↑(2 : Nat) : Int) ∧ (↑(2 : Nat) : Int) < (↑(18 : Nat) : Int)) ∧ ((2 : Nat) < (18 : Nat)) ∧ ((0 : Int) ≤ (8 : Int)) ∧ (Int.fdiv x ((2 : Int) ^ (8 : Nat)) = x2 x (8 : Nat)) ∧ cS8k1 x ∧ ((0 : Int) ≤ (11 : Int)) ∧ (Int.fdiv x ((2 : Int) ^ (11 : Nat)) = x2 x (11 : Nat)) ∧ cS8k0 x ∧ ((0 : Int) ≤ (14 : Int)) ∧ ((2 : Int) = (2 : Int)) ∧ ((0 : Int) = (0 : Int)) ∧ (Go.bits Go.BinOp.and IntKind.i64 (Int.fdiv x ((2 : Int) ^ (14 : Nat))) (3 : Int) = Go.bits Go.BinOp.and IntKind.i64 (x2 x (14 : Nat)) (3 : Int)) ∧ (frS8k0 x n (True))) (by kernel_rfl)
    ⟨(by omega),
 (by first | omega | rfl),
 (by first | omega | rfl),
 (by first | omega | rfl),
 (by first | omega | rfl),
 (by first | omega | rfl | (simp; done) | (simp; omega)),
 lvalC _,
 (by first | omega | rfl),
 (by first | omega | rfl | (simp; done) | (simp; omega)),
 lvalC _,
 (by first | omega | rfl),
 rfl,
 rfl,
 (by first | omega | rfl | (simp; done) | (simp; omega)), (frS8k0_mk x n trivial)⟩
theorem ins3 (x : Int) (n : Nat) (hn : n < 100) (hq : Int.tmod (bits .and .i64 x 255) 18 = ((3 : Nat) : Int)) : Vc (vcFn Try.prog false 28 [.int .i64 x, .int .i64 n] [.iy 3, .cl [.int .i64 (x2 x 8)] (.agg (vlA (vlN (x2 x 8)))) [], .cl [.int .i64 (x2 x 11)] (.agg (vlA (vlN (x2 x 11)))) [], .ll [3, 4]] [] (.agg (inA (insOf 2 x n))) []) :=
  vc_of (q := ((18 : Int) ≠ (0 : Int)) ∧ (Int.tmod (Go.bits Go.BinOp.and IntKind.i64 x (255 : Int)) (18 : Int) = (↑(3 : Nat) : Int)) ∧ ((0 : Int) ≤ (↑(3 : Nat) : Int) ∧ (↑(3 : Nat) : Int) < (↑(18 : Nat) : Int)) ∧ ((3 : Nat) < (18 : Nat)) ∧ ((0 : Int) ≤ (8 : Int)) ∧ (Int.fdiv x ((2 : Int) ^ (8 : Nat)) = x2 x (8 : Nat)) ∧ cS8k1 x ∧ ((0 : Int) ≤ (11 : Int)) ∧ (Int.fdiv x ((2 : Int) ^ (11 : Nat)) = x2 x (11 : Nat)) ∧ cS8k0 x ∧ ((0 : Int) ≤ (14 : Int)) ∧ ((2 : Int) = (2 : Int)) ∧ ((0 : Int) = (0 : Int)) ∧ (Go.bits Go.BinOp.and IntKind.i64 (Int.fdiv x ((2 : Int) ^ (14 : Nat))) (3 : Int) = Go.bits Go.BinOp.and IntKind.i64 (x2 x (14 : Nat)) (3 : Int)) ∧ (frS8k0 x n (True))) (by kernel_rfl)
    ⟨(by omega),
 (by first | omega | rfl),
 (by first | omega | rfl),
 (by first | omega | rfl),
 (by first | omega | rfl),
 (by first | omega | rfl | (simp; done) | (simp; omega)),
 lvalC _,
 (by first | omega | rfl),
 (by first | omega | rfl | (simp; done) | (simp; omega)),
 lvalC _,
 (by first | omega | rfl),
 rfl,
 rfl,
 (by first | omega | rfl | (simp; done) | (simp; omega)), (frS8k0_mk x n trivial)⟩
theorem ins4 (x : Int) (n : Nat) (hn : n < 100) (hq : Int.tmod (bits .and .i64 x 255) 18 = ((4 : Nat) : Int)) : Vc (vcFn Try.prog false 28 [.int .i64 x, .int .i64 n] [.iy 4, .cl [.int .i64 (x2 x 8)] (.agg (vlA (vlN (x2 x 8)))) [], .cl [.int .i64 (x2 x 11)] (.agg (vlA (vlN (x2 x 11)))) [], .ll [3, 4]] [] (.agg (inA (insOf 2 x n))) []) :=
  vc_of (q := ((18 : Int) ≠ (0 : Int)) ∧ (Int.tmod (Go.bits Go.BinOp.and IntKind.i64 x (255 : Int)) (18 : Int) = (↑(4 : Nat) : Int)) ∧ ((0 : Int) ≤ (↑(4 : Nat) : Int) ∧ (↑(4 : Nat) : Int) < (↑(18 : Nat) : Int)) ∧ ((4 : Nat) < (18 : Nat)) ∧ ((0 : Int) ≤ (8 : Int)) ∧ (Int.fdiv x ((2 : Int) ^ (8 : Nat)) = x2 x (8 : Nat)) ∧ cS8k1 x ∧ ((0 : Int) ≤ (11 : Int)) ∧ (Int.fdiv x ((2 : Int) ^ (11 : Nat)) = x2 x (11 : Nat)) ∧ cS8k0 x ∧ ((0 : Int) ≤ (14 : Int)) ∧ ((2 : Int) = (2 : Int)) ∧ ((0 : Int) = (0 : Int)) ∧ (Go.bits Go.BinOp.and IntKind.i64 (Int.fdiv x ((2 : Int) ^ (14 : Nat))) (3 : Int) = Go.bits Go.BinOp.and IntKind.i64 (x2 x (14 : Nat)) (3 : Int)) ∧ (frS8k0 x n (True))) (by kernel_rfl)
    ⟨(by omega),
 (by first | omega | rfl),
 (by first | omega | rfl),
 (by first | omega | rfl),
 (by first | omega | rfl),
 (by first | omega | rfl | (simp; done) | (simp; omega)),
 lvalC _,
 (by first | omega | rfl),
 (by first | omega | rfl | (simp; done) | (simp; omega)),
 lvalC _,
 (by first | omega | rfl),
 rfl,
 rfl,
 (by first | omega | rfl | (simp; done) | (simp; omega)), (frS8k0_mk x n trivial)⟩
theorem ins5 (x : Int) (n : Nat) (hn : n < 100) (hq : Int.tmod (bits .and .i64 x 255) 18 = ((5 : Nat) : Int)) : Vc (vcFn Try.prog false 28 [.int .i64 x, .int .i64 n] [.iy 5, .cl [.int .i64 (x2 x 8)] (.agg (vlA (vlN (x2 x 8)))) [], .cl [.int .i64 (x2 x 11)] (.agg (vlA (vlN (x2 x 11)))) [], .ll [3, 4]] [] (.agg (inA (insOf 3 x n))) []) :=
  vc_of (q := ((18 : Int) ≠ (0 : Int)) ∧ (Int.tmod (Go.bits Go.BinOp.and IntKind.i64 x (255 : Int)) (18 : Int) = (↑(5 : Nat) : Int)) ∧ ((0 : Int) ≤ (↑(5 : Nat) : Int) ∧ (↑(5 : Nat) : Int) < (↑(18 : Nat) : Int)) ∧ ((5 : Nat) < (18 : Nat)) ∧ ((0 : Int) ≤ (8 : Int)) ∧ (Int.fdiv x ((2 : Int) ^ (8 : Nat)) = x2 x (8 : Nat)) ∧ cS8k1 x ∧ ((0 : Int) ≤ (11 : Int)) ∧ (Int.fdiv x ((2 : Int) ^ (11 : Nat)) = x2 x (11 : Nat)) ∧ cS8k0 x ∧ ((0 : Int) ≤ (14 : Int)) ∧ ((3 : Int) = (3 : Int)) ∧ ((0 : Int) = (0 : Int)) ∧ (Go.bits Go.BinOp.and IntKind.i64 (Int.fdiv x ((2 : Int) ^ (14 : Nat))) (3 : Int) = Go.bits Go.BinOp.and IntKind.i64 (x2 x (14 : Nat)) (3 : Int)) ∧ (frS8k0 x n (True))) (by kernel_rfl)
    ⟨(by omega),
 (by first | omega | rfl),
 (by first | omega | rfl),
 (by first | omega | rfl),
 (by first | omega | rfl),
 (by first | omega | rfl | (simp; done) | (simp; omega)),
 lvalC _,
 (by first | omega | rfl),
 (by first | omega | rfl | (simp; done) | (simp; omega)),
 lvalC _,
 (by first | omega | rfl),
 rfl,
 rfl,
 (by first | omega | rfl | (simp; done) | (simp; omega)), (frS8k0_mk x n trivial)⟩
theorem ins6 (x : Int) (n : Nat) (hn : n < 100) (hq : Int.tmod (bits .and .i64 x 255) 18 = ((6 : Nat) : Int)) : Vc (vcFn Try.prog false 28 [.int .i64 x, .int .i64 n] [.iy 6, .cl [.int .i64 (x2 x 8)] (.agg (vlA (vlN (x2 x 8)))) [], .cl [.int .i64 (x2 x 11)] (.agg (vlA (vlN (x2 x 11)))) [], .ll [3, 4]] [] (.agg (inA (insOf 3 x n))) []) :=
  vc_of (q := ((18 : Int) ≠ (0 : Int)) ∧ (Int.tmod (Go.bits Go.BinOp.and IntKind.i64 x (255 : Int)) (18 : Int) = (↑(6 : Nat) : Int)) ∧ ((0 : Int) ≤ (↑(6 : Nat) : Int) ∧ (↑(6 : Nat) : Int) < (↑(18 : Nat) : Int)) ∧ ((6 : Nat) < (18 : Nat)) ∧ ((0 : Int) ≤ (8 : Int)) ∧ (Int.fdiv x ((2 : Int) ^ (8 : Nat)) = x2 x (8 : Nat)) ∧ cS8k1 x ∧ ((0 : Int) ≤ (11 : Int)) ∧ (Int.fdiv x ((2 : Int) ^ (11 : Nat)) = x2 x (11 : Nat)) ∧ cS8k0 x ∧ ((0 : Int) ≤ (14 : Int)) ∧ ((3 : Int) = (3 : Int)) ∧ ((0 : Int) = (0 : Int)) ∧ (Go.bits Go.BinOp.and IntKind.i64 (Int.fdiv x ((2 : Int) ^ (14 : Nat))) (3 : Int) = Go.bits Go.BinOp.and IntKind.i64 (x2 x (14 : Nat)) (3 : Int)) ∧ (frS8k0 x n (True))) (by kernel_rfl)
    ⟨(by omega),
 (by first | omega | rfl),
 (by first | omega | rfl),
 (by first | omega | rfl),
 (by first | omega | rfl),
 (by first | omega | rfl | (simp; done) | (simp; omega)),
 lvalC _,
 (by first | omega | rfl),
 (by first | omega | rfl | (simp; done) | (simp; omega)),
 lvalC _,
 (by first | omega | rfl),
 rfl,
 rfl,
 (by first | omega | rfl | (simp; done) | (simp; omega)), (frS8k0_mk x n trivial)⟩
theorem ins7 (x : Int) (n : Nat) (hn : n < 100) (hq : Int.tmod (bits .and .i64 x 255) 18 = ((7 : Nat) : Int)) : Vc (vcFn Try.prog false 28 [.int .i64 x, .int .i64 n] [.iy 7, .cl [.int .i64 (x2 x 8)] (.agg (vlA (vlN (x2 x 8)))) [], .cl [.int .i64 (x2 x 11)] (.agg (vlA (vlN (x2 x 11)))) [], .ll [3, 4]] [] (.agg (inA (insOf 4 x n))) []) :=
  vc_of (q := ((18 : Int) ≠ (0 : Int)) ∧ (Int.tmod (Go.bits Go.BinOp.and IntKind.i64 x (255 : Int)) (18 : Int) = (↑(7 : Nat) : Int)) ∧ ((0 : Int) ≤ (↑(7 : Nat) : Int) ∧ (↑(7 : Nat) : Int) < (↑(18 : Nat) : Int)) ∧ ((7 : Nat) < (18 : Nat)) ∧ ((0 : Int) ≤ (8 : Int)) ∧ (Int.fdiv x ((2 : Int) ^ (8 : Nat)) = x2 x (8 : Nat)) ∧ cS8k1 x ∧ ((0 : Int) ≤ (11 : Int)) ∧ (Int.fdiv x ((2 : Int) ^ (11 : Nat)) = x2 x (11 : Nat)) ∧ cS8k0 x ∧ ((0 : Int) ≤ (14 : Int)) ∧ ((4 : Int) = (4 : Int)) ∧ ((0 : Int) = (0 : Int)) ∧ (Go.bits Go.BinOp.and IntKind.i64 (Int.fdiv x ((2 : Int) ^ (14 : Nat))) (3 : Int) = Go.bits Go.BinOp.and IntKind.i64 (x2 x (14 : Nat)) (3 : Int)) ∧ (frS8k0 x n (True))) (by kernel_rfl)
    ⟨(by omega),
 (by first | omega | rfl),
 (by first | omega | rfl),
 (by first | omega | rfl),
 (by first | omega | rfl),
 (by first | omega | rfl | (simp; done) | (simp; omega)),
 lvalC _,
 (by first | omega | rfl),
 (by first | omega | rfl | (simp; done) | (simp; omega)),
 lvalC _,
 (by first | omega | rfl),
 rfl,
 rfl,
 (by first | omega | rfl | (simp; done) | (simp; omega)), (frS8k0_mk x n trivial)⟩
def frS8k1 (x : Int) (n : Nat) (Z : Prop) : Prop := ((0 : Int) = (0 : Int)) ∧ (Vl.reg (vlN (x2 x (8 : Nat))) = Vl.reg (vlN (x2 x (8 : Nat)))) ∧ (Vl.n (vlN (x2 x (8 : Nat))) = Vl.n (vlN (x2 x (8 : Nat)))) ∧ (Vl.reg (vlN (x2 x (11 : Nat))) = Vl.reg (vlN (x2 x (11 : Nat)))) ∧ (Vl.n (vlN (x2 x (11 : Nat))) = Vl.n (vlN (x2 x (11 : Nat)))) ∧ (ByteArray.mk (Array.mk []) = ByteArray.mk (Array.mk [])) ∧ Z
theorem frS8k1_mk (x : Int) (n : Nat) {Z : Prop} (z : Z) : frS8k1 x n Z := ⟨rfl, rfl, rfl, rfl, rfl, rfl, z⟩
theorem ins8_0 (x : Int) (n : Nat) (hn : n < 100) (hq : Int.tmod (bits .and .i64 x 255) 18 = ((8 : Nat) : Int)) (hr : bits .and .i64 (Int.fdiv x (2 ^ 16)) 3 = ((0 : Nat) : Int)) : Vc (vcFn Try.prog false 28 [.int .i64 x, .int .i64 n] [.iy 8, .cl [.int .i64 (x2 x 8)] (.agg (vlA (vlN (x2 x 8)))) [], .cl [.int .i64 (x2 x 11)] (.agg (vlA (vlN (x2 x 11)))) [], .ll [3, 4], .iy 0] [] (.agg (inA (insOf 5 x n))) []) :=
  vc_of (q := ((18 : Int) ≠ (0 : Int)) ∧ (Int.tmod (Go.bits Go.BinOp.and IntKind.i64 x (255 : Int)) (18 : Int) = (↑(8 : Nat) : Int)) ∧ ((0 : Int) ≤ (↑(8 : Nat) : Int) ∧ (↑(8 : Nat) : Int) < (↑(18 : Nat) : Int)) ∧ ((8 : Nat) < (18 : Nat)) ∧ ((0 : Int) ≤ (8 : Int)) ∧ (Int.fdiv x ((2 : Int) ^ (8 : Nat)) = x2 x (8 : Nat)) ∧ cS8k1 x ∧ ((0 : Int) ≤ (11 : Int)) ∧ (Int.fdiv x ((2 : Int) ^ (11 : Nat)) = x2 x (11 : Nat)) ∧ cS8k0 x ∧ ((0 : Int) ≤ (16 : Int)) ∧ (Go.bits Go.BinOp.and IntKind.i64 (Int.fdiv x ((2 : Int) ^ (16 : Nat))) (3 : Int) = (↑(0 : Nat) : Int)) ∧ ((0 : Int) ≤ (↑(0 : Nat) : Int) ∧ (↑(0 : Nat) : Int) < (↑(4 : Nat) : Int)) ∧ ((0 : Nat) < (4 : Nat)) ∧ ((0 : Int) ≤ (18 : Int)) ∧ (inK IntKind.i64 ((↑n : Int) + (1 : Int))) ∧ ((↑n : Int) + (1 : Int) ≠ (0 : Int)) ∧ ((5 : Int) = (5 : Int)) ∧ ((9 : Int) = List.getD [(9 : Int), (10 : Int), (3 : Int), (2 : Int)] (Int.toNat (Go.bits Go.BinOp.and IntKind.i64 (x2 x (16 : Nat)) (3 : Int))) (0 : Int)) ∧ (frS8k1 x n ((Int.tmod (Go.bits Go.BinOp.and IntKind.i64 (Int.fdiv x ((2 : Int) ^ (18 : Nat))) (255 : Int)) ((↑n : Int) + (1 : Int)) = tmN (x2 x (18 : Nat)) ((↑n : Int) + (1 : Int))) ∧ True))) (by kernel_rfl)
    ⟨(by omega),
 (by first | omega | rfl),
 (by first | omega | rfl),
 (by first | omega | rfl),
 (by first | omega | rfl),
 (by first | omega | rfl | (simp; done) | (simp; omega)),
 lvalC _,
 (by first | omega | rfl),
 (by first | omega | rfl | (simp; done) | (simp; omega)),
 lvalC _,
 (by first | omega | rfl),
 (by first | omega | rfl | (simp; done) | (simp; omega)),
 (by first | omega | rfl),
 (by first | omega | rfl),
 (by first | omega | rfl),
 (in64 (by omega) (by omega)),
 (by omega),
 rfl,
 (by rw [show bits .and .i64 (x2 x 16) 3 = ((0 : Nat) : Int) from hr]; rfl), (frS8k1_mk x n ⟨(by first | omega | rfl | (simp; done) | (simp; omega)), trivial⟩)⟩
theorem ins8_1 (x : Int) (n : Nat) (hn : n < 100) (hq : Int.tmod (bits .and .i64 x 255) 18 = ((8 : Nat) : Int)) (hr : bits .and .i64 (Int.fdiv x (2 ^ 16)) 3 = ((1 : Nat) : Int)) : Vc (vcFn Try.prog false 28 [.int .i64 x, .int .i64 n] [.iy 8, .cl [.int .i64 (x2 x 8)] (.agg (vlA (vlN (x2 x 8)))) [], .cl [.int .i64 (x2 x 11)] (.agg (vlA (vlN (x2 x 11)))) [], .ll [3, 4], .iy 1] [] (.agg (inA (insOf 5 x n))) []) :=
  vc_of (q := ((18 : Int) ≠ (0 : Int)) ∧ (Int.tmod (Go.bits Go.BinOp.and IntKind.i64 x (255 : Int)) (18 : Int) = (↑(8 : Nat) : Int)) ∧ ((0 : Int) ≤ (↑(8 : Nat) : Int) ∧ (↑(8 : Nat) : Int) < (↑(18 : Nat) : Int)) ∧ ((8 : Nat) < (18 : Nat)) ∧ ((0 : Int) ≤ (8 : Int)) ∧ (Int.fdiv x ((2 : Int) ^ (8 : Nat)) = x2 x (8 : Nat)) ∧ cS8k1 x ∧ ((0 : Int) ≤ (11 : Int)) ∧ (Int.fdiv x ((2 : Int) ^ (11 : Nat)) = x2 x (11 : Nat)) ∧ cS8k0 x ∧ ((0 : Int) ≤ (16 : Int)) ∧ (Go.bits Go.BinOp.and IntKind.i64 (Int.fdiv x ((2 : Int) ^ (16 : Nat))) (3 : Int) = (↑(1 : Nat) : Int)) ∧ ((0 : Int) ≤ (↑(1 : Nat) : Int) ∧ (↑(1 : Nat) : Int) < (↑(4 : Nat) : Int)) ∧ ((1 : Nat) < (4 : Nat)) ∧ ((0 : Int) ≤ (18 : Int)) ∧ (inK IntKind.i64 ((↑n : Int) + (1 : Int))) ∧ ((↑n : Int) + (1 : Int) ≠ (0 : Int)) ∧ ((5 : Int) = (5 : Int)) ∧ ((10 : Int) = List.getD [(9 : Int), (10 : Int), (3 : Int), (2 : Int)] (Int.toNat (Go.bits Go.BinOp.and IntKind.i64 (x2 x (16 : Nat)) (3 : Int))) (0 : Int)) ∧ (frS8k1 x n ((Int.tmod (Go.bits Go.BinOp.and IntKind.i64 (Int.fdiv x ((2 : Int) ^ (18 : Nat))) (255 : Int)) ((↑n : Int) + (1 : Int)) = tmN (x2 x (18 : Nat)) ((↑n : Int) + (1 : Int))) ∧ True))) (by kernel_rfl)
    ⟨(by omega),
 (by first | omega | rfl),
 (by first | omega | rfl),
 (by first | omega | rfl),
 (by first | omega | rfl),
 (by first | omega | rfl | (simp; done) | (simp; omega)),
 lvalC _,
 (by first | omega | rfl),
 (by first | omega | rfl | (simp; done) | (simp; omega)),
 lvalC _,
 (by first | omega | rfl),
 (by first | omega | rfl | (simp; done) | (simp; omega)),
 (by first | omega | rfl),
 (by first | omega | rfl),
 (by first | omega | rfl),
 (in64 (by omega) (by omega)),
 (by omega),
 rfl,
 (by rw [show bits .and .i64 (x2 x 16) 3 = ((1 : Nat) : Int) from hr]; rfl), (frS8k1_mk x n ⟨(by first | omega | rfl | (simp; done) | (simp; omega)), trivial⟩)⟩
theorem ins8_2 (x : Int) (n : Nat) (hn : n < 100) (hq : Int.tmod (bits .and .i64 x 255) 18 = ((8 : Nat) : Int)) (hr : bits .and .i64 (Int.fdiv x (2 ^ 16)) 3 = ((2 : Nat) : Int)) : Vc (vcFn Try.prog false 28 [.int .i64 x, .int .i64 n] [.iy 8, .cl [.int .i64 (x2 x 8)] (.agg (vlA (vlN (x2 x 8)))) [], .cl [.int .i64 (x2 x 11)] (.agg (vlA (vlN (x2 x 11)))) [], .ll [3, 4], .iy 2] [] (.agg (inA (insOf 5 x n))) []) :=
  vc_of (q := ((18 : Int) ≠ (0 : Int)) ∧ (Int.tmod (Go.bits Go.BinOp.and IntKind.i64 x (255 : Int)) (18 : Int) = (↑(8 : Nat) : Int)) ∧ ((0 : Int) ≤ (↑(8 : Nat) : Int) ∧ (↑(8 : Nat) : Int) < (↑(18 : Nat) : Int)) ∧ ((8 : Nat) < (18 : Nat)) ∧ ((0 : Int) ≤ (8 : Int)) ∧ (Int.fdiv x ((2 : Int) ^ (8 : Nat)) = x2 x (8 : Nat)) ∧ cS8k1 x ∧ ((0 : Int) ≤ (11 : Int)) ∧ (Int.fdiv x ((2 : Int) ^ (11 : Nat)) = x2 x (11 : Nat)) ∧ cS8k0 x ∧ ((0 : Int) ≤ (16 : Int)) ∧ (Go.bits Go.BinOp.and IntKind.i64 (Int.fdiv x ((2 : Int) ^ (16 : Nat))) (3 : Int) = (↑(2 : Nat) : Int)) ∧ ((0 : Int) ≤ (↑(2 : Nat) : Int) ∧ (↑(2 : Nat) : Int) < (↑(4 : Nat) : Int)) ∧ ((2 : Nat) < (4 : Nat)) ∧ ((0 : Int) ≤ (18 : Int)) ∧ (inK IntKind.i64 ((↑n : Int) + (1 : Int))) ∧ ((↑n : Int) + (1 : Int) ≠ (0 : Int)) ∧ ((5 : Int) = (5 : Int)) ∧ ((3 : Int) = List.getD [(9 : Int), (10 : Int), (3 : Int), (2 : Int)] (Int.toNat (Go.bits Go.BinOp.and IntKind.i64 (x2 x (16 : Nat)) (3 : Int))) (0 : Int)) ∧ (frS8k1 x n ((Int.tmod (Go.bits Go.BinOp.and IntKind.i64 (Int.fdiv x ((2 : Int) ^ (18 : Nat))) (255 : Int)) ((↑n : Int) + (1 : Int)) = tmN (x2 x (18 : Nat)) ((↑n : Int) + (1 : Int))) ∧ True))) (by kernel_rfl)
    ⟨(by omega),
 (by first | omega | rfl),
 (by first | omega | rfl),
 (by first | omega | rfl),
 (by first | omega | rfl),
 (by first | omega | rfl | (simp; done) | (simp; omega)),
 lvalC _,
 (by first | omega | rfl),
 (by first | omega | rfl | (simp; done) | (simp; omega)),
 lvalC _,
 (by first | omega | rfl),
 (by first | omega | rfl | (simp; done) | (simp; omega)),
 (by first | omega | rfl),
 (by first | omega | rfl),
 (by first | omega | rfl),
 (in64 (by omega) (by omega)),
 (by omega),
 rfl,
 (by rw [show bits .and .i64 (x2 x 16) 3 = ((2 : Nat) : Int) from hr]; rfl), (frS8k1_mk x n ⟨(by first | omega | rfl | (simp; done) | (simp; omega)), trivial⟩)⟩
theorem ins8_3 (x : Int) (n : Nat) (hn : n < 100) (hq : Int.tmod (bits .and .i64 x 255) 18 = ((8 : Nat) : Int)) (hr : bits .and .i64 (Int.fdiv x (2 ^ 16)) 3 = ((3 : Nat) : Int)) : Vc (vcFn Try.prog false 28 [.int .i64 x, .int .i64 n] [.iy 8, .cl [.int .i64 (x2 x 8)] (.agg (vlA (vlN (x2 x 8)))) [], .cl [.int .i64 (x2 x 11)] (.agg (vlA (vlN (x2 x 11)))) [], .ll [3, 4], .iy 3] [] (.agg (inA (insOf 5 x n))) []) :=
  vc_of (q := ((18 : Int) ≠ (0 : Int)) ∧ (Int.tmod (Go.bits Go.BinOp.and IntKind.i64 x (255 : Int)) (18 : Int) = (↑(8 : Nat) : Int)) ∧ ((0 : Int) ≤ (↑(8 : Nat) : Int) ∧ (↑(8 : Nat) : Int) < (↑(18 : Nat) : Int)) ∧ ((8 : Nat) < (18 : Nat)) ∧ ((0 : Int) ≤ (8 : Int)) ∧ (Int.fdiv x ((2 : Int) ^ (8 : Nat)) = x2 x (8 : Nat)) ∧ cS8k1 x ∧ ((0 : Int) ≤ (11 : Int)) ∧ (Int.fdiv x ((2 : Int) ^ (11 : Nat)) = x2 x (11 : Nat)) ∧ cS8k0 x ∧ ((0 : Int) ≤ (16 : Int)) ∧ (Go.bits Go.BinOp.and IntKind.i64 (Int.fdiv x ((2 : Int) ^ (16 : Nat))) (3 : Int) = (↑(3 : Nat) : Int)) ∧ ((0 : Int) ≤ (↑(3 : Nat) : Int) ∧ (↑(3 : Nat) : Int) < (↑(4 : Nat) : Int)) ∧ ((3 : Nat) < (4 : Nat)) ∧ ((0 : Int) ≤ (18 : Int)) ∧ (inK IntKind.i64 ((↑n : Int) + (1 : Int))) ∧ ((↑n : Int) + (1 : Int) ≠ (0 : Int)) ∧ ((5 : Int) = (5 : Int)) ∧ ((2 : Int) = List.getD [(9 : Int), (10 : Int), (3 : Int), (2 : Int)] (Int.toNat (Go.bits Go.BinOp.and IntKind.i64 (x2 x (16 : Nat)) (3 : Int))) (0 : Int)) ∧ (frS8k1 x n ((Int.tmod (Go.bits Go.BinOp.and IntKind.i64 (Int.fdiv x ((2 : Int) ^ (18 : Nat))) (255 : Int)) ((↑n : Int) + (1 : Int)) = tmN (x2 x (18 : Nat)) ((↑n : Int) + (1 : Int))) ∧ True))) (by kernel_rfl)
    ⟨(by omega),
 (by first | omega | rfl),
 (by first | omega | rfl),
 (by first | omega | rfl),
 (by first | omega | rfl),
 (by first | omega | rfl | (simp; done) | (simp; omega)),
 lvalC _,
 (by first | omega | rfl),
 (by first | omega | rfl | (simp; done) | (simp; omega)),
 lvalC _,
 (by first | omega | rfl),
 (by first | omega | rfl | (simp; done) | (simp; omega)),
 (by first | omega | rfl),
 (by first | omega | rfl),
 (by first | omega | rfl),
 (in64 (by omega) (by omega)),
 (by omega),
 rfl,
 (by rw [show bits .and .i64 (x2 x 16) 3 = ((3 : Nat) : Int) from hr]; rfl), (frS8k1_mk x n ⟨(by first | omega | rfl | (simp; done) | (simp; omega)), trivial⟩)⟩
theorem ins9_0 (x : Int) (n : Nat) (hn : n < 100) (hq : Int.tmod (bits .and .i64 x 255) 18 = ((9 : Nat) : Int)) (hr : bits .and .i64 (Int.fdiv x (2 ^ 16)) 3 = ((0 : Nat) : Int)) : Vc (vcFn Try.prog false 28 [.int .i64 x, .int .i64 n] [.iy 9, .cl [.int .i64 (x2 x 8)] (.agg (vlA (vlN (x2 x 8)))) [], .cl [.int .i64 (x2 x 11)] (.agg (vlA (vlN (x2 x 11)))) [], .ll [3, 4], .iy 0] [] (.agg (inA (insOf 5 x n))) []) :=
  vc_of (q := ((18 : Int) ≠ (0 : Int)) ∧ (Int.tmod (Go.bits Go.BinOp.and IntKind.i64 x (255 : Int)) (18 : Int) = (↑(9 : Nat) : Int)) ∧ ((0 : Int) ≤ (↑(9 : Nat) : Int) ∧ (↑(9 : Nat) : Int) < (↑(18 : Nat) : Int)) ∧ ((9 : Nat) < (18 : Nat)) ∧ ((0 : Int) ≤ (8 : Int)) ∧ (Int.fdiv x ((2 : Int) ^ (8 : Nat)) = x2 x (8 : Nat)) ∧ cS8k1 x ∧ ((0 : Int) ≤ (11 : Int)) ∧ (Int.fdiv x ((2 : Int) ^ (11 : Nat)) = x2 x (11 : Nat)) ∧ cS8k0 x ∧ ((0 : Int) ≤ (16 : Int)) ∧ (Go.bits Go.BinOp.and IntKind.i64 (Int.fdiv x ((2 : Int) ^ (16 : Nat))) (3 : Int) = (↑(0 : Nat) : Int)) ∧ ((0 : Int) ≤ (↑(0 : Nat) : Int) ∧ (↑(0 : Nat) : Int) < (↑(4 : Nat) : Int)) ∧ ((0 : Nat) < (4 : Nat)) ∧ ((0 : Int) ≤ (18 : Int)) ∧ (inK IntKind.i64 ((↑n : Int) + (1 : Int))) ∧ ((↑n : Int) + (1 : Int) ≠ (0 : Int)) ∧ ((5 : Int) = (5 : Int)) ∧ ((9 : Int) = List.getD [(9 : Int), (10 : Int), (3 : Int), (2 : Int)] (Int.toNat (Go.bits Go.BinOp.and IntKind.i64 (x2 x (16 : Nat)) (3 : Int))) (0 : Int)) ∧ (frS8k1 x n ((Int.tmod (Go.bits Go.BinOp.and IntKind.i64 (Int.fdiv x ((2 : Int) ^ (18 : Nat))) (255 : Int)) ((↑n : Int) + (1 : Int)) = tmN (x2 x (18 : Nat)) ((↑n : Int) + (1 : Int))) ∧ True))) (by kernel_rfl)
    ⟨(by omega),
 (by first | omega | rfl),
 (by first | omega | rfl),
 (by first | omega | rfl),
 (by first | omega | rfl),
 (by first | omega | rfl | (simp; done) | (simp; omega)),
 lvalC _,
 (by first | omega | rfl),
 (by first | omega | rfl | (simp; done) | (simp; omega)),
 lvalC _,
 (by first | omega | rfl),
 (by first | omega | rfl | (simp; done) | (simp; omega)),
 (by first | omega | rfl),
 (by first | omega | rfl),
 (by first | omega | rfl),
 (in64 (by omega) (by omega)),
 (by omega),
 rfl,
 (by rw [show bits .and .i64 (x2 x 16) 3 = ((0 : Nat) : Int) from hr]; rfl), (frS8k1_mk x n ⟨(by first | omega | rfl | (simp; done) | (simp; omega)), trivial⟩)⟩
theorem ins9_1 (x : Int) (n : Nat) (hn : n < 100) (hq : Int.tmod (bits .and .i64 x 255) 18 = ((9 : Nat) : Int)) (hr : bits .and .i64 (Int.fdiv x (2 ^ 16)) 3 = ((1 : Nat) : Int)) : Vc (vcFn Try.prog false 28 [.int .i64 x, .int .i64 n] [.iy 9, .cl [.int .i64 (x2 x 8)] (.agg (vlA (vlN (x2 x 8)))) [], .cl [.int .i64 (x2 x 11)] (.agg (vlA (vlN (x2 x 11)))) [], .ll [3, 4], .iy 1] [] (.agg (inA (insOf 5 x n))) []) :=
  vc_of (q := ((18 : Int) ≠ (0 : Int)) ∧ (Int.tmod (Go.bits Go.BinOp.and IntKind.i64 x (255 : Int)) (18 : Int) = (↑(9 : Nat) : Int)) ∧ ((0 : Int) ≤ (↑(9 : Nat) : Int) ∧ (↑(9 : Nat) : Int) < (↑(18 : Nat) : Int)) ∧ ((9 : Nat) < (18 : Nat)) ∧ ((0 : Int) ≤ (8 : Int)) ∧ (Int.fdiv x ((2 : Int) ^ (8 : Nat)) = x2 x (8 : Nat)) ∧ cS8k1 x ∧ ((0 : Int) ≤ (11 : Int)) ∧ (Int.fdiv x ((2 : Int) ^ (11 : Nat)) = x2 x (11 : Nat)) ∧ cS8k0 x ∧ ((0 : Int) ≤ (16 : Int)) ∧ (Go.bits Go.BinOp.and IntKind.i64 (Int.fdiv x ((2 : Int) ^ (16 : Nat))) (3 : Int) = (↑(1 : Nat) : Int)) ∧ ((0 : Int) ≤ (↑(1 : Nat) : Int) ∧ (↑(1 : Nat) : Int) < (↑(4 : Nat) : Int)) ∧ ((1 : Nat) < (4 : Nat)) ∧ ((0 : Int) ≤ (18 : Int)) ∧ (inK IntKind.i64 ((↑n : Int) + (1 : Int))) ∧ ((↑n : Int) + (1 : Int) ≠ (0 : Int)) ∧ ((5 : Int) = (5 : Int)) ∧ ((10 : Int) = List.getD [(9 : Int), (10 : Int), (3 : Int), (2 : Int)] (Int.toNat (Go.bits Go.BinOp.and IntKind.i64 (x2 x (16 : Nat)) (3 : Int))) (0 : Int)) ∧ (frS8k1 x n ((Int.tmod (Go.bits Go.BinOp.and IntKind.i64 (Int.fdiv x ((2 : Int) ^ (18 : Nat))) (255 : Int)) ((↑n : Int) + (1 : Int)) = tmN (x2 x (18 : Nat)) ((↑n : Int) + (1 : Int))) ∧ True))) (by kernel_rfl)
    ⟨(by omega),
 (by first | omega | rfl),
 (by first | omega | rfl),
 (by first | omega | rfl),
 (by first | omega | rfl),
 (by first | omega | rfl | (simp; done) | (simp; omega)),
 lvalC _,
 (by first | omega | rfl),
 (by first | omega | rfl | (simp; done) | (simp; omega)),
 lvalC _,
 (by first | omega | rfl),
 (by first | omega | rfl | (simp; done) | (simp; omega)),
 (by first | omega | rfl),
 (by first | omega | rfl),
 (by first | omega | rfl),
 (in64 (by omega) (by omega)),
 (by omega),
 rfl,
 (by rw [show bits .and .i64 (x2 x 16) 3 = ((1 : Nat) : Int) from hr]; rfl), (frS8k1_mk x n ⟨(by first | omega | rfl | (simp; done) | (simp; omega)), trivial⟩)⟩
theorem ins9_2 (x : Int) (n : Nat) (hn : n < 100) (hq : Int.tmod (bits .and .i64 x 255) 18 = ((9 : Nat) : Int)) (hr : bits .and .i64 (Int.fdiv x (2 ^ 16)) 3 = ((2 : Nat) : Int)) : Vc (vcFn Try.prog false 28 [.int .i64 x, .int .i64 n] [.iy 9, .cl [.int .i64 (x2 x 8)] (.agg (vlA (vlN (x2 x 8)))) [], .cl [.int .i64 (x2 x 11)] (.agg (vlA (vlN (x2 x 11)))) [], .ll [3, 4], .iy 2] [] (.agg (inA (insOf 5 x n))) []) :=
  vc_of (q := ((18 : Int) ≠ (0 : Int)) ∧ (Int.tmod (Go.bits Go.BinOp.and IntKind.i64 x (255 : Int)) (18 : Int) = (↑(9 : Nat) : Int)) ∧ ((0 : Int) ≤ (↑(9 : Nat) : Int) ∧ (↑(9 : Nat) : Int) < (↑(18 : Nat) : Int)) ∧ ((9 : Nat) < (18 : Nat)) ∧ ((0 : Int) ≤ (8 : Int)) ∧ (Int.fdiv x ((2 : Int) ^ (8 : Nat)) = x2 x (8 : Nat)) ∧ cS8k1 x ∧ ((0 : Int) ≤ (11 : Int)) ∧ (Int.fdiv x ((2 : Int) ^ (11 : Nat)) = x2 x (11 : Nat)) ∧ cS8k0 x ∧ ((0 : Int) ≤ (16 : Int)) ∧ (Go.bits Go.BinOp.and IntKind.i64 (Int.fdiv x ((2 : Int) ^ (16 : Nat))) (3 : Int) = (↑(2 : Nat) : Int)) ∧ ((0 : Int) ≤ (↑(2 : Nat) : Int) ∧ (↑(2 : Nat) : Int) < (↑(4 : Nat) : Int)) ∧ ((2 : Nat) < (4 : Nat)) ∧ ((0 : Int) ≤ (18 : Int)) ∧ (inK IntKind.i64 ((↑n : Int) + (1 : Int))) ∧ ((↑n : Int) + (1 : Int) ≠ (0 : Int)) ∧ ((5 : Int) = (5 : Int)) ∧ ((3 : Int) = List.getD [(9 : Int), (10 : Int), (3 : Int), (2 : Int)] (Int.toNat (Go.bits Go.BinOp.and IntKind.i64 (x2 x (16 : Nat)) (3 : Int))) (0 : Int)) ∧ (frS8k1 x n ((Int.tmod (Go.bits Go.BinOp.and IntKind.i64 (Int.fdiv x ((2 : Int) ^ (18 : Nat))) (255 : Int)) ((↑n : Int) + (1 : Int)) = tmN (x2 x (18 : Nat)) ((↑n : Int) + (1 : Int))) ∧ True))) (by kernel_rfl)
    ⟨(by omega),
 (by first | omega | rfl),
 (by first | omega | rfl),
 (by first | omega | rfl),
 (by first | omega | rfl),
 (by first | omega | rfl | (simp; done) | (simp; omega)),
 lvalC _,
 (by first | omega | rfl),
 (by first | omega | rfl | (simp; done) | (simp; omega)),
 lvalC _,
 (by first | omega | rfl),
 (by first | omega | rfl | (simp; done) | (simp; omega)),
 (by first | omega | rfl),
 (by first | omega | rfl),
 (by first | omega | rfl),
 (in64 (by omega) (by omega)),
 (by omega),
 rfl,
 (by rw [show bits .and .i64 (x2 x 16) 3 = ((2 : Nat) : Int) from hr]; rfl), (frS8k1_mk x n ⟨(by first | omega | rfl | (simp; done) | (simp; omega)), trivial⟩)⟩
theorem ins9_3 (x : Int) (n : Nat) (hn : n < 100) (hq : Int.tmod (bits .and .i64 x 255) 18 = ((9 : Nat) : Int)) (hr : bits .and .i64 (Int.fdiv x (2 ^ 16)) 3 = ((3 : Nat) : Int)) : Vc (vcFn Try.prog false 28 [.int .i64 x, .int .i64 n] [.iy 9, .cl [.int .i64 (x2 x 8)] (.agg (vlA (vlN (x2 x 8)))) [], .cl [.int .i64 (x2 x 11)] (.agg (vlA (vlN (x2 x 11)))) [], .ll [3, 4], .iy 3] [] (.agg (inA (insOf 5 x n))) []) :=
  vc_of (q := ((18 : Int) ≠ (0 : Int)) ∧ (Int.tmod (Go.bits Go.BinOp.and IntKind.i64 x (255 : Int)) (18 : Int) = (↑(9 : Nat) : Int)) ∧ ((0 : Int) ≤ (↑(9 : Nat) : Int) ∧ (↑(9 : Nat) : Int) < (↑(18 : Nat) : Int)) ∧ ((9 : Nat) < (18 : Nat)) ∧ ((0 : Int) ≤ (8 : Int)) ∧ (Int.fdiv x ((2 : Int) ^ (8 : Nat)) = x2 x (8 : Nat)) ∧ cS8k1 x ∧ ((0 : Int) ≤ (11 : Int)) ∧ (Int.fdiv x ((2 : Int) ^ (11 : Nat)) = x2 x (11 : Nat)) ∧ cS8k0 x ∧ ((0 : Int) ≤ (16 : Int)) ∧ (Go.bits Go.BinOp.and IntKind.i64 (Int.fdiv x ((2 : Int) ^ (16 : Nat))) (3 : Int) = (↑(3 : Nat) : Int)) ∧ ((0 : Int) ≤ (↑(3 : Nat) : Int) ∧ (↑(3 : Nat) : Int) < (↑(4 : Nat) : Int)) ∧ ((3 : Nat) < (4 : Nat)) ∧ ((0 : Int) ≤ (18 : Int)) ∧ (inK IntKind.i64 ((↑n : Int) + (1 : Int))) ∧ ((↑n : Int) + (1 : Int) ≠ (0 : Int)) ∧ ((5 : Int) = (5 : Int)) ∧ ((2 : Int) = List.getD [(9 : Int), (10 : Int), (3 : Int), (2 : Int)] (Int.toNat (Go.bits Go.BinOp.and IntKind.i64 (x2 x (16 : Nat)) (3 : Int))) (0 : Int)) ∧ (frS8k1 x n ((Int.tmod (Go.bits Go.BinOp.and IntKind.i64 (Int.fdiv x ((2 : Int) ^ (18 : Nat))) (255 : Int)) ((↑n : Int) + (1 : Int)) = tmN (x2 x (18 : Nat)) ((↑n : Int) + (1 : Int))) ∧ True))) (by kernel_rfl)
    ⟨(by omega),
 (by first | omega | rfl),
 (by first | omega | rfl),
 (by first | omega | rfl),
 (by first | omega | rfl),
 (by first | omega | rfl | (simp; done) | (simp; omega)),
 lvalC _,
 (by first | omega | rfl),
 (by first | omega | rfl | (simp; done) | (simp; omega)),
 lvalC _,
 (by first | omega | rfl),
 (by first | omega | rfl | (simp; done) | (simp; omega)),
 (by first | omega | rfl),
 (by first | omega | rfl),
 (by first | omega | rfl),
 (in64 (by omega) (by omega)),
 (by omega),
 rfl,
 (by rw [show bits .and .i64 (x2 x 16) 3 = ((3 : Nat) : Int) from hr]; rfl), (frS8k1_mk x n ⟨(by first | omega | rfl | (simp; done) | (simp; omega)), trivial⟩)⟩
theorem ins10_0 (x : Int) (n : Nat) (hn : n < 100) (hq : Int.tmod (bits .and .i64 x 255) 18 = ((10 : Nat) : Int)) (hr : bits .and .i64 (Int.fdiv x (2 ^ 16)) 3 = ((0 : Nat) : Int)) : Vc (vcFn Try.prog false 28 [.int .i64 x, .int .i64 n] [.iy 10, .cl [.int .i64 (x2 x 8)] (.agg (vlA (vlN (x2 x 8)))) [], .cl [.int .i64 (x2 x 11)] (.agg (vlA (vlN (x2 x 11)))) [], .ll [3, 4], .iy 0] [] (.agg (inA (insOf 5 x n))) []) :=
  vc_of (q := ((18 : Int) ≠ (0 : Int)) ∧ (Int.tmod (Go.bits Go.BinOp.and IntKind.i64 x (255 : Int)) (18 : Int) = (↑(10 : Nat) : Int)) ∧ ((0 : Int) ≤ (↑(10 : Nat) : Int) ∧ (↑(10 : Nat) : Int) < (↑(18 : Nat) : Int)) ∧ ((10 : Nat) < (18 : Nat)) ∧ ((0 : Int) ≤ (8 : Int)) ∧ (Int.fdiv x ((2 : Int) ^ (8 : Nat)) = x2 x (8 : Nat)) ∧ cS8k1 x ∧ ((0 : Int) ≤ (11 : Int)) ∧ (Int.fdiv x ((2 : Int) ^ (11 : Nat)) = x2 x (11 : Nat)) ∧ cS8k0 x ∧ ((0 : Int) ≤ (16 : Int)) ∧ (Go.bits Go.BinOp.and IntKind.i64 (Int.fdiv x ((2 : Int) ^ (16 : Nat))) (3 : Int) = (↑(0 : Nat) : Int)) ∧ ((0 : Int) ≤ (↑(0 : Nat) : Int) ∧ (↑(0 : Nat) : Int) < (↑(4 : Nat) : Int)) ∧ ((0 : Nat) < (4 : Nat)) ∧ ((0 : Int) ≤ (18 : Int)) ∧ (inK IntKind.i64 ((↑n : Int) + (1 : Int))) ∧ ((↑n : Int) + (1 : Int) ≠ (0 : Int)) ∧ ((5 : Int) = (5 : Int)) ∧ ((9 : Int) = List.getD [(9 : Int), (10 : Int), (3 : Int), (2 : Int)] (Int.toNat (Go.bits Go.BinOp.and IntKind.i64 (x2 x (16 : Nat)) (3 : Int))) (0 : Int)) ∧ (frS8k1 x n ((Int.tmod (Go.bits Go.BinOp.and IntKind.i64 (Int.fdiv x ((2 : Int) ^ (18 : Nat))) (255 : Int)) ((↑n : Int) + (1 : Int)) = tmN (x2 x (18 : Nat)) ((↑n : Int) + (1 : Int))) ∧ True))) (by kernel_rfl)
    ⟨(by omega),
 (by first | omega | rfl),
 (by first | omega | rfl),
 (by first | omega | rfl),
 (by first | omega | rfl),
 (by first | omega | rfl | (simp; done) | (simp; omega)),
 lvalC _,
 (by first | omega | rfl),
 (by first | omega | rfl | (simp; done) | (simp; omega)),
 lvalC _,
 (by first | omega | rfl),
 (by first | omega | rfl | (simp; done) | (simp; omega)),
 (by first | omega | rfl),
 (by first | omega | rfl),
 (by first | omega | rfl),
 (in64 (by omega) (by omega)),
 (by omega),
 rfl,
 (by rw [show bits .and .i64 (x2 x 16) 3 = ((0 : Nat) : Int) from hr]; rfl), (frS8k1_mk x n ⟨(by first | omega | rfl | (simp; done) | (simp; omega)), trivial⟩)⟩
theorem ins10_1 (x : Int) (n : Nat) (hn : n < 100) (hq : Int.tmod (bits .and .i64 x 255) 18 = ((10 : Nat) : Int)) (hr : bits .and .i64 (Int.fdiv x (2 ^ 16)) 3 = ((1 : Nat) : Int)) : Vc (vcFn Try.prog false 28 [.int .i64 x, .int .i64 n] [.iy 10, .cl [.int .i64 (x2 x 8)] (.agg (vlA (vlN (x2 x 8)))) [], .cl [.int .i64 (x2 x 11)] (.agg (vlA (vlN (x2 x 11)))) [], .ll [3, 4], .iy 1] [] (.agg (inA (insOf 5 x n))) []) :=
  vc_of (q := ((18 : Int) ≠ (0 : Int)) ∧ (Int.tmod (Go.bits Go.BinOp.and IntKind.i64 x (255 : Int)) (18 : Int) = (↑(10 : Nat) : Int)) ∧ ((0 : Int) ≤ (↑(10 : Nat) : Int) ∧ (↑(10 : Nat) : Int) < (↑(18 : Nat) : Int)) ∧ ((10 : Nat) < (18 : Nat)) ∧ ((0 : Int) ≤ (8 : Int)) ∧ (Int.fdiv x ((2 : Int) ^ (8 : Nat)) = x2 x (8 : Nat)) ∧ cS8k1 x ∧ ((0 : Int) ≤ (11 : Int)) ∧ (Int.fdiv x ((2 : Int) ^ (11 : Nat)) = x2 x (11 : Nat)) ∧ cS8k0 x ∧ ((0 : Int) ≤ (16 : Int)) ∧ (Go.bits Go.BinOp.and IntKind.i64 (Int.fdiv x ((2 : Int) ^ (16 : Nat))) (3 : Int) = (↑(1 : Nat) : Int)) ∧ ((0 : Int) ≤ (↑(1 : Nat) : Int) ∧ (↑(1 : Nat) : Int) < (↑(4 : Nat) : Int)) ∧ ((1 : Nat) < (4 : Nat)) ∧ ((0 : Int) ≤ (18 : Int)) ∧ (inK IntKind.i64 ((↑n : Int) + (1 : Int))) ∧ ((↑n : Int) + (1 : Int) ≠ (0 : Int)) ∧ ((5 : Int) = (5 : Int)) ∧ ((10 : Int) = List.getD [(9 : Int), (10 : Int), (3 : Int), (2 : Int)] (Int.toNat (Go.bits Go.BinOp.and IntKind.i64 (x2 x (16 : Nat)) (3 : Int))) (0 : Int)) ∧ (frS8k1 x n ((Int.tmod (Go.bits Go.BinOp.and IntKind.i64 (Int.fdiv x ((2 : Int) ^ (18 : Nat))) (255 : Int)) ((↑n : Int) + (1 : Int)) = tmN (x2 x (18 : Nat)) ((↑n : Int) + (1 : Int))) ∧ True))) (by kernel_rfl)
    ⟨(by omega),
 (by first | omega | rfl),
 (by first | omega | rfl),
 (by first | omega | rfl),
 (by first | omega | rfl),
 (by first | omega | rfl | (simp; done) | (simp; omega)),
 lvalC _,
 (by first | omega | rfl),
 (by first | omega | rfl | (simp; done) | (simp; omega)),
 lvalC _,
 (by first | omega | rfl),
 (by first | omega | rfl | (simp; done) | (simp; omega)),
 (by first | omega | rfl),
 (by first | omega | rfl),
 (by first | omega | rfl),
 (in64 (by omega) (by omega)),
 (by omega),
 rfl,
 (by rw [show bits .and .i64 (x2 x 16) 3 = ((1 : Nat) : Int) from hr]; rfl), (frS8k1_mk x n ⟨(by first | omega | rfl | (simp; done) | (simp; omega)), trivial⟩)⟩
theorem ins10_2 (x : Int) (n : Nat) (hn : n < 100) (hq : Int.tmod (bits .and .i64 x 255) 18 = ((10 : Nat) : Int)) (hr : bits .and .i64 (Int.fdiv x (2 ^ 16)) 3 = ((2 : Nat) : Int)) : Vc (vcFn Try.prog false 28 [.int .i64 x, .int .i64 n] [.iy 10, .cl [.int .i64 (x2 x 8)] (.agg (vlA (vlN (x2 x 8)))) [], .cl [.int .i64 (x2 x 11)] (.agg (vlA (vlN (x2 x 11)))) [], .ll [3, 4], .iy 2] [] (.agg (inA (insOf 5 x n))) []) :=
  vc_of (q := ((18 : Int) ≠ (0 : Int)) ∧ (Int.tmod (Go.bits Go.BinOp.and IntKind.i64 x (255 : Int)) (18 : Int) = (↑(10 : Nat) : Int)) ∧ ((0 : Int) ≤ (↑(10 : Nat) : Int) ∧ (↑(10 : Nat) : Int) < (↑(18 : Nat) : Int)) ∧ ((10 : Nat) < (18 : Nat)) ∧ ((0 : Int) ≤ (8 : Int)) ∧ (Int.fdiv x ((2 : Int) ^ (8 : Nat)) = x2 x (8 : Nat)) ∧ cS8k1 x ∧ ((0 : Int) ≤ (11 : Int)) ∧ (Int.fdiv x ((2 : Int) ^ (11 : Nat)) = x2 x (11 : Nat)) ∧ cS8k0 x ∧ ((0 : Int) ≤ (16 : Int)) ∧ (Go.bits Go.BinOp.and IntKind.i64 (Int.fdiv x ((2 : Int) ^ (16 : Nat))) (3 : Int) = (↑(2 : Nat) : Int)) ∧ ((0 : Int) ≤ (↑(2 : Nat) : Int) ∧ (↑(2 : Nat) : Int) < (↑(4 : Nat) : Int)) ∧ ((2 : Nat) < (4 : Nat)) ∧ ((0 : Int) ≤ (18 : Int)) ∧ (inK IntKind.i64 ((↑n : Int) + (1 : Int))) ∧ ((↑n : Int) + (1 : Int) ≠ (0 : Int)) ∧ ((5 : Int) = (5 : Int)) ∧ ((3 : Int) = List.getD [(9 : Int), (10 : Int), (3 : Int), (2 : Int)] (Int.toNat (Go.bits Go.BinOp.and IntKind.i64 (x2 x (16 : Nat)) (3 : Int))) (0 : Int)) ∧ (frS8k1 x n ((Int.tmod (Go.bits Go.BinOp.and IntKind.i64 (Int.fdiv x ((2 : Int) ^ (18 : Nat))) (255 : Int)) ((↑n : Int) + (1 : Int)) = tmN (x2 x (18 : Nat)) ((↑n : Int) + (1 : Int))) ∧ True))) (by kernel_rfl)
    ⟨(by omega),
 (by first | omega | rfl),
 (by first | omega | rfl),
 (by first | omega | rfl),
 (by first | omega | rfl),
 (by first | omega | rfl | (simp; done) | (simp; omega)),
 lvalC _,
 (by first | omega | rfl),
 (by first | omega | rfl | (simp; done) | (simp; omega)),
 lvalC _,
 (by first | omega | rfl),
 (by first | omega | rfl | (simp; done) | (simp; omega)),
 (by first | omega | rfl),
 (by first | omega | rfl),
 (by first | omega | rfl),
 (in64 (by omega) (by omega)),
 (by omega),
 rfl,
 (by rw [show bits .and .i64 (x2 x 16) 3 = ((2 : Nat) : Int) from hr]; rfl), (frS8k1_mk x n ⟨(by first | omega | rfl | (simp; done) | (simp; omega)), trivial⟩)⟩
theorem ins10_3 (x : Int) (n : Nat) (hn : n < 100) (hq : Int.tmod (bits .and .i64 x 255) 18 = ((10 : Nat) : Int)) (hr : bits .and .i64 (Int.fdiv x (2 ^ 16)) 3 = ((3 : Nat) : Int)) : Vc (vcFn Try.prog false 28 [.int .i64 x, .int .i64 n] [.iy 10, .cl [.int .i64 (x2 x 8)] (.agg (vlA (vlN (x2 x 8)))) [], .cl [.int .i64 (x2 x 11)] (.agg (vlA (vlN (x2 x 11)))) [], .ll [3, 4], .iy 3] [] (.agg (inA (insOf 5 x n))) []) :=
  vc_of (q := ((18 : Int) ≠ (0 : Int)) ∧ (Int.tmod (Go.bits Go.BinOp.and IntKind.i64 x (255 : Int)) (18 : Int) = (↑(10 : Nat) : Int)) ∧ ((0 : Int) ≤ (↑(10 : Nat) : Int) ∧ (↑(10 : Nat) : Int) < (↑(18 : Nat) : Int)) ∧ ((10 : Nat) < (18 : Nat)) ∧ ((0 : Int) ≤ (8 : Int)) ∧ (Int.fdiv x ((2 : Int) ^ (8 : Nat)) = x2 x (8 : Nat)) ∧ cS8k1 x ∧ ((0 : Int) ≤ (11 : Int)) ∧ (Int.fdiv x ((2 : Int) ^ (11 : Nat)) = x2 x (11 : Nat)) ∧ cS8k0 x ∧ ((0 : Int) ≤ (16 : Int)) ∧ (Go.bits Go.BinOp.and IntKind.i64 (Int.fdiv x ((2 : Int) ^ (16 : Nat))) (3 : Int) = (↑(3 : Nat) : Int)) ∧ ((0 : Int) ≤ (↑(3 : Nat) : Int) ∧ (↑(3 : Nat) : Int) < (↑(4 : Nat) : Int)) ∧ ((3 : Nat) < (4 : Nat)) ∧ ((0 : Int) ≤ (18 : Int)) ∧ (inK IntKind.i64 ((↑n : Int) + (1 : Int))) ∧ ((↑n : Int) + (1 : Int) ≠ (0 : Int)) ∧ ((5 : Int) = (5 : Int)) ∧ ((2 : Int) = List.getD [(9 : Int), (10 : Int), (3 : Int), (2 : Int)] (Int.toNat (Go.bits Go.BinOp.and IntKind.i64 (x2 x (16 : Nat)) (3 : Int))) (0 : Int)) ∧ (frS8k1 x n ((Int.tmod (Go.bits Go.BinOp.and IntKind.i64 (Int.fdiv x ((2 : Int) ^ (18 : Nat))) (255 : Int)) ((↑n : Int) + (1 : Int)) = tmN (x2 x (18 : Nat)) ((↑n : Int) + (1 : Int))) ∧ True))) (by kernel_rfl)
    ⟨(by omega),
 (by first | omega | rfl),
 (by first | omega | rfl),
 (by first | omega | rfl),
 (by first | omega | rfl),
 (by first | omega | rfl | (simp; done) | (simp; omega)),
 lvalC _,
 (by first | omega | rfl),
 (by first | omega | rfl | (simp; done) | (simp; omega)),
 lvalC _,
 (by first | omega | rfl),
 (by first | omega | rfl | (simp; done) | (simp; omega)),
 (by first | omega | rfl),
 (by first | omega | rfl),
 (by first | omega | rfl),
 (in64 (by omega) (by omega)),
 (by omega),
 rfl,
 (by rw [show bits .and .i64 (x2 x 16) 3 = ((3 : Nat) : Int) from hr]; rfl), (frS8k1_mk x n ⟨(by first | omega | rfl | (simp; done) | (simp; omega)), trivial⟩)⟩
def frS8k2  (Z : Prop) : Prop := ((0 : Int) = (0 : Int)) ∧ ((0 : Int) = (0 : Int)) ∧ (false = false) ∧ ((0 : Int) = (0 : Int)) ∧ (false = false) ∧ ((0 : Int) = (0 : Int)) ∧ (ByteArray.mk (Array.mk []) = ByteArray.mk (Array.mk [])) ∧ Z
theorem frS8k2_mk  {Z : Prop} (z : Z) : frS8k2  Z := ⟨rfl, rfl, rfl, rfl, rfl, rfl, rfl, z⟩
theorem ins11 (x : Int) (n : Nat) (hn : n < 100) (hq : Int.tmod (bits .and .i64 x 255) 18 = ((11 : Nat) : Int)) : Vc (vcFn Try.prog false 28 [.int .i64 x, .int .i64 n] [.iy 11, .cl [.int .i64 (x2 x 8)] (.agg (vlA (vlN (x2 x 8)))) [], .cl [.int .i64 (x2 x 11)] (.agg (vlA (vlN (x2 x 11)))) []] [] (.agg (inA (insOf 6 x n))) []) :=
  vc_of (q := ((18 : Int) ≠ (0 : Int)) ∧ (Int.tmod (Go.bits Go.BinOp.and IntKind.i64 x (255 : Int)) (18 : Int) = (↑(11 : Nat) : Int)) ∧ ((0 : Int) ≤ (↑(11 : Nat) : Int) ∧ (↑(11 : Nat) : Int) < (↑(18 : Nat) : Int)) ∧ ((11 : Nat) < (18 : Nat)) ∧ ((0 : Int) ≤ (8 : Int)) ∧ (Int.fdiv x ((2 : Int) ^ (8 : Nat)) = x2 x (8 : Nat)) ∧ cS8k1 x ∧ ((0 : Int) ≤ (11 : Int)) ∧ (Int.fdiv x ((2 : Int) ^ (11 : Nat)) = x2 x (11 : Nat)) ∧ cS8k0 x ∧ ((0 : Int) ≤ (18 : Int)) ∧ (inK IntKind.i64 ((↑n : Int) + (1 : Int))) ∧ ((↑n : Int) + (1 : Int) ≠ (0 : Int)) ∧ ((6 : Int) = (6 : Int)) ∧ (frS8k2  ((Int.tmod (Go.bits Go.BinOp.and IntKind.i64 (Int.fdiv x ((2 : Int) ^ (18 : Nat))) (255 : Int)) ((↑n : Int) + (1 : Int)) = tmN (x2 x (18 : Nat)) ((↑n : Int) + (1 : Int))) ∧ True))) (by kernel_rfl)
    ⟨(by omega),
 (by first | omega | rfl),
 (by first | omega | rfl),
 (by first | omega | rfl),
 (by first | omega | rfl),
 (by first | omega | rfl | (simp; done) | (simp; omega)),
 lvalC _,
 (by first | omega | rfl),
 (by first | omega | rfl | (simp; done) | (simp; omega)),
 lvalC _,
 (by first | omega | rfl),
 (in64 (by omega) (by omega)),
 (by omega),
 rfl, (frS8k2_mk  ⟨(by first | omega | rfl | (simp; done) | (simp; omega)), trivial⟩)⟩
theorem ins12 (x : Int) (n : Nat) (hn : n < 100) (hq : Int.tmod (bits .and .i64 x 255) 18 = ((12 : Nat) : Int)) : Vc (vcFn Try.prog false 28 [.int .i64 x, .int .i64 n] [.iy 12, .cl [.int .i64 (x2 x 8)] (.agg (vlA (vlN (x2 x 8)))) [], .cl [.int .i64 (x2 x 11)] (.agg (vlA (vlN (x2 x 11)))) []] [] (.agg (inA (insOf 7 x n))) []) :=
  vc_of (q := ((18 : Int) ≠ (0 : Int)) ∧ (Int.tmod (Go.bits Go.BinOp.and IntKind.i64 x (255 : Int)) (18 : Int) = (↑(12 : Nat) : Int)) ∧ ((0 : Int) ≤ (↑(12 : Nat) : Int) ∧ (↑(12 : Nat) : Int) < (↑(18 : Nat) : Int)) ∧ ((12 : Nat) < (18 : Nat)) ∧ ((0 : Int) ≤ (8 : Int)) ∧ (Int.fdiv x ((2 : Int) ^ (8 : Nat)) = x2 x (8 : Nat)) ∧ cS8k1 x ∧ ((0 : Int) ≤ (11 : Int)) ∧ (Int.fdiv x ((2 : Int) ^ (11 : Nat)) = x2 x (11 : Nat)) ∧ cS8k0 x ∧ ((7 : Int) = (7 : Int)) ∧ ((0 : Int) = (0 : Int)) ∧ ((0 : Int) = (0 : Int)) ∧ (Vl.reg (vlN (x2 x (8 : Nat))) = Vl.reg (vlN (x2 x (8 : Nat)))) ∧ (Vl.n (vlN (x2 x (8 : Nat))) = Vl.n (vlN (x2 x (8 : Nat)))) ∧ (false = false) ∧ ((0 : Int) = (0 : Int)) ∧ (ByteArray.mk (Array.mk []) = ByteArray.mk (Array.mk [])) ∧ ((0 : Int) = (0 : Int)) ∧ True) (by kernel_rfl)
    ⟨(by omega),
 (by first | omega | rfl),
 (by first | omega | rfl),
 (by first | omega | rfl),
 (by first | omega | rfl),
 (by first | omega | rfl | (simp; done) | (simp; omega)),
 lvalC _,
 (by first | omega | rfl),
 (by first | omega | rfl | (simp; done) | (simp; omega)),
 lvalC _,
 rfl,
 rfl,
 rfl,
 rfl,
 rfl,
 rfl,
 rfl,
 rfl,
 rfl, trivial⟩
theorem ins13 (x : Int) (n : Nat) (hn : n < 100) (hq : Int.tmod (bits .and .i64 x 255) 18 = ((13 : Nat) : Int)) : Vc (vcFn Try.prog false 28 [.int .i64 x, .int .i64 n] [.iy 13, .cl [.int .i64 (x2 x 8)] (.agg (vlA (vlN (x2 x 8)))) [], .cl [.int .i64 (x2 x 11)] (.agg (vlA (vlN (x2 x 11)))) []] [] (.agg (inA (insOf 8 x n))) []) :=
  vc_of (q := ((18 : Int) ≠ (0 : Int)) ∧ (Int.tmod (Go.bits Go.BinOp.and IntKind.i64 x (255 : Int)) (18 : Int) = (↑(13 : Nat) : Int)) ∧ ((0 : Int) ≤ (↑(13 : Nat) : Int) ∧ (↑(13 : Nat) : Int) < (↑(18 : Nat) : Int)) ∧ ((13 : Nat) < (18 : Nat)) ∧ ((0 : Int) ≤ (8 : Int)) ∧ (Int.fdiv x ((2 : Int) ^ (8 : Nat)) = x2 x (8 : Nat)) ∧ cS8k1 x ∧ ((0 : Int) ≤ (11 : Int)) ∧ (Int.fdiv x ((2 : Int) ^ (11 : Nat)) = x2 x (11 : Nat)) ∧ cS8k0 x ∧ ((0 : Int) ≤ (18 : Int)) ∧ (inK IntKind.i64 ((↑n : Int) + (1 : Int))) ∧ ((↑n : Int) + (1 : Int) ≠ (0 : Int)) ∧ ((8 : Int) = (8 : Int)) ∧ (frS8k2  ((Int.tmod (Go.bits Go.BinOp.and IntKind.i64 (Int.fdiv x ((2 : Int) ^ (18 : Nat))) (255 : Int)) ((↑n : Int) + (1 : Int)) = tmN (x2 x (18 : Nat)) ((↑n : Int) + (1 : Int))) ∧ True))) (by kernel_rfl)
    ⟨(by omega),
 (by first | omega | rfl),
 (by first | omega | rfl),
 (by first | omega | rfl),
 (by first | omega | rfl),
 (by first | omega | rfl | (simp; done) | (simp; omega)),
 lvalC _,
 (by first | omega | rfl),
 (by first | omega | rfl | (simp; done) | (simp; omega)),
 lvalC _,
 (by first | omega | rfl),
 (in64 (by omega) (by omega)),
 (by omega),
 rfl, (frS8k2_mk  ⟨(by first | omega | rfl | (simp; done) | (simp; omega)), trivial⟩)⟩
def frS8k3  (Z : Prop) : Prop := ((0 : Int) = (0 : Int)) ∧ ((0 : Int) = (0 : Int)) ∧ (false = false) ∧ ((0 : Int) = (0 : Int)) ∧ (false = false) ∧ ((0 : Int) = (0 : Int)) ∧ (ByteArray.mk (Array.mk []) = ByteArray.mk (Array.mk [])) ∧ ((0 : Int) = (0 : Int)) ∧ Z
theorem frS8k3_mk  {Z : Prop} (z : Z) : frS8k3  Z := ⟨rfl, rfl, rfl, rfl, rfl, rfl, rfl, rfl, z⟩
theorem ins14 (x : Int) (n : Nat) (hn : n < 100) (hq : Int.tmod (bits .and .i64 x 255) 18 = ((14 : Nat) : Int)) : Vc (vcFn Try.prog false 28 [.int .i64 x, .int .i64 n] [.iy 14, .cl [.int .i64 (x2 x 8)] (.agg (vlA (vlN (x2 x 8)))) [], .cl [.int .i64 (x2 x 11)] (.agg (vlA (vlN (x2 x 11)))) []] [] (.agg (inA (insOf 9 x n))) []) :=
  vc_of (q := ((18 : Int) ≠ (0 : Int)) ∧ (Int.tmod (Go.bits Go.BinOp.and IntKind.i64 x (255 : Int)) (18 : Int) = (↑(14 : Nat) : Int)) ∧ ((0 : Int) ≤ (↑(14 : Nat) : Int) ∧ (↑(14 : Nat) : Int) < (↑(18 : Nat) : Int)) ∧ ((14 : Nat) < (18 : Nat)) ∧ ((0 : Int) ≤ (8 : Int)) ∧ (Int.fdiv x ((2 : Int) ^ (8 : Nat)) = x2 x (8 : Nat)) ∧ cS8k1 x ∧ ((0 : Int) ≤ (11 : Int)) ∧ (Int.fdiv x ((2 : Int) ^ (11 : Nat)) = x2 x (11 : Nat)) ∧ cS8k0 x ∧ ((9 : Int) = (↑(9 : Nat) : Int)) ∧ (frS8k3  (True))) (by kernel_rfl)
    ⟨(by omega),
 (by first | omega | rfl),
 (by first | omega | rfl),
 (by first | omega | rfl),
 (by first | omega | rfl),
 (by first | omega | rfl | (simp; done) | (simp; omega)),
 lvalC _,
 (by first | omega | rfl),
 (by first | omega | rfl | (simp; done) | (simp; omega)),
 lvalC _,
 (by first | omega | rfl), (frS8k3_mk  trivial)⟩
theorem ins15 (x : Int) (n : Nat) (hn : n < 100) (hq : Int.tmod (bits .and .i64 x 255) 18 = ((15 : Nat) : Int)) : Vc (vcFn Try.prog false 28 [.int .i64 x, .int .i64 n] [.iy 15, .cl [.int .i64 (x2 x 8)] (.agg (vlA (vlN (x2 x 8)))) [], .cl [.int .i64 (x2 x 11)] (.agg (vlA (vlN (x2 x 11)))) []] [] (.agg (inA (insOf 10 x n))) []) :=
  vc_of (q := ((18 : Int) ≠ (0 : Int)) ∧ (Int.tmod (Go.bits Go.BinOp.and IntKind.i64 x (255 : Int)) (18 : Int) = (↑(15 : Nat) : Int)) ∧ ((0 : Int) ≤ (↑(15 : Nat) : Int) ∧ (↑(15 : Nat) : Int) < (↑(18 : Nat) : Int)) ∧ ((15 : Nat) < (18 : Nat)) ∧ ((0 : Int) ≤ (8 : Int)) ∧ (Int.fdiv x ((2 : Int) ^ (8 : Nat)) = x2 x (8 : Nat)) ∧ cS8k1 x ∧ ((0 : Int) ≤ (11 : Int)) ∧ (Int.fdiv x ((2 : Int) ^ (11 : Nat)) = x2 x (11 : Nat)) ∧ cS8k0 x ∧ ((10 : Int) = (↑(10 : Nat) : Int)) ∧ (frS8k3  (True))) (by kernel_rfl)
    ⟨(by omega),
 (by first | omega | rfl),
 (by first | omega | rfl),
 (by first | omega | rfl),
 (by first | omega | rfl),
 (by first | omega | rfl | (simp; done) | (simp; omega)),
 lvalC _,
 (by first | omega | rfl),
 (by first | omega | rfl | (simp; done) | (simp; omega)),
 lvalC _,
 (by first | omega | rfl), (frS8k3_mk  trivial)⟩
theorem ins16 (x : Int) (n : Nat) (hn : n < 100) (hq : Int.tmod (bits .and .i64 x 255) 18 = ((16 : Nat) : Int)) : Vc (vcFn Try.prog false 28 [.int .i64 x, .int .i64 n] [.iy 16, .cl [.int .i64 (x2 x 8)] (.agg (vlA (vlN (x2 x 8)))) [], .cl [.int .i64 (x2 x 11)] (.agg (vlA (vlN (x2 x 11)))) []] [] (.agg (inA (insOf 11 x n))) []) :=
  vc_of (q := ((18 : Int) ≠ (0 : Int)) ∧ (Int.tmod (Go.bits Go.BinOp.and IntKind.i64 x (255 : Int)) (18 : Int) = (↑(16 : Nat) : Int)) ∧ ((0 : Int) ≤ (↑(16 : Nat) : Int) ∧ (↑(16 : Nat) : Int) < (↑(18 : Nat) : Int)) ∧ ((16 : Nat) < (18 : Nat)) ∧ ((0 : Int) ≤ (8 : Int)) ∧ (Int.fdiv x ((2 : Int) ^ (8 : Nat)) = x2 x (8 : Nat)) ∧ cS8k1 x ∧ ((0 : Int) ≤ (11 : Int)) ∧ (Int.fdiv x ((2 : Int) ^ (11 : Nat)) = x2 x (11 : Nat)) ∧ cS8k0 x ∧ ((11 : Int) = (↑(11 : Nat) : Int)) ∧ (frS8k3  (True))) (by kernel_rfl)
    ⟨(by omega),
 (by first | omega | rfl),
 (by first | omega | rfl),
 (by first | omega | rfl),
 (by first | omega | rfl),
 (by first | omega | rfl | (simp; done) | (simp; omega)),
 lvalC _,
 (by first | omega | rfl),
 (by first | omega | rfl | (simp; done) | (simp; omega)),
 lvalC _,
 (by first | omega | rfl), (frS8k3_mk  trivial)⟩
theorem ins17 (x : Int) (n : Nat) (hn : n < 100) (hq : Int.tmod (bits .and .i64 x 255) 18 = ((17 : Nat) : Int)) : Vc (vcFn Try.prog false 28 [.int .i64 x, .int .i64 n] [.iy 17, .cl [.int .i64 (x2 x 8)] (.agg (vlA (vlN (x2 x 8)))) [], .cl [.int .i64 (x2 x 11)] (.agg (vlA (vlN (x2 x 11)))) [], .ll [3, 4]] [] (.agg (inA (insOf 1 x n))) []) :=
  vc_of (q := ((18 : Int) ≠ (0 : Int)) ∧ (Int.tmod (Go.bits Go.BinOp.and IntKind.i64 x (255 : Int)) (18 : Int) = (↑(17 : Nat) : Int)) ∧ ((0 : Int) ≤ (↑(17 : Nat) : Int) ∧ (↑(17 : Nat) : Int) < (↑(18 : Nat) : Int)) ∧ ((17 : Nat) < (18 : Nat)) ∧ ((0 : Int) ≤ (8 : Int)) ∧ (Int.fdiv x ((2 : Int) ^ (8 : Nat)) = x2 x (8 : Nat)) ∧ cS8k1 x ∧ ((0 : Int) ≤ (11 : Int)) ∧ (Int.fdiv x ((2 : Int) ^ (11 : Nat)) = x2 x (11 : Nat)) ∧ cS8k0 x ∧ ((0 : Int) ≤ (16 : Int)) ∧ ((10 : Int) ≠ (0 : Int)) ∧ (inK IntKind.i64 (Int.tmod (Go.bits Go.BinOp.and IntKind.i64 (Int.fdiv x ((2 : Int) ^ (16 : Nat))) (255 : Int)) (10 : Int) + (1 : Int))) ∧ ((0 : Int) ≤ (14 : Int)) ∧ ((1 : Int) = (1 : Int)) ∧ (Int.tmod (Go.bits Go.BinOp.and IntKind.i64 (Int.fdiv x ((2 : Int) ^ (16 : Nat))) (255 : Int)) (10 : Int) + (1 : Int) = tmN (x2 x (16 : Nat)) (10 : Int) + (1 : Int)) ∧ (Go.bits Go.BinOp.and IntKind.i64 (Int.fdiv x ((2 : Int) ^ (14 : Nat))) (3 : Int) = Go.bits Go.BinOp.and IntKind.i64 (x2 x (14 : Nat)) (3 : Int)) ∧ (frS8k0 x n (True))) (by kernel_rfl)
    ⟨(by omega),
 (by first | omega | rfl),
 (by first | omega | rfl),
 (by first | omega | rfl),
 (by first | omega | rfl),
 (by first | omega | rfl | (simp; done) | (simp; omega)),
 lvalC _,
 (by first | omega | rfl),
 (by first | omega | rfl | (simp; done) | (simp; omega)),
 lvalC _,
 (by first | omega | rfl),
 (by omega),
 (in_tm _ _ (by omega) (by omega)),
 (by first | omega | rfl),
 rfl,
 (by first | omega | rfl | (simp; done) | (simp; omega)),
 (by first | omega | rfl | (simp; done) | (simp; omega)), (frS8k0_mk x n trivial)⟩
theorem linsC (x : Int) (n : Nat) (hn : n < 100) : PureC Try.prog 28 [.int .i64 x, .int .i64 n] (.agg (inA (insN x n))) [] := by
  have hb := tm_bd x 18 (by omega)
  obtain ⟨q, e⟩ : ∃ q : Nat, Int.tmod (bits .and .i64 x 255) 18 = (q : Int) := ⟨(Int.tmod (bits .and .i64 x 255) 18).toNat, by omega⟩
  have hq : q < 18 := by omega
  unfold insN tmN
  rw [e, Int.toNat_natCast]
  match q, hq, e with
  | 0, _, e => exact PureC.vc (ins0 x n hn e)
  | 1, _, e => exact PureC.vc (ins1 x n hn e)
  | 2, _, e => exact PureC.vc (ins2 x n hn e)
  | 3, _, e => exact PureC.vc (ins3 x n hn e)
  | 4, _, e => exact PureC.vc (ins4 x n hn e)
  | 5, _, e => exact PureC.vc (ins5 x n hn e)
  | 6, _, e => exact PureC.vc (ins6 x n hn e)
  | 7, _, e => exact PureC.vc (ins7 x n hn e)
  | 8, _, e => obtain ⟨r, hr, e2⟩ := bits3 (Int.fdiv x (2 ^ 16)); exact (match r, hr, e2 with | 0, _, e2 => PureC.vc (ins8_0 x n hn e e2) | 1, _, e2 => PureC.vc (ins8_1 x n hn e e2) | 2, _, e2 => PureC.vc (ins8_2 x n hn e e2) | 3, _, e2 => PureC.vc (ins8_3 x n hn e e2))
  | 9, _, e => obtain ⟨r, hr, e2⟩ := bits3 (Int.fdiv x (2 ^ 16)); exact (match r, hr, e2 with | 0, _, e2 => PureC.vc (ins9_0 x n hn e e2) | 1, _, e2 => PureC.vc (ins9_1 x n hn e e2) | 2, _, e2 => PureC.vc (ins9_2 x n hn e e2) | 3, _, e2 => PureC.vc (ins9_3 x n hn e e2))
  | 10, _, e => obtain ⟨r, hr, e2⟩ := bits3 (Int.fdiv x (2 ^ 16)); exact (match r, hr, e2 with | 0, _, e2 => PureC.vc (ins10_0 x n hn e e2) | 1, _, e2 => PureC.vc (ins10_1 x n hn e e2) | 2, _, e2 => PureC.vc (ins10_2 x n hn e e2) | 3, _, e2 => PureC.vc (ins10_3 x n hn e e2))
  | 11, _, e => exact PureC.vc (ins11 x n hn e)
  | 12, _, e => exact PureC.vc (ins12 x n hn e)
  | 13, _, e => exact PureC.vc (ins13 x n hn e)
  | 14, _, e => exact PureC.vc (ins14 x n hn e)
  | 15, _, e => exact PureC.vc (ins15 x n hn e)
  | 16, _, e => exact PureC.vc (ins16 x n hn e)
  | 17, _, e => exact PureC.vc (ins17 x n hn e)
  | _ + 18, h, _ => exact absurd h (by omega)
end
end Go.Proofs.Ytjdiabjmphdhiaa.Px
