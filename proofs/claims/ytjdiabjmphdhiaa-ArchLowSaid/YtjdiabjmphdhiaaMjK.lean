/- Merged: S8n, S8r, S8s, S8t, S8u, S8v, S8q, S8l, S8w, S8x. -/
import Derived.Test.YtjdiabjmphdhiaaMjJ
import Derived.Test.YtjdiabjmphdhiaaMjF
set_option linter.unusedVariables false
set_option linter.unusedSimpArgs false
set_option maxRecDepth 100000
namespace Go.Proofs.Ytjdiabjmphdhiaa.Px
section
open Go.RowKit Go.Proofs.Ytjdiabjmphdhiaa.Rx
def pgP (p : Pg) : AV := .rptr 10 (fun q => (pgA p).getD q .junk) 0
def plF (p : Pg) : List Pl := places (rg p.r0 p.r1 p.r2 p.r3) p.ms
def plR (l : List Pl) : AV := .row 3 l.length (rowL plC l)
def lR (l : List Int) : AV := .row 1 l.length (rowI l)
def rsS (p : Pg) (pl : List Pl) (l : List Int) (s : S7) (k : Nat) : Sm := ⟨[(1, lR l), (2, pgP p), (4, .bptr 0 0), (5, .bool false), (6, plR pl), (7, .bptr 1 0), (8, .int .i64 k)],
  [(0, bx 31 (stZ .nils)), (1, bx 31 (stC s (.own 2 0 1 0 s.m.length))), (2, blkI s.m)], 3⟩
def frS8n0 (p : Pg) (pl : List Pl) (Z : Prop) : Prop := (List.length (Pg.is p) = List.length (Pg.is p)) ∧ (∀ (i : Nat), i < List.length (Pg.is p) → ∀ (j : Nat), j < (9 : Nat) → rowL inC (Pg.is p) i j = rowL inC (Pg.is p) i j) ∧ (false = false) ∧ (List.length pl = List.length pl) ∧ (∀ (i : Nat), i < List.length pl → ∀ (j : Nat), j < (3 : Nat) → rowL plC pl i j = rowL plC pl i j) ∧ Z
theorem frS8n0_mk (p : Pg) (pl : List Pl) {Z : Prop} (z : Z) : frS8n0 p pl Z := ⟨rfl, (fun _ _ _ _ => rfl), rfl, rfl, (fun _ _ _ _ => rfl), z⟩
def frS8n1 (p : Pg) (Z : Prop) : Prop := (Pg.fuel p = Pg.fuel p) ∧ (Pg.r0 p = Pg.r0 p) ∧ (Pg.r1 p = Pg.r1 p) ∧ (Pg.r2 p = Pg.r2 p) ∧ (Pg.r3 p = Pg.r3 p) ∧ (List.length (Pg.ms p) = List.length (Pg.ms p)) ∧ (∀ (i : Nat), i < List.length (Pg.ms p) → ∀ (j : Nat), j < (3 : Nat) → rowL mmC (Pg.ms p) i j = rowL mmC (Pg.ms p) i j) ∧ (List.length (Pg.ls p) = List.length (Pg.ls p)) ∧ (∀ (i : Nat), i < List.length (Pg.ls p) → ∀ (j : Nat), j < (2 : Nat) → rowL lbC (Pg.ls p) i j = rowL lbC (Pg.ls p) i j) ∧ Z
theorem frS8n1_mk (p : Pg) {Z : Prop} (z : Z) : frS8n1 p Z := ⟨rfl, rfl, rfl, rfl, rfl, rfl, (fun _ _ _ _ => rfl), rfl, (fun _ _ _ _ => rfl), z⟩
def frS8n2 (p : Pg) (l : List Int) (s : S7) (Z : Prop) : Prop := ((0 : Nat) = (0 : Nat)) ∧ (List.length (S7.m s) = List.length (S7.m s)) ∧ ((0 : Int) = (0 : Int)) ∧ (List.length (S7.m s) = List.length (S7.m s)) ∧ (∀ (i : Nat), i < List.length (S7.m s) → ∀ (j : Nat), j < (1 : Nat) → AV.int IntKind.i64 (List.getD (S7.m s) i (0 : Int)) = AV.int IntKind.i64 (List.getD (S7.m s) i (0 : Int))) ∧ (List.length l = List.length l) ∧ (∀ (i : Nat), i < List.length l → ∀ (j : Nat), j < (1 : Nat) → AV.int IntKind.i64 (List.getD l i (0 : Int)) = AV.int IntKind.i64 (List.getD l i (0 : Int))) ∧ (Pg.W p = Pg.W p) ∧ (Pg.win p = Pg.win p) ∧ Z
theorem frS8n2_mk (p : Pg) (l : List Int) (s : S7) {Z : Prop} (z : Z) : frS8n2 p l s Z := ⟨rfl, rfl, rfl, rfl, (fun _ _ _ _ => rfl), rfl, (fun _ _ _ _ => rfl), rfl, rfl, z⟩
theorem rs_reg0 (p : Pg) (pl : List Pl) (l : List Int) (s : S7) (k : Nat) (hk : k < pl.length) (hl : l.length = pl.length) (hp : pl.length < 1000000) (hr : (pl.getD k default).reg = true) (hn : (pl.getD k default).n = 0) : Vc (vcC Try.prog false (ntOf Try.prog 29) (lpC Try.prog 29 0) (rsS p pl l s k) [.b true, .cl [.int .i64 p.W, .int .i64 (l.getD k 0)] (.int .i64 (Wd.maskV p.W (l.getD k 0))) [], .b true, .ix 0] .nrm [(0, 0), (1, 1), (2, 2)] (rsS p pl l { s with r0 := Wd.maskV p.W (l.getD k 0) } (k + 1))) :=
  vc_of (q := (decide ((↑k : Int) < (↑(List.length pl) : Int)) = true) ∧ ((0 : Int) ≤ (↑k : Int) ∧ (↑k : Int) < (↑(List.length l) : Int)) ∧ (Pg.W p = Pg.W p) ∧ (List.getD l k (0 : Int) = List.getD l k (0 : Int)) ∧ (PureC Try.prog 41 [.int .i64 p.W, .int .i64 (l.getD k 0)] (.int .i64 (Wd.maskV p.W (l.getD k 0))) []) ∧ ((0 : Int) ≤ (↑k : Int) ∧ (↑k : Int) < (↑(List.length pl) : Int)) ∧ (Pl.reg (List.getD pl k Inhabited.default) = true) ∧ ((0 : Int) ≤ (↑k : Int) ∧ (↑k : Int) < (↑(List.length pl) : Int)) ∧ ((↑(Pl.n (List.getD pl k Inhabited.default)) : Int) = (↑(0 : Nat) : Int)) ∧ (inK IntKind.i64 ((↑k : Int) + (1 : Int))) ∧ ((0 : Int) = (0 : Int)) ∧ ((0 : Int) = (0 : Int)) ∧ ((0 : Int) = (0 : Int)) ∧ ((0 : Int) = (0 : Int)) ∧ ((0 : Int) = (0 : Int)) ∧ (Wd.maskV (Pg.W p) (List.getD l k (0 : Int)) = Wd.maskV (Pg.W p) (List.getD l k (0 : Int))) ∧ (S7.r1 s = S7.r1 s) ∧ (S7.r2 s = S7.r2 s) ∧ (S7.r3 s = S7.r3 s) ∧ (frS8n2 p l s ((frS8n1 p ((frS8n0 p pl (((↑k : Int) + (1 : Int) = (↑(k + (1 : Nat)) : Int)) ∧ True))))))) (by kernel_rfl)
    ⟨(decide_eq_true (by first | omega | (simp; omega) | (simp; done))),
 (by first | omega | rfl),
 rfl,
 rfl,
 rmaskC p.W (l.getD k 0),
 (by first | omega | rfl),
 hr,
 (by first | omega | rfl),
 (congrArg Int.ofNat hn),
 (in64 (by omega) (by omega)),
 rfl,
 rfl,
 rfl,
 rfl,
 rfl,
 rfl,
 rfl,
 rfl,
 rfl, (frS8n2_mk p l s (frS8n1_mk p (frS8n0_mk p pl ⟨(by first | omega | rfl), trivial⟩)))⟩
theorem rs_reg1 (p : Pg) (pl : List Pl) (l : List Int) (s : S7) (k : Nat) (hk : k < pl.length) (hl : l.length = pl.length) (hp : pl.length < 1000000) (hr : (pl.getD k default).reg = true) (hn : (pl.getD k default).n = 1) : Vc (vcC Try.prog false (ntOf Try.prog 29) (lpC Try.prog 29 0) (rsS p pl l s k) [.b true, .cl [.int .i64 p.W, .int .i64 (l.getD k 0)] (.int .i64 (Wd.maskV p.W (l.getD k 0))) [], .b true, .ix 1] .nrm [(0, 0), (1, 1), (2, 2)] (rsS p pl l { s with r1 := Wd.maskV p.W (l.getD k 0) } (k + 1))) :=
  vc_of (q := (decide ((↑k : Int) < (↑(List.length pl) : Int)) = true) ∧ ((0 : Int) ≤ (↑k : Int) ∧ (↑k : Int) < (↑(List.length l) : Int)) ∧ (Pg.W p = Pg.W p) ∧ (List.getD l k (0 : Int) = List.getD l k (0 : Int)) ∧ (PureC Try.prog 41 [.int .i64 p.W, .int .i64 (l.getD k 0)] (.int .i64 (Wd.maskV p.W (l.getD k 0))) []) ∧ ((0 : Int) ≤ (↑k : Int) ∧ (↑k : Int) < (↑(List.length pl) : Int)) ∧ (Pl.reg (List.getD pl k Inhabited.default) = true) ∧ ((0 : Int) ≤ (↑k : Int) ∧ (↑k : Int) < (↑(List.length pl) : Int)) ∧ ((↑(Pl.n (List.getD pl k Inhabited.default)) : Int) = (↑(1 : Nat) : Int)) ∧ (inK IntKind.i64 ((↑k : Int) + (1 : Int))) ∧ ((0 : Int) = (0 : Int)) ∧ ((0 : Int) = (0 : Int)) ∧ ((0 : Int) = (0 : Int)) ∧ ((0 : Int) = (0 : Int)) ∧ ((0 : Int) = (0 : Int)) ∧ (S7.r0 s = S7.r0 s) ∧ (Wd.maskV (Pg.W p) (List.getD l k (0 : Int)) = Wd.maskV (Pg.W p) (List.getD l k (0 : Int))) ∧ (S7.r2 s = S7.r2 s) ∧ (S7.r3 s = S7.r3 s) ∧ (frS8n2 p l s ((frS8n1 p ((frS8n0 p pl (((↑k : Int) + (1 : Int) = (↑(k + (1 : Nat)) : Int)) ∧ True))))))) (by kernel_rfl)
    ⟨(decide_eq_true (by first | omega | (simp; omega) | (simp; done))),
 (by first | omega | rfl),
 rfl,
 rfl,
 rmaskC p.W (l.getD k 0),
 (by first | omega | rfl),
 hr,
 (by first | omega | rfl),
 (congrArg Int.ofNat hn),
 (in64 (by omega) (by omega)),
 rfl,
 rfl,
 rfl,
 rfl,
 rfl,
 rfl,
 rfl,
 rfl,
 rfl, (frS8n2_mk p l s (frS8n1_mk p (frS8n0_mk p pl ⟨(by first | omega | rfl), trivial⟩)))⟩
theorem rs_reg2 (p : Pg) (pl : List Pl) (l : List Int) (s : S7) (k : Nat) (hk : k < pl.length) (hl : l.length = pl.length) (hp : pl.length < 1000000) (hr : (pl.getD k default).reg = true) (hn : (pl.getD k default).n = 2) : Vc (vcC Try.prog false (ntOf Try.prog 29) (lpC Try.prog 29 0) (rsS p pl l s k) [.b true, .cl [.int .i64 p.W, .int .i64 (l.getD k 0)] (.int .i64 (Wd.maskV p.W (l.getD k 0))) [], .b true, .ix 2] .nrm [(0, 0), (1, 1), (2, 2)] (rsS p pl l { s with r2 := Wd.maskV p.W (l.getD k 0) } (k + 1))) :=
  vc_of (q := (decide ((↑k : Int) < (↑(List.length pl) : Int)) = true) ∧ ((0 : Int) ≤ (↑k : Int) ∧ (↑k : Int) < (↑(List.length l) : Int)) ∧ (Pg.W p = Pg.W p) ∧ (List.getD l k (0 : Int) = List.getD l k (0 : Int)) ∧ (PureC Try.prog 41 [.int .i64 p.W, .int .i64 (l.getD k 0)] (.int .i64 (Wd.maskV p.W (l.getD k 0))) []) ∧ ((0 : Int) ≤ (↑k : Int) ∧ (↑k : Int) < (↑(List.length pl) : Int)) ∧ (Pl.reg (List.getD pl k Inhabited.default) = true) ∧ ((0 : Int) ≤ (↑k : Int) ∧ (↑k : Int) < (↑(List.length pl) : Int)) ∧ ((↑(Pl.n (List.getD pl k Inhabited.default)) : Int) = (↑(2 : Nat) : Int)) ∧ (inK IntKind.i64 ((↑k : Int) + (1 : Int))) ∧ ((0 : Int) = (0 : Int)) ∧ ((0 : Int) = (0 : Int)) ∧ ((0 : Int) = (0 : Int)) ∧ ((0 : Int) = (0 : Int)) ∧ ((0 : Int) = (0 : Int)) ∧ (S7.r0 s = S7.r0 s) ∧ (S7.r1 s = S7.r1 s) ∧ (Wd.maskV (Pg.W p) (List.getD l k (0 : Int)) = Wd.maskV (Pg.W p) (List.getD l k (0 : Int))) ∧ (S7.r3 s = S7.r3 s) ∧ (frS8n2 p l s ((frS8n1 p ((frS8n0 p pl (((↑k : Int) + (1 : Int) = (↑(k + (1 : Nat)) : Int)) ∧ True))))))) (by kernel_rfl)
    ⟨(decide_eq_true (by first | omega | (simp; omega) | (simp; done))),
 (by first | omega | rfl),
 rfl,
 rfl,
 rmaskC p.W (l.getD k 0),
 (by first | omega | rfl),
 hr,
 (by first | omega | rfl),
 (congrArg Int.ofNat hn),
 (in64 (by omega) (by omega)),
 rfl,
 rfl,
 rfl,
 rfl,
 rfl,
 rfl,
 rfl,
 rfl,
 rfl, (frS8n2_mk p l s (frS8n1_mk p (frS8n0_mk p pl ⟨(by first | omega | rfl), trivial⟩)))⟩
theorem rs_reg3 (p : Pg) (pl : List Pl) (l : List Int) (s : S7) (k : Nat) (hk : k < pl.length) (hl : l.length = pl.length) (hp : pl.length < 1000000) (hr : (pl.getD k default).reg = true) (hn : (pl.getD k default).n = 3) : Vc (vcC Try.prog false (ntOf Try.prog 29) (lpC Try.prog 29 0) (rsS p pl l s k) [.b true, .cl [.int .i64 p.W, .int .i64 (l.getD k 0)] (.int .i64 (Wd.maskV p.W (l.getD k 0))) [], .b true, .ix 3] .nrm [(0, 0), (1, 1), (2, 2)] (rsS p pl l { s with r3 := Wd.maskV p.W (l.getD k 0) } (k + 1))) :=
  vc_of (q := (decide ((↑k : Int) < (↑(List.length pl) : Int)) = true) ∧ ((0 : Int) ≤ (↑k : Int) ∧ (↑k : Int) < (↑(List.length l) : Int)) ∧ (Pg.W p = Pg.W p) ∧ (List.getD l k (0 : Int) = List.getD l k (0 : Int)) ∧ (PureC Try.prog 41 [.int .i64 p.W, .int .i64 (l.getD k 0)] (.int .i64 (Wd.maskV p.W (l.getD k 0))) []) ∧ ((0 : Int) ≤ (↑k : Int) ∧ (↑k : Int) < (↑(List.length pl) : Int)) ∧ (Pl.reg (List.getD pl k Inhabited.default) = true) ∧ ((0 : Int) ≤ (↑k : Int) ∧ (↑k : Int) < (↑(List.length pl) : Int)) ∧ ((↑(Pl.n (List.getD pl k Inhabited.default)) : Int) = (↑(3 : Nat) : Int)) ∧ (inK IntKind.i64 ((↑k : Int) + (1 : Int))) ∧ ((0 : Int) = (0 : Int)) ∧ ((0 : Int) = (0 : Int)) ∧ ((0 : Int) = (0 : Int)) ∧ ((0 : Int) = (0 : Int)) ∧ ((0 : Int) = (0 : Int)) ∧ (S7.r0 s = S7.r0 s) ∧ (S7.r1 s = S7.r1 s) ∧ (S7.r2 s = S7.r2 s) ∧ (Wd.maskV (Pg.W p) (List.getD l k (0 : Int)) = Wd.maskV (Pg.W p) (List.getD l k (0 : Int))) ∧ (frS8n2 p l s ((frS8n1 p ((frS8n0 p pl (((↑k : Int) + (1 : Int) = (↑(k + (1 : Nat)) : Int)) ∧ True))))))) (by kernel_rfl)
    ⟨(decide_eq_true (by first | omega | (simp; omega) | (simp; done))),
 (by first | omega | rfl),
 rfl,
 rfl,
 rmaskC p.W (l.getD k 0),
 (by first | omega | rfl),
 hr,
 (by first | omega | rfl),
 (congrArg Int.ofNat hn),
 (in64 (by omega) (by omega)),
 rfl,
 rfl,
 rfl,
 rfl,
 rfl,
 rfl,
 rfl,
 rfl,
 rfl, (frS8n2_mk p l s (frS8n1_mk p (frS8n0_mk p pl ⟨(by first | omega | rfl), trivial⟩)))⟩
def frS8n3 (p : Pg) (l : List Int) (Z : Prop) : Prop := (List.length l = List.length l) ∧ (∀ (i : Nat), i < List.length l → ∀ (j : Nat), j < (1 : Nat) → AV.int IntKind.i64 (List.getD l i (0 : Int)) = AV.int IntKind.i64 (List.getD l i (0 : Int))) ∧ (Pg.W p = Pg.W p) ∧ (Pg.win p = Pg.win p) ∧ (Pg.fuel p = Pg.fuel p) ∧ (Pg.r0 p = Pg.r0 p) ∧ (Pg.r1 p = Pg.r1 p) ∧ (Pg.r2 p = Pg.r2 p) ∧ (Pg.r3 p = Pg.r3 p) ∧ Z
theorem frS8n3_mk (p : Pg) (l : List Int) {Z : Prop} (z : Z) : frS8n3 p l Z := ⟨rfl, (fun _ _ _ _ => rfl), rfl, rfl, rfl, rfl, rfl, rfl, rfl, z⟩
def frS8n4 (s : S7) (Z : Prop) : Prop := ((0 : Int) = (0 : Int)) ∧ ((0 : Int) = (0 : Int)) ∧ ((0 : Int) = (0 : Int)) ∧ ((0 : Int) = (0 : Int)) ∧ ((0 : Int) = (0 : Int)) ∧ (S7.r0 s = S7.r0 s) ∧ (S7.r1 s = S7.r1 s) ∧ (S7.r2 s = S7.r2 s) ∧ (S7.r3 s = S7.r3 s) ∧ Z
theorem frS8n4_mk (s : S7) {Z : Prop} (z : Z) : frS8n4 s Z := ⟨rfl, rfl, rfl, rfl, rfl, rfl, rfl, rfl, rfl, z⟩
theorem rs_mem (p : Pg) (pl : List Pl) (l : List Int) (s : S7) (k : Nat) (hk : k < pl.length) (hl : l.length = pl.length) (hp : pl.length < 1000000) (hr : (pl.getD k default).reg = false) (hn : (pl.getD k default).n < s.m.length) : Vc (vcC Try.prog false (ntOf Try.prog 29) (lpC Try.prog 29 0) (rsS p pl l s k) [.b true, .cl [.int .i64 p.W, .int .i64 (l.getD k 0)] (.int .i64 (Wd.maskV p.W (l.getD k 0))) [], .b false] .nrm [(0, 0), (1, 1), (2, 2)] (rsS p pl l { s with m := s.m.set (pl.getD k default).n (Wd.maskV p.W (l.getD k 0)) } (k + 1))) :=
  vc_of (q := (decide ((↑k : Int) < (↑(List.length pl) : Int)) = true) ∧ ((0 : Int) ≤ (↑k : Int) ∧ (↑k : Int) < (↑(List.length l) : Int)) ∧ (Pg.W p = Pg.W p) ∧ (List.getD l k (0 : Int) = List.getD l k (0 : Int)) ∧ (PureC Try.prog 41 [.int .i64 p.W, .int .i64 (l.getD k 0)] (.int .i64 (Wd.maskV p.W (l.getD k 0))) []) ∧ ((0 : Int) ≤ (↑k : Int) ∧ (↑k : Int) < (↑(List.length pl) : Int)) ∧ (Pl.reg (List.getD pl k Inhabited.default) = false) ∧ ((0 : Int) ≤ (↑k : Int) ∧ (↑k : Int) < (↑(List.length pl) : Int)) ∧ ((0 : Int) ≤ (↑(Pl.n (List.getD pl k Inhabited.default)) : Int) ∧ (↑(Pl.n (List.getD pl k Inhabited.default)) : Int) < (↑(List.length (S7.m s)) : Int)) ∧ (Pl.n (List.getD pl k Inhabited.default) + (0 : Nat) < List.length (S7.m s)) ∧ (inK IntKind.i64 ((↑k : Int) + (1 : Int))) ∧ (frS8n4 s (((0 : Nat) = (0 : Nat)) ∧ (List.length (S7.m s) = List.length (List.set (S7.m s) (Pl.n (List.getD pl k Inhabited.default)) (Wd.maskV (Pg.W p) (List.getD l k (0 : Int))))) ∧ ((0 : Int) = (0 : Int)) ∧ (List.length (S7.m s) = List.length (List.set (S7.m s) (Pl.n (List.getD pl k Inhabited.default)) (Wd.maskV (Pg.W p) (List.getD l k (0 : Int))))) ∧ (∀ (i : Nat), i < List.length (S7.m s) → ∀ (j : Nat), j < (1 : Nat) → (bif Nat.beq i (Pl.n (List.getD pl k Inhabited.default) + (0 : Nat)) && Nat.ble (0 : Nat) j && Nat.blt j (1 : Nat) then List.getD [AV.int IntKind.i64 (Wd.maskV (Pg.W p) (List.getD l k (0 : Int)))] (j - (0 : Nat)) AV.junk else AV.int IntKind.i64 (List.getD (S7.m s) i (0 : Int))) = AV.int IntKind.i64 (List.getD (List.set (S7.m s) (Pl.n (List.getD pl k Inhabited.default)) (Wd.maskV (Pg.W p) (List.getD l k (0 : Int)))) i (0 : Int))) ∧ (frS8n3 p l ((List.length (Pg.ms p) = List.length (Pg.ms p)) ∧ (∀ (i : Nat), i < List.length (Pg.ms p) → ∀ (j : Nat), j < (3 : Nat) → rowL mmC (Pg.ms p) i j = rowL mmC (Pg.ms p) i j) ∧ (List.length (Pg.ls p) = List.length (Pg.ls p)) ∧ (∀ (i : Nat), i < List.length (Pg.ls p) → ∀ (j : Nat), j < (2 : Nat) → rowL lbC (Pg.ls p) i j = rowL lbC (Pg.ls p) i j) ∧ (List.length (Pg.is p) = List.length (Pg.is p)) ∧ (∀ (i : Nat), i < List.length (Pg.is p) → ∀ (j : Nat), j < (9 : Nat) → rowL inC (Pg.is p) i j = rowL inC (Pg.is p) i j) ∧ (false = false) ∧ (List.length pl = List.length pl) ∧ (∀ (i : Nat), i < List.length pl → ∀ (j : Nat), j < (3 : Nat) → rowL plC pl i j = rowL plC pl i j) ∧ ((↑k : Int) + (1 : Int) = (↑(k + (1 : Nat)) : Int)) ∧ True))))) (by kernel_rfl)
    ⟨(decide_eq_true (by first | omega | (simp; omega) | (simp; done))),
 (by first | omega | rfl),
 rfl,
 rfl,
 rmaskC p.W (l.getD k 0),
 (by first | omega | rfl),
 hr,
 (by first | omega | rfl),
 ⟨Int.natCast_nonneg _, Int.ofNat_lt.2 hn⟩,
 hn,
 (in64 (by omega) (by omega)), (frS8n4_mk s ⟨rfl,
 List.length_set.symm,
 rfl,
 List.length_set.symm,
 set_row, (frS8n3_mk p l ⟨rfl,
 (fun _ _ _ _ => rfl),
 rfl,
 (fun _ _ _ _ => rfl),
 rfl,
 (fun _ _ _ _ => rfl),
 rfl,
 rfl,
 (fun _ _ _ _ => rfl),
 (by first | omega | rfl), trivial⟩)⟩)⟩
theorem rs_end (p : Pg) (pl : List Pl) (l : List Int) (s : S7) : Vc (vcC Try.prog false (ntOf Try.prog 29) (lpC Try.prog 29 0) (rsS p pl l s pl.length) [.b false] (.ext 0) [(0, 0), (1, 1), (2, 2)] (rsS p pl l s pl.length)) :=
  vc_of (q := (decide ((↑(List.length pl) : Int) < (↑(List.length pl) : Int)) = false) ∧ (frS8n4 s ((frS8n2 p l s ((frS8n1 p ((List.length (Pg.is p) = List.length (Pg.is p)) ∧ (∀ (i : Nat), i < List.length (Pg.is p) → ∀ (j : Nat), j < (9 : Nat) → rowL inC (Pg.is p) i j = rowL inC (Pg.is p) i j) ∧ (false = false) ∧ (List.length pl = List.length pl) ∧ (∀ (i : Nat), i < List.length pl → ∀ (j : Nat), j < (3 : Nat) → rowL plC pl i j = rowL plC pl i j) ∧ ((↑(List.length pl) : Int) = (↑(List.length pl) : Int)) ∧ True))))))) (by kernel_rfl)
    ⟨(decide_eq_false (by first | omega | (simp; omega) | (simp; done))), (frS8n4_mk s (frS8n2_mk p l s (frS8n1_mk p ⟨rfl,
 (fun _ _ _ _ => rfl),
 rfl,
 rfl,
 (fun _ _ _ _ => rfl),
 rfl, trivial⟩)))⟩
theorem rs_loop (p : Pg) (pl : List Pl) (l : List Int) (s : S7) (hl : l.length = pl.length) (hp : pl.length < 1000000) (ho : ∀ x ∈ pl, plOk s.m.length x) : Ok Try.prog (ntOf Try.prog 29) (.loop (lpC Try.prog 29 0)) (rsS p pl l s 0).st (.ext 0) (rsS p pl l (putK p.W pl l s pl.length) pl.length).st :=
  Ok.loop (P := Try.prog) (nt := ntOf Try.prog 29) (c := lpC Try.prog 29 0) (F := fun k => rsS p pl l (putK p.W pl l s k) k) (m := pl.length) (x := .ext 0) (J := rsS p pl l (putK p.W pl l s pl.length) pl.length) (fun k hk => by
    have hm := putK_len p.W pl l s k
    obtain ⟨h1, h2⟩ := ho _ (getD_mem hk)
    show Ok _ _ _ _ _ (rsS p pl l (put7 (putK p.W pl l s k) (pl.getD k default) (Wd.maskV p.W (l.getD k 0))) (k + 1)).st
    cases hr : (pl.getD k default).reg with
    | true =>
      have hn := h1 hr
      unfold put7
      rw [if_pos hr]
      match hq : (pl.getD k default).n, hn with
      | 0, _ => exact Ok.vc (rs_reg0 p pl l _ k hk hl hp hr hq)
      | 1, _ => exact Ok.vc (rs_reg1 p pl l _ k hk hl hp hr hq)
      | 2, _ => exact Ok.vc (rs_reg2 p pl l _ k hk hl hp hr hq)
      | 3, _ => exact Ok.vc (rs_reg3 p pl l _ k hk hl hp hr hq)
    | false =>
      have hn := h2 hr
      unfold put7
      rw [if_neg (by rw [hr]; simp)]
      exact Ok.vc (rs_mem p pl l _ k hk hl hp hr (by rw [hm]; exact hn))) (Ok.vc (rs_end p pl l _)) (by simp)
/-- the state at the beginning, with l in the places -/
def stK (p : Pg) (l : List Int) : S7 := putK p.W (plF p) l (zer7 (sumN p.ms)) (plF p).length
theorem stK_len (p : Pg) (l : List Int) : (stK p l).m.length = sumN p.ms := by simp [stK, putK_len, zer7]
theorem plF_len {p : Pg} (h : OkP p) : (plF p).length ≤ 20 := by
  have := places_length (rg p.r0 p.r1 p.r2 p.r3) p.ms
  have := h.sum
  unfold plF
  omega
theorem plF_ok (p : Pg) : ∀ x ∈ plF p, plOk (sumN p.ms) x := places_ok _ _
def frS8n5  (Z : Prop) : Prop := ((0 : Int) = (0 : Int)) ∧ ((0 : Int) = (0 : Int)) ∧ ((0 : Int) = (0 : Int)) ∧ ((0 : Int) = (0 : Int)) ∧ ((0 : Int) = (0 : Int)) ∧ ((0 : Int) = (0 : Int)) ∧ ((0 : Int) = (0 : Int)) ∧ ((0 : Int) = (0 : Int)) ∧ ((0 : Int) = (0 : Int)) ∧ Z
theorem frS8n5_mk  {Z : Prop} (z : Z) : frS8n5  Z := ⟨rfl, rfl, rfl, rfl, rfl, rfl, rfl, rfl, rfl, z⟩
def frS8n6 (p : Pg) (Z : Prop) : Prop := (Pg.W p = Pg.W p) ∧ (Pg.r0 p = Pg.r0 p) ∧ (Pg.r1 p = Pg.r1 p) ∧ (Pg.r2 p = Pg.r2 p) ∧ (Pg.r3 p = Pg.r3 p) ∧ (List.length (Pg.ms p) = List.length (Pg.ms p)) ∧ (∀ (i : Nat), i < List.length (Pg.ms p) → ∀ (j : Nat), j < (3 : Nat) → rowL mmC (Pg.ms p) i j = rowL mmC (Pg.ms p) i j) ∧ Z
theorem frS8n6_mk (p : Pg) {Z : Prop} (z : Z) : frS8n6 p Z := ⟨rfl, rfl, rfl, rfl, rfl, rfl, (fun _ _ _ _ => rfl), z⟩
theorem rst_vc (p : Pg) (l : List Int) (hP : OkP p) (hl : l.length = (plF p).length) : Vc (vcFn Try.prog false 29 [.agg (pgA p), lR l] [.fz, .cl [.agg (progL p.W p.r0 p.r1 p.r2 p.r3 (memR p.ms))] (plR (plF p)) [], .b false, .cl [.agg (progL p.W p.r0 p.r1 p.r2 p.r3 (memR p.ms))] (.int .i64 (sumN p.ms)) [], .lp [(0, 1), (1, 3), (2, 2)] (rsS p (plF p) l (zer7 (sumN p.ms)) 0) (.ext 0) (rsS p (plF p) l (stK p l) (plF p).length)] [(0, 2)] (.tup [.agg (stC (stK p l) (.own 0 0 1 0 (stK p l).m.length)), .bool true]) [blkI (stK p l).m]) :=
  vc_of (q := (frS8n6 p ((PureC Try.prog 11 [.agg (progL p.W p.r0 p.r1 p.r2 p.r3 (memR p.ms))] (plR (plF p)) []) ∧ (((↑(List.length l) : Int) != (↑(List.length (plF p)) : Int)) = false) ∧ (frS8n6 p ((PureC Try.prog 46 [.agg (progL p.W p.r0 p.r1 p.r2 p.r3 (memR p.ms))] (.int .i64 (sumN p.ms)) []) ∧ ((0 : Int) ≤ (↑(sumN (Pg.ms p)) : Int) ∧ (↑(sumN (Pg.ms p)) : Int) ≤ (↑(sumN (Pg.ms p)) : Int) ∧ (↑(sumN (Pg.ms p)) : Int) * (↑(8 : Nat) : Int) ≤ (140737488355328 : Int) ∧ (↑(sumN (Pg.ms p)) : Int) ≤ (140737488355328 : Int)) ∧ (frS8n5  (((0 : Nat) = (0 : Nat)) ∧ (sumN (Pg.ms p) = List.length (List.replicate (sumN (Pg.ms p)) (0 : Int))) ∧ ((0 : Int) = (0 : Int)) ∧ (sumN (Pg.ms p) = List.length (List.replicate (sumN (Pg.ms p)) (0 : Int))) ∧ (∀ (i : Nat), i < sumN (Pg.ms p) → ∀ (j : Nat), j < (1 : Nat) → List.getD [AV.int IntKind.i64 (0 : Int)] j AV.junk = AV.int IntKind.i64 (List.getD (List.replicate (sumN (Pg.ms p)) (0 : Int)) i (0 : Int))) ∧ (frS8n3 p l ((List.length (Pg.ms p) = List.length (Pg.ms p)) ∧ (∀ (i : Nat), i < List.length (Pg.ms p) → ∀ (j : Nat), j < (3 : Nat) → rowL mmC (Pg.ms p) i j = rowL mmC (Pg.ms p) i j) ∧ (List.length (Pg.ls p) = List.length (Pg.ls p)) ∧ (∀ (i : Nat), i < List.length (Pg.ls p) → ∀ (j : Nat), j < (2 : Nat) → rowL lbC (Pg.ls p) i j = rowL lbC (Pg.ls p) i j) ∧ (List.length (Pg.is p) = List.length (Pg.is p)) ∧ (∀ (i : Nat), i < List.length (Pg.is p) → ∀ (j : Nat), j < (9 : Nat) → rowL inC (Pg.is p) i j = rowL inC (Pg.is p) i j) ∧ (false = false) ∧ (List.length (plF p) = List.length (plF p)) ∧ (∀ (i : Nat), i < List.length (plF p) → ∀ (j : Nat), j < (3 : Nat) → rowL plC (plF p) i j = rowL plC (plF p) i j) ∧ ((0 : Int) = (↑(0 : Nat) : Int)) ∧ (Ok Try.prog (ntOf Try.prog 29) (.loop (lpC Try.prog 29 0)) (rsS p (plF p) l (zer7 (sumN p.ms)) 0).st (.ext 0) (rsS p (plF p) l (stK p l) (plF p).length).st) ∧ (List.length (S7.m (stK p l)) = List.length (S7.m (stK p l))) ∧ (∀ (i : Nat), i < List.length (S7.m (stK p l)) → ∀ (j : Nat), j < (1 : Nat) → AV.int IntKind.i64 (List.getD (S7.m (stK p l)) i (0 : Int)) = AV.int IntKind.i64 (List.getD (S7.m (stK p l)) i (0 : Int))) ∧ (S7.r0 (stK p l) = S7.r0 (stK p l)) ∧ (S7.r1 (stK p l) = S7.r1 (stK p l)) ∧ (S7.r2 (stK p l) = S7.r2 (stK p l)) ∧ (S7.r3 (stK p l) = S7.r3 (stK p l)) ∧ ((0 : Nat) = (0 : Nat)) ∧ (List.length (S7.m (stK p l)) = List.length (S7.m (stK p l))) ∧ ((0 : Int) = (0 : Int)) ∧ (true = true) ∧ True))))))))) (by kernel_rfl)
    (frS8n6_mk p ⟨(refPlaces p.W p.r0 p.r1 p.r2 p.r3 p.ms (by have := hP.ms; omega) (by have := hP.sum; omega)).frozen,
 (by rw [hl]; simp), (frS8n6_mk p ⟨refCells p.W p.r0 p.r1 p.r2 p.r3 p.ms (by have := hP.ms; omega) (by have := hP.sum; omega),
 (by have := hP.sum; omega), (frS8n5_mk  ⟨rfl,
 (by simp [zer7, stK_len]),
 rfl,
 (by simp [zer7, stK_len]),
 (fun i hi j hj => (match j, hj with | 0, _ => rowI_rep rfl i 0 (by simpa using hi))), (frS8n3_mk p l ⟨rfl,
 (fun _ _ _ _ => rfl),
 rfl,
 (fun _ _ _ _ => rfl),
 rfl,
 (fun _ _ _ _ => rfl),
 rfl,
 rfl,
 (fun _ _ _ _ => rfl),
 (by first | omega | rfl),
 rs_loop p (plF p) l _ hl (by have := plF_len hP; omega) (by simpa [zer7] using plF_ok p),
 (by simp [zer7, stK_len]),
 (fun _ _ _ _ => rfl),
 rfl,
 rfl,
 rfl,
 rfl,
 rfl,
 (by simp [zer7, stK_len]),
 rfl,
 rfl, trivial⟩)⟩)⟩)⟩)
theorem rstartC (p : Pg) (l : List Int) (hP : OkP p) (hl : l.length = (plF p).length) : PureC Try.prog 29 [.agg (pgA p), lR l] (.tup [.agg (stC (stK p l) (.own 0 0 1 0 (stK p l).m.length)), .bool true]) [blkI (stK p l).m] := PureC.vc (rst_vc p l hP hl)
def xSt (pl : List Pl) (l : List Int) (how : Int) : Nat → List Int
  | 0 => List.replicate pl.length 0
  | k + 1 => if k < l.length then (xSt pl l how k).set k (l.getD k 0) else xSt pl l how k
def ySt (pl : List Pl) (l : List Int) (how : Int) : Nat → List Int
  | 0 => List.replicate pl.length 0
  | k + 1 => if k < l.length then (if (pl.getD k default).sec = true ∨ bits .and .i64 how 7 = 0 then ((ySt pl l how k).set k (l.getD k 0)).set k (Int.fdiv (l.getD k 0) (2 ^ 4)) else (ySt pl l how k).set k (l.getD k 0)) else ySt pl l how k
def ssS (p : Pg) (pl : List Pl) (l X Y : List Int) (how : Int) (k : Nat) : Sm := ⟨[(1, lR l), (2, .int .i64 how), (3, pgP p), (6, .bptr 0 0), (7, .bptr 1 0), (8, plR pl), (9, .own 2 0 1 0 X.length), (10, .own 3 0 1 0 Y.length), (25, .int .i64 pl.length), (26, .int .i64 k)],
  [(0, bx 31 (stZ .nils)), (1, bx 31 (stZ .nils)), (2, blkI X), (3, blkI Y)], 4⟩
theorem set_row2 {m : List Int} {n : Nat} {u v : Int} : ∀ i, i < m.length → ∀ j, j < 1 → (bif Nat.beq i (n + 0) && Nat.ble 0 j && Nat.blt j 1 then [AV.int .i64 v].getD (j - 0) .junk else (bif Nat.beq i (n + 0) && Nat.ble 0 j && Nat.blt j 1 then [AV.int .i64 u].getD (j - 0) .junk else AV.int .i64 (m.getD i 0))) = .int .i64 (((m.set n u).set n v).getD i 0) := by
  intro i hi j hj
  obtain rfl : j = 0 := by omega
  rw [List.set_set, set_row (m := m) (n := n) (v := u) i hi 0 (by omega)]
  have := set_row (m := m) (n := n) (v := v) i hi 0 (by omega)
  rw [← this]
  cases hb : Nat.beq i (n + 0) with
  | true => rfl
  | false =>
    have hne : ¬ i = n := fun e => by subst e; simp at hb
    show AV.int .i64 ((m.set n u).getD i 0) = AV.int .i64 (m.getD i 0)
    simp [List.getD, List.getElem?_set, Ne.symm hne]
def frS8n7 (p : Pg) (pl : List Pl) (Z : Prop) : Prop := (Pg.r3 p = Pg.r3 p) ∧ (List.length (Pg.ms p) = List.length (Pg.ms p)) ∧ (∀ (i : Nat), i < List.length (Pg.ms p) → ∀ (j : Nat), j < (3 : Nat) → rowL mmC (Pg.ms p) i j = rowL mmC (Pg.ms p) i j) ∧ (List.length (Pg.ls p) = List.length (Pg.ls p)) ∧ (∀ (i : Nat), i < List.length (Pg.ls p) → ∀ (j : Nat), j < (2 : Nat) → rowL lbC (Pg.ls p) i j = rowL lbC (Pg.ls p) i j) ∧ (List.length (Pg.is p) = List.length (Pg.is p)) ∧ (∀ (i : Nat), i < List.length (Pg.is p) → ∀ (j : Nat), j < (9 : Nat) → rowL inC (Pg.is p) i j = rowL inC (Pg.is p) i j) ∧ (List.length pl = List.length pl) ∧ (∀ (i : Nat), i < List.length pl → ∀ (j : Nat), j < (3 : Nat) → rowL plC pl i j = rowL plC pl i j) ∧ Z
theorem frS8n7_mk (p : Pg) (pl : List Pl) {Z : Prop} (z : Z) : frS8n7 p pl Z := ⟨rfl, rfl, (fun _ _ _ _ => rfl), rfl, (fun _ _ _ _ => rfl), rfl, (fun _ _ _ _ => rfl), rfl, (fun _ _ _ _ => rfl), z⟩
def frS8n8 (p : Pg) (l : List Int) (how : Int) (Z : Prop) : Prop := (List.length l = List.length l) ∧ (∀ (i : Nat), i < List.length l → ∀ (j : Nat), j < (1 : Nat) → AV.int IntKind.i64 (List.getD l i (0 : Int)) = AV.int IntKind.i64 (List.getD l i (0 : Int))) ∧ (how = how) ∧ (Pg.W p = Pg.W p) ∧ (Pg.win p = Pg.win p) ∧ (Pg.fuel p = Pg.fuel p) ∧ (Pg.r0 p = Pg.r0 p) ∧ (Pg.r1 p = Pg.r1 p) ∧ (Pg.r2 p = Pg.r2 p) ∧ Z
theorem frS8n8_mk (p : Pg) (l : List Int) (how : Int) {Z : Prop} (z : Z) : frS8n8 p l how Z := ⟨rfl, (fun _ _ _ _ => rfl), rfl, rfl, rfl, rfl, rfl, rfl, rfl, z⟩
theorem ss_out (p : Pg) (pl : List Pl) (l X Y : List Int) (how : Int) (k : Nat) (hk : k < pl.length) (hX : X.length = pl.length) (hY : Y.length = pl.length) (hp : pl.length < 1000) (hl : ¬ k < l.length) : Vc (vcC Try.prog false (ntOf Try.prog 10) (lpC Try.prog 10 0) (ssS p pl l X Y how k) [.b true, .b false] .nrm [(0, 0), (1, 1), (2, 2), (3, 3)] (ssS p pl l X Y how (k + 1))) :=
  vc_of (q := (decide ((↑k : Int) < (↑(List.length pl) : Int)) = true) ∧ (decide ((↑k : Int) < (↑(List.length l) : Int)) = false) ∧ (inK IntKind.i64 ((↑k : Int) + (1 : Int))) ∧ (frS8n5  (((0 : Int) = (0 : Int)) ∧ (List.length X = List.length X) ∧ (∀ (i : Nat), i < List.length X → ∀ (j : Nat), j < (1 : Nat) → AV.int IntKind.i64 (List.getD X i (0 : Int)) = AV.int IntKind.i64 (List.getD X i (0 : Int))) ∧ (List.length Y = List.length Y) ∧ (∀ (i : Nat), i < List.length Y → ∀ (j : Nat), j < (1 : Nat) → AV.int IntKind.i64 (List.getD Y i (0 : Int)) = AV.int IntKind.i64 (List.getD Y i (0 : Int))) ∧ (frS8n8 p l how ((frS8n7 p pl (((0 : Nat) = (0 : Nat)) ∧ (List.length X = List.length X) ∧ ((0 : Nat) = (0 : Nat)) ∧ (List.length Y = List.length Y) ∧ ((↑(List.length pl) : Int) = (↑(List.length pl) : Int)) ∧ ((↑k : Int) + (1 : Int) = (↑(k + (1 : Nat)) : Int)) ∧ True))))))) (by kernel_rfl)
    ⟨(decide_eq_true (by first | omega | (simp; omega) | (simp; done))),
 (decide_eq_false (by first | omega | (simp; omega) | (simp; done))),
 (in64 (by omega) (by omega)), (frS8n5_mk  ⟨rfl,
 rfl,
 (fun _ _ _ _ => rfl),
 rfl,
 (fun _ _ _ _ => rfl), (frS8n8_mk p l how (frS8n7_mk p pl ⟨rfl,
 rfl,
 rfl,
 rfl,
 rfl,
 (by first | omega | rfl), trivial⟩))⟩)⟩
theorem ss_sec (p : Pg) (pl : List Pl) (l X Y : List Int) (how : Int) (k : Nat) (hk : k < pl.length) (hX : X.length = pl.length) (hY : Y.length = pl.length) (hp : pl.length < 1000) (hl : k < l.length) (hs : (pl.getD k default).sec = true) : Vc (vcC Try.prog false (ntOf Try.prog 10) (lpC Try.prog 10 0) (ssS p pl l X Y how k) [.b true, .b true, .b true, .b true, .b true, .b true, .b true] .nrm [(0, 0), (1, 1), (2, 2), (3, 3)] (ssS p pl l (X.set k (l.getD k 0)) ((Y.set k (l.getD k 0)).set k (Int.fdiv (l.getD k 0) (2 ^ 4))) how (k + 1))) :=
  vc_of (q := (decide ((↑k : Int) < (↑(List.length pl) : Int)) = true) ∧ (decide ((↑k : Int) < (↑(List.length l) : Int)) = true) ∧ ((0 : Int) ≤ (↑k : Int) ∧ (↑k : Int) < (↑(List.length l) : Int)) ∧ ((0 : Int) ≤ (↑k : Int) ∧ (↑k : Int) < (↑(List.length l) : Int)) ∧ ((0 : Int) ≤ (↑k : Int) ∧ (↑k : Int) < (↑(List.length X) : Int)) ∧ (k + (0 : Nat) < List.length X) ∧ ((0 : Int) ≤ (↑k : Int) ∧ (↑k : Int) < (↑(List.length Y) : Int)) ∧ (k + (0 : Nat) < List.length Y) ∧ ((0 : Int) ≤ (↑k : Int) ∧ (↑k : Int) < (↑(List.length pl) : Int)) ∧ (Pl.sec (List.getD pl k Inhabited.default) = true) ∧ (Pl.sec (List.getD pl k Inhabited.default) = true) ∧ (Pl.sec (List.getD pl k Inhabited.default) = true) ∧ (Pl.sec (List.getD pl k Inhabited.default) = true) ∧ (true = true) ∧ ((0 : Int) ≤ (↑k : Int) ∧ (↑k : Int) < (↑(List.length l) : Int)) ∧ ((0 : Int) ≤ (4 : Int)) ∧ ((0 : Int) ≤ (↑k : Int) ∧ (↑k : Int) < (↑(List.length Y) : Int)) ∧ (k + (0 : Nat) < List.length Y) ∧ (inK IntKind.i64 ((↑k : Int) + (1 : Int))) ∧ (frS8n5  (((0 : Int) = (0 : Int)) ∧ (List.length X = List.length (List.set X k (List.getD l k (0 : Int)))) ∧ (∀ (i : Nat), i < List.length X → ∀ (j : Nat), j < (1 : Nat) → (bif Nat.beq i (k + (0 : Nat)) && Nat.ble (0 : Nat) j && Nat.blt j (1 : Nat) then List.getD [AV.int IntKind.i64 (List.getD l k (0 : Int))] (j - (0 : Nat)) AV.junk else AV.int IntKind.i64 (List.getD X i (0 : Int))) = AV.int IntKind.i64 (List.getD (List.set X k (List.getD l k (0 : Int))) i (0 : Int))) ∧ (List.length Y = List.length (List.set (List.set Y k (List.getD l k (0 : Int))) k (Int.fdiv (List.getD l k (0 : Int)) ((2 : Int) ^ (4 : Nat))))) ∧ (∀ (i : Nat), i < List.length Y → ∀ (j : Nat), j < (1 : Nat) → (bif Nat.beq i (k + (0 : Nat)) && Nat.ble (0 : Nat) j && Nat.blt j (1 : Nat) then List.getD [AV.int IntKind.i64 (Int.fdiv (List.getD l k (0 : Int)) ((2 : Int) ^ (4 : Nat)))] (j - (0 : Nat)) AV.junk else bif Nat.beq i (k + (0 : Nat)) && Nat.ble (0 : Nat) j && Nat.blt j (1 : Nat) then List.getD [AV.int IntKind.i64 (List.getD l k (0 : Int))] (j - (0 : Nat)) AV.junk else AV.int IntKind.i64 (List.getD Y i (0 : Int))) = AV.int IntKind.i64 (List.getD (List.set (List.set Y k (List.getD l k (0 : Int))) k (Int.fdiv (List.getD l k (0 : Int)) ((2 : Int) ^ (4 : Nat)))) i (0 : Int))) ∧ (frS8n8 p l how ((frS8n7 p pl (((0 : Nat) = (0 : Nat)) ∧ (List.length X = List.length (List.set X k (List.getD l k (0 : Int)))) ∧ ((0 : Nat) = (0 : Nat)) ∧ (List.length Y = List.length (List.set (List.set Y k (List.getD l k (0 : Int))) k (Int.fdiv (List.getD l k (0 : Int)) ((2 : Int) ^ (4 : Nat))))) ∧ ((↑(List.length pl) : Int) = (↑(List.length pl) : Int)) ∧ ((↑k : Int) + (1 : Int) = (↑(k + (1 : Nat)) : Int)) ∧ True))))))) (by kernel_rfl)
    ⟨(decide_eq_true (by first | omega | (simp; omega) | (simp; done))),
 (decide_eq_true (by first | omega | (simp; omega) | (simp; done))),
 (by first | omega | rfl),
 (by first | omega | rfl),
 (by first | omega | rfl),
 (by first | omega | rfl),
 (by first | omega | rfl),
 (by first | omega | rfl),
 (by first | omega | rfl),
 hs,
 hs,
 hs,
 hs,
 rfl,
 (by first | omega | rfl),
 (by first | omega | rfl),
 (by first | omega | rfl),
 (by first | omega | rfl),
 (in64 (by omega) (by omega)), (frS8n5_mk  ⟨rfl,
 (by simp),
 set_row,
 (by simp),
 set_row2, (frS8n8_mk p l how (frS8n7_mk p pl ⟨rfl,
 (by simp),
 rfl,
 (by simp),
 rfl,
 (by first | omega | rfl), trivial⟩))⟩)⟩
abbrev cS8n0 (pl : List Pl) (k : Nat) : Prop := (Pl.sec (List.getD pl k Inhabited.default) = false)
theorem ss_how (p : Pg) (pl : List Pl) (l X Y : List Int) (how : Int) (k : Nat) (hk : k < pl.length) (hX : X.length = pl.length) (hY : Y.length = pl.length) (hp : pl.length < 1000) (hl : k < l.length) (hs : (pl.getD k default).sec = false) (hh : bits .and .i64 how 7 = 0) : Vc (vcC Try.prog false (ntOf Try.prog 10) (lpC Try.prog 10 0) (ssS p pl l X Y how k) [.b true, .b true, .b false, .b false, .b false, .b false, .b true] .nrm [(0, 0), (1, 1), (2, 2), (3, 3)] (ssS p pl l (X.set k (l.getD k 0)) ((Y.set k (l.getD k 0)).set k (Int.fdiv (l.getD k 0) (2 ^ 4))) how (k + 1))) :=
  vc_of (q := (decide ((↑k : Int) < (↑(List.length pl) : Int)) = true) ∧ (decide ((↑k : Int) < (↑(List.length l) : Int)) = true) ∧ ((0 : Int) ≤ (↑k : Int) ∧ (↑k : Int) < (↑(List.length l) : Int)) ∧ ((0 : Int) ≤ (↑k : Int) ∧ (↑k : Int) < (↑(List.length l) : Int)) ∧ ((0 : Int) ≤ (↑k : Int) ∧ (↑k : Int) < (↑(List.length X) : Int)) ∧ (k + (0 : Nat) < List.length X) ∧ ((0 : Int) ≤ (↑k : Int) ∧ (↑k : Int) < (↑(List.length Y) : Int)) ∧ (k + (0 : Nat) < List.length Y) ∧ ((0 : Int) ≤ (↑k : Int) ∧ (↑k : Int) < (↑(List.length pl) : Int)) ∧ cS8n0 pl k ∧ cS8n0 pl k ∧ cS8n0 pl k ∧ cS8n0 pl k ∧ ((Go.bits Go.BinOp.and IntKind.i64 how (7 : Int) == (0 : Int)) = true) ∧ ((0 : Int) ≤ (↑k : Int) ∧ (↑k : Int) < (↑(List.length l) : Int)) ∧ ((0 : Int) ≤ (4 : Int)) ∧ ((0 : Int) ≤ (↑k : Int) ∧ (↑k : Int) < (↑(List.length Y) : Int)) ∧ (k + (0 : Nat) < List.length Y) ∧ (inK IntKind.i64 ((↑k : Int) + (1 : Int))) ∧ (frS8n5  (((0 : Int) = (0 : Int)) ∧ (List.length X = List.length (List.set X k (List.getD l k (0 : Int)))) ∧ (∀ (i : Nat), i < List.length X → ∀ (j : Nat), j < (1 : Nat) → (bif Nat.beq i (k + (0 : Nat)) && Nat.ble (0 : Nat) j && Nat.blt j (1 : Nat) then List.getD [AV.int IntKind.i64 (List.getD l k (0 : Int))] (j - (0 : Nat)) AV.junk else AV.int IntKind.i64 (List.getD X i (0 : Int))) = AV.int IntKind.i64 (List.getD (List.set X k (List.getD l k (0 : Int))) i (0 : Int))) ∧ (List.length Y = List.length (List.set (List.set Y k (List.getD l k (0 : Int))) k (Int.fdiv (List.getD l k (0 : Int)) ((2 : Int) ^ (4 : Nat))))) ∧ (∀ (i : Nat), i < List.length Y → ∀ (j : Nat), j < (1 : Nat) → (bif Nat.beq i (k + (0 : Nat)) && Nat.ble (0 : Nat) j && Nat.blt j (1 : Nat) then List.getD [AV.int IntKind.i64 (Int.fdiv (List.getD l k (0 : Int)) ((2 : Int) ^ (4 : Nat)))] (j - (0 : Nat)) AV.junk else bif Nat.beq i (k + (0 : Nat)) && Nat.ble (0 : Nat) j && Nat.blt j (1 : Nat) then List.getD [AV.int IntKind.i64 (List.getD l k (0 : Int))] (j - (0 : Nat)) AV.junk else AV.int IntKind.i64 (List.getD Y i (0 : Int))) = AV.int IntKind.i64 (List.getD (List.set (List.set Y k (List.getD l k (0 : Int))) k (Int.fdiv (List.getD l k (0 : Int)) ((2 : Int) ^ (4 : Nat)))) i (0 : Int))) ∧ (frS8n8 p l how ((frS8n7 p pl (((0 : Nat) = (0 : Nat)) ∧ (List.length X = List.length (List.set X k (List.getD l k (0 : Int)))) ∧ ((0 : Nat) = (0 : Nat)) ∧ (List.length Y = List.length (List.set (List.set Y k (List.getD l k (0 : Int))) k (Int.fdiv (List.getD l k (0 : Int)) ((2 : Int) ^ (4 : Nat))))) ∧ ((↑(List.length pl) : Int) = (↑(List.length pl) : Int)) ∧ ((↑k : Int) + (1 : Int) = (↑(k + (1 : Nat)) : Int)) ∧ True))))))) (by kernel_rfl)
    ⟨(decide_eq_true (by first | omega | (simp; omega) | (simp; done))),
 (decide_eq_true (by first | omega | (simp; omega) | (simp; done))),
 (by first | omega | rfl),
 (by first | omega | rfl),
 (by first | omega | rfl),
 (by first | omega | rfl),
 (by first | omega | rfl),
 (by first | omega | rfl),
 (by first | omega | rfl),
 hs,
 hs,
 hs,
 hs,
 (by rw [hh]; rfl),
 (by first | omega | rfl),
 (by first | omega | rfl),
 (by first | omega | rfl),
 (by first | omega | rfl),
 (in64 (by omega) (by omega)), (frS8n5_mk  ⟨rfl,
 (by simp),
 set_row,
 (by simp),
 set_row2, (frS8n8_mk p l how (frS8n7_mk p pl ⟨rfl,
 (by simp),
 rfl,
 (by simp),
 rfl,
 (by first | omega | rfl), trivial⟩))⟩)⟩
theorem ss_pub (p : Pg) (pl : List Pl) (l X Y : List Int) (how : Int) (k : Nat) (hk : k < pl.length) (hX : X.length = pl.length) (hY : Y.length = pl.length) (hp : pl.length < 1000) (hl : k < l.length) (hs : (pl.getD k default).sec = false) (hh : ¬ bits .and .i64 how 7 = 0) : Vc (vcC Try.prog false (ntOf Try.prog 10) (lpC Try.prog 10 0) (ssS p pl l X Y how k) [.b true, .b true, .b false, .b false, .b false, .b false, .b false] .nrm [(0, 0), (1, 1), (2, 2), (3, 3)] (ssS p pl l (X.set k (l.getD k 0)) (Y.set k (l.getD k 0)) how (k + 1))) :=
  vc_of (q := (decide ((↑k : Int) < (↑(List.length pl) : Int)) = true) ∧ (decide ((↑k : Int) < (↑(List.length l) : Int)) = true) ∧ ((0 : Int) ≤ (↑k : Int) ∧ (↑k : Int) < (↑(List.length l) : Int)) ∧ ((0 : Int) ≤ (↑k : Int) ∧ (↑k : Int) < (↑(List.length l) : Int)) ∧ ((0 : Int) ≤ (↑k : Int) ∧ (↑k : Int) < (↑(List.length X) : Int)) ∧ (k + (0 : Nat) < List.length X) ∧ ((0 : Int) ≤ (↑k : Int) ∧ (↑k : Int) < (↑(List.length Y) : Int)) ∧ (k + (0 : Nat) < List.length Y) ∧ ((0 : Int) ≤ (↑k : Int) ∧ (↑k : Int) < (↑(List.length pl) : Int)) ∧ cS8n0 pl k ∧ cS8n0 pl k ∧ cS8n0 pl k ∧ cS8n0 pl k ∧ ((Go.bits Go.BinOp.and IntKind.i64 how (7 : Int) == (0 : Int)) = false) ∧ (inK IntKind.i64 ((↑k : Int) + (1 : Int))) ∧ (frS8n5  (((0 : Int) = (0 : Int)) ∧ (List.length X = List.length (List.set X k (List.getD l k (0 : Int)))) ∧ (∀ (i : Nat), i < List.length X → ∀ (j : Nat), j < (1 : Nat) → (bif Nat.beq i (k + (0 : Nat)) && Nat.ble (0 : Nat) j && Nat.blt j (1 : Nat) then List.getD [AV.int IntKind.i64 (List.getD l k (0 : Int))] (j - (0 : Nat)) AV.junk else AV.int IntKind.i64 (List.getD X i (0 : Int))) = AV.int IntKind.i64 (List.getD (List.set X k (List.getD l k (0 : Int))) i (0 : Int))) ∧ (List.length Y = List.length (List.set Y k (List.getD l k (0 : Int)))) ∧ (∀ (i : Nat), i < List.length Y → ∀ (j : Nat), j < (1 : Nat) → (bif Nat.beq i (k + (0 : Nat)) && Nat.ble (0 : Nat) j && Nat.blt j (1 : Nat) then List.getD [AV.int IntKind.i64 (List.getD l k (0 : Int))] (j - (0 : Nat)) AV.junk else AV.int IntKind.i64 (List.getD Y i (0 : Int))) = AV.int IntKind.i64 (List.getD (List.set Y k (List.getD l k (0 : Int))) i (0 : Int))) ∧ (frS8n8 p l how ((frS8n7 p pl (((0 : Nat) = (0 : Nat)) ∧ (List.length X = List.length (List.set X k (List.getD l k (0 : Int)))) ∧ ((0 : Nat) = (0 : Nat)) ∧ (List.length Y = List.length (List.set Y k (List.getD l k (0 : Int)))) ∧ ((↑(List.length pl) : Int) = (↑(List.length pl) : Int)) ∧ ((↑k : Int) + (1 : Int) = (↑(k + (1 : Nat)) : Int)) ∧ True))))))) (by kernel_rfl)
    ⟨(decide_eq_true (by first | omega | (simp; omega) | (simp; done))),
 (decide_eq_true (by first | omega | (simp; omega) | (simp; done))),
 (by first | omega | rfl),
 (by first | omega | rfl),
 (by first | omega | rfl),
 (by first | omega | rfl),
 (by first | omega | rfl),
 (by first | omega | rfl),
 (by first | omega | rfl),
 hs,
 hs,
 hs,
 hs,
 (by simpa using hh),
 (in64 (by omega) (by omega)), (frS8n5_mk  ⟨rfl,
 (by simp),
 set_row,
 (by simp),
 set_row, (frS8n8_mk p l how (frS8n7_mk p pl ⟨rfl,
 (by simp),
 rfl,
 (by simp),
 rfl,
 (by first | omega | rfl), trivial⟩))⟩)⟩
theorem ss_end (p : Pg) (pl : List Pl) (l X Y : List Int) (how : Int) : Vc (vcC Try.prog false (ntOf Try.prog 10) (lpC Try.prog 10 0) (ssS p pl l X Y how pl.length) [.b false] (.ext 0) [(0, 0), (1, 1), (2, 2), (3, 3)] (ssS p pl l X Y how pl.length)) :=
  vc_of (q := (decide ((↑(List.length pl) : Int) < (↑(List.length pl) : Int)) = false) ∧ (frS8n5  (((0 : Int) = (0 : Int)) ∧ (List.length X = List.length X) ∧ (∀ (i : Nat), i < List.length X → ∀ (j : Nat), j < (1 : Nat) → AV.int IntKind.i64 (List.getD X i (0 : Int)) = AV.int IntKind.i64 (List.getD X i (0 : Int))) ∧ (List.length Y = List.length Y) ∧ (∀ (i : Nat), i < List.length Y → ∀ (j : Nat), j < (1 : Nat) → AV.int IntKind.i64 (List.getD Y i (0 : Int)) = AV.int IntKind.i64 (List.getD Y i (0 : Int))) ∧ (frS8n8 p l how ((frS8n7 p pl (((0 : Nat) = (0 : Nat)) ∧ (List.length X = List.length X) ∧ ((0 : Nat) = (0 : Nat)) ∧ (List.length Y = List.length Y) ∧ ((↑(List.length pl) : Int) = (↑(List.length pl) : Int)) ∧ ((↑(List.length pl) : Int) = (↑(List.length pl) : Int)) ∧ True))))))) (by kernel_rfl)
    ⟨(decide_eq_false (by first | omega | (simp; omega) | (simp; done))), (frS8n5_mk  ⟨rfl,
 rfl,
 (fun _ _ _ _ => rfl),
 rfl,
 (fun _ _ _ _ => rfl), (frS8n8_mk p l how (frS8n7_mk p pl ⟨rfl,
 rfl,
 rfl,
 rfl,
 rfl,
 rfl, trivial⟩))⟩)⟩
theorem xSt_len (pl : List Pl) (l : List Int) (how : Int) : ∀ k, (xSt pl l how k).length = pl.length
  | 0 => List.length_replicate
  | k + 1 => by
    unfold xSt
    split
    · rw [List.length_set, xSt_len pl l how k]
    · exact xSt_len pl l how k
theorem ySt_len (pl : List Pl) (l : List Int) (how : Int) : ∀ k, (ySt pl l how k).length = pl.length
  | 0 => List.length_replicate
  | k + 1 => by
    unfold ySt
    split
    · split
      · rw [List.length_set, List.length_set, ySt_len pl l how k]
      · rw [List.length_set, ySt_len pl l how k]
    · exact ySt_len pl l how k
theorem ss_loop (p : Pg) (pl : List Pl) (l : List Int) (how : Int) (hp : pl.length < 1000) : Ok Try.prog (ntOf Try.prog 10) (.loop (lpC Try.prog 10 0)) (ssS p pl l (List.replicate pl.length 0) (List.replicate pl.length 0) how 0).st (.ext 0) (ssS p pl l (xSt pl l how pl.length) (ySt pl l how pl.length) how pl.length).st :=
  Ok.loop (P := Try.prog) (nt := ntOf Try.prog 10) (c := lpC Try.prog 10 0) (F := fun k => ssS p pl l (xSt pl l how k) (ySt pl l how k) how k) (m := pl.length) (x := .ext 0) (J := ssS p pl l (xSt pl l how pl.length) (ySt pl l how pl.length) how pl.length) (fun k hk => by
    have hX := xSt_len pl l how k
    have hY := ySt_len pl l how k
    show Ok _ _ _ _ _ (ssS p pl l (xSt pl l how (k + 1)) (ySt pl l how (k + 1)) how (k + 1)).st
    have ex : xSt pl l how (k + 1) = if k < l.length then (xSt pl l how k).set k (l.getD k 0) else xSt pl l how k := rfl
    have ey : ySt pl l how (k + 1) = if k < l.length then (if (pl.getD k default).sec = true ∨ bits .and .i64 how 7 = 0 then ((ySt pl l how k).set k (l.getD k 0)).set k (Int.fdiv (l.getD k 0) (2 ^ 4)) else (ySt pl l how k).set k (l.getD k 0)) else ySt pl l how k := rfl
    rw [ex, ey]
    by_cases hl : k < l.length
    · rw [if_pos hl, if_pos hl]
      cases hs : (pl.getD k default).sec with
      | true => rw [if_pos (.inl rfl)]; exact Ok.vc (ss_sec p pl l _ _ how k hk hX hY hp hl hs)
      | false =>
        by_cases hh : bits .and .i64 how 7 = 0
        · rw [if_pos (.inr hh)]; exact Ok.vc (ss_how p pl l _ _ how k hk hX hY hp hl hs hh)
        · rw [if_neg (by rintro (h | h); exact absurd h (by simp); exact hh h)]; exact Ok.vc (ss_pub p pl l _ _ how k hk hX hY hp hl hs hh)
    · rw [if_neg hl, if_neg hl]
      exact Ok.vc (ss_out p pl l _ _ how k hk hX hY hp hl)) (Ok.vc (ss_end p pl l _ _ how)) (by simp)
def s8S (s : S7) : S8 := ⟨s.r0, s.r1, s.r2, s.r3, s.m, [], 0⟩
def xF (p : Pg) (l : List Int) : List Int := xSt (plF p) l 0 (plF p).length
def yF (p : Pg) (l : List Int) (how : Int) : List Int := ySt (plF p) l how (plF p).length
/-- the two states that a law takes -/
def sA (p : Pg) (l : List Int) : S8 := s8S (stK p (xF p l))
def sB (p : Pg) (l : List Int) (how : Int) : S8 := s8S (stK p (yF p l how))
def s8N (s : S8) : List AV := s8A s (lR s.m) .nils
theorem xSt_how (pl : List Pl) (l : List Int) (h h' : Int) : ∀ k, xSt pl l h k = xSt pl l h' k
  | 0 => rfl
  | k + 1 => by simp only [xSt, xSt_how pl l h h' k]
def frS8n9 (p : Pg) (Z : Prop) : Prop := (List.length (Pg.ls p) = List.length (Pg.ls p)) ∧ (∀ (i : Nat), i < List.length (Pg.ls p) → ∀ (j : Nat), j < (2 : Nat) → rowL lbC (Pg.ls p) i j = rowL lbC (Pg.ls p) i j) ∧ (List.length (Pg.is p) = List.length (Pg.is p)) ∧ (∀ (i : Nat), i < List.length (Pg.is p) → ∀ (j : Nat), j < (9 : Nat) → rowL inC (Pg.is p) i j = rowL inC (Pg.is p) i j) ∧ Z
theorem frS8n9_mk (p : Pg) {Z : Prop} (z : Z) : frS8n9 p Z := ⟨rfl, (fun _ _ _ _ => rfl), rfl, (fun _ _ _ _ => rfl), z⟩
def frS8n10 (p : Pg) (Z : Prop) : Prop := (Pg.W p = Pg.W p) ∧ (Pg.win p = Pg.win p) ∧ (Pg.fuel p = Pg.fuel p) ∧ (Pg.r0 p = Pg.r0 p) ∧ (Pg.r1 p = Pg.r1 p) ∧ (Pg.r2 p = Pg.r2 p) ∧ (Pg.r3 p = Pg.r3 p) ∧ (List.length (Pg.ms p) = List.length (Pg.ms p)) ∧ (∀ (i : Nat), i < List.length (Pg.ms p) → ∀ (j : Nat), j < (3 : Nat) → rowL mmC (Pg.ms p) i j = rowL mmC (Pg.ms p) i j) ∧ Z
theorem frS8n10_mk (p : Pg) {Z : Prop} (z : Z) : frS8n10 p Z := ⟨rfl, rfl, rfl, rfl, rfl, rfl, rfl, rfl, (fun _ _ _ _ => rfl), z⟩
theorem st_vc (p : Pg) (l : List Int) (how : Int) (hP : OkP p) : Vc (vcFn Try.prog false 10 [.agg (pgA p), lR l, .int .i64 how] [.fz, .cl [.agg (progL p.W p.r0 p.r1 p.r2 p.r3 (memR p.ms))] (plR (plF p)) [], .lp [(0, 1), (1, 2), (2, 3), (3, 4)] (ssS p (plF p) l (List.replicate (plF p).length 0) (List.replicate (plF p).length 0) how 0) (.ext 0) (ssS p (plF p) l (xSt (plF p) l how (plF p).length) (yF p l how) how (plF p).length), .cl [.agg (pgA p), lR (xSt (plF p) l how (plF p).length)] (.tup [.agg (stC (stK p (xSt (plF p) l how (plF p).length)) (lR (stK p (xSt (plF p) l how (plF p).length)).m)), .bool true]) [], .cl [.agg (pgA p), lR (yF p l how)] (.tup [.agg (stC (stK p (yF p l how)) (lR (stK p (yF p l how)).m)), .bool true]) [], .ll [4, 5]] [] (.tup [.agg (stC (stK p (xSt (plF p) l how (plF p).length)) (lR (stK p (xSt (plF p) l how (plF p).length)).m)), .agg (stC (stK p (yF p l how)) (lR (stK p (yF p l how)).m))]) []) :=
  vc_of (q := (frS8n6 p ((PureC Try.prog 11 [.agg (progL p.W p.r0 p.r1 p.r2 p.r3 (memR p.ms))] (plR (plF p)) []) ∧ ((0 : Int) ≤ (↑(List.length (plF p)) : Int) ∧ (↑(List.length (plF p)) : Int) ≤ (↑(List.length (plF p)) : Int) ∧ (↑(List.length (plF p)) : Int) * (↑(8 : Nat) : Int) ≤ (140737488355328 : Int) ∧ (↑(List.length (plF p)) : Int) ≤ (140737488355328 : Int)) ∧ ((0 : Int) ≤ (↑(List.length (plF p)) : Int) ∧ (↑(List.length (plF p)) : Int) ≤ (↑(List.length (plF p)) : Int) ∧ (↑(List.length (plF p)) : Int) * (↑(8 : Nat) : Int) ≤ (140737488355328 : Int) ∧ (↑(List.length (plF p)) : Int) ≤ (140737488355328 : Int)) ∧ (frS8n5  (((0 : Int) = (0 : Int)) ∧ (List.length (plF p) = List.length (List.replicate (List.length (plF p)) (0 : Int))) ∧ (∀ (i : Nat), i < List.length (plF p) → ∀ (j : Nat), j < (1 : Nat) → List.getD [AV.int IntKind.i64 (0 : Int)] j AV.junk = AV.int IntKind.i64 (List.getD (List.replicate (List.length (plF p)) (0 : Int)) i (0 : Int))) ∧ (List.length (plF p) = List.length (List.replicate (List.length (plF p)) (0 : Int))) ∧ (∀ (i : Nat), i < List.length (plF p) → ∀ (j : Nat), j < (1 : Nat) → List.getD [AV.int IntKind.i64 (0 : Int)] j AV.junk = AV.int IntKind.i64 (List.getD (List.replicate (List.length (plF p)) (0 : Int)) i (0 : Int))) ∧ (frS8n8 p l how ((Pg.r3 p = Pg.r3 p) ∧ (List.length (Pg.ms p) = List.length (Pg.ms p)) ∧ (∀ (i : Nat), i < List.length (Pg.ms p) → ∀ (j : Nat), j < (3 : Nat) → rowL mmC (Pg.ms p) i j = rowL mmC (Pg.ms p) i j) ∧ (List.length (Pg.ls p) = List.length (Pg.ls p)) ∧ (∀ (i : Nat), i < List.length (Pg.ls p) → ∀ (j : Nat), j < (2 : Nat) → rowL lbC (Pg.ls p) i j = rowL lbC (Pg.ls p) i j) ∧ (List.length (Pg.is p) = List.length (Pg.is p)) ∧ (∀ (i : Nat), i < List.length (Pg.is p) → ∀ (j : Nat), j < (9 : Nat) → rowL inC (Pg.is p) i j = rowL inC (Pg.is p) i j) ∧ (List.length (plF p) = List.length (plF p)) ∧ (∀ (i : Nat), i < List.length (plF p) → ∀ (j : Nat), j < (3 : Nat) → rowL plC (plF p) i j = rowL plC (plF p) i j) ∧ ((0 : Nat) = (0 : Nat)) ∧ (List.length (plF p) = List.length (List.replicate (List.length (plF p)) (0 : Int))) ∧ ((0 : Nat) = (0 : Nat)) ∧ (List.length (plF p) = List.length (List.replicate (List.length (plF p)) (0 : Int))) ∧ ((↑(List.length (plF p)) : Int) = (↑(List.length (plF p)) : Int)) ∧ ((0 : Int) = (↑(0 : Nat) : Int)) ∧ (Ok Try.prog (ntOf Try.prog 10) (.loop (lpC Try.prog 10 0)) (ssS p (plF p) l (List.replicate (plF p).length 0) (List.replicate (plF p).length 0) how 0).st (.ext 0) (ssS p (plF p) l (xSt (plF p) l how (plF p).length) (yF p l how) how (plF p).length).st) ∧ (frS8n10 p ((frS8n9 p ((List.length (xSt (plF p) l how (List.length (plF p))) = List.length (xSt (plF p) l how (List.length (plF p)))) ∧ (∀ (i : Nat), i < List.length (xSt (plF p) l how (List.length (plF p))) → ∀ (j : Nat), j < (1 : Nat) → AV.int IntKind.i64 (List.getD (xSt (plF p) l how (List.length (plF p))) (i + (0 : Nat)) (0 : Int)) = AV.int IntKind.i64 (List.getD (xSt (plF p) l how (List.length (plF p))) i (0 : Int))) ∧ (PureC Try.prog 29 [.agg (pgA p), lR (xSt (plF p) l how (plF p).length)] (.tup [.agg (stC (stK p (xSt (plF p) l how (plF p).length)) (lR (stK p (xSt (plF p) l how (plF p).length)).m)), .bool true]) []) ∧ (frS8n10 p ((frS8n9 p ((List.length (yF p l how) = List.length (yF p l how)) ∧ (∀ (i : Nat), i < List.length (yF p l how) → ∀ (j : Nat), j < (1 : Nat) → AV.int IntKind.i64 (List.getD (yF p l how) (i + (0 : Nat)) (0 : Int)) = AV.int IntKind.i64 (List.getD (yF p l how) i (0 : Int))) ∧ (PureC Try.prog 29 [.agg (pgA p), lR (yF p l how)] (.tup [.agg (stC (stK p (yF p l how)) (lR (stK p (yF p l how)).m)), .bool true]) []) ∧ (S7.r0 (stK p (xSt (plF p) l how (List.length (plF p)))) = S7.r0 (stK p (xSt (plF p) l how (List.length (plF p))))) ∧ (S7.r1 (stK p (xSt (plF p) l how (List.length (plF p)))) = S7.r1 (stK p (xSt (plF p) l how (List.length (plF p))))) ∧ (S7.r2 (stK p (xSt (plF p) l how (List.length (plF p)))) = S7.r2 (stK p (xSt (plF p) l how (List.length (plF p))))) ∧ (S7.r3 (stK p (xSt (plF p) l how (List.length (plF p)))) = S7.r3 (stK p (xSt (plF p) l how (List.length (plF p))))) ∧ (List.length (S7.m (stK p (xSt (plF p) l how (List.length (plF p))))) = List.length (S7.m (stK p (xSt (plF p) l how (List.length (plF p)))))) ∧ (∀ (i : Nat), i < List.length (S7.m (stK p (xSt (plF p) l how (List.length (plF p))))) → ∀ (j : Nat), j < (1 : Nat) → AV.int IntKind.i64 (List.getD (S7.m (stK p (xSt (plF p) l how (List.length (plF p))))) i (0 : Int)) = AV.int IntKind.i64 (List.getD (S7.m (stK p (xSt (plF p) l how (List.length (plF p))))) i (0 : Int))) ∧ ((0 : Int) = (0 : Int)) ∧ (S7.r0 (stK p (yF p l how)) = S7.r0 (stK p (yF p l how))) ∧ (S7.r1 (stK p (yF p l how)) = S7.r1 (stK p (yF p l how))) ∧ (S7.r2 (stK p (yF p l how)) = S7.r2 (stK p (yF p l how))) ∧ (S7.r3 (stK p (yF p l how)) = S7.r3 (stK p (yF p l how))) ∧ (List.length (S7.m (stK p (yF p l how))) = List.length (S7.m (stK p (yF p l how)))) ∧ (∀ (i : Nat), i < List.length (S7.m (stK p (yF p l how))) → ∀ (j : Nat), j < (1 : Nat) → AV.int IntKind.i64 (List.getD (S7.m (stK p (yF p l how))) i (0 : Int)) = AV.int IntKind.i64 (List.getD (S7.m (stK p (yF p l how))) i (0 : Int))) ∧ ((0 : Int) = (0 : Int)) ∧ True))))))))))))))) (by kernel_rfl)
    (frS8n6_mk p ⟨(refPlaces p.W p.r0 p.r1 p.r2 p.r3 p.ms (by have := hP.ms; omega) (by have := hP.sum; omega)).frozen,
 (by have := plF_len hP; omega),
 (by have := plF_len hP; omega), (frS8n5_mk  ⟨rfl,
 (by simp),
 (fun i hi j hj => (match j, hj with | 0, _ => rowI_rep rfl i 0 (by simpa using hi))),
 (by simp),
 (fun i hi j hj => (match j, hj with | 0, _ => rowI_rep rfl i 0 (by simpa using hi))), (frS8n8_mk p l how ⟨rfl,
 rfl,
 (fun _ _ _ _ => rfl),
 rfl,
 (fun _ _ _ _ => rfl),
 rfl,
 (fun _ _ _ _ => rfl),
 rfl,
 (fun _ _ _ _ => rfl),
 rfl,
 (by simp),
 rfl,
 (by simp),
 rfl,
 (by first | omega | rfl),
 ss_loop p (plF p) l how (by have := plF_len hP; omega), (frS8n10_mk p (frS8n9_mk p ⟨rfl,
 (fun _ _ _ _ => rfl),
 (rstartC p (xSt (plF p) l how (plF p).length) hP (xSt_len _ _ _ _)).frozen2, (frS8n10_mk p (frS8n9_mk p ⟨rfl,
 (fun _ _ _ _ => rfl),
 (rstartC p (yF p l how) hP (ySt_len _ _ _ _)).frozen2,
 rfl,
 rfl,
 rfl,
 rfl,
 rfl,
 (fun _ _ _ _ => rfl),
 rfl,
 rfl,
 rfl,
 rfl,
 rfl,
 rfl,
 (fun _ _ _ _ => rfl),
 rfl, trivial⟩))⟩))⟩)⟩)⟩)
theorem statesC (p : Pg) (l : List Int) (how : Int) (hP : OkP p) : PureC Try.prog 10 [.agg (pgA p), lR l, .int .i64 how] (.tup [.agg (s8N (sA p l)), .agg (s8N (sB p l how))]) [] := by
  have h := PureC.vc (st_vc p l how hP)
  rw [xSt_how (plF p) l how 0] at h
  exact h
end
end Go.Proofs.Ytjdiabjmphdhiaa.Px
namespace Go.Proofs.Ytjdiabjmphdhiaa.Px
section
open Go.RowKit Go.Proofs.Ytjdiabjmphdhiaa.Rx
end
end Go.Proofs.Ytjdiabjmphdhiaa.Px
namespace Go.Proofs.Ytjdiabjmphdhiaa.Px
section
open Go.RowKit Go.Proofs.Ytjdiabjmphdhiaa.Rx
end
end Go.Proofs.Ytjdiabjmphdhiaa.Px
namespace Go.Proofs.Ytjdiabjmphdhiaa.Px
section
open Go.RowKit Go.Proofs.Ytjdiabjmphdhiaa.Rx
end
end Go.Proofs.Ytjdiabjmphdhiaa.Px
namespace Go.Proofs.Ytjdiabjmphdhiaa.Px
section
open Go.RowKit Go.Proofs.Ytjdiabjmphdhiaa.Rx
end
end Go.Proofs.Ytjdiabjmphdhiaa.Px
namespace Go.Proofs.Ytjdiabjmphdhiaa.Px
section
open Go.RowKit Go.Proofs.Ytjdiabjmphdhiaa.Rx
def B7 (s : S7) : Prop := ((0 ≤ s.r0 ∧ s.r0 < 65536) ∧ (0 ≤ s.r1 ∧ s.r1 < 65536) ∧ (0 ≤ s.r2 ∧ s.r2 < 65536) ∧ (0 ≤ s.r3 ∧ s.r3 < 65536)) ∧ ∀ x ∈ s.m, 0 ≤ x ∧ x < 65536
theorem put7_b {s : S7} (h : B7 s) (P : Pl) {v : Int} (hv : 0 ≤ v ∧ v < 65536) : B7 (put7 s P v) := by
  obtain ⟨⟨h0, h1, h2, h3⟩, hm⟩ := h
  unfold put7
  split
  · split
    · exact ⟨⟨hv, h1, h2, h3⟩, hm⟩
    · split
      · exact ⟨⟨h0, hv, h2, h3⟩, hm⟩
      · split
        · exact ⟨⟨h0, h1, hv, h3⟩, hm⟩
        · exact ⟨⟨h0, h1, h2, hv⟩, hm⟩
  · refine ⟨⟨h0, h1, h2, h3⟩, fun x hx => ?_⟩
    rcases List.mem_or_eq_of_mem_set hx with h | rfl
    · exact hm x h
    · exact hv
theorem zz : (0 : Int) ≤ 0 ∧ (0 : Int) < 65536 := by decide
theorem zer7_b (n : Nat) : B7 (zer7 n) := ⟨⟨zz, zz, zz, zz⟩, fun x hx => by
  have := (List.mem_replicate.1 hx).2
  omega⟩
theorem putK_b (W : Int) (pl : List Pl) (l : List Int) (s : S7) (h : B7 s) : ∀ k, B7 (putK W pl l s k)
  | 0 => h
  | k + 1 => put7_b (putK_b W pl l s h k) _ (Wd.maskV_bd _ _)
end
end Go.Proofs.Ytjdiabjmphdhiaa.Px
namespace Go.Proofs.Ytjdiabjmphdhiaa.Px
section
open Go.RowKit Go.Proofs.Ytjdiabjmphdhiaa.Rx
/-- what register k holds -/
def S7.r (s : S7) (k : Nat) : Int := if k = 0 then s.r0 else if k = 1 then s.r1 else if k = 2 then s.r2 else s.r3
/-- what a place holds -/
def at7 (s : S7) (p : Pl) : Int := if p.reg = true then s.r p.n else s.m.getD p.n 0
/-- the same place -/
def same7 (p q : Pl) : Prop := p.reg = q.reg ∧ p.n = q.n
instance (p q : Pl) : Decidable (same7 p q) := inferInstanceAs (Decidable (_ ∧ _))
theorem at7_put {s : S7} {N : Nat} (hN : s.m.length = N) {p q : Pl} (hp : plOk N p) (hq : plOk N q) (v : Int) : at7 (put7 s p v) q = if same7 p q then v else at7 s q := by
  obtain ⟨b, n, sc⟩ := p
  obtain ⟨b', n', sc'⟩ := q
  cases b with
  | true =>
    have hn := hp.1 rfl
    simp only at hn
    cases b' with
    | true =>
      have hn' := hq.1 rfl
      simp only at hn'
      match n, hn, n', hn' with
      | 0, _, 0, _ => rfl
      | 0, _, 1, _ => rfl
      | 0, _, 2, _ => rfl
      | 0, _, 3, _ => rfl
      | 1, _, 0, _ => rfl
      | 1, _, 1, _ => rfl
      | 1, _, 2, _ => rfl
      | 1, _, 3, _ => rfl
      | 2, _, 0, _ => rfl
      | 2, _, 1, _ => rfl
      | 2, _, 2, _ => rfl
      | 2, _, 3, _ => rfl
      | 3, _, 0, _ => rfl
      | 3, _, 1, _ => rfl
      | 3, _, 2, _ => rfl
      | 3, _, 3, _ => rfl
    | false =>
      rw [if_neg (by simp [same7])]
      match n, hn with
      | 0, _ => rfl
      | 1, _ => rfl
      | 2, _ => rfl
      | 3, _ => rfl
  | false =>
    have hn := hp.2 rfl
    simp only at hn
    cases b' with
    | true => rw [if_neg (by simp [same7])]; rfl
    | false =>
      show (s.m.set n v).getD n' 0 = if same7 ⟨false, n, sc⟩ ⟨false, n', sc'⟩ then v else s.m.getD n' 0
      by_cases h : n = n'
      · subst h
        rw [if_pos ⟨rfl, rfl⟩]
        simp [List.getD, hN, hn]
      · rw [if_neg (by simp [same7, h])]
        simp [List.getD, List.getElem?_set, h]
theorem r_put {s : S7} {p : Pl} {v : Int} {k : Nat} (hk : k < 4) (hp : p.reg = true → p.n < 4 ∧ p.n ≠ k) : (put7 s p v).r k = s.r k := by
  obtain ⟨b, n, sc⟩ := p
  cases b with
  | true =>
    obtain ⟨h1, h2⟩ := hp rfl
    simp only at h1 h2
    match n, h1, k, hk with
    | 0, _, 0, _ => exact absurd rfl h2
    | 0, _, 1, _ => rfl
    | 0, _, 2, _ => rfl
    | 0, _, 3, _ => rfl
    | 1, _, 0, _ => rfl
    | 1, _, 1, _ => exact absurd rfl h2
    | 1, _, 2, _ => rfl
    | 1, _, 3, _ => rfl
    | 2, _, 0, _ => rfl
    | 2, _, 1, _ => rfl
    | 2, _, 2, _ => exact absurd rfl h2
    | 2, _, 3, _ => rfl
    | 3, _, 0, _ => rfl
    | 3, _, 1, _ => rfl
    | 3, _, 2, _ => rfl
    | 3, _, 3, _ => exact absurd rfl h2
  | false => rfl
/-- no place comes twice -/
def Apart7 (pl : List Pl) : Prop := ∀ i j, i < pl.length → j < pl.length → same7 (pl.getD i default) (pl.getD j default) → i = j
theorem at7_pubK {pl : List Pl} {s : S7} {N : Nat} (hN : s.m.length = N) (ho : ∀ p ∈ pl, plOk N p) (ha : Apart7 pl) : ∀ k, k ≤ pl.length → ∀ i, i < pl.length → at7 (pubK pl s k) (pl.getD i default) = if i < k ∧ (pl.getD i default).sec = true then 0 else at7 s (pl.getD i default) := by
  intro k
  induction k with
  | zero => intro _ i _; rw [if_neg (by omega)]; rfl
  | succ k ih =>
    intro hk i hi
    have h := ih (by omega) i hi
    rw [pubK]
    split
    · rename_i hsec
      rw [at7_put (N := N) (by rw [pubK_len, hN]) (ho _ (getD_mem (by omega))) (ho _ (getD_mem hi))]
      by_cases e : same7 (pl.getD k default) (pl.getD i default)
      · have := ha k i (by omega) hi e
        subst this
        rw [if_pos e, if_pos ⟨by omega, hsec⟩]
      · rw [if_neg e, h]
        have hne : i ≠ k := fun h => e (by rw [h]; exact ⟨rfl, rfl⟩)
        by_cases h2 : i < k ∧ (pl.getD i default).sec = true
        · rw [if_pos h2, if_pos ⟨by omega, h2.2⟩]
        · rw [if_neg h2, if_neg (fun h3 => h2 ⟨by omega, h3.2⟩)]
    · rename_i hsec
      rw [h]
      by_cases h2 : i < k ∧ (pl.getD i default).sec = true
      · rw [if_pos h2, if_pos ⟨by omega, h2.2⟩]
      · rw [if_neg h2, if_neg (fun h3 => h2 ⟨by
          rcases Nat.lt_or_ge i k with h4 | h4
          · exact h4
          · have : i = k := by omega
            subst this
            exact absurd h3.2 hsec, h3.2⟩)]
theorem r_pubK {pl : List Pl} {s : S7} {N : Nat} (ho : ∀ p ∈ pl, plOk N p) {r : Nat} (hr : r < 4) (hn : ∀ p ∈ pl, p.reg = true → p.n ≠ r) : ∀ k, k ≤ pl.length → (pubK pl s k).r r = s.r r := by
  intro k
  induction k with
  | zero => intro _; rfl
  | succ k ih =>
    intro hk
    rw [pubK]
    have hm := getD_mem (pl := pl) (k := k) (by omega)
    split
    · rw [r_put hr (fun h => ⟨(ho _ hm).1 h, hn _ hm h⟩)]
      exact ih (by omega)
    · exact ih (by omega)
/-- two states are the same: by registers and cells -/
theorem sameB_iff (s s' : S7) (hl : s.m.length = s'.m.length) : sameB s.r0 s.r1 s.r2 s.r3 s.m [] 0 s'.r0 s'.r1 s'.r2 s'.r3 s'.m [] 0 = true ↔ (∀ r, r < 4 → s.r r = s'.r r) ∧ ∀ i, i < s.m.length → s.m.getD i 0 = s'.m.getD i 0 := by
  have h1 : regE s.r0 s.r1 s.r2 s.r3 s'.r0 s'.r1 s'.r2 s'.r3 = true ↔ s.r0 = s'.r0 ∧ s.r1 = s'.r1 ∧ s.r2 = s'.r2 ∧ s.r3 = s'.r3 := by
    unfold regE
    constructor
    · intro h
      by_cases e0 : s.r0 = s'.r0 <;> by_cases e1 : s.r1 = s'.r1 <;> by_cases e2 : s.r2 = s'.r2 <;> by_cases e3 : s.r3 = s'.r3 <;> simp [e0, e1, e2, e3] at h ⊢
    · rintro ⟨e0, e1, e2, e3⟩
      simp [e0, e1, e2, e3]
  have h2 : s.m = s'.m ↔ ∀ i, i < s.m.length → s.m.getD i 0 = s'.m.getD i 0 := by
    constructor
    · intro h i _; rw [h]
    · intro h
      apply List.ext_getElem hl
      intro i hi hi'
      have := h i hi
      simpa [List.getD, hi, hi'] using this
  unfold sameB
  simp only [Bool.and_eq_true, h1, eqI, decide_eq_true_eq, beq_self_eq_true, and_true, h2]
  constructor
  · rintro ⟨⟨e0, e1, e2, e3⟩, h⟩
    refine ⟨fun r hr => ?_, h⟩
    match r, hr with
    | 0, _ => exact e0
    | 1, _ => exact e1
    | 2, _ => exact e2
    | 3, _ => exact e3
  · rintro ⟨h, h'⟩
    exact ⟨⟨h 0 (by omega), h 1 (by omega), h 2 (by omega), h 3 (by omega)⟩, h'⟩
/-- every cell is a place, and every told register -/
def All7 (N : Nat) (pl : List Pl) (told : Nat → Prop) : Prop := (∀ n, n < N → ∃ i, i < pl.length ∧ (pl.getD i default).reg = false ∧ (pl.getD i default).n = n) ∧ (∀ r, r < 4 → told r → ∃ i, i < pl.length ∧ (pl.getD i default).reg = true ∧ (pl.getD i default).n = r) ∧ ∀ p ∈ pl, p.reg = true → told p.n
/-- two states look alike just if they hold the same in all that is public -/
theorem low_iff {pl : List Pl} {told : Nat → Prop} {N : Nat} {s s' : S7} (hs : s.m.length = N) (hs' : s'.m.length = N) (ho : ∀ p ∈ pl, plOk N p) (ha : Apart7 pl) (hall : All7 N pl told) [∀ r, Decidable (told r)]
    (hu : ∀ r, r < 4 → ¬ told r → s.r r = s'.r r) :
    sameB (pubK pl s pl.length).r0 (pubK pl s pl.length).r1 (pubK pl s pl.length).r2 (pubK pl s pl.length).r3 (pubK pl s pl.length).m [] 0 (pubK pl s' pl.length).r0 (pubK pl s' pl.length).r1 (pubK pl s' pl.length).r2 (pubK pl s' pl.length).r3 (pubK pl s' pl.length).m [] 0 = true ↔
    ∀ i, i < pl.length → (pl.getD i default).sec = false → at7 s (pl.getD i default) = at7 s' (pl.getD i default) := by
  rw [sameB_iff _ _ (by rw [pubK_len, pubK_len, hs, hs'])]
  have e : ∀ i, i < pl.length → (at7 (pubK pl s pl.length) (pl.getD i default) = at7 (pubK pl s' pl.length) (pl.getD i default) ↔ ((pl.getD i default).sec = false → at7 s (pl.getD i default) = at7 s' (pl.getD i default))) := fun i hi => by
    rw [at7_pubK hs ho ha _ (Nat.le_refl _) i hi, at7_pubK hs' ho ha _ (Nat.le_refl _) i hi]
    cases hsec : (pl.getD i default).sec with
    | true => simp [hi]
    | false => simp
  constructor
  · rintro ⟨h1, h2⟩ i hi
    refine (e i hi).1 ?_
    have hp := ho _ (getD_mem hi)
    unfold at7
    split
    · rename_i hr
      exact h1 _ (hp.1 hr)
    · rename_i hr
      exact h2 _ (by rw [pubK_len, hs]; exact hp.2 (by simpa using hr))
  · intro h
    refine ⟨fun r hr => ?_, fun n hn => ?_⟩
    · by_cases ht : told r
      · obtain ⟨i, hi, h1, h2⟩ := hall.2.1 r hr ht
        have := (e i hi).2 (h i hi)
        unfold at7 at this
        rw [if_pos h1, if_pos h1, h2] at this
        exact this
      · have hn : ∀ p ∈ pl, p.reg = true → p.n ≠ r := fun p hp hpr e => ht (e ▸ hall.2.2 p hp hpr)
        rw [r_pubK ho hr hn _ (Nat.le_refl _), r_pubK ho hr hn _ (Nat.le_refl _)]
        exact hu r hr ht
    · rw [pubK_len, hs] at hn
      obtain ⟨i, hi, h1, h2⟩ := hall.1 n hn
      have := (e i hi).2 (h i hi)
      unfold at7 at this
      rw [if_neg (by rw [h1]; simp), if_neg (by rw [h1]; simp), h2] at this
      exact this
open Go.RowKit Go.Proofs.Ytjdiabjmphdhiaa.Rx
theorem memL_get : ∀ (l : List Mm) (at_ i : Nat), i < sumN l → ((memL at_ l).getD i default).reg = false ∧ ((memL at_ l).getD i default).n = at_ + i
  | [], at_, i, h => by simp [sumN] at h
  | m :: l, at_, i, h => by
    simp only [memL, List.getD_eq_getElem?_getD]
    by_cases hi : i < m.n
    · rw [List.getElem?_append_left (by rw [celL_length]; exact hi)]
      simp [celL, hi]
    · rw [List.getElem?_append_right (by rw [celL_length]; omega), celL_length]
      have := memL_get l (at_ + m.n) (i - m.n) (by simp only [sumN] at h; omega)
      rw [List.getD_eq_getElem?_getD] at this
      exact ⟨this.1, by rw [this.2]; omega⟩
theorem regL_get (r : Nat → Int) : ∀ (k i : Nat), i < (regL r k).length → ((regL r k).getD i default).reg = true ∧ ((regL r k).getD i default).n < k ∧ r ((regL r k).getD i default).n ≠ 0 ∧ ∀ j, j < i → ((regL r k).getD j default).n < ((regL r k).getD i default).n
  | 0, i, h => by simp [regL] at h
  | k + 1, i, h => by
    by_cases hz : r k = 0
    · rw [regL_zero hz] at h ⊢
      obtain ⟨h1, h2, h3, h4⟩ := regL_get r k i h
      exact ⟨h1, by omega, h3, h4⟩
    · rw [regL_pos hz] at h ⊢
      simp only [List.getD_eq_getElem?_getD]
      by_cases hi : i < (regL r k).length
      · obtain ⟨h1, h2, h3, h4⟩ := regL_get r k i hi
        simp only [List.getD_eq_getElem?_getD] at h1 h2 h3 h4
        rw [List.getElem?_append_left hi]
        refine ⟨h1, by omega, h3, fun j hj => ?_⟩
        rw [List.getElem?_append_left (by omega)]
        exact h4 j hj
      · have e : i = (regL r k).length := by simp only [List.length_append, List.length_singleton] at h; omega
        subst e
        rw [List.getElem?_append_right (Nat.le_refl _), Nat.sub_self]
        refine ⟨rfl, Nat.lt_succ_self k, hz, fun j hj => ?_⟩
        rw [List.getElem?_append_left hj]
        obtain ⟨_, h2, _, _⟩ := regL_get r k j hj
        rw [List.getD_eq_getElem?_getD] at h2
        exact h2
theorem regL_len_s (r : Nat → Int) (k : Nat) : (regL r (k + 1)).length = (regL r k).length + (if r k = 0 then 0 else 1) := by
  simp only [regL, List.length_append]
  split <;> simp
theorem regL_at (r : Nat → Int) (k n : Nat) (hk : k < n) (h : ¬ r k = 0) : (regL r n).getD (regL r k).length default = ⟨true, k, r k == 2⟩ ∧ (regL r k).length < (regL r n).length := by
  induction n with
  | zero => omega
  | succ n ih =>
    by_cases e : k = n
    · subst e
      rw [regL_pos h]
      simp [List.getD]
    · obtain ⟨h1, h2⟩ := ih (by omega)
      refine ⟨?_, by rw [regL_len_s]; omega⟩
      show (regL r n ++ _).getD _ _ = _
      rw [← h1]
      simp only [List.getD_eq_getElem?_getD]
      rw [List.getElem?_append_left h2]
theorem places_get (r : Nat → Int) (ms : List Mm) (i : Nat) (hi : i < (places r ms).length) :
    (i < (regL r 4).length ∧ (places r ms).getD i default = (regL r 4).getD i default) ∨ ((regL r 4).length ≤ i ∧ i - (regL r 4).length < sumN ms ∧ (places r ms).getD i default = (memL 0 ms).getD (i - (regL r 4).length) default) := by
  unfold places at *
  rw [List.length_append, memL_length] at hi
  simp only [List.getD_eq_getElem?_getD]
  by_cases h : i < (regL r 4).length
  · exact .inl ⟨h, by rw [List.getElem?_append_left h]⟩
  · exact .inr ⟨by omega, by omega, by rw [List.getElem?_append_right (by omega)]⟩
theorem places_apart (r : Nat → Int) (ms : List Mm) : Apart7 (places r ms) := by
  intro i j hi hj ⟨e1, e2⟩
  rcases places_get r ms i hi with ⟨a1, a2⟩ | ⟨a1, a2, a3⟩ <;> rcases places_get r ms j hj with ⟨b1, b2⟩ | ⟨b1, b2, b3⟩
  · rw [a2, b2] at e2
    obtain ⟨_, _, _, h4⟩ := regL_get r 4 i a1
    obtain ⟨_, _, _, k4⟩ := regL_get r 4 j b1
    rcases Nat.lt_trichotomy i j with h | h | h
    · have := k4 i h; omega
    · exact h
    · have := h4 j h; omega
  · rw [a2, b3] at e1
    have := (regL_get r 4 i a1).1
    have h2 := (memL_get ms 0 _ b2).1
    rw [this, h2] at e1; cases e1
  · rw [a3, b2] at e1
    have := (regL_get r 4 j b1).1
    have h2 := (memL_get ms 0 _ a2).1
    rw [this, h2] at e1; cases e1
  · rw [a3, b3] at e2
    have h1 := (memL_get ms 0 _ a2).2
    have h2 := (memL_get ms 0 _ b2).2
    omega
theorem places_all (r : Nat → Int) (ms : List Mm) : All7 (sumN ms) (places r ms) (fun k => r k ≠ 0) := by
  refine ⟨fun n hn => ?_, fun k hk ht => ?_, fun p hp hreg => ?_⟩
  · have hl : (regL r 4).length + n < (places r ms).length := by unfold places; rw [List.length_append, memL_length]; omega
    refine ⟨(regL r 4).length + n, hl, ?_⟩
    rcases places_get r ms _ hl with ⟨a1, _⟩ | ⟨a1, a2, a3⟩
    · omega
    · rw [a3]
      have := memL_get ms 0 _ a2
      exact ⟨this.1, by rw [this.2]; omega⟩
  · obtain ⟨h1, h2⟩ := regL_at r k 4 hk ht
    have hl : (regL r k).length < (places r ms).length := by unfold places; rw [List.length_append]; omega
    refine ⟨(regL r k).length, hl, ?_⟩
    rcases places_get r ms _ hl with ⟨_, a2⟩ | ⟨a1, _, _⟩
    · rw [a2, h1]; exact ⟨rfl, rfl⟩
    · omega
  · obtain ⟨i, hi, rfl⟩ := List.getElem_of_mem hp
    have e : (places r ms)[i] = (places r ms).getD i default := by simp [List.getD, hi]
    rw [e] at hreg ⊢
    rcases places_get r ms i hi with ⟨a1, a2⟩ | ⟨a1, a2, a3⟩
    · rw [a2]; exact (regL_get r 4 i a1).2.2.1
    · rw [a3, (memL_get ms 0 _ a2).1] at hreg; cases hreg
end
end Go.Proofs.Ytjdiabjmphdhiaa.Px
namespace Go.Proofs.Ytjdiabjmphdhiaa.Px
section
open Go.RowKit Go.Proofs.Ytjdiabjmphdhiaa.Rx
/-- do two states look alike, with these stacks -/
def lowS (p : Pg) (s s' : S7) (st st' : List Int) : Bool := lowB p.r0 p.r1 p.r2 p.r3 p.ms s.r0 s.r1 s.r2 s.r3 s.m st 0 s'.r0 s'.r1 s'.r2 s'.r3 s'.m st' 0
def toldP (p : Pg) (k : Nat) : Prop := rg p.r0 p.r1 p.r2 p.r3 k ≠ 0
instance (p : Pg) : ∀ k, Decidable (toldP p k) := fun k => inferInstanceAs (Decidable (_ ≠ _))
theorem mem_getD {pl : List Pl} {k : Nat} (hk : k < pl.length) : pl.getD k default ∈ pl := by
  rw [List.getD_eq_getElem?_getD, List.getElem?_eq_getElem hk]
  exact List.getElem_mem hk
theorem low_all {p : Pg} {s s' : S7} (hs : s.m.length = sumN p.ms) (hs' : s'.m.length = sumN p.ms) (hu : ∀ r, r < 4 → ¬ toldP p r → s.r r = s'.r r) :
    lowS p s s' [] [] = true ↔ ∀ i, i < (plF p).length → ((plF p).getD i default).sec = false → at7 s ((plF p).getD i default) = at7 s' ((plF p).getD i default) :=
  low_iff (told := toldP p) hs hs' (plF_ok p) (places_apart _ _) (places_all _ _) hu
theorem low_self {p : Pg} {s : S7} (hs : s.m.length = sumN p.ms) : lowS p s s [] [] = true := (low_all hs hs (fun _ _ _ => rfl)).2 fun _ _ _ => rfl
theorem put7_r {s : S7} {X : Pl} {v : Int} {r : Nat} (hr : r < 4) (hX : X.reg = true → X.n < 4 ∧ X.n ≠ r) : (put7 s X v).r r = s.r r := by
  obtain ⟨b, n, sc⟩ := X
  cases b with
  | false => rfl
  | true =>
    obtain ⟨h1, h2⟩ := hX rfl
    simp only at h1 h2
    match n, h1, r, hr, h2 with
    | 0, _, 1, _, _ => rfl
    | 0, _, 2, _, _ => rfl
    | 0, _, 3, _, _ => rfl
    | 1, _, 0, _, _ => rfl
    | 1, _, 2, _, _ => rfl
    | 1, _, 3, _, _ => rfl
    | 2, _, 0, _, _ => rfl
    | 2, _, 1, _, _ => rfl
    | 2, _, 3, _, _ => rfl
    | 3, _, 0, _, _ => rfl
    | 3, _, 1, _, _ => rfl
    | 3, _, 2, _, _ => rfl
    | 0, _, 0, _, h => exact absurd rfl h
    | 1, _, 1, _, h => exact absurd rfl h
    | 2, _, 2, _, h => exact absurd rfl h
    | 3, _, 3, _, h => exact absurd rfl h
theorem turn_eq {p : Pg} {s : S7} {k : Nat} {v : Int} (hs : s.m.length = sumN p.ms) (hk : k < (plF p).length) (hv : v ≠ at7 s ((plF p).getD k default)) :
    (∀ i, i < (plF p).length → ((plF p).getD i default).sec = false → at7 s ((plF p).getD i default) = at7 (put7 s ((plF p).getD k default) v) ((plF p).getD i default)) ↔ ((plF p).getD k default).sec = true := by
  have ho := plF_ok p
  constructor
  · intro h
    cases hc : ((plF p).getD k default).sec with
    | true => rfl
    | false =>
      have h1 := h k hk hc
      rw [at7_put hs (ho _ (mem_getD hk)) (ho _ (mem_getD hk)), if_pos ⟨rfl, rfl⟩] at h1
      exact absurd h1.symm hv
  · intro hc i hi hsec
    rw [at7_put hs (ho _ (mem_getD hk)) (ho _ (mem_getD hi)), if_neg]
    intro hsame
    have e := places_apart _ _ k i hk hi hsame
    subst e
    rw [hc] at hsec
    cases hsec
theorem turn_untold {p : Pg} {s : S7} {k : Nat} {v : Int} (hk : k < (plF p).length) : ∀ r, r < 4 → ¬ toldP p r → s.r r = (put7 s ((plF p).getD k default) v).r r := fun r hr ht =>
  (put7_r hr fun hreg => ⟨(plF_ok p _ (mem_getD hk)).1 hreg, fun e => ht (by
    have := (places_all (rg p.r0 p.r1 p.r2 p.r3) p.ms).2.2 _ (mem_getD hk) hreg
    unfold toldP
    rw [← e]
    exact this)⟩).symm
theorem low_turn {p : Pg} {s : S7} {k : Nat} {v : Int} (hs : s.m.length = sumN p.ms) (hk : k < (plF p).length) (hv : v ≠ at7 s ((plF p).getD k default)) :
    lowS p s (put7 s ((plF p).getD k default) v) [] [] = ((plF p).getD k default).sec := by
  rw [Bool.eq_iff_iff, low_all hs (by rw [put7_len]; exact hs) (turn_untold hk)]
  exact turn_eq hs hk hv
theorem low_back {p : Pg} {s : S7} {k : Nat} {v : Int} (hs : s.m.length = sumN p.ms) (hk : k < (plF p).length) (hv : v ≠ at7 s ((plF p).getD k default)) :
    lowS p (put7 s ((plF p).getD k default) v) s [] [] = ((plF p).getD k default).sec := by
  rw [Bool.eq_iff_iff, low_all (by rw [put7_len]; exact hs) hs (fun r hr ht => (turn_untold hk r hr ht).symm)]
  refine Iff.trans ⟨fun h i hi hc => (h i hi hc).symm, fun h i hi hc => (h i hi hc).symm⟩ (turn_eq hs hk hv)
theorem low_stack (p : Pg) (s s' : S7) : lowS p s s' [] [1] = false := by
  unfold lowS lowB sameB
  have e : eqI [] [1] = false := by decide
  rw [e]
  simp
theorem low_reg {p : Pg} {s s' : S7} (h0 : (plF p).length = 0) (hs : s.m.length = sumN p.ms) (hs' : s'.m.length = sumN p.ms) {r : Nat} (hr : r < 4) (h : s.r r ≠ s'.r r) : lowS p s s' [] [] = false := by
  have e : plF p = [] := List.eq_nil_of_length_eq_zero h0
  have e2 : lowS p s s' [] [] = sameB s.r0 s.r1 s.r2 s.r3 s.m [] 0 s'.r0 s'.r1 s'.r2 s'.r3 s'.m [] 0 := by
    have e3 : places (rg p.r0 p.r1 p.r2 p.r3) p.ms = [] := e
    unfold lowS lowB pubOf
    rw [e3]
    rfl
  cases hb : lowS p s s' [] [] with
  | false => rfl
  | true =>
    rw [e2] at hb
    exact absurd (((sameB_iff s s' (by rw [hs, hs'])).1 hb).1 r hr) h
end
end Go.Proofs.Ytjdiabjmphdhiaa.Px
namespace Go.Proofs.Ytjdiabjmphdhiaa.Px
section
open Go.RowKit Go.Proofs.Ytjdiabjmphdhiaa.Rx
end
end Go.Proofs.Ytjdiabjmphdhiaa.Px
namespace Go.Proofs.Ytjdiabjmphdhiaa.Px
section
open Go.RowKit Go.Proofs.Ytjdiabjmphdhiaa.Rx
theorem and255 (n : Int) : 0 ≤ bits .and .i64 n 255 ∧ bits .and .i64 n 255 < 256 := by
  have h := Wd.bits_mask n 8 (by omega)
  have h2 : bits .and .i64 n 255 = n % 256 := h
  rw [h2]; omega
theorem tmBd {x d : Int} (hx : 0 ≤ x) (hd : 0 < d) : 0 ≤ x.tmod d ∧ x.tmod d < d := ⟨Int.tmod_nonneg _ hx, Int.tmod_lt_of_pos _ hd⟩
end
end Go.Proofs.Ytjdiabjmphdhiaa.Px
