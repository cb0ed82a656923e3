/- Merged: S8n, S8r, S8s, S8t, S8u, S8v, S8w, S8x. -/
import Derived.Test.YtjdiabjmphdhiaaMhE
import Derived.Test.YtjdiabjmphdhiaaMhC
set_option linter.unusedVariables false
set_option linter.unusedSimpArgs false
set_option maxRecDepth 100000
namespace Go.Proofs.Ytjdiabjmphdhiaa.Px
section
open Go.RowKit Go.Proofs.Ytjdiabjmphdhiaa.Rx
def pgP (p : Pg) : AV := .rptr 10 (fun q => (pgA p).getD q .junk) 0
def plF (p : Pg) : List Pl := places (rg p.r0 p.r1 p.r2 p.r3) p.ms
def plR (l : List Pl) : AV := .row 3 l.length (rowL plC l)
def lR (l : List Int) : AV := .row 1 l.length (rowI l)
def rsS (p : Pg) (pl : List Pl) (l : List Int) (s : S7) (k : Nat) : Sm := ⟨[(1, lR l), (2, pgP p), (4, .bptr 0 0), (5, .bool false), (6, plR pl), (7, .bptr 1 0), (8, .int .i64 k)],
  [(0, bx 31 (stZ .nils)), (1, bx 31 (stC s (.own 2 0 1 0 s.m.length))), (2, blkI s.m)], 3⟩
def frS8n0 (p : Pg) (pl : List Pl) (Z : Prop) : Prop := (List.length (Pg.is p) = List.length (Pg.is p)) ∧ (∀ (i : Nat), i < List.length (Pg.is p) → ∀ (j : Nat), j < (9 : Nat) → rowL inC (Pg.is p) i j = rowL inC (Pg.is p) i j) ∧ (false = false) ∧ (List.length pl = List.length pl) ∧ (∀ (i : Nat), i < List.length pl → ∀ (j : Nat), j < (3 : Nat) → rowL plC pl i j = rowL plC pl i j) ∧ Z
theorem frS8n0_mk (p : Pg) (pl : List Pl) {Z : Prop} (z : Z) : frS8n0 p pl Z := ⟨rfl, (fun _ _ _ _ => rfl), rfl, rfl, (fun _ _ _ _ => rfl), z⟩
def frS8n1 (p : Pg) (Z : Prop) : Prop := (Pg.fuel p = Pg.fuel p) ∧ (Pg.r0 p = Pg.r0 p) ∧ (Pg.r1 p = Pg.r1 p) ∧ (Pg.r2 p = Pg.r2 p) ∧ (Pg.r3 p = Pg.r3 p) ∧ (List.length (Pg.ms p) = List.length (Pg.ms p)) ∧ (∀ (i : Nat), i < List.length (Pg.ms p) → ∀ (j : Nat), j < (3 : Nat) → rowL mmC (Pg.ms p) i j = rowL mmC (Pg.ms p) i j) ∧ (List.length (Pg.ls p) = List.length (Pg.ls p)) ∧ (∀ (i : Nat), i < List.length (Pg.ls p) → ∀ (j : Nat), j < (2 : Nat) → rowL lbC (Pg.ls p) i j = rowL lbC (Pg.ls p) i j) ∧ Z
theorem frS8n1_mk (p : Pg) {Z : Prop} (z : Z) : frS8n1 p Z := ⟨rfl, rfl, rfl, rfl, rfl, rfl, (fun _ _ _ _ => rfl), rfl, (fun _ _ _ _ => rfl), z⟩
def frS8n2 (p : Pg) (l : List Int) (s : S7) (Z : Prop) : Prop := ((0 : Nat) = (0 : Nat)) ∧ (List.length (S7.m s) = List.length (S7.m s)) ∧ ((0 : Int) = (0 : Int)) ∧ (List.length (S7.m s) = List.length (S7.m s)) ∧ (∀ (i : Nat), i < List.length (S7.m s) → ∀ (j : Nat), j < (1 : Nat) → AV.int IntKind.i64 (List.getD (S7.m s) i (0 : Int)) = AV.int IntKind.i64 (List.getD (S7.m s) i (0 : Int))) ∧ (List.length l = List.length l) ∧ (∀ (i : Nat), i < List.length l → ∀ (j : Nat), j < (1 : Nat) → AV.int IntKind.i64 (List.getD l i (0 : Int)) = AV.int IntKind.i64 (List.getD l i (0 : Int))) ∧ (Pg.W p = Pg.W p) ∧ (Pg.win p = Pg.win p) ∧ Z
theorem frS8n2_mk (p : Pg) (l : List Int) (s : S7) {Z : Prop} (z : Z) : frS8n2 p l s Z := ⟨rfl, rfl, rfl, rfl, (fun _ _ _ _ => rfl), rfl, (fun _ _ _ _ => rfl), rfl, rfl, z⟩
theorem rs_reg0 (p : Pg) (pl : List Pl) (l : List Int) (s : S7) (k : Nat) (hk : k < pl.length) (hl : l.length = pl.length) (hp : pl.length < 1000000) (hr : (pl.getD k default).reg = true) (hn : (pl.getD k default).n = 0) : Vc (vcC Try.prog false (ntOf Try.prog 29) (lpC Try.prog 29 0) (rsS p pl l s k) [.b true, .cl [.int .i64 p.W, .int .i64 (l.getD k 0)] (.int .i64 (Wd.maskV p.W (l.getD k 0))) [], .b true, .ix 0] .nrm [(0, 0), (1, 1), (2, 2)] (rsS p pl l { s with r0 := Wd.maskV p.W (l.getD k 0) } (k + 1))) :=
  vc_of (q := (decide ((↑k : Int) < (↑(List.length pl) : Int)) = true) ∧ ((0 : Int) ≤ (↑k : Int) ∧ (↑k : Int) < (↑(List.length l) : Int)) ∧ (Pg.W p = Pg.W p) ∧ (List.getD l k (0 : Int) = List.getD l k (0 : Int)) ∧ (PureC Try.prog 41 [.int .i64 p.W, .int .i64 (l.getD k 0)] (.int .i64 (Wd.maskV p.W (l.getD k 0))) []) ∧ ((0 : Int) ≤ (↑k : Int) ∧ (↑k : Int) < (↑(List.length pl) : Int)) ∧ (Pl.reg (List.getD pl k Inhabited.default) = true) ∧ ((0 : Int) ≤ (↑k : Int) ∧ (↑k : Int) < (↑(List.length pl) : Int)) ∧ ((↑(Pl.n (List.getD pl k Inhabited.default)) : Int) = (↑(0 : Nat) : Int)) ∧ (inK IntKind.i64 ((↑k : Int) + (1 : Int))) ∧ ((0 : Int) = (0 : Int)) ∧ ((0 : Int) = (0 : Int)) ∧ ((0 : Int) = (0 : Int)) ∧ ((0 : Int) = (0 : Int)) ∧ ((0 : Int) = (0 : Int)) ∧ (Wd.maskV (Pg.W p) (List.getD l k (0 : Int)) = Wd.maskV (Pg.W p) (List.getD l k (0 : Int))) ∧ (S7.r1 s = S7.r1 s) ∧ (S7.r2 s = S7.r2 s) ∧ (S7.r3 s = S7.r3 s) ∧ (frS8n2 p l s ((frS8n1 p ((frS8n0 p pl (((↑k : Int) + (1 : Int) = (↑(k + (1 : Nat)) : Int)) ∧ True))))))) (by kernel_rfl)
    ⟨(decide_eq_true (by first | omega | (simp; omega) | (simp; done))),
 (by first | omega | rfl),
 rfl,
 rfl,
 rmaskC p.W (l.getD k 0),
 (by first | omega | rfl),
 hr,
 (by first | omega | rfl),
 (congrArg Int.ofNat hn),
 (in64 (by omega) (by omega)),
 rfl,
 rfl,
 rfl,
 rfl,
 rfl,
 rfl,
 rfl,
 rfl,
 rfl, (frS8n2_mk p l s (frS8n1_mk p (frS8n0_mk p pl ⟨(by first | omega | rfl), trivial⟩)))⟩
theorem rs_reg1 (p : Pg) (pl : List Pl) (l : List Int) (s : S7) (k : Nat) (hk : k < pl.length) (hl : l.length = pl.length) (hp : pl.length < 1000000) (hr : (pl.getD k default).reg = true) (hn : (pl.getD k default).n = 1) : Vc (vcC Try.prog false (ntOf Try.prog 29) (lpC Try.prog 29 0) (rsS p pl l s k) [.b true, .cl [.int .i64 p.W, .int .i64 (l.getD k 0)] (.int .i64 (Wd.maskV p.W (l.getD k 0))) [], .b true, .ix 1] .nrm [(0, 0), (1, 1), (2, 2)] (rsS p pl l { s with r1 := Wd.maskV p.W (l.getD k 0) } (k + 1))) :=
  vc_of (q := (decide ((↑k : Int) < (↑(List.length pl) : Int)) = true) ∧ ((0 : Int) ≤ (↑k : Int) ∧ (↑k : Int) < (↑(List.length l) : Int)) ∧ (Pg.W p = Pg.W p) ∧ (List.getD l k (0 : Int) = List.getD l k (0 : Int)) ∧ (PureC Try.prog 41 [.int .i64 p.W, .int .i64 (l.getD k 0)] (.int .i64 (Wd.maskV p.W (l.getD k 0))) []) ∧ ((0 : Int) ≤ (↑k : Int) ∧ (↑k : Int) < (↑(List.length pl) : Int)) ∧ (Pl.reg (List.getD pl k Inhabited.default) = true) ∧ ((0 : Int) ≤ (↑k : Int) ∧ (↑k : Int) < (↑(List.length pl) : Int)) ∧ ((↑(Pl.n (List.getD pl k Inhabited.default)) : Int) = (↑(1 : Nat) : Int)) ∧ (inK IntKind.i64 ((↑k : Int) + (1 : Int))) ∧ ((0 : Int) = (0 : Int)) ∧ ((0 : Int) = (0 : Int)) ∧ ((0 : Int) = (0 : Int)) ∧ ((0 : Int) = (0 : Int)) ∧ ((0 : Int) = (0 : Int)) ∧ (S7.r0 s = S7.r0 s) ∧ (Wd.maskV (Pg.W p) (List.getD l k (0 : Int)) = Wd.maskV (Pg.W p) (List.getD l k (0 : Int))) ∧ (S7.r2 s = S7.r2 s) ∧ (S7.r3 s = S7.r3 s) ∧ (frS8n2 p l s ((frS8n1 p ((frS8n0 p pl (((↑k : Int) + (1 : Int) = (↑(k + (1 : Nat)) : Int)) ∧ True))))))) (by kernel_rfl)
    ⟨(decide_eq_true (by first | omega | (simp; omega) | (simp; done))),
 (by first | omega | rfl),
 rfl,
 rfl,
 rmaskC p.W (l.getD k 0),
 (by first | omega | rfl),
 hr,
 (by first | omega | rfl),
 (congrArg Int.ofNat hn),
 (in64 (by omega) (by omega)),
 rfl,
 rfl,
 rfl,
 rfl,
 rfl,
 rfl,
 rfl,
 rfl,
 rfl, (frS8n2_mk p l s (frS8n1_mk p (frS8n0_mk p pl ⟨(by first | omega | rfl), trivial⟩)))⟩
theorem rs_reg2 (p : Pg) (pl : List Pl) (l : List Int) (s : S7) (k : Nat) (hk : k < pl.length) (hl : l.length = pl.length) (hp : pl.length < 1000000) (hr : (pl.getD k default).reg = true) (hn : (pl.getD k default).n = 2) : Vc (vcC Try.prog false (ntOf Try.prog 29) (lpC Try.prog 29 0) (rsS p pl l s k) [.b true, .cl [.int .i64 p.W, .int .i64 (l.getD k 0)] (.int .i64 (Wd.maskV p.W (l.getD k 0))) [], .b true, .ix 2] .nrm [(0, 0), (1, 1), (2, 2)] (rsS p pl l { s with r2 := Wd.maskV p.W (l.getD k 0) } (k + 1))) :=
  vc_of (q := (decide ((↑k : Int) < (↑(List.length pl) : Int)) = true) ∧ ((0 : Int) ≤ (↑k : Int) ∧ (↑k : Int) < (↑(List.length l) : Int)) ∧ (Pg.W p = Pg.W p) ∧ (List.getD l k (0 : Int) = List.getD l k (0 : Int)) ∧ (PureC Try.prog 41 [.int .i64 p.W, .int .i64 (l.getD k 0)] (.int .i64 (Wd.maskV p.W (l.getD k 0))) []) ∧ ((0 : Int) ≤ (↑k : Int) ∧ (↑k : Int) < (↑(List.length pl) : Int)) ∧ (Pl.reg (List.getD pl k Inhabited.default) = true) ∧ ((0 : Int) ≤ (↑k : Int) ∧ (↑k : Int) < (↑(List.length pl) : Int)) ∧ ((↑(Pl.n (List.getD pl k Inhabited.default)) : Int) = (↑(2 : Nat) : Int)) ∧ (inK IntKind.i64 ((↑k : Int) + (1 : Int))) ∧ ((0 : Int) = (0 : Int)) ∧ ((0 : Int) = (0 : Int)) ∧ ((0 : Int) = (0 : Int)) ∧ ((0 : Int) = (0 : Int)) ∧ ((0 : Int) = (0 : Int)) ∧ (S7.r0 s = S7.r0 s) ∧ (S7.r1 s = S7.r1 s) ∧ (Wd.maskV (Pg.W p) (List.getD l k (0 : Int)) = Wd.maskV (Pg.W p) (List.getD l k (0 : Int))) ∧ (S7.r3 s = S7.r3 s) ∧ (frS8n2 p l s ((frS8n1 p ((frS8n0 p pl (((↑k : Int) + (1 : Int) = (↑(k + (1 : Nat)) : Int)) ∧ True))))))) (by kernel_rfl)
    ⟨(decide_eq_true (by first | omega | (simp; omega) | (simp; done))),
 (by first | omega | rfl),
 rfl,
 rfl,
 rmaskC p.W (l.getD k 0),
 (by first | omega | rfl),
 hr,
 (by first | omega | rfl),
 (congrArg Int.ofNat hn),
 (in64 (by omega) (by omega)),
 rfl,
 rfl,
 rfl,
 rfl,
 rfl,
 rfl,
 rfl,
 rfl,
 rfl, (frS8n2_mk p l s (frS8n1_mk p (frS8n0_mk p pl ⟨(by first | omega | rfl), trivial⟩)))⟩
theorem rs_reg3 (p : Pg) (pl : List Pl) (l : List Int) (s : S7) (k : Nat) (hk : k < pl.length) (hl : l.length = pl.length) (hp : pl.length < 1000000) (hr : (pl.getD k default).reg = true) (hn : (pl.getD k default).n = 3) : Vc (vcC Try.prog false (ntOf Try.prog 29) (lpC Try.prog 29 0) (rsS p pl l s k) [.b true, .cl [.int .i64 p.W, .int .i64 (l.getD k 0)] (.int .i64 (Wd.maskV p.W (l.getD k 0))) [], .b true, .ix 3] .nrm [(0, 0), (1, 1), (2, 2)] (rsS p pl l { s with r3 := Wd.maskV p.W (l.getD k 0) } (k + 1))) :=
  vc_of (q := (decide ((↑k : Int) < (↑(List.length pl) : Int)) = true) ∧ ((0 : Int) ≤ (↑k : Int) ∧ (↑k : Int) < (↑(List.length l) : Int)) ∧ (Pg.W p = Pg.W p) ∧ (List.getD l k (0 : Int) = List.getD l k (0 : Int)) ∧ (PureC Try.prog 41 [.int .i64 p.W, .int .i64 (l.getD k 0)] (.int .i64 (Wd.maskV p.W (l.getD k 0))) []) ∧ ((0 : Int) ≤ (↑k : Int) ∧ (↑k : Int) < (↑(List.length pl) : Int)) ∧ (Pl.reg (List.getD pl k Inhabited.default) = true) ∧ ((0 : Int) ≤ (↑k : Int) ∧ (↑k : Int) < (↑(List.length pl) : Int)) ∧ ((↑(Pl.n (List.getD pl k Inhabited.default)) : Int) = (↑(3 : Nat) : Int)) ∧ (inK IntKind.i64 ((↑k : Int) + (1 : Int))) ∧ ((0 : Int) = (0 : Int)) ∧ ((0 : Int) = (0 : Int)) ∧ ((0 : Int) = (0 : Int)) ∧ ((0 : Int) = (0 : Int)) ∧ ((0 : Int) = (0 : Int)) ∧ (S7.r0 s = S7.r0 s) ∧ (S7.r1 s = S7.r1 s) ∧ (S7.r2 s = S7.r2 s) ∧ (Wd.maskV (Pg.W p) (List.getD l k (0 : Int)) = Wd.maskV (Pg.W p) (List.getD l k (0 : Int))) ∧ (frS8n2 p l s ((frS8n1 p ((frS8n0 p pl (((↑k : Int) + (1 : Int) = (↑(k + (1 : Nat)) : Int)) ∧ True))))))) (by kernel_rfl)
    ⟨(decide_eq_true (by first | omega | (simp; omega) | (simp; done))),
 (by first | omega | rfl),
 rfl,
 rfl,
 rmaskC p.W (l.getD k 0),
 (by first | omega | rfl),
 hr,
 (by first | omega | rfl),
 (congrArg Int.ofNat hn),
 (in64 (by omega) (by omega)),
 rfl,
 rfl,
 rfl,
 rfl,
 rfl,
 rfl,
 rfl,
 rfl,
 rfl, (frS8n2_mk p l s (frS8n1_mk p (frS8n0_mk p pl ⟨(by first | omega | rfl), trivial⟩)))⟩
def frS8n3 (p : Pg) (l : List Int) (Z : Prop) : Prop := (List.length l = List.length l) ∧ (∀ (i : Nat), i < List.length l → ∀ (j : Nat), j < (1 : Nat) → AV.int IntKind.i64 (List.getD l i (0 : Int)) = AV.int IntKind.i64 (List.getD l i (0 : Int))) ∧ (Pg.W p = Pg.W p) ∧ (Pg.win p = Pg.win p) ∧ (Pg.fuel p = Pg.fuel p) ∧ (Pg.r0 p = Pg.r0 p) ∧ (Pg.r1 p = Pg.r1 p) ∧ (Pg.r2 p = Pg.r2 p) ∧ (Pg.r3 p = Pg.r3 p) ∧ Z
theorem frS8n3_mk (p : Pg) (l : List Int) {Z : Prop} (z : Z) : frS8n3 p l Z := ⟨rfl, (fun _ _ _ _ => rfl), rfl, rfl, rfl, rfl, rfl, rfl, rfl, z⟩
def frS8n4 (s : S7) (Z : Prop) : Prop := ((0 : Int) = (0 : Int)) ∧ ((0 : Int) = (0 : Int)) ∧ ((0 : Int) = (0 : Int)) ∧ ((0 : Int) = (0 : Int)) ∧ ((0 : Int) = (0 : Int)) ∧ (S7.r0 s = S7.r0 s) ∧ (S7.r1 s = S7.r1 s) ∧ (S7.r2 s = S7.r2 s) ∧ (S7.r3 s = S7.r3 s) ∧ Z
theorem frS8n4_mk (s : S7) {Z : Prop} (z : Z) : frS8n4 s Z := ⟨rfl, rfl, rfl, rfl, rfl, rfl, rfl, rfl, rfl, z⟩
theorem rs_mem (p : Pg) (pl : List Pl) (l : List Int) (s : S7) (k : Nat) (hk : k < pl.length) (hl : l.length = pl.length) (hp : pl.length < 1000000) (hr : (pl.getD k default).reg = false) (hn : (pl.getD k default).n < s.m.length) : Vc (vcC Try.prog false (ntOf Try.prog 29) (lpC Try.prog 29 0) (rsS p pl l s k) [.b true, .cl [.int .i64 p.W, .int .i64 (l.getD k 0)] (.int .i64 (Wd.maskV p.W (l.getD k 0))) [], .b false] .nrm [(0, 0), (1, 1), (2, 2)] (rsS p pl l { s with m := s.m.set (pl.getD k default).n (Wd.maskV p.W (l.getD k 0)) } (k + 1))) :=
  vc_of (q := (decide ((↑k : Int) < (↑(List.length pl) : Int)) = true) ∧ ((0 : Int) ≤ (↑k : Int) ∧ (↑k : Int) < (↑(List.length l) : Int)) ∧ (Pg.W p = Pg.W p) ∧ (List.getD l k (0 : Int) = List.getD l k (0 : Int)) ∧ (PureC Try.prog 41 [.int .i64 p.W, .int .i64 (l.getD k 0)] (.int .i64 (Wd.maskV p.W (l.getD k 0))) []) ∧ ((0 : Int) ≤ (↑k : Int) ∧ (↑k : Int) < (↑(List.length pl) : Int)) ∧ (Pl.reg (List.getD pl k Inhabited.default) = false) ∧ ((0 : Int) ≤ (↑k : Int) ∧ (↑k : Int) < (↑(List.length pl) : Int)) ∧ ((0 : Int) ≤ (↑(Pl.n (List.getD pl k Inhabited.default)) : Int) ∧ (↑(Pl.n (List.getD pl k Inhabited.default)) : Int) < (↑(List.length (S7.m s)) : Int)) ∧ (Pl.n (List.getD pl k Inhabited.default) + (0 : Nat) < List.length (S7.m s)) ∧ (inK IntKind.i64 ((↑k : Int) + (1 : Int))) ∧ (frS8n4 s (((0 : Nat) = (0 : Nat)) ∧ (List.length (S7.m s) = List.length (List.set (S7.m s) (Pl.n (List.getD pl k Inhabited.default)) (Wd.maskV (Pg.W p) (List.getD l k (0 : Int))))) ∧ ((0 : Int) = (0 : Int)) ∧ (List.length (S7.m s) = List.length (List.set (S7.m s) (Pl.n (List.getD pl k Inhabited.default)) (Wd.maskV (Pg.W p) (List.getD l k (0 : Int))))) ∧ (∀ (i : Nat), i < List.length (S7.m s) → ∀ (j : Nat), j < (1 : Nat) → (bif Nat.beq i (Pl.n (List.getD pl k Inhabited.default) + (0 : Nat)) && Nat.ble (0 : Nat) j && Nat.blt j (1 : Nat) then List.getD [AV.int IntKind.i64 (Wd.maskV (Pg.W p) (List.getD l k (0 : Int)))] (j - (0 : Nat)) AV.junk else AV.int IntKind.i64 (List.getD (S7.m s) i (0 : Int))) = AV.int IntKind.i64 (List.getD (List.set (S7.m s) (Pl.n (List.getD pl k Inhabited.default)) (Wd.maskV (Pg.W p) (List.getD l k (0 : Int)))) i (0 : Int))) ∧ (frS8n3 p l ((List.length (Pg.ms p) = List.length (Pg.ms p)) ∧ (∀ (i : Nat), i < List.length (Pg.ms p) → ∀ (j : Nat), j < (3 : Nat) → rowL mmC (Pg.ms p) i j = rowL mmC (Pg.ms p) i j) ∧ (List.length (Pg.ls p) = List.length (Pg.ls p)) ∧ (∀ (i : Nat), i < List.length (Pg.ls p) → ∀ (j : Nat), j < (2 : Nat) → rowL lbC (Pg.ls p) i j = rowL lbC (Pg.ls p) i j) ∧ (List.length (Pg.is p) = List.length (Pg.is p)) ∧ (∀ (i : Nat), i < List.length (Pg.is p) → ∀ (j : Nat), j < (9 : Nat) → rowL inC (Pg.is p) i j = rowL inC (Pg.is p) i j) ∧ (false = false) ∧ (List.length pl = List.length pl) ∧ (∀ (i : Nat), i < List.length pl → ∀ (j : Nat), j < (3 : Nat) → rowL plC pl i j = rowL plC pl i j) ∧ ((↑k : Int) + (1 : Int) = (↑(k + (1 : Nat)) : Int)) ∧ True))))) (by kernel_rfl)
    ⟨(decide_eq_true (by first | omega | (simp; omega) | (simp; done))),
 (by first | omega | rfl),
 rfl,
 rfl,
 rmaskC p.W (l.getD k 0),
 (by first | omega | rfl),
 hr,
 (by first | omega | rfl),
 ⟨Int.natCast_nonneg _, Int.ofNat_lt.2 hn⟩,
 hn,
 (in64 (by omega) (by omega)), (frS8n4_mk s ⟨rfl,
 List.length_set.symm,
 rfl,
 List.length_set.symm,
 set_row, (frS8n3_mk p l ⟨rfl,
 (fun _ _ _ _ => rfl),
 rfl,
 (fun _ _ _ _ => rfl),
 rfl,
 (fun _ _ _ _ => rfl),
 rfl,
 rfl,
 (fun _ _ _ _ => rfl),
 (by first | omega | rfl), trivial⟩)⟩)⟩
theorem rs_end (p : Pg) (pl : List Pl) (l : List Int) (s : S7) : Vc (vcC Try.prog false (ntOf Try.prog 29) (lpC Try.prog 29 0) (rsS p pl l s pl.length) [.b false] (.ext 0) [(0, 0), (1, 1), (2, 2)] (rsS p pl l s pl.length)) :=
  vc_of (q := (decide ((↑(List.length pl) : Int) < (↑(List.length pl) : Int)) = false) ∧ (frS8n4 s ((frS8n2 p l s ((frS8n1 p ((List.length (Pg.is p) = List.length (Pg.is p)) ∧ (∀ (i : Nat), i < List.length (Pg.is p) → ∀ (j : Nat), j < (9 : Nat) → rowL inC (Pg.is p) i j = rowL inC (Pg.is p) i j) ∧ (false = false) ∧ (List.length pl = List.length pl) ∧ (∀ (i : Nat), i < List.length pl → ∀ (j : Nat), j < (3 : Nat) → rowL plC pl i j = rowL plC pl i j) ∧ ((↑(List.length pl) : Int) = (↑(List.length pl) : Int)) ∧ True))))))) (by kernel_rfl)
    ⟨(decide_eq_false (by first | omega | (simp; omega) | (simp; done))), (frS8n4_mk s (frS8n2_mk p l s (frS8n1_mk p ⟨rfl,
 (fun _ _ _ _ => rfl),
 rfl,
 rfl,
 (fun _ _ _ _ => rfl),
 rfl, trivial⟩)))⟩
theorem rs_loop (p : Pg) (pl : List Pl) (l : List Int) (s : S7) (hl : l.length = pl.length) (hp : pl.length < 1000000) (ho : ∀ x ∈ pl, plOk s.m.length x) : Ok Try.prog (ntOf Try.prog 29) (.loop (lpC Try.prog 29 0)) (rsS p pl l s 0).st (.ext 0) (rsS p pl l (putK p.W pl l s pl.length) pl.length).st :=
  Ok.loop (P := Try.prog) (nt := ntOf Try.prog 29) (c := lpC Try.prog 29 0) (F := fun k => rsS p pl l (putK p.W pl l s k) k) (m := pl.length) (x := .ext 0) (J := rsS p pl l (putK p.W pl l s pl.length) pl.length) (fun k hk => by
    have hm := putK_len p.W pl l s k
    obtain ⟨h1, h2⟩ := ho _ (getD_mem hk)
    show Ok _ _ _ _ _ (rsS p pl l (put7 (putK p.W pl l s k) (pl.getD k default) (Wd.maskV p.W (l.getD k 0))) (k + 1)).st
    cases hr : (pl.getD k default).reg with
    | true =>
      have hn := h1 hr
      unfold put7
      rw [if_pos hr]
      match hq : (pl.getD k default).n, hn with
      | 0, _ => exact Ok.vc (rs_reg0 p pl l _ k hk hl hp hr hq)
      | 1, _ => exact Ok.vc (rs_reg1 p pl l _ k hk hl hp hr hq)
      | 2, _ => exact Ok.vc (rs_reg2 p pl l _ k hk hl hp hr hq)
      | 3, _ => exact Ok.vc (rs_reg3 p pl l _ k hk hl hp hr hq)
    | false =>
      have hn := h2 hr
      unfold put7
      rw [if_neg (by rw [hr]; simp)]
      exact Ok.vc (rs_mem p pl l _ k hk hl hp hr (by rw [hm]; exact hn))) (Ok.vc (rs_end p pl l _)) (by simp)
/-- the state at the beginning, with l in the places -/
def stK (p : Pg) (l : List Int) : S7 := putK p.W (plF p) l (zer7 (sumN p.ms)) (plF p).length
theorem stK_len (p : Pg) (l : List Int) : (stK p l).m.length = sumN p.ms := by simp [stK, putK_len, zer7]
theorem plF_len {p : Pg} (h : OkP p) : (plF p).length ≤ 20 := by
  have := places_length (rg p.r0 p.r1 p.r2 p.r3) p.ms
  have := h.sum
  unfold plF
  omega
theorem plF_ok (p : Pg) : ∀ x ∈ plF p, plOk (sumN p.ms) x := places_ok _ _
def frS8n5  (Z : Prop) : Prop := ((0 : Int) = (0 : Int)) ∧ ((0 : Int) = (0 : Int)) ∧ ((0 : Int) = (0 : Int)) ∧ ((0 : Int) = (0 : Int)) ∧ ((0 : Int) = (0 : Int)) ∧ ((0 : Int) = (0 : Int)) ∧ ((0 : Int) = (0 : Int)) ∧ ((0 : Int) = (0 : Int)) ∧ ((0 : Int) = (0 : Int)) ∧ Z
theorem frS8n5_mk  {Z : Prop} (z : Z) : frS8n5  Z := ⟨rfl, rfl, rfl, rfl, rfl, rfl, rfl, rfl, rfl, z⟩
def frS8n6 (p : Pg) (Z : Prop) : Prop := (Pg.W p = Pg.W p) ∧ (Pg.r0 p = Pg.r0 p) ∧ (Pg.r1 p = Pg.r1 p) ∧ (Pg.r2 p = Pg.r2 p) ∧ (Pg.r3 p = Pg.r3 p) ∧ (List.length (Pg.ms p) = List.length (Pg.ms p)) ∧ (∀ (i : Nat), i < List.length (Pg.ms p) → ∀ (j : Nat), j < (3 : Nat) → rowL mmC (Pg.ms p) i j = rowL mmC (Pg.ms p) i j) ∧ Z
theorem frS8n6_mk (p : Pg) {Z : Prop} (z : Z) : frS8n6 p Z := ⟨rfl, rfl, rfl, rfl, rfl, rfl, (fun _ _ _ _ => rfl), z⟩
theorem rst_vc (p : Pg) (l : List Int) (hP : OkP p) (hl : l.length = (plF p).length) : Vc (vcFn Try.prog false 29 [.agg (pgA p), lR l] [.fz, .cl [.agg (progL p.W p.r0 p.r1 p.r2 p.r3 (memR p.ms))] (plR (plF p)) [], .b false, .cl [.agg (progL p.W p.r0 p.r1 p.r2 p.r3 (memR p.ms))] (.int .i64 (sumN p.ms)) [], .lp [(0, 1), (1, 3), (2, 2)] (rsS p (plF p) l (zer7 (sumN p.ms)) 0) (.ext 0) (rsS p (plF p) l (stK p l) (plF p).length)] [(0, 2)] (.tup [.agg (stC (stK p l) (.own 0 0 1 0 (stK p l).m.length)), .bool true]) [blkI (stK p l).m]) :=
  vc_of (q := (frS8n6 p ((PureC Try.prog 11 [.agg (progL p.W p.r0 p.r1 p.r2 p.r3 (memR p.ms))] (plR (plF p)) []) ∧ (((↑(List.length l) : Int) != (↑(List.length (plF p)) : Int)) = false) ∧ (frS8n6 p ((PureC Try.prog 46 [.agg (progL p.W p.r0 p.r1 p.r2 p.r3 (memR p.ms))] (.int .i64 (sumN p.ms)) []) ∧ ((0 : Int) ≤ (↑(sumN (Pg.ms p)) : Int) ∧ (↑(sumN (Pg.ms p)) : Int) ≤ (↑(sumN (Pg.ms p)) : Int) ∧ (↑(sumN (Pg.ms p)) : Int) * (↑(8 : Nat) : Int) ≤ (140737488355328 : Int) ∧ (↑(sumN (Pg.ms p)) : Int) ≤ (140737488355328 : Int)) ∧ (frS8n5  (((0 : Nat) = (0 : Nat)) ∧ (sumN (Pg.ms p) = List.length (List.replicate (sumN (Pg.ms p)) (0 : Int))) ∧ ((0 : Int) = (0 : Int)) ∧ (sumN (Pg.ms p) = List.length (List.replicate (sumN (Pg.ms p)) (0 : Int))) ∧ (∀ (i : Nat), i < sumN (Pg.ms p) → ∀ (j : Nat), j < (1 : Nat) → List.getD [AV.int IntKind.i64 (0 : Int)] j AV.junk = AV.int IntKind.i64 (List.getD (List.replicate (sumN (Pg.ms p)) (0 : Int)) i (0 : Int))) ∧ (frS8n3 p l ((List.length (Pg.ms p) = List.length (Pg.ms p)) ∧ (∀ (i : Nat), i < List.length (Pg.ms p) → ∀ (j : Nat), j < (3 : Nat) → rowL mmC (Pg.ms p) i j = rowL mmC (Pg.ms p) i j) ∧ (List.length (Pg.ls p) = List.length (Pg.ls p)) ∧ (∀ (i : Nat), i < List.length (Pg.ls p) → ∀ (j : Nat), j < (2 : Nat) → rowL lbC (Pg.ls p) i j = rowL lbC (Pg.ls p) i j) ∧ (List.length (Pg.is p) = List.length (Pg.is p)) ∧ (∀ (i : Nat), i < List.length (Pg.is p) → ∀ (j : Nat), j < (9 : Nat) → rowL inC (Pg.is p) i j = rowL inC (Pg.is p) i j) ∧ (false = false) ∧ (List.length (plF p) = List.length (plF p)) ∧ (∀ (i : Nat), i < List.length (plF p) → ∀ (j : Nat), j < (3 : Nat) → rowL plC (plF p) i j = rowL plC (plF p) i j) ∧ ((0 : Int) = (↑(0 : Nat) : Int)) ∧ (Ok Try.prog (ntOf Try.prog 29) (.loop (lpC Try.prog 29 0)) (rsS p (plF p) l (zer7 (sumN p.ms)) 0).st (.ext 0) (rsS p (plF p) l (stK p l) (plF p).length).st) ∧ (List.length (S7.m (stK p l)) = List.length (S7.m (stK p l))) ∧ (∀ (i : Nat), i < List.length (S7.m (stK p l)) → ∀ (j : Nat), j < (1 : Nat) → AV.int IntKind.i64 (List.getD (S7.m (stK p l)) i (0 : Int)) = AV.int IntKind.i64 (List.getD (S7.m (stK p l)) i (0 : Int))) ∧ (S7.r0 (stK p l) = S7.r0 (stK p l)) ∧ (S7.r1 (stK p l) = S7.r1 (stK p l)) ∧ (S7.r2 (stK p l) = S7.r2 (stK p l)) ∧ (S7.r3 (stK p l) = S7.r3 (stK p l)) ∧ ((0 : Nat) = (0 : Nat)) ∧ (List.length (S7.m (stK p l)) = List.length (S7.m (stK p l))) ∧ ((0 : Int) = (0 : Int)) ∧ (true = true) ∧ True))))))))) (by kernel_rfl)
    (frS8n6_mk p ⟨(refPlaces p.W p.r0 p.r1 p.r2 p.r3 p.ms (by have := hP.ms; omega) (by have := hP.sum; omega)).frozen,
 (by rw [hl]; simp), (frS8n6_mk p ⟨refCells p.W p.r0 p.r1 p.r2 p.r3 p.ms (by have := hP.ms; omega) (by have := hP.sum; omega),
 (by have := hP.sum; omega), (frS8n5_mk  ⟨rfl,
 (by simp [zer7, stK_len]),
 rfl,
 (by simp [zer7, stK_len]),
 (fun i hi j hj => (match j, hj with | 0, _ => rowI_rep rfl i 0 (by simpa using hi))), (frS8n3_mk p l ⟨rfl,
 (fun _ _ _ _ => rfl),
 rfl,
 (fun _ _ _ _ => rfl),
 rfl,
 (fun _ _ _ _ => rfl),
 rfl,
 rfl,
 (fun _ _ _ _ => rfl),
 (by first | omega | rfl),
 rs_loop p (plF p) l _ hl (by have := plF_len hP; omega) (by simpa [zer7] using plF_ok p),
 (by simp [zer7, stK_len]),
 (fun _ _ _ _ => rfl),
 rfl,
 rfl,
 rfl,
 rfl,
 rfl,
 (by simp [zer7, stK_len]),
 rfl,
 rfl, trivial⟩)⟩)⟩)⟩)
theorem rstartC (p : Pg) (l : List Int) (hP : OkP p) (hl : l.length = (plF p).length) : PureC Try.prog 29 [.agg (pgA p), lR l] (.tup [.agg (stC (stK p l) (.own 0 0 1 0 (stK p l).m.length)), .bool true]) [blkI (stK p l).m] := PureC.vc (rst_vc p l hP hl)
def xSt (pl : List Pl) (l : List Int) (how : Int) : Nat → List Int
  | 0 => List.replicate pl.length 0
  | k + 1 => if k < l.length then (xSt pl l how k).set k (l.getD k 0) else xSt pl l how k
def ySt (pl : List Pl) (l : List Int) (how : Int) : Nat → List Int
  | 0 => List.replicate pl.length 0
  | k + 1 => if k < l.length then (if (pl.getD k default).sec = true ∨ bits .and .i64 how 7 = 0 then ((ySt pl l how k).set k (l.getD k 0)).set k (Int.fdiv (l.getD k 0) (2 ^ 4)) else (ySt pl l how k).set k (l.getD k 0)) else ySt pl l how k
def ssS (p : Pg) (pl : List Pl) (l X Y : List Int) (how : Int) (k : Nat) : Sm := ⟨[(1, lR l), (2, .int .i64 how), (3, pgP p), (6, .bptr 0 0), (7, .bptr 1 0), (8, plR pl), (9, .own 2 0 1 0 X.length), (10, .own 3 0 1 0 Y.length), (25, .int .i64 pl.length), (26, .int .i64 k)],
  [(0, bx 31 (stZ .nils)), (1, bx 31 (stZ .nils)), (2, blkI X), (3, blkI Y)], 4⟩
theorem set_row2 {m : List Int} {n : Nat} {u v : Int} : ∀ i, i < m.length → ∀ j, j < 1 → (bif Nat.beq i (n + 0) && Nat.ble 0 j && Nat.blt j 1 then [AV.int .i64 v].getD (j - 0) .junk else (bif Nat.beq i (n + 0) && Nat.ble 0 j && Nat.blt j 1 then [AV.int .i64 u].getD (j - 0) .junk else AV.int .i64 (m.getD i 0))) = .int .i64 (((m.set n u).set n v).getD i 0) := by
  intro i hi j hj
  obtain rfl : j = 0 := by omega
  rw [List.set_set, set_row (m := m) (n := n) (v := u) i hi 0 (by omega)]
  have := set_row (m := m) (n := n) (v := v) i hi 0 (by omega)
  rw [← this]
  cases hb : Nat.beq i (n + 0) with
  | true => rfl
  | false =>
    have hne : ¬ i = n := fun e => by subst e; simp at hb
    show AV.int .i64 ((m.set n u).getD i 0) = AV.int .i64 (m.getD i 0)
    simp [List.getD, List.getElem?_set, Ne.symm hne]
def frS8n7 (p : Pg) (pl : List Pl) (Z : Prop) : Prop := (Pg.r3 p = Pg.r3 p) ∧ (List.length (Pg.ms p) = List.length (Pg.ms p)) ∧ (∀ (i : Nat), i < List.length (Pg.ms p) → ∀ (j : Nat), j < (3 : Nat) → rowL mmC (Pg.ms p) i j = rowL mmC (Pg.ms p) i j) ∧ (List.length (Pg.ls p) = List.length (Pg.ls p)) ∧ (∀ (i : Nat), i < List.length (Pg.ls p) → ∀ (j : Nat), j < (2 : Nat) → rowL lbC (Pg.ls p) i j = rowL lbC (Pg.ls p) i j) ∧ (List.length (Pg.is p) = List.length (Pg.is p)) ∧ (∀ (i : Nat), i < List.length (Pg.is p) → ∀ (j : Nat), j < (9 : Nat) → rowL inC (Pg.is p) i j = rowL inC (Pg.is p) i j) ∧ (List.length pl = List.length pl) ∧ (∀ (i : Nat), i < List.length pl → ∀ (j : Nat), j < (3 : Nat) → rowL plC pl i j = rowL plC pl i j) ∧ Z
theorem frS8n7_mk (p : Pg) (pl : List Pl) {Z : Prop} (z : Z) : frS8n7 p pl Z := ⟨rfl, rfl, (fun _ _ _ _ => rfl), rfl, (fun _ _ _ _ => rfl), rfl, (fun _ _ _ _ => rfl), rfl, (fun _ _ _ _ => rfl), z⟩
def frS8n8 (p : Pg) (l : List Int) (how : Int) (Z : Prop) : Prop := (List.length l = List.length l) ∧ (∀ (i : Nat), i < List.length l → ∀ (j : Nat), j < (1 : Nat) → AV.int IntKind.i64 (List.getD l i (0 : Int)) = AV.int IntKind.i64 (List.getD l i (0 : Int))) ∧ (how = how) ∧ (Pg.W p = Pg.W p) ∧ (Pg.win p = Pg.win p) ∧ (Pg.fuel p = Pg.fuel p) ∧ (Pg.r0 p = Pg.r0 p) ∧ (Pg.r1 p = Pg.r1 p) ∧ (Pg.r2 p = Pg.r2 p) ∧ Z
theorem frS8n8_mk (p : Pg) (l : List Int) (how : Int) {Z : Prop} (z : Z) : frS8n8 p l how Z := ⟨rfl, (fun _ _ _ _ => rfl), rfl, rfl, rfl, rfl, rfl, rfl, rfl, z⟩
theorem ss_out (p : Pg) (pl : List Pl) (l X Y : List Int) (how : Int) (k : Nat) (hk : k < pl.length) (hX : X.length = pl.length) (hY : Y.length = pl.length) (hp : pl.length < 1000) (hl : ¬ k < l.length) : Vc (vcC Try.prog false (ntOf Try.prog 10) (lpC Try.prog 10 0) (ssS p pl l X Y how k) [.b true, .b false] .nrm [(0, 0), (1, 1), (2, 2), (3, 3)] (ssS p pl l X Y how (k + 1))) :=
  vc_of (q := (decide ((↑k : Int) < (↑(List.length pl) : Int)) = true) ∧ (decide ((↑k : Int) < (↑(List.length l) : Int)) = false) ∧ (inK IntKind.i64 ((↑k : Int) + (1 : Int))) ∧ (frS8n5  (((0 : Int) = (0 : Int)) ∧ (List.length X = List.length X) ∧ (∀ (i : Nat), i < List.length X → ∀ (j : Nat), j < (1 : Nat) → AV.int IntKind.i64 (List.getD X i (0 : Int)) = AV.int IntKind.i64 (List.getD X i (0 : Int))) ∧ (List.length Y = List.length Y) ∧ (∀ (i : Nat), i < List.length Y → ∀ (j : Nat), j < (1 : Nat) → AV.int IntKind.i64 (List.getD Y i (0 : Int)) = AV.int IntKind.i64 (List.getD Y i (0 : Int))) ∧ (frS8n8 p l how ((frS8n7 p pl (((0 : Nat) = (0 : Nat)) ∧ (List.length X = List.length X) ∧ ((0 : Nat) = (0 : Nat)) ∧ (List.length Y = List.length Y) ∧ ((↑(List.length pl) : Int) = (↑(List.length pl) : Int)) ∧ ((↑k : Int) + (1 : Int) = (↑(k + (1 : Nat)) : Int)) ∧ True))))))) (by kernel_rfl)
    ⟨(decide_eq_true (by first | omega | (simp; omega) | (simp; done))),
 (decide_eq_false (by first | omega | (simp; omega) | (simp; done))),
 (in64 (by omega) (by omega)), (frS8n5_mk  ⟨rfl,
 rfl,
 (fun _ _ _ _ => rfl),
 rfl,
 (fun _ _ _ _ => rfl), (frS8n8_mk p l how (frS8n7_mk p pl ⟨rfl,
 rfl,
 rfl,
 rfl,
 rfl,
 (by first | omega | rfl), trivial⟩))⟩)⟩
theorem ss_sec (p : Pg) (pl : List Pl) (l X Y : List Int) (how : Int) (k : Nat) (hk : k < pl.length) (hX : X.length = pl.length) (hY : Y.length = pl.length) (hp : pl.length < 1000) (hl : k < l.length) (hs : (pl.getD k default).sec = true) : Vc (vcC Try.prog false (ntOf Try.prog 10) (lpC Try.prog 10 0) (ssS p pl l X Y how k) [.b true, .b true, .b true, .b true, .b true, .b true, .b true] .nrm [(0, 0), (1, 1), (2, 2), (3, 3)] (ssS p pl l (X.set k (l.getD k 0)) ((Y.set k (l.getD k 0)).set k (Int.fdiv (l.getD k 0) (2 ^ 4))) how (k + 1))) :=
  vc_of (q := (decide ((↑k : Int) < (↑(List.length pl) : Int)) = true) ∧ (decide ((↑k : Int) < (↑(List.length l) : Int)) = true) ∧ ((0 : Int) ≤ (↑k : Int) ∧ (↑k : Int) < (↑(List.length l) : Int)) ∧ ((0 : Int) ≤ (↑k : Int) ∧ (↑k : Int) < (↑(List.length l) : Int)) ∧ ((0 : Int) ≤ (↑k : Int) ∧ (↑k : Int) < (↑(List.length X) : Int)) ∧ (k + (0 : Nat) < List.length X) ∧ ((0 : Int) ≤ (↑k : Int) ∧ (↑k : Int) < (↑(List.length Y) : Int)) ∧ (k + (0 : Nat) < List.length Y) ∧ ((0 : Int) ≤ (↑k : Int) ∧ (↑k : Int) < (↑(List.length pl) : Int)) ∧ (Pl.sec (List.getD pl k Inhabited.default) = true) ∧ (Pl.sec (List.getD pl k Inhabited.default) = true) ∧ (Pl.sec (List.getD pl k Inhabited.default) = true) ∧ (Pl.sec (List.getD pl k Inhabited.default) = true) ∧ (true = true) ∧ ((0 : Int) ≤ (↑k : Int) ∧ (↑k : Int) < (↑(List.length l) : Int)) ∧ ((0 : Int) ≤ (4 : Int)) ∧ ((0 : Int) ≤ (↑k : Int) ∧ (↑k : Int) < (↑(List.length Y) : Int)) ∧ (k + (0 : Nat) < List.length Y) ∧ (inK IntKind.i64 ((↑k : Int) + (1 : Int))) ∧ (frS8n5  (((0 : Int) = (0 : Int)) ∧ (List.length X = List.length (List.set X k (List.getD l k (0 : Int)))) ∧ (∀ (i : Nat), i < List.length X → ∀ (j : Nat), j < (1 : Nat) → (bif Nat.beq i (k + (0 : Nat)) && Nat.ble (0 : Nat) j && Nat.blt j (1 : Nat) then List.getD [AV.int IntKind.i64 (List.getD l k (0 : Int))] (j - (0 : Nat)) AV.junk else AV.int IntKind.i64 (List.getD X i (0 : Int))) = AV.int IntKind.i64 (List.getD (List.set X k (List.getD l k (0 : Int))) i (0 : Int))) ∧ (List.length Y = List.length (List.set (List.set Y k (List.getD l k (0 : Int))) k (Int.fdiv (List.getD l k (0 : Int)) ((2 : Int) ^ (4 : Nat))))) ∧ (∀ (i : Nat), i < List.length Y → ∀ (j : Nat), j < (1 : Nat) → (bif Nat.beq i (k + (0 : Nat)) && Nat.ble (0 : Nat) j && Nat.blt j (1 : Nat) then List.getD [AV.int IntKind.i64 (Int.fdiv (List.getD l k (0 : Int)) ((2 : Int) ^ (4 : Nat)))] (j - (0 : Nat)) AV.junk else bif Nat.beq i (k + (0 : Nat)) && Nat.ble (0 : Nat) j && Nat.blt j (1 : Nat) then List.getD [AV.int IntKind.i64 (List.getD l k (0 : Int))] (j - (0 : Nat)) AV.junk else AV.int IntKind.i64 (List.getD Y i (0 : Int))) = AV.int IntKind.i64 (List.getD (List.set (List.set Y k (List.getD l k (0 : Int))) k (Int.fdiv (List.getD l k (0 : Int)) ((2 : Int) ^ (4 : Nat)))) i (0 : Int))) ∧ (frS8n8 p l how ((frS8n7 p pl (((0 : Nat) = (0 : Nat)) ∧ (List.length X = List.length (List.set X k (List.getD l k (0 : Int)))) ∧ ((0 : Nat) = (0 : Nat)) ∧ (List.length Y = List.length (List.set (List.set Y k (List.getD l k (0 : Int))) k (Int.fdiv (List.getD l k (0 : Int)) ((2 : Int) ^ (4 : Nat))))) ∧ ((↑(List.length pl) : Int) = (↑(List.length pl) : Int)) ∧ ((↑k : Int) + (1 : Int) = (↑(k + (1 : Nat)) : Int)) ∧ True))))))) (by kernel_rfl)
    ⟨(decide_eq_true (by first | omega | (simp; omega) | (simp; done))),
 (decide_eq_true (by first | omega | (simp; omega) | (simp; done))),
 (by first | omega | rfl),
 (by first | omega | rfl),
 (by first | omega | rfl),
 (by first | omega | rfl),
 (by first | omega | rfl),
 (by first | omega | rfl),
 (by first | omega | rfl),
 hs,
 hs,
 hs,
 hs,
 rfl,
 (by first | omega | rfl),
 (by first | omega | rfl),
 (by first | omega | rfl),
 (by first | omega | rfl),
 (in64 (by omega) (by omega)), (frS8n5_mk  ⟨rfl,
 (by simp),
 set_row,
 (by simp),
 set_row2, (frS8n8_mk p l how (frS8n7_mk p pl ⟨rfl,
 (by simp),
 rfl,
 (by simp),
 rfl,
 (by first | omega | rfl), trivial⟩))⟩)⟩
abbrev cS8n0 (pl : List Pl) (k : Nat) : Prop := (Pl.sec (List.getD pl k Inhabited.default) = false)
theorem ss_how (p : Pg) (pl : List Pl) (l X Y : List Int) (how : Int) (k : Nat) (hk : k < pl.length) (hX : X.length = pl.length) (hY : Y.length = pl.length) (hp : pl.length < 1000) (hl : k < l.length) (hs : (pl.getD k default).sec = false) (hh : bits .and .i64 how 7 = 0) : Vc (vcC Try.prog false (ntOf Try.prog 10) (lpC Try.prog 10 0) (ssS p pl l X Y how k) [.b true, .b true, .b false, .b false, .b false, .b false, .b true] .nrm [(0, 0), (1, 1), (2, 2), (3, 3)] (ssS p pl l (X.set k (l.getD k 0)) ((Y.set k (l.getD k 0)).set k (Int.fdiv (l.getD k 0) (2 ^ 4))) how (k + 1))) :=
  vc_of (q := (decide ((↑k : Int) < (↑(List.length pl) : Int)) = true) ∧ (decide ((↑k : Int) < (↑(List.length l) : Int)) = true) ∧ ((0 : Int) ≤ (↑k : Int) ∧ (↑k : Int) < (↑(List.length l) : Int)) ∧ ((0 : Int) ≤ (↑k : Int) ∧ (↑k : Int) < (↑(List.length l) : Int)) ∧ ((0 : Int) ≤ (↑k : Int) ∧ (↑k : Int) < (↑(List.length X) : Int)) ∧ (k + (0 : Nat) < List.length X) ∧ ((0 : Int) ≤ (↑k : Int) ∧ (↑k : Int) < (↑(List.length Y) : Int)) ∧ (k + (0 : Nat) < List.length Y) ∧ ((0 : Int) ≤ (↑k : Int) ∧ (↑k : Int) < (↑(List.length pl) : Int)) ∧ cS8n0 pl k ∧ cS8n0 pl k ∧ cS8n0 pl k ∧ cS8n0 pl k ∧ ((Go.bits Go.BinOp.and IntKind.i64 how (7 : Int) == (0 : Int)) = true) ∧ ((0 : Int) ≤ (↑k : Int) ∧ (↑k : Int) < (↑(List.length l) : Int)) ∧ ((0 : Int) ≤ (4 : Int)) ∧ ((0 : Int) ≤ (↑k : Int) ∧ (↑k : Int) < (↑(List.length Y) : Int)) ∧ (k + (0 : Nat) < List.length Y) ∧ (inK IntKind.i64 ((↑k : Int) + (1 : Int))) ∧ (frS8n5  (((0 : Int) = (0 : Int)) ∧ (List.length X = List.length (List.set X k (List.getD l k (0 : Int)))) ∧ (∀ (i : Nat), i < List.length X → ∀ (j : Nat), j < (1 : Nat) → (bif Nat.beq i (k + (0 : Nat)) && Nat.ble (0 : Nat) j && Nat.blt j (1 : Nat) then List.getD [AV.int IntKind.i64 (List.getD l k (0 : Int))] (j - (0 : Nat)) AV.junk else AV.int IntKind.i64 (List.getD X i (0 : Int))) = AV.int IntKind.i64 (List.getD (List.set X k (List.getD l k (0 : Int))) i (0 : Int))) ∧ (List.length Y = List.length (List.set (List.set Y k (List.getD l k (0 : Int))) k (Int.fdiv (List.getD l k (0 : Int)) ((2 : Int) ^ (4 : Nat))))) ∧ (∀ (i : Nat), i < List.length Y → ∀ (j : Nat), j < (1 : Nat) → (bif Nat.beq i (k + (0 : Nat)) && Nat.ble (0 : Nat) j && Nat.blt j (1 : Nat) then List.getD [AV.int IntKind.i64 (Int.fdiv (List.getD l k (0 : Int)) ((2 : Int) ^ (4 : Nat)))] (j - (0 : Nat)) AV.junk else bif Nat.beq i (k + (0 : Nat)) && Nat.ble (0 : Nat) j && Nat.blt j (1 : Nat) then List.getD [AV.int IntKind.i64 (List.getD l k (0 : Int))] (j - (0 : Nat)) AV.junk else AV.int IntKind.i64 (List.getD Y i (0 : Int))) = AV.int IntKind.i64 (List.getD (List.set (List.set Y k (List.getD l k (0 : Int))) k (Int.fdiv (List.getD l k (0 : Int)) ((2 : Int) ^ (4 : Nat)))) i (0 : Int))) ∧ (frS8n8 p l how ((frS8n7 p pl (((0 : Nat) = (0 : Nat)) ∧ (List.length X = List.length (List.set X k (List.getD l k (0 : Int)))) ∧ ((0 : Nat) = (0 : Nat)) ∧ (List.length Y = List.length (List.set (List.set Y k (List.getD l k (0 : Int))) k (Int.fdiv (List.getD l k (0 : Int)) ((2 : Int) ^ (4 : Nat))))) ∧ ((↑(List.length pl) : Int) = (↑(List.length pl) : Int)) ∧ ((↑k : Int) + (1 : Int) = (↑(k + (1 : Nat)) : Int)) ∧ True))))))) (by kernel_rfl)
    ⟨(decide_eq_true (by first | omega | (simp; omega) | (simp; done))),
 (decide_eq_true (by first | omega | (simp; omega) | (simp; done))),
 (by first | omega | rfl),
 (by first | omega | rfl),
 (by first | omega | rfl),
 (by first | omega | rfl),
 (by first | omega | rfl),
 (by first | omega | rfl),
 (by first | omega | rfl),
 hs,
 hs,
 hs,
 hs,
 (by rw [hh]; rfl),
 (by first | omega | rfl),
 (by first | omega | rfl),
 (by first | omega | rfl),
 (by first | omega | rfl),
 (in64 (by omega) (by omega)), (frS8n5_mk  ⟨rfl,
 (by simp),
 set_row,
 (by simp),
 set_row2, (frS8n8_mk p l how (frS8n7_mk p pl ⟨rfl,
 (by simp),
 rfl,
 (by simp),
 rfl,
 (by first | omega | rfl), trivial⟩))⟩)⟩
theorem ss_pub (p : Pg) (pl : List Pl) (l X Y : List Int) (how : Int) (k : Nat) (hk : k < pl.length) (hX : X.length = pl.length) (hY : Y.length = pl.length) (hp : pl.length < 1000) (hl : k < l.length) (hs : (pl.getD k default).sec = false) (hh : ¬ bits .and .i64 how 7 = 0) : Vc (vcC Try.prog false (ntOf Try.prog 10) (lpC Try.prog 10 0) (ssS p pl l X Y how k) [.b true, .b true, .b false, .b false, .b false, .b false, .b false] .nrm [(0, 0), (1, 1), (2, 2), (3, 3)] (ssS p pl l (X.set k (l.getD k 0)) (Y.set k (l.getD k 0)) how (k + 1))) :=
  vc_of (q := (decide ((↑k : Int) < (↑(List.length pl) : Int)) = true) ∧ (decide ((↑k : Int) < (↑(List.length l) : Int)) = true) ∧ ((0 : Int) ≤ (↑k : Int) ∧ (↑k : Int) < (↑(List.length l) : Int)) ∧ ((0 : Int) ≤ (↑k : Int) ∧ (↑k : Int) < (↑(List.length l) : Int)) ∧ ((0 : Int) ≤ (↑k : Int) ∧ (↑k : Int) < (↑(List.length X) : Int)) ∧ (k + (0 : Nat) < List.length X) ∧ ((0 : Int) ≤ (↑k : Int) ∧ (↑k : Int) < (↑(List.length Y) : Int)) ∧ (k + (0 : Nat) < List.length Y) ∧ ((0 : Int) ≤ (↑k : Int) ∧ (↑k : Int) < (↑(List.length pl) : Int)) ∧ cS8n0 pl k ∧ cS8n0 pl k ∧ cS8n0 pl k ∧ cS8n0 pl k ∧ ((Go.bits Go.BinOp.and IntKind.i64 how (7 : Int) == (0 : Int)) = false) ∧ (inK IntKind.i64 ((↑k : Int) + (1 : Int))) ∧ (frS8n5  (((0 : Int) = (0 : Int)) ∧ (List.length X = List.length (List.set X k (List.getD l k (0 : Int)))) ∧ (∀ (i : Nat), i < List.length X → ∀ (j : Nat), j < (1 : Nat) → (bif Nat.beq i (k + (0 : Nat)) && Nat.ble (0 : Nat) j && Nat.blt j (1 : Nat) then List.getD [AV.int IntKind.i64 (List.getD l k (0 : Int))] (j - (0 : Nat)) AV.junk else AV.int IntKind.i64 (List.getD X i (0 : Int))) = AV.int IntKind.i64 (List.getD (List.set X k (List.getD l k (0 : Int))) i (0 : Int))) ∧ (List.length Y = List.length (List.set Y k (List.getD l k (0 : Int)))) ∧ (∀ (i : Nat), i < List.length Y → ∀ (j : Nat), j < (1 : Nat) → (bif Nat.beq i (k + (0 : Nat)) && Nat.ble (0 : Nat) j && Nat.blt j (1 : Nat) then List.getD [AV.int IntKind.i64 (List.getD l k (0 : Int))] (j - (0 : Nat)) AV.junk else AV.int IntKind.i64 (List.getD Y i (0 : Int))) = AV.int IntKind.i64 (List.getD (List.set Y k (List.getD l k (0 : Int))) i (0 : Int))) ∧ (frS8n8 p l how ((frS8n7 p pl (((0 : Nat) = (0 : Nat)) ∧ (List.length X = List.length (List.set X k (List.getD l k (0 : Int)))) ∧ ((0 : Nat) = (0 : Nat)) ∧ (List.length Y = List.length (List.set Y k (List.getD l k (0 : Int)))) ∧ ((↑(List.length pl) : Int) = (↑(List.length pl) : Int)) ∧ ((↑k : Int) + (1 : Int) = (↑(k + (1 : Nat)) : Int)) ∧ True))))))) (by kernel_rfl)
    ⟨(decide_eq_true (by first | omega | (simp; omega) | (simp; done))),
 (decide_eq_true (by first | omega | (simp; omega) | (simp; done))),
 (by first | omega | rfl),
 (by first | omega | rfl),
 (by first | omega | rfl),
 (by first | omega | rfl),
 (by first | omega | rfl),
 (by first | omega | rfl),
 (by first | omega | rfl),
 hs,
 hs,
 hs,
 hs,
 (by simpa using hh),
 (in64 (by omega) (by omega)), (frS8n5_mk  ⟨rfl,
 (by simp),
 set_row,
 (by simp),
 set_row, (frS8n8_mk p l how (frS8n7_mk p pl ⟨rfl,
 (by simp),
 rfl,
 (by simp),
 rfl,
 (by first | omega | rfl), trivial⟩))⟩)⟩
theorem ss_end (p : Pg) (pl : List Pl) (l X Y : List Int) (how : Int) : Vc (vcC Try.prog false (ntOf Try.prog 10) (lpC Try.prog 10 0) (ssS p pl l X Y how pl.length) [.b false] (.ext 0) [(0, 0), (1, 1), (2, 2), (3, 3)] (ssS p pl l X Y how pl.length)) :=
  vc_of (q := (decide ((↑(List.length pl) : Int) < (↑(List.length pl) : Int)) = false) ∧ (frS8n5  (((0 : Int) = (0 : Int)) ∧ (List.length X = List.length X) ∧ (∀ (i : Nat), i < List.length X → ∀ (j : Nat), j < (1 : Nat) → AV.int IntKind.i64 (List.getD X i (0 : Int)) = AV.int IntKind.i64 (List.getD X i (0 : Int))) ∧ (List.length Y = List.length Y) ∧ (∀ (i : Nat), i < List.length Y → ∀ (j : Nat), j < (1 : Nat) → AV.int IntKind.i64 (List.getD Y i (0 : Int)) = AV.int IntKind.i64 (List.getD Y i (0 : Int))) ∧ (frS8n8 p l how ((frS8n7 p pl (((0 : Nat) = (0 : Nat)) ∧ (List.length X = List.length X) ∧ ((0 : Nat) = (0 : Nat)) ∧ (List.length Y = List.length Y) ∧ ((↑(List.length pl) : Int) = (↑(List.length pl) : Int)) ∧ ((↑(List.length pl) : Int) = (↑(List.length pl) : Int)) ∧ True))))))) (by kernel_rfl)
    ⟨(decide_eq_false (by first | omega | (simp; omega) | (simp; done))), (frS8n5_mk  ⟨rfl,
 rfl,
 (fun _ _ _ _ => rfl),
 rfl,
 (fun _ _ _ _ => rfl), (frS8n8_mk p l how (frS8n7_mk p pl ⟨rfl,
 rfl,
 rfl,
 rfl,
 rfl,
 rfl, trivial⟩))⟩)⟩
theorem xSt_len (pl : List Pl) (l : List Int) (how : Int) : ∀ k, (xSt pl l how k).length = pl.length
  | 0 => List.length_replicate
  | k + 1 => by
    unfold xSt
    split
    · rw [List.length_set, xSt_len pl l how k]
    · exact xSt_len pl l how k
theorem ySt_len (pl : List Pl) (l : List Int) (how : Int) : ∀ k, (ySt pl l how k).length = pl.length
  | 0 => List.length_replicate
  | k + 1 => by
    unfold ySt
    split
    · split
      · rw [List.length_set, List.length_set, ySt_len pl l how k]
      · rw [List.length_set, ySt_len pl l how k]
    · exact ySt_len pl l how k
theorem ss_loop (p : Pg) (pl : List Pl) (l : List Int) (how : Int) (hp : pl.length < 1000) : Ok Try.prog (ntOf Try.prog 10) (.loop (lpC Try.prog 10 0)) (ssS p pl l (List.replicate pl.length 0) (List.replicate pl.length 0) how 0).st (.ext 0) (ssS p pl l (xSt pl l how pl.length) (ySt pl l how pl.length) how pl.length).st :=
  Ok.loop (P := Try.prog) (nt := ntOf Try.prog 10) (c := lpC Try.prog 10 0) (F := fun k => ssS p pl l (xSt pl l how k) (ySt pl l how k) how k) (m := pl.length) (x := .ext 0) (J := ssS p pl l (xSt pl l how pl.length) (ySt pl l how pl.length) how pl.length) (fun k hk => by
    have hX := xSt_len pl l how k
    have hY := ySt_len pl l how k
    show Ok _ _ _ _ _ (ssS p pl l (xSt pl l how (k + 1)) (ySt pl l how (k + 1)) how (k + 1)).st
    have ex : xSt pl l how (k + 1) = if k < l.length then (xSt pl l how k).set k (l.getD k 0) else xSt pl l how k := rfl
    have ey : ySt pl l how (k + 1) = if k < l.length then (if (pl.getD k default).sec = true ∨ bits .and .i64 how 7 = 0 then ((ySt pl l how k).set k (l.getD k 0)).set k (Int.fdiv (l.getD k 0) (2 ^ 4)) else (ySt pl l how k).set k (l.getD k 0)) else ySt pl l how k := rfl
    rw [ex, ey]
    by_cases hl : k < l.length
    · rw [if_pos hl, if_pos hl]
      cases hs : (pl.getD k default).sec with
      | true => rw [if_pos (.inl rfl)]; exact Ok.vc (ss_sec p pl l _ _ how k hk hX hY hp hl hs)
      | false =>
        by_cases hh : bits .and .i64 how 7 = 0
        · rw [if_pos (.inr hh)]; exact Ok.vc (ss_how p pl l _ _ how k hk hX hY hp hl hs hh)
        · rw [if_neg (by rintro (h | h); exact absurd h (by simp); exact hh h)]; exact Ok.vc (ss_pub p pl l _ _ how k hk hX hY hp hl hs hh)
    · rw [if_neg hl, if_neg hl]
      exact Ok.vc (ss_out p pl l _ _ how k hk hX hY hp hl)) (Ok.vc (ss_end p pl l _ _ how)) (by simp)
def s8S (s : S7) : S8 := ⟨s.r0, s.r1, s.r2, s.r3, s.m, [], 0⟩
def xF (p : Pg) (l : List Int) : List Int := xSt (plF p) l 0 (plF p).length
def yF (p : Pg) (l : List Int) (how : Int) : List Int := ySt (plF p) l how (plF p).length
/-- the two states that a law takes -/
def sA (p : Pg) (l : List Int) : S8 := s8S (stK p (xF p l))
def sB (p : Pg) (l : List Int) (how : Int) : S8 := s8S (stK p (yF p l how))
def s8R (s : S8) : List AV := s8A s (lR s.m) (lR s.st)
def s8N (s : S8) : List AV := s8A s (lR s.m) .nils
theorem xSt_how (pl : List Pl) (l : List Int) (h h' : Int) : ∀ k, xSt pl l h k = xSt pl l h' k
  | 0 => rfl
  | k + 1 => by simp only [xSt, xSt_how pl l h h' k]
def frS8n9 (p : Pg) (Z : Prop) : Prop := (List.length (Pg.ls p) = List.length (Pg.ls p)) ∧ (∀ (i : Nat), i < List.length (Pg.ls p) → ∀ (j : Nat), j < (2 : Nat) → rowL lbC (Pg.ls p) i j = rowL lbC (Pg.ls p) i j) ∧ (List.length (Pg.is p) = List.length (Pg.is p)) ∧ (∀ (i : Nat), i < List.length (Pg.is p) → ∀ (j : Nat), j < (9 : Nat) → rowL inC (Pg.is p) i j = rowL inC (Pg.is p) i j) ∧ Z
theorem frS8n9_mk (p : Pg) {Z : Prop} (z : Z) : frS8n9 p Z := ⟨rfl, (fun _ _ _ _ => rfl), rfl, (fun _ _ _ _ => rfl), z⟩
def frS8n10 (p : Pg) (Z : Prop) : Prop := (Pg.W p = Pg.W p) ∧ (Pg.win p = Pg.win p) ∧ (Pg.fuel p = Pg.fuel p) ∧ (Pg.r0 p = Pg.r0 p) ∧ (Pg.r1 p = Pg.r1 p) ∧ (Pg.r2 p = Pg.r2 p) ∧ (Pg.r3 p = Pg.r3 p) ∧ (List.length (Pg.ms p) = List.length (Pg.ms p)) ∧ (∀ (i : Nat), i < List.length (Pg.ms p) → ∀ (j : Nat), j < (3 : Nat) → rowL mmC (Pg.ms p) i j = rowL mmC (Pg.ms p) i j) ∧ Z
theorem frS8n10_mk (p : Pg) {Z : Prop} (z : Z) : frS8n10 p Z := ⟨rfl, rfl, rfl, rfl, rfl, rfl, rfl, rfl, (fun _ _ _ _ => rfl), z⟩
theorem st_vc (p : Pg) (l : List Int) (how : Int) (hP : OkP p) : Vc (vcFn Try.prog false 10 [.agg (pgA p), lR l, .int .i64 how] [.fz, .cl [.agg (progL p.W p.r0 p.r1 p.r2 p.r3 (memR p.ms))] (plR (plF p)) [], .lp [(0, 1), (1, 2), (2, 3), (3, 4)] (ssS p (plF p) l (List.replicate (plF p).length 0) (List.replicate (plF p).length 0) how 0) (.ext 0) (ssS p (plF p) l (xSt (plF p) l how (plF p).length) (yF p l how) how (plF p).length), .cl [.agg (pgA p), lR (xSt (plF p) l how (plF p).length)] (.tup [.agg (stC (stK p (xSt (plF p) l how (plF p).length)) (lR (stK p (xSt (plF p) l how (plF p).length)).m)), .bool true]) [], .cl [.agg (pgA p), lR (yF p l how)] (.tup [.agg (stC (stK p (yF p l how)) (lR (stK p (yF p l how)).m)), .bool true]) [], .ll [4, 5]] [] (.tup [.agg (stC (stK p (xSt (plF p) l how (plF p).length)) (lR (stK p (xSt (plF p) l how (plF p).length)).m)), .agg (stC (stK p (yF p l how)) (lR (stK p (yF p l how)).m))]) []) :=
  vc_of (q := (frS8n6 p ((PureC Try.prog 11 [.agg (progL p.W p.r0 p.r1 p.r2 p.r3 (memR p.ms))] (plR (plF p)) []) ∧ ((0 : Int) ≤ (↑(List.length (plF p)) : Int) ∧ (↑(List.length (plF p)) : Int) ≤ (↑(List.length (plF p)) : Int) ∧ (↑(List.length (plF p)) : Int) * (↑(8 : Nat) : Int) ≤ (140737488355328 : Int) ∧ (↑(List.length (plF p)) : Int) ≤ (140737488355328 : Int)) ∧ ((0 : Int) ≤ (↑(List.length (plF p)) : Int) ∧ (↑(List.length (plF p)) : Int) ≤ (↑(List.length (plF p)) : Int) ∧ (↑(List.length (plF p)) : Int) * (↑(8 : Nat) : Int) ≤ (140737488355328 : Int) ∧ (↑(List.length (plF p)) : Int) ≤ (140737488355328 : Int)) ∧ (frS8n5  (((0 : Int) = (0 : Int)) ∧ (List.length (plF p) = List.length (List.replicate (List.length (plF p)) (0 : Int))) ∧ (∀ (i : Nat), i < List.length (plF p) → ∀ (j : Nat), j < (1 : Nat) → List.getD [AV.int IntKind.i64 (0 : Int)] j AV.junk = AV.int IntKind.i64 (List.getD (List.replicate (List.length (plF p)) (0 : Int)) i (0 : Int))) ∧ (List.length (plF p) = List.length (List.replicate (List.length (plF p)) (0 : Int))) ∧ (∀ (i : Nat), i < List.length (plF p) → ∀ (j : Nat), j < (1 : Nat) → List.getD [AV.int IntKind.i64 (0 : Int)] j AV.junk = AV.int IntKind.i64 (List.getD (List.replicate (List.length (plF p)) (0 : Int)) i (0 : Int))) ∧ (frS8n8 p l how ((Pg.r3 p = Pg.r3 p) ∧ (List.length (Pg.ms p) = List.length (Pg.ms p)) ∧ (∀ (i : Nat), i < List.length (Pg.ms p) → ∀ (j : Nat), j < (3 : Nat) → rowL mmC (Pg.ms p) i j = rowL mmC (Pg.ms p) i j) ∧ (List.length (Pg.ls p) = List.length (Pg.ls p)) ∧ (∀ (i : Nat), i < List.length (Pg.ls p) → ∀ (j : Nat), j < (2 : Nat) → rowL lbC (Pg.ls p) i j = rowL lbC (Pg.ls p) i j) ∧ (List.length (Pg.is p) = List.length (Pg.is p)) ∧ (∀ (i : Nat), i < List.length (Pg.is p) → ∀ (j : Nat), j < (9 : Nat) → rowL inC (Pg.is p) i j = rowL inC (Pg.is p) i j) ∧ (List.length (plF p) = List.length (plF p)) ∧ (∀ (i : Nat), i < List.length (plF p) → ∀ (j : Nat), j < (3 : Nat) → rowL plC (plF p) i j = rowL plC (plF p) i j) ∧ ((0 : Nat) = (0 : Nat)) ∧ (List.length (plF p) = List.length (List.replicate (List.length (plF p)) (0 : Int))) ∧ ((0 : Nat) = (0 : Nat)) ∧ (List.length (plF p) = List.length (List.replicate (List.length (plF p)) (0 : Int))) ∧ ((↑(List.length (plF p)) : Int) = (↑(List.length (plF p)) : Int)) ∧ ((0 : Int) = (↑(0 : Nat) : Int)) ∧ (Ok Try.prog (ntOf Try.prog 10) (.loop (lpC Try.prog 10 0)) (ssS p (plF p) l (List.replicate (plF p).length 0) (List.replicate (plF p).length 0) how 0).st (.ext 0) (ssS p (plF p) l (xSt (plF p) l how (plF p).length) (yF p l how) how (plF p).length).st) ∧ (frS8n10 p ((frS8n9 p ((List.length (xSt (plF p) l how (List.length (plF p))) = List.length (xSt (plF p) l how (List.length (plF p)))) ∧ (∀ (i : Nat), i < List.length (xSt (plF p) l how (List.length (plF p))) → ∀ (j : Nat), j < (1 : Nat) → AV.int IntKind.i64 (List.getD (xSt (plF p) l how (List.length (plF p))) (i + (0 : Nat)) (0 : Int)) = AV.int IntKind.i64 (List.getD (xSt (plF p) l how (List.length (plF p))) i (0 : Int))) ∧ (PureC Try.prog 29 [.agg (pgA p), lR (xSt (plF p) l how (plF p).length)] (.tup [.agg (stC (stK p (xSt (plF p) l how (plF p).length)) (lR (stK p (xSt (plF p) l how (plF p).length)).m)), .bool true]) []) ∧ (frS8n10 p ((frS8n9 p ((List.length (yF p l how) = List.length (yF p l how)) ∧ (∀ (i : Nat), i < List.length (yF p l how) → ∀ (j : Nat), j < (1 : Nat) → AV.int IntKind.i64 (List.getD (yF p l how) (i + (0 : Nat)) (0 : Int)) = AV.int IntKind.i64 (List.getD (yF p l how) i (0 : Int))) ∧ (PureC Try.prog 29 [.agg (pgA p), lR (yF p l how)] (.tup [.agg (stC (stK p (yF p l how)) (lR (stK p (yF p l how)).m)), .bool true]) []) ∧ (S7.r0 (stK p (xSt (plF p) l how (List.length (plF p)))) = S7.r0 (stK p (xSt (plF p) l how (List.length (plF p))))) ∧ (S7.r1 (stK p (xSt (plF p) l how (List.length (plF p)))) = S7.r1 (stK p (xSt (plF p) l how (List.length (plF p))))) ∧ (S7.r2 (stK p (xSt (plF p) l how (List.length (plF p)))) = S7.r2 (stK p (xSt (plF p) l how (List.length (plF p))))) ∧ (S7.r3 (stK p (xSt (plF p) l how (List.length (plF p)))) = S7.r3 (stK p (xSt (plF p) l how (List.length (plF p))))) ∧ (List.length (S7.m (stK p (xSt (plF p) l how (List.length (plF p))))) = List.length (S7.m (stK p (xSt (plF p) l how (List.length (plF p)))))) ∧ (∀ (i : Nat), i < List.length (S7.m (stK p (xSt (plF p) l how (List.length (plF p))))) → ∀ (j : Nat), j < (1 : Nat) → AV.int IntKind.i64 (List.getD (S7.m (stK p (xSt (plF p) l how (List.length (plF p))))) i (0 : Int)) = AV.int IntKind.i64 (List.getD (S7.m (stK p (xSt (plF p) l how (List.length (plF p))))) i (0 : Int))) ∧ ((0 : Int) = (0 : Int)) ∧ (S7.r0 (stK p (yF p l how)) = S7.r0 (stK p (yF p l how))) ∧ (S7.r1 (stK p (yF p l how)) = S7.r1 (stK p (yF p l how))) ∧ (S7.r2 (stK p (yF p l how)) = S7.r2 (stK p (yF p l how))) ∧ (S7.r3 (stK p (yF p l how)) = S7.r3 (stK p (yF p l how))) ∧ (List.length (S7.m (stK p (yF p l how))) = List.length (S7.m (stK p (yF p l how)))) ∧ (∀ (i : Nat), i < List.length (S7.m (stK p (yF p l how))) → ∀ (j : Nat), j < (1 : Nat) → AV.int IntKind.i64 (List.getD (S7.m (stK p (yF p l how))) i (0 : Int)) = AV.int IntKind.i64 (List.getD (S7.m (stK p (yF p l how))) i (0 : Int))) ∧ ((0 : Int) = (0 : Int)) ∧ True))))))))))))))) (by kernel_rfl)
    (frS8n6_mk p ⟨(refPlaces p.W p.r0 p.r1 p.r2 p.r3 p.ms (by have := hP.ms; omega) (by have := hP.sum; omega)).frozen,
 (by have := plF_len hP; omega),
 (by have := plF_len hP; omega), (frS8n5_mk  ⟨rfl,
 (by simp),
 (fun i hi j hj => (match j, hj with | 0, _ => rowI_rep rfl i 0 (by simpa using hi))),
 (by simp),
 (fun i hi j hj => (match j, hj with | 0, _ => rowI_rep rfl i 0 (by simpa using hi))), (frS8n8_mk p l how ⟨rfl,
 rfl,
 (fun _ _ _ _ => rfl),
 rfl,
 (fun _ _ _ _ => rfl),
 rfl,
 (fun _ _ _ _ => rfl),
 rfl,
 (fun _ _ _ _ => rfl),
 rfl,
 (by simp),
 rfl,
 (by simp),
 rfl,
 (by first | omega | rfl),
 ss_loop p (plF p) l how (by have := plF_len hP; omega), (frS8n10_mk p (frS8n9_mk p ⟨rfl,
 (fun _ _ _ _ => rfl),
 (rstartC p (xSt (plF p) l how (plF p).length) hP (xSt_len _ _ _ _)).frozen2, (frS8n10_mk p (frS8n9_mk p ⟨rfl,
 (fun _ _ _ _ => rfl),
 (rstartC p (yF p l how) hP (ySt_len _ _ _ _)).frozen2,
 rfl,
 rfl,
 rfl,
 rfl,
 rfl,
 (fun _ _ _ _ => rfl),
 rfl,
 rfl,
 rfl,
 rfl,
 rfl,
 rfl,
 (fun _ _ _ _ => rfl),
 rfl, trivial⟩))⟩))⟩)⟩)⟩)
theorem statesC (p : Pg) (l : List Int) (how : Int) (hP : OkP p) : PureC Try.prog 10 [.agg (pgA p), lR l, .int .i64 how] (.tup [.agg (s8N (sA p l)), .agg (s8N (sB p l how))]) [] := by
  have h := PureC.vc (st_vc p l how hP)
  rw [xSt_how (plF p) l how 0] at h
  exact h
end
end Go.Proofs.Ytjdiabjmphdhiaa.Px
namespace Go.Proofs.Ytjdiabjmphdhiaa.Px
section
open Go.RowKit Go.Proofs.Ytjdiabjmphdhiaa.Rx
def rgA (s : S8) : List AV := [.int .i64 s.r0, .int .i64 s.r1, .int .i64 s.r2, .int .i64 s.r3]
theorem and3 {n : Int} (h0 : 0 ≤ n) (h1 : n < 4) : bits .and .i64 n 3 = n := by
  have h := Wd.bits_mask n 2 (by omega)
  have h2 : bits .and .i64 n 3 = n % 4 := h
  rw [h2]; omega
theorem rv_r (p : Pg) (s : S8) (n : Int) (h0 : 0 ≤ n) (h1 : n < 4) : Vc (vcFn Try.prog false 40 [.agg (pgA p), .agg (rgA s), .agg [.bool true, .int .i64 n]] [.fv, .fv, .fv, .iz, .lv (.int .i64 (s.reg n))] [] (.int .i64 (s.reg n)) []) :=
  vc_of (q := ((0 : Int) ≤ Go.bits Go.BinOp.and IntKind.i64 n (3 : Int) ∧ Go.bits Go.BinOp.and IntKind.i64 n (3 : Int) < (↑(4 : Nat) : Int)) ∧ (partF Go.Proofs.Try.prog (3 : Nat) (4 : Nat) (fun (q : Nat) => List.getD [AV.int IntKind.i64 (S8.r0 s), AV.int IntKind.i64 (S8.r1 s), AV.int IntKind.i64 (S8.r2 s), AV.int IntKind.i64 (S8.r3 s)] q AV.junk) ((0 : Nat) + Int.toNat (Go.bits Go.BinOp.and IntKind.i64 n (3 : Int)) * (1 : Nat)) = Option.some (AV.int IntKind.i64 (S8.reg s n))) ∧ (S8.reg s n = S8.reg s n) ∧ True) (by kernel_rfl)
    ⟨(by rw [and3 h0 h1]; exact ⟨h0, h1⟩),
 (by rw [and3 h0 h1]; rcases four h0 h1 with rfl | rfl | rfl | rfl <;> kernel_rfl),
 rfl, trivial⟩
theorem rv_n (p : Pg) (s : S8) (n : Int) : Vc (vcFn Try.prog false 40 [.agg (pgA p), .agg (rgA s), .agg [.bool false, .int .i64 n]] [.fv, .fv, .fv, .cl [.int .i64 p.W, .int .i64 n] (.int .i64 (Wd.maskV p.W n)) []] [] (.int .i64 (Wd.maskV p.W n)) []) :=
  vc_of (q := (Pg.W p = Pg.W p) ∧ (n = n) ∧ (PureC Try.prog 41 [.int .i64 p.W, .int .i64 n] (.int .i64 (Wd.maskV p.W n)) []) ∧ (Wd.maskV (Pg.W p) n = Wd.maskV (Pg.W p) n) ∧ True) (by kernel_rfl)
    ⟨rfl,
 rfl,
 rmaskC p.W n,
 rfl, trivial⟩
theorem rvalC (p : Pg) (s : S8) (x : Vl) (hx : okV x) : PureC Try.prog 40 [.agg (pgA p), .agg (rgA s), .agg (vlA x)] (.int .i64 (vlV p.W s x)) [] := by
  obtain ⟨b, n⟩ := x
  cases b with
  | true => exact PureC.vc (rv_r p s n (hx rfl).1 (hx rfl).2)
  | false => exact PureC.vc (rv_n p s n)
theorem rj_vc (p : Pg) (n : Int) : Vc (vcFn Try.prog false 43 [.agg (pgA p), .int .i64 n] [.fv] [] (.int .i64 (if (p.is.length : Int) < n then (p.is.length : Int) else n)) []) :=
  vc_of (q := ((if (↑(List.length (Pg.is p)) : Int) < n then (↑(List.length (Pg.is p)) : Int) else n) = if (↑(List.length (Pg.is p)) : Int) < n then (↑(List.length (Pg.is p)) : Int) else n) ∧ True) (by kernel_rfl)
    ⟨(by first | omega | rfl), trivial⟩
theorem rjumpC (p : Pg) (n : Int) : PureC Try.prog 43 [.agg (pgA p), .int .i64 n] (.int .i64 (if (p.is.length : Int) < n then (p.is.length : Int) else n)) [] := PureC.vc (rj_vc p n)
theorem snoc0 {l : List Int} {x : Int} : ∀ i, i < 0 + l.length + 1 → ∀ j, j < 1 → (bif Nat.blt (i + 0) (0 + l.length) then AV.int .i64 (l.getD (i + 0 - 0) 0) else [AV.int .i64 x].getD ((i + 0 - (0 + l.length) + 0) * 1 + j) .junk) = .int .i64 ((l ++ [x]).getD i 0) := by
  intro i hi j hj
  rw [Nat.zero_add] at hi
  have h := snocI (x := x) i hi j hj
  simp only [Nat.add_zero, Nat.sub_zero, Nat.zero_add] at h ⊢
  exact h
theorem take0 {l : List Int} : ∀ i, i < Int.toNat (((0 + l.length : Nat) : Int) - 1) → ∀ j, j < 1 → AV.int .i64 (l.getD (i + 0 - 0) 0) = .int .i64 ((l.take (l.length - 1)).getD i 0) := by
  intro i hi j hj
  exact take_get i (by omega) j hj
theorem ret_ob {l : List Int} : ∀ i, i < 1 → ∀ j, j < 2 → [AV.int .i64 3, AV.int .i64 (l.getD (Int.toNat ((l.length : Int) - 1)) 0)].getD ((i + 0) * 2 + j) .junk = rowL obC [⟨3, l.getD (l.length - 1) 0⟩] i j := by
  rw [last_nat]
  exact fun i hi j hj => match i, hi, j, hj with | 0, _, 0, _ => rfl | 0, _, 1, _ => rfl
def frS8r0 (s : S8) (Z : Prop) : Prop := (List.length (S8.m s) = List.length (S8.m s)) ∧ (∀ (i : Nat), i < List.length (S8.m s) → ∀ (j : Nat), j < (1 : Nat) → AV.int IntKind.i64 (List.getD (S8.m s) (i + (0 : Nat) - (0 : Nat)) (0 : Int)) = AV.int IntKind.i64 (List.getD (S8.m s) i (0 : Int))) ∧ (List.length (S8.st s) = List.length (S8.st s)) ∧ (∀ (i : Nat), i < List.length (S8.st s) → ∀ (j : Nat), j < (1 : Nat) → AV.int IntKind.i64 (List.getD (S8.st s) (i + (0 : Nat) - (0 : Nat)) (0 : Int)) = AV.int IntKind.i64 (List.getD (S8.st s) i (0 : Int))) ∧ (S8.pc s + (1 : Int) = S8.pc s + (1 : Int)) ∧ ((0 : Nat) = (0 : Nat)) ∧ ((0 : Int) = (0 : Int)) ∧ Z
theorem frS8r0_mk (s : S8) {Z : Prop} (z : Z) : frS8r0 s Z := ⟨rfl, (fun _ _ _ _ => rfl), rfl, (fun _ _ _ _ => rfl), rfl, rfl, rfl, z⟩
def frS8r1 (p : Pg) (s : S8) (op : Int) (a : Vl) (b : Vl) (Z : Prop) : Prop := (Pg.W p = Pg.W p) ∧ (op = op) ∧ (vlV (Pg.W p) s a = vlV (Pg.W p) s a) ∧ (vlV (Pg.W p) s b = vlV (Pg.W p) s b) ∧ Z
theorem frS8r1_mk (p : Pg) (s : S8) (op : Int) (a : Vl) (b : Vl) {Z : Prop} (z : Z) : frS8r1 p s op a b Z := ⟨rfl, rfl, rfl, rfl, z⟩
abbrev cS8r0 (p : Pg) (s : S8) (a : Vl) (b : Vl) : Prop := (PureC Try.prog 41 [.int .i64 p.W, .int .i64 ((vlV p.W s a) + (vlV p.W s b))] (.int .i64 (Wd.maskV p.W ((vlV p.W s a) + (vlV p.W s b)))) [])
abbrev cS8r1 (p : Pg) (s : S8) (b : Vl) : Prop := (PureC Try.prog 40 [.agg (pgA p), .agg (rgA s), .agg (vlA b)] (.int .i64 (vlV p.W s b)) [])
def frS8r2 (p : Pg) (s : S8) (b : Vl) (Z : Prop) : Prop := (List.length (Pg.ls p) = List.length (Pg.ls p)) ∧ (∀ (i : Nat), i < List.length (Pg.ls p) → ∀ (j : Nat), j < (2 : Nat) → rowL lbC (Pg.ls p) i j = rowL lbC (Pg.ls p) i j) ∧ (List.length (Pg.is p) = List.length (Pg.is p)) ∧ (∀ (i : Nat), i < List.length (Pg.is p) → ∀ (j : Nat), j < (9 : Nat) → rowL inC (Pg.is p) i j = rowL inC (Pg.is p) i j) ∧ (S8.r0 s = S8.r0 s) ∧ (S8.r1 s = S8.r1 s) ∧ (S8.r2 s = S8.r2 s) ∧ (S8.r3 s = S8.r3 s) ∧ (Vl.reg b = Vl.reg b) ∧ Z
theorem frS8r2_mk (p : Pg) (s : S8) (b : Vl) {Z : Prop} (z : Z) : frS8r2 p s b Z := ⟨rfl, (fun _ _ _ _ => rfl), rfl, (fun _ _ _ _ => rfl), rfl, rfl, rfl, rfl, rfl, z⟩
def frS8r3 (p : Pg) (Z : Prop) : Prop := (Pg.W p = Pg.W p) ∧ (Pg.win p = Pg.win p) ∧ (Pg.fuel p = Pg.fuel p) ∧ (Pg.r0 p = Pg.r0 p) ∧ (Pg.r1 p = Pg.r1 p) ∧ (Pg.r2 p = Pg.r2 p) ∧ (Pg.r3 p = Pg.r3 p) ∧ (List.length (Pg.ms p) = List.length (Pg.ms p)) ∧ (∀ (i : Nat), i < List.length (Pg.ms p) → ∀ (j : Nat), j < (3 : Nat) → rowL mmC (Pg.ms p) i j = rowL mmC (Pg.ms p) i j) ∧ Z
theorem frS8r3_mk (p : Pg) {Z : Prop} (z : Z) : frS8r3 p Z := ⟨rfl, rfl, rfl, rfl, rfl, rfl, rfl, rfl, (fun _ _ _ _ => rfl), z⟩
abbrev cS8r2 (p : Pg) (s : S8) (a : Vl) : Prop := (PureC Try.prog 40 [.agg (pgA p), .agg (rgA s), .agg (vlA a)] (.int .i64 (vlV p.W s a)) [])
def frS8r4 (p : Pg) (s : S8) (a : Vl) (Z : Prop) : Prop := (List.length (Pg.ls p) = List.length (Pg.ls p)) ∧ (∀ (i : Nat), i < List.length (Pg.ls p) → ∀ (j : Nat), j < (2 : Nat) → rowL lbC (Pg.ls p) i j = rowL lbC (Pg.ls p) i j) ∧ (List.length (Pg.is p) = List.length (Pg.is p)) ∧ (∀ (i : Nat), i < List.length (Pg.is p) → ∀ (j : Nat), j < (9 : Nat) → rowL inC (Pg.is p) i j = rowL inC (Pg.is p) i j) ∧ (S8.r0 s = S8.r0 s) ∧ (S8.r1 s = S8.r1 s) ∧ (S8.r2 s = S8.r2 s) ∧ (S8.r3 s = S8.r3 s) ∧ (Vl.reg a = Vl.reg a) ∧ Z
theorem frS8r4_mk (p : Pg) (s : S8) (a : Vl) {Z : Prop} (z : Z) : frS8r4 p s a Z := ⟨rfl, (fun _ _ _ _ => rfl), rfl, (fun _ _ _ _ => rfl), rfl, rfl, rfl, rfl, rfl, z⟩
def frS8r5 (p : Pg) (s : S8) (Z : Prop) : Prop := (List.length (Pg.ls p) = List.length (Pg.ls p)) ∧ (∀ (i : Nat), i < List.length (Pg.ls p) → ∀ (j : Nat), j < (2 : Nat) → rowL lbC (Pg.ls p) i j = rowL lbC (Pg.ls p) i j) ∧ (List.length (Pg.is p) = List.length (Pg.is p)) ∧ (∀ (i : Nat), i < List.length (Pg.is p) → ∀ (j : Nat), j < (9 : Nat) → rowL inC (Pg.is p) i j = rowL inC (Pg.is p) i j) ∧ (S8.pc s = S8.pc s) ∧ Z
theorem frS8r5_mk (p : Pg) (s : S8) {Z : Prop} (z : Z) : frS8r5 p s Z := ⟨rfl, (fun _ _ _ _ => rfl), rfl, (fun _ _ _ _ => rfl), rfl, z⟩
theorem rs_alu (p : Pg) (s : S8) (op d tg : Int) (a b : Vl) (nm : ByteArray) (hm : s.m.length ≤ 1000) (hst : s.st.length ≤ 1000) (hp0 : -1 ≤ s.pc) (hp1 : s.pc < 1000000) (hs : okR s) (ha : okV a) (hb : okV b) (hA : PureC Try.prog 24 [.agg (pgA p), .int .i64 s.pc] (.agg (inA (⟨1, op, d, a, b, nm, tg⟩ : In))) []) (h0 : 0 ≤ d) (h1 : d < 4) : Vc (vcFn Try.prog false 21 [.agg (pgA p), .agg (s8R s)] [.fv, .fv, .cl [.agg (pgA p), .int .i64 s.pc] (.agg (inA (⟨1, op, d, a, b, nm, tg⟩ : In))) [], .cl [.agg (pgA p), .agg (rgA s), .agg (vlA a)] (.int .i64 (vlV p.W s a)) [], .cl [.agg (pgA p), .agg (rgA s), .agg (vlA b)] (.int .i64 (vlV p.W s b)) [], .cl [.int .i64 p.W, .int .i64 ((vlV p.W s a) + (vlV p.W s b))] (.int .i64 (Wd.maskV p.W ((vlV p.W s a) + (vlV p.W s b)))) [], .cl [.int .i64 p.W, .int .i64 op, .int .i64 (vlV p.W s a), .int .i64 (vlV p.W s b)] (.tup [.int .i64 (Wd.doV p.W op (vlV p.W s a) (vlV p.W s b)), .bool (Wd.doB p.W op)]) [], .iz, .sv (s8A ((s.go (s.pc + 1)).set d (Wd.doV p.W op (vlV p.W s a) (vlV p.W s b))) (.own 3 1 1 0 s.m.length) (.own 4 1 1 0 s.st.length))] [] (.tup [.agg (s8R ((s.go (s.pc + 1)).set d (Wd.doV p.W op (vlV p.W s a) (vlV p.W s b)))), obR [], .int .i64 0]) []) :=
  vc_of (q := (frS8r3 p ((frS8r5 p s ((PureC Try.prog 24 [.agg (pgA p), .int .i64 s.pc] (.agg (inA (⟨1, op, d, a, b, nm, tg⟩ : In))) []) ∧ (frS8r3 p ((frS8r4 p s a ((Vl.n a = Vl.n a) ∧ cS8r2 p s a ∧ (frS8r3 p ((frS8r2 p s b ((Vl.n b = Vl.n b) ∧ cS8r1 p s b ∧ ((0 : Nat) = (0 : Nat) ∧ (0 : Nat) = (0 : Nat) ∧ ((0 : Nat) + List.length (S8.m s)) * (8 : Nat) ≤ (140737488355328 : Nat) ∧ (0 : Nat) + List.length (S8.m s) ≤ (140737488355328 : Nat)) ∧ ((0 : Nat) = (0 : Nat) ∧ (0 : Nat) = (0 : Nat) ∧ ((0 : Nat) + List.length (S8.st s)) * (8 : Nat) ≤ (140737488355328 : Nat) ∧ (0 : Nat) + List.length (S8.st s) ≤ (140737488355328 : Nat)) ∧ (inK IntKind.i64 (S8.pc s + (1 : Int))) ∧ (inK IntKind.i64 (vlV (Pg.W p) s a + vlV (Pg.W p) s b)) ∧ (Pg.W p = Pg.W p) ∧ (vlV (Pg.W p) s a + vlV (Pg.W p) s b = vlV (Pg.W p) s a + vlV (Pg.W p) s b) ∧ cS8r0 p s a b ∧ (frS8r1 p s op a b ((PureC Try.prog 42 [.int .i64 p.W, .int .i64 op, .int .i64 (vlV p.W s a), .int .i64 (vlV p.W s b)] (.tup [.int .i64 (Wd.doV p.W op (vlV p.W s a) (vlV p.W s b)), .bool (Wd.doB p.W op)]) []) ∧ ((0 : Int) ≤ Go.bits Go.BinOp.and IntKind.i64 d (3 : Int) ∧ Go.bits Go.BinOp.and IntKind.i64 d (3 : Int) < (↑(4 : Nat) : Int)) ∧ ((0 : Nat) + Int.toNat (Go.bits Go.BinOp.and IntKind.i64 d (3 : Int)) * (1 : Nat) + (1 : Nat) ≤ (7 : Nat)) ∧ (setR [AV.int IntKind.i64 (S8.r0 s), AV.int IntKind.i64 (S8.r1 s), AV.int IntKind.i64 (S8.r2 s), AV.int IntKind.i64 (S8.r3 s), AV.own (nat_lit 3) (nat_lit 1) (nat_lit 1) (nat_lit 0) ((0 : Nat) + List.length (S8.m s)), AV.own (nat_lit 4) (nat_lit 1) (nat_lit 1) (nat_lit 0) ((0 : Nat) + List.length (S8.st s)), AV.int IntKind.i64 (S8.pc s + (1 : Int))] ((0 : Nat) + Int.toNat (Go.bits Go.BinOp.and IntKind.i64 d (3 : Int)) * (1 : Nat)) [AV.int IntKind.i64 (Wd.doV (Pg.W p) op (vlV (Pg.W p) s a) (vlV (Pg.W p) s b))] = [AV.int IntKind.i64 (if d = (0 : Int) then Wd.doV (Pg.W p) op (vlV (Pg.W p) s a) (vlV (Pg.W p) s b) else S8.r0 s), AV.int IntKind.i64 (if d = (1 : Int) then Wd.doV (Pg.W p) op (vlV (Pg.W p) s a) (vlV (Pg.W p) s b) else S8.r1 s), AV.int IntKind.i64 (if d = (2 : Int) then Wd.doV (Pg.W p) op (vlV (Pg.W p) s a) (vlV (Pg.W p) s b) else S8.r2 s), AV.int IntKind.i64 (if d = (3 : Int) then Wd.doV (Pg.W p) op (vlV (Pg.W p) s a) (vlV (Pg.W p) s b) else S8.r3 s), AV.own (nat_lit 3) (nat_lit 1) (nat_lit 1) (nat_lit 0) (List.length (S8.m s)), AV.own (nat_lit 4) (nat_lit 1) (nat_lit 1) (nat_lit 0) (List.length (S8.st s)), AV.int IntKind.i64 (S8.pc s + (1 : Int))]) ∧ ((if d = (0 : Int) then Wd.doV (Pg.W p) op (vlV (Pg.W p) s a) (vlV (Pg.W p) s b) else S8.r0 s) = if d = (0 : Int) then Wd.doV (Pg.W p) op (vlV (Pg.W p) s a) (vlV (Pg.W p) s b) else S8.r0 s) ∧ ((if d = (1 : Int) then Wd.doV (Pg.W p) op (vlV (Pg.W p) s a) (vlV (Pg.W p) s b) else S8.r1 s) = if d = (1 : Int) then Wd.doV (Pg.W p) op (vlV (Pg.W p) s a) (vlV (Pg.W p) s b) else S8.r1 s) ∧ ((if d = (2 : Int) then Wd.doV (Pg.W p) op (vlV (Pg.W p) s a) (vlV (Pg.W p) s b) else S8.r2 s) = if d = (2 : Int) then Wd.doV (Pg.W p) op (vlV (Pg.W p) s a) (vlV (Pg.W p) s b) else S8.r2 s) ∧ ((if d = (3 : Int) then Wd.doV (Pg.W p) op (vlV (Pg.W p) s a) (vlV (Pg.W p) s b) else S8.r3 s) = if d = (3 : Int) then Wd.doV (Pg.W p) op (vlV (Pg.W p) s a) (vlV (Pg.W p) s b) else S8.r3 s) ∧ (frS8r0 s (True))))))))))))))))) (by kernel_rfl)
    (frS8r3_mk p (frS8r5_mk p s ⟨hA, (frS8r3_mk p (frS8r4_mk p s a ⟨rfl,
 rvalC p s a ha, (frS8r3_mk p (frS8r2_mk p s b ⟨rfl,
 rvalC p s b hb,
 (by first | omega | rfl),
 (by first | omega | rfl),
 (in64 (by omega) (by omega)),
 (in64 (by have := vlV_bd (W := p.W) hs a; have := vlV_bd (W := p.W) hs b; omega) (by have := vlV_bd (W := p.W) hs a; have := vlV_bd (W := p.W) hs b; omega)),
 rfl,
 rfl,
 rmaskC p.W ((vlV p.W s a) + (vlV p.W s b)), (frS8r1_mk p s op a b ⟨rdoC p.W op (vlV p.W s a) (vlV p.W s b),
 (by rw [and3 h0 h1]; exact ⟨h0, h1⟩),
 (by rw [and3 h0 h1]; omega),
 (by rw [and3 h0 h1]; simp only [Nat.zero_add]; rcases four h0 h1 with rfl | rfl | rfl | rfl <;> rfl),
 (by first | omega | rfl | (simp; done) | (simp; omega)),
 (by first | omega | rfl | (simp; done) | (simp; omega)),
 (by first | omega | rfl | (simp; done) | (simp; omega)),
 (by first | omega | rfl | (simp; done) | (simp; omega)), (frS8r0_mk s trivial)⟩)⟩))⟩))⟩))
def frS8r6 (s : S8) (Z : Prop) : Prop := (∀ (i : Nat), i < (0 : Nat) + List.length (S8.st s) → ∀ (j : Nat), j < (1 : Nat) → AV.int IntKind.i64 (List.getD (S8.st s) (i + (0 : Nat) - (0 : Nat)) (0 : Int)) = AV.int IntKind.i64 (List.getD (S8.st s) i (0 : Int))) ∧ (S8.pc s + (1 : Int) = S8.pc s + (1 : Int)) ∧ ((0 : Nat) = (0 : Nat)) ∧ ((0 : Int) = (0 : Int)) ∧ Z
theorem frS8r6_mk (s : S8) {Z : Prop} (z : Z) : frS8r6 s Z := ⟨(fun _ _ _ _ => rfl), rfl, rfl, rfl, z⟩
def frS8r7 (s : S8) (Z : Prop) : Prop := (S8.r0 s = S8.r0 s) ∧ (S8.r1 s = S8.r1 s) ∧ (S8.r2 s = S8.r2 s) ∧ (S8.r3 s = S8.r3 s) ∧ Z
theorem frS8r7_mk (s : S8) {Z : Prop} (z : Z) : frS8r7 s Z := ⟨rfl, rfl, rfl, rfl, z⟩
theorem rs_cmov0 (p : Pg) (s : S8) (op d tg : Int) (a b : Vl) (nm : ByteArray) (hm : s.m.length ≤ 1000) (hst : s.st.length ≤ 1000) (hp0 : -1 ≤ s.pc) (hp1 : s.pc < 1000000) (hs : okR s) (ha : okV a) (hb : okV b) (hA : PureC Try.prog 24 [.agg (pgA p), .int .i64 s.pc] (.agg (inA (⟨4, op, d, a, b, nm, tg⟩ : In))) []) (hz : (vlV p.W s a) = 0) : Vc (vcFn Try.prog false 21 [.agg (pgA p), .agg (s8R s)] [.fv, .fv, .cl [.agg (pgA p), .int .i64 s.pc] (.agg (inA (⟨4, op, d, a, b, nm, tg⟩ : In))) [], .cl [.agg (pgA p), .agg (rgA s), .agg (vlA a)] (.int .i64 (vlV p.W s a)) [], .cl [.agg (pgA p), .agg (rgA s), .agg (vlA b)] (.int .i64 (vlV p.W s b)) [], .cl [.int .i64 p.W, .int .i64 ((vlV p.W s a) + (vlV p.W s b))] (.int .i64 (Wd.maskV p.W ((vlV p.W s a) + (vlV p.W s b)))) [], .b false, .b true, .b false] [] (.tup [.agg (s8R (s.go (s.pc + 1))), obR [], .int .i64 0]) []) :=
  vc_of (q := (frS8r3 p ((frS8r5 p s ((PureC Try.prog 24 [.agg (pgA p), .int .i64 s.pc] (.agg (inA (⟨4, op, d, a, b, nm, tg⟩ : In))) []) ∧ (frS8r3 p ((frS8r4 p s a ((Vl.n a = Vl.n a) ∧ cS8r2 p s a ∧ (frS8r3 p ((frS8r2 p s b ((Vl.n b = Vl.n b) ∧ cS8r1 p s b ∧ ((0 : Nat) = (0 : Nat) ∧ (0 : Nat) = (0 : Nat) ∧ ((0 : Nat) + List.length (S8.m s)) * (8 : Nat) ≤ (140737488355328 : Nat) ∧ (0 : Nat) + List.length (S8.m s) ≤ (140737488355328 : Nat)) ∧ ((0 : Nat) = (0 : Nat) ∧ (0 : Nat) = (0 : Nat) ∧ ((0 : Nat) + List.length (S8.st s)) * (8 : Nat) ≤ (140737488355328 : Nat) ∧ (0 : Nat) + List.length (S8.st s) ≤ (140737488355328 : Nat)) ∧ (inK IntKind.i64 (S8.pc s + (1 : Int))) ∧ (inK IntKind.i64 (vlV (Pg.W p) s a + vlV (Pg.W p) s b)) ∧ (Pg.W p = Pg.W p) ∧ (vlV (Pg.W p) s a + vlV (Pg.W p) s b = vlV (Pg.W p) s a + vlV (Pg.W p) s b) ∧ cS8r0 p s a b ∧ (((4 : Int) == (1 : Int)) = false) ∧ (((4 : Int) == (4 : Int)) = true) ∧ ((vlV (Pg.W p) s a != (0 : Int)) = false) ∧ (frS8r7 s (((0 : Nat) + List.length (S8.m s) = List.length (S8.m s)) ∧ (∀ (i : Nat), i < (0 : Nat) + List.length (S8.m s) → ∀ (j : Nat), j < (1 : Nat) → AV.int IntKind.i64 (List.getD (S8.m s) (i + (0 : Nat) - (0 : Nat)) (0 : Int)) = AV.int IntKind.i64 (List.getD (S8.m s) i (0 : Int))) ∧ ((0 : Nat) + List.length (S8.st s) = List.length (S8.st s)) ∧ (frS8r6 s (True))))))))))))))))) (by kernel_rfl)
    (frS8r3_mk p (frS8r5_mk p s ⟨hA, (frS8r3_mk p (frS8r4_mk p s a ⟨rfl,
 rvalC p s a ha, (frS8r3_mk p (frS8r2_mk p s b ⟨rfl,
 rvalC p s b hb,
 (by first | omega | rfl),
 (by first | omega | rfl),
 (in64 (by omega) (by omega)),
 (in64 (by have := vlV_bd (W := p.W) hs a; have := vlV_bd (W := p.W) hs b; omega) (by have := vlV_bd (W := p.W) hs a; have := vlV_bd (W := p.W) hs b; omega)),
 rfl,
 rfl,
 rmaskC p.W ((vlV p.W s a) + (vlV p.W s b)),
 (by first | omega | rfl | (simp; done) | (simp; omega)),
 (by first | omega | rfl | (simp; done) | (simp; omega)),
 (by rw [hz]; rfl), (frS8r7_mk s ⟨(by first | omega | rfl | (simp; done) | (simp; omega)),
 (fun _ _ _ _ => rfl),
 (by first | omega | rfl | (simp; done) | (simp; omega)), (frS8r6_mk s trivial)⟩)⟩))⟩))⟩))
theorem rs_cmov1 (p : Pg) (s : S8) (op d tg : Int) (a b : Vl) (nm : ByteArray) (hm : s.m.length ≤ 1000) (hst : s.st.length ≤ 1000) (hp0 : -1 ≤ s.pc) (hp1 : s.pc < 1000000) (hs : okR s) (ha : okV a) (hb : okV b) (hA : PureC Try.prog 24 [.agg (pgA p), .int .i64 s.pc] (.agg (inA (⟨4, op, d, a, b, nm, tg⟩ : In))) []) (hz : ¬ (vlV p.W s a) = 0) (h0 : 0 ≤ d) (h1 : d < 4) : Vc (vcFn Try.prog false 21 [.agg (pgA p), .agg (s8R s)] [.fv, .fv, .cl [.agg (pgA p), .int .i64 s.pc] (.agg (inA (⟨4, op, d, a, b, nm, tg⟩ : In))) [], .cl [.agg (pgA p), .agg (rgA s), .agg (vlA a)] (.int .i64 (vlV p.W s a)) [], .cl [.agg (pgA p), .agg (rgA s), .agg (vlA b)] (.int .i64 (vlV p.W s b)) [], .cl [.int .i64 p.W, .int .i64 ((vlV p.W s a) + (vlV p.W s b))] (.int .i64 (Wd.maskV p.W ((vlV p.W s a) + (vlV p.W s b)))) [], .b false, .b true, .b true, .iz, .sv (s8A ((s.go (s.pc + 1)).set d (vlV p.W s b)) (.own 3 1 1 0 s.m.length) (.own 4 1 1 0 s.st.length))] [] (.tup [.agg (s8R ((s.go (s.pc + 1)).set d (vlV p.W s b))), obR [], .int .i64 0]) []) :=
  vc_of (q := (frS8r3 p ((frS8r5 p s ((PureC Try.prog 24 [.agg (pgA p), .int .i64 s.pc] (.agg (inA (⟨4, op, d, a, b, nm, tg⟩ : In))) []) ∧ (frS8r3 p ((frS8r4 p s a ((Vl.n a = Vl.n a) ∧ cS8r2 p s a ∧ (frS8r3 p ((frS8r2 p s b ((Vl.n b = Vl.n b) ∧ cS8r1 p s b ∧ ((0 : Nat) = (0 : Nat) ∧ (0 : Nat) = (0 : Nat) ∧ ((0 : Nat) + List.length (S8.m s)) * (8 : Nat) ≤ (140737488355328 : Nat) ∧ (0 : Nat) + List.length (S8.m s) ≤ (140737488355328 : Nat)) ∧ ((0 : Nat) = (0 : Nat) ∧ (0 : Nat) = (0 : Nat) ∧ ((0 : Nat) + List.length (S8.st s)) * (8 : Nat) ≤ (140737488355328 : Nat) ∧ (0 : Nat) + List.length (S8.st s) ≤ (140737488355328 : Nat)) ∧ (inK IntKind.i64 (S8.pc s + (1 : Int))) ∧ (inK IntKind.i64 (vlV (Pg.W p) s a + vlV (Pg.W p) s b)) ∧ (Pg.W p = Pg.W p) ∧ (vlV (Pg.W p) s a + vlV (Pg.W p) s b = vlV (Pg.W p) s a + vlV (Pg.W p) s b) ∧ cS8r0 p s a b ∧ (((4 : Int) == (1 : Int)) = false) ∧ (((4 : Int) == (4 : Int)) = true) ∧ ((vlV (Pg.W p) s a != (0 : Int)) = true) ∧ ((0 : Int) ≤ Go.bits Go.BinOp.and IntKind.i64 d (3 : Int) ∧ Go.bits Go.BinOp.and IntKind.i64 d (3 : Int) < (↑(4 : Nat) : Int)) ∧ ((0 : Nat) + Int.toNat (Go.bits Go.BinOp.and IntKind.i64 d (3 : Int)) * (1 : Nat) + (1 : Nat) ≤ (7 : Nat)) ∧ (setR [AV.int IntKind.i64 (S8.r0 s), AV.int IntKind.i64 (S8.r1 s), AV.int IntKind.i64 (S8.r2 s), AV.int IntKind.i64 (S8.r3 s), AV.own (nat_lit 3) (nat_lit 1) (nat_lit 1) (nat_lit 0) ((0 : Nat) + List.length (S8.m s)), AV.own (nat_lit 4) (nat_lit 1) (nat_lit 1) (nat_lit 0) ((0 : Nat) + List.length (S8.st s)), AV.int IntKind.i64 (S8.pc s + (1 : Int))] ((0 : Nat) + Int.toNat (Go.bits Go.BinOp.and IntKind.i64 d (3 : Int)) * (1 : Nat)) [AV.int IntKind.i64 (vlV (Pg.W p) s b)] = [AV.int IntKind.i64 (if d = (0 : Int) then vlV (Pg.W p) s b else S8.r0 s), AV.int IntKind.i64 (if d = (1 : Int) then vlV (Pg.W p) s b else S8.r1 s), AV.int IntKind.i64 (if d = (2 : Int) then vlV (Pg.W p) s b else S8.r2 s), AV.int IntKind.i64 (if d = (3 : Int) then vlV (Pg.W p) s b else S8.r3 s), AV.own (nat_lit 3) (nat_lit 1) (nat_lit 1) (nat_lit 0) (List.length (S8.m s)), AV.own (nat_lit 4) (nat_lit 1) (nat_lit 1) (nat_lit 0) (List.length (S8.st s)), AV.int IntKind.i64 (S8.pc s + (1 : Int))]) ∧ ((if d = (0 : Int) then vlV (Pg.W p) s b else S8.r0 s) = if d = (0 : Int) then vlV (Pg.W p) s b else S8.r0 s) ∧ ((if d = (1 : Int) then vlV (Pg.W p) s b else S8.r1 s) = if d = (1 : Int) then vlV (Pg.W p) s b else S8.r1 s) ∧ ((if d = (2 : Int) then vlV (Pg.W p) s b else S8.r2 s) = if d = (2 : Int) then vlV (Pg.W p) s b else S8.r2 s) ∧ ((if d = (3 : Int) then vlV (Pg.W p) s b else S8.r3 s) = if d = (3 : Int) then vlV (Pg.W p) s b else S8.r3 s) ∧ (frS8r0 s (True))))))))))))))) (by kernel_rfl)
    (frS8r3_mk p (frS8r5_mk p s ⟨hA, (frS8r3_mk p (frS8r4_mk p s a ⟨rfl,
 rvalC p s a ha, (frS8r3_mk p (frS8r2_mk p s b ⟨rfl,
 rvalC p s b hb,
 (by first | omega | rfl),
 (by first | omega | rfl),
 (in64 (by omega) (by omega)),
 (in64 (by have := vlV_bd (W := p.W) hs a; have := vlV_bd (W := p.W) hs b; omega) (by have := vlV_bd (W := p.W) hs a; have := vlV_bd (W := p.W) hs b; omega)),
 rfl,
 rfl,
 rmaskC p.W ((vlV p.W s a) + (vlV p.W s b)),
 (by first | omega | rfl | (simp; done) | (simp; omega)),
 (by first | omega | rfl | (simp; done) | (simp; omega)),
 (bne_iff_ne.2 hz),
 (by rw [and3 h0 h1]; exact ⟨h0, h1⟩),
 (by rw [and3 h0 h1]; omega),
 (by rw [and3 h0 h1]; simp only [Nat.zero_add]; rcases four h0 h1 with rfl | rfl | rfl | rfl <;> rfl),
 (by first | omega | rfl | (simp; done) | (simp; omega)),
 (by first | omega | rfl | (simp; done) | (simp; omega)),
 (by first | omega | rfl | (simp; done) | (simp; omega)),
 (by first | omega | rfl | (simp; done) | (simp; omega)), (frS8r0_mk s trivial)⟩))⟩))⟩))
def frS8r8 (s : S8) (Z : Prop) : Prop := (S8.r0 s = S8.r0 s) ∧ (S8.r1 s = S8.r1 s) ∧ (S8.r2 s = S8.r2 s) ∧ (S8.r3 s = S8.r3 s) ∧ (List.length (S8.m s) = List.length (S8.m s)) ∧ (∀ (i : Nat), i < List.length (S8.m s) → ∀ (j : Nat), j < (1 : Nat) → AV.int IntKind.i64 (List.getD (S8.m s) i (0 : Int)) = AV.int IntKind.i64 (List.getD (S8.m s) i (0 : Int))) ∧ (List.length (S8.st s) = List.length (S8.st s)) ∧ (∀ (i : Nat), i < List.length (S8.st s) → ∀ (j : Nat), j < (1 : Nat) → AV.int IntKind.i64 (List.getD (S8.st s) i (0 : Int)) = AV.int IntKind.i64 (List.getD (S8.st s) i (0 : Int))) ∧ (S8.pc s = S8.pc s) ∧ Z
theorem frS8r8_mk (s : S8) {Z : Prop} (z : Z) : frS8r8 s Z := ⟨rfl, rfl, rfl, rfl, rfl, (fun _ _ _ _ => rfl), rfl, (fun _ _ _ _ => rfl), rfl, z⟩
theorem rs_load0 (p : Pg) (s : S8) (op d tg : Int) (a b : Vl) (nm : ByteArray) (hm : s.m.length ≤ 1000) (hst : s.st.length ≤ 1000) (hp0 : -1 ≤ s.pc) (hp1 : s.pc < 1000000) (hs : okR s) (ha : okV a) (hb : okV b) (hA : PureC Try.prog 24 [.agg (pgA p), .int .i64 s.pc] (.agg (inA (⟨2, op, d, a, b, nm, tg⟩ : In))) []) (hx : ¬ (Wd.maskV p.W ((vlV p.W s a) + (vlV p.W s b))) < s.m.length) : Vc (vcFn Try.prog false 21 [.agg (pgA p), .agg (s8R s)] [.fv, .fv, .cl [.agg (pgA p), .int .i64 s.pc] (.agg (inA (⟨2, op, d, a, b, nm, tg⟩ : In))) [], .cl [.agg (pgA p), .agg (rgA s), .agg (vlA a)] (.int .i64 (vlV p.W s a)) [], .cl [.agg (pgA p), .agg (rgA s), .agg (vlA b)] (.int .i64 (vlV p.W s b)) [], .cl [.int .i64 p.W, .int .i64 ((vlV p.W s a) + (vlV p.W s b))] (.int .i64 (Wd.maskV p.W ((vlV p.W s a) + (vlV p.W s b)))) [], .b false, .b false, .b true, .b true] [] (.tup [.agg (s8R s), obR [], .int .i64 2]) []) :=
  vc_of (q := (frS8r3 p ((frS8r5 p s ((PureC Try.prog 24 [.agg (pgA p), .int .i64 s.pc] (.agg (inA (⟨2, op, d, a, b, nm, tg⟩ : In))) []) ∧ (frS8r3 p ((frS8r4 p s a ((Vl.n a = Vl.n a) ∧ cS8r2 p s a ∧ (frS8r3 p ((frS8r2 p s b ((Vl.n b = Vl.n b) ∧ cS8r1 p s b ∧ ((0 : Nat) = (0 : Nat) ∧ (0 : Nat) = (0 : Nat) ∧ ((0 : Nat) + List.length (S8.m s)) * (8 : Nat) ≤ (140737488355328 : Nat) ∧ (0 : Nat) + List.length (S8.m s) ≤ (140737488355328 : Nat)) ∧ ((0 : Nat) = (0 : Nat) ∧ (0 : Nat) = (0 : Nat) ∧ ((0 : Nat) + List.length (S8.st s)) * (8 : Nat) ≤ (140737488355328 : Nat) ∧ (0 : Nat) + List.length (S8.st s) ≤ (140737488355328 : Nat)) ∧ (inK IntKind.i64 (S8.pc s + (1 : Int))) ∧ (inK IntKind.i64 (vlV (Pg.W p) s a + vlV (Pg.W p) s b)) ∧ (Pg.W p = Pg.W p) ∧ (vlV (Pg.W p) s a + vlV (Pg.W p) s b = vlV (Pg.W p) s a + vlV (Pg.W p) s b) ∧ cS8r0 p s a b ∧ (((2 : Int) == (1 : Int)) = false) ∧ (((2 : Int) == (4 : Int)) = false) ∧ (((2 : Int) == (2 : Int)) = true) ∧ (decide (Wd.maskV (Pg.W p) (vlV (Pg.W p) s a + vlV (Pg.W p) s b) ≥ (↑(List.length (S8.m s)) : Int)) = true) ∧ (frS8r8 s (((0 : Nat) = (0 : Nat)) ∧ ((2 : Int) = (2 : Int)) ∧ True))))))))))))))) (by kernel_rfl)
    (frS8r3_mk p (frS8r5_mk p s ⟨hA, (frS8r3_mk p (frS8r4_mk p s a ⟨rfl,
 rvalC p s a ha, (frS8r3_mk p (frS8r2_mk p s b ⟨rfl,
 rvalC p s b hb,
 (by first | omega | rfl),
 (by first | omega | rfl),
 (in64 (by omega) (by omega)),
 (in64 (by have := vlV_bd (W := p.W) hs a; have := vlV_bd (W := p.W) hs b; omega) (by have := vlV_bd (W := p.W) hs a; have := vlV_bd (W := p.W) hs b; omega)),
 rfl,
 rfl,
 rmaskC p.W ((vlV p.W s a) + (vlV p.W s b)),
 (by first | omega | rfl | (simp; done) | (simp; omega)),
 (by first | omega | rfl | (simp; done) | (simp; omega)),
 (by first | omega | rfl | (simp; done) | (simp; omega)),
 (decide_eq_true (by first | omega | (simp; omega) | (simp; done))), (frS8r8_mk s ⟨rfl,
 rfl, trivial⟩)⟩))⟩))⟩))
theorem rs_store0 (p : Pg) (s : S8) (op d tg : Int) (a b : Vl) (nm : ByteArray) (hm : s.m.length ≤ 1000) (hst : s.st.length ≤ 1000) (hp0 : -1 ≤ s.pc) (hp1 : s.pc < 1000000) (hs : okR s) (ha : okV a) (hb : okV b) (hA : PureC Try.prog 24 [.agg (pgA p), .int .i64 s.pc] (.agg (inA (⟨3, op, d, a, b, nm, tg⟩ : In))) []) (hx : ¬ (Wd.maskV p.W ((vlV p.W s a) + (vlV p.W s b))) < s.m.length) : Vc (vcFn Try.prog false 21 [.agg (pgA p), .agg (s8R s)] [.fv, .fv, .cl [.agg (pgA p), .int .i64 s.pc] (.agg (inA (⟨3, op, d, a, b, nm, tg⟩ : In))) [], .cl [.agg (pgA p), .agg (rgA s), .agg (vlA a)] (.int .i64 (vlV p.W s a)) [], .cl [.agg (pgA p), .agg (rgA s), .agg (vlA b)] (.int .i64 (vlV p.W s b)) [], .cl [.int .i64 p.W, .int .i64 ((vlV p.W s a) + (vlV p.W s b))] (.int .i64 (Wd.maskV p.W ((vlV p.W s a) + (vlV p.W s b)))) [], .b false, .b false, .b false, .b true, .b true] [] (.tup [.agg (s8R s), obR [], .int .i64 2]) []) :=
  vc_of (q := (frS8r3 p ((frS8r5 p s ((PureC Try.prog 24 [.agg (pgA p), .int .i64 s.pc] (.agg (inA (⟨3, op, d, a, b, nm, tg⟩ : In))) []) ∧ (frS8r3 p ((frS8r4 p s a ((Vl.n a = Vl.n a) ∧ cS8r2 p s a ∧ (frS8r3 p ((frS8r2 p s b ((Vl.n b = Vl.n b) ∧ cS8r1 p s b ∧ ((0 : Nat) = (0 : Nat) ∧ (0 : Nat) = (0 : Nat) ∧ ((0 : Nat) + List.length (S8.m s)) * (8 : Nat) ≤ (140737488355328 : Nat) ∧ (0 : Nat) + List.length (S8.m s) ≤ (140737488355328 : Nat)) ∧ ((0 : Nat) = (0 : Nat) ∧ (0 : Nat) = (0 : Nat) ∧ ((0 : Nat) + List.length (S8.st s)) * (8 : Nat) ≤ (140737488355328 : Nat) ∧ (0 : Nat) + List.length (S8.st s) ≤ (140737488355328 : Nat)) ∧ (inK IntKind.i64 (S8.pc s + (1 : Int))) ∧ (inK IntKind.i64 (vlV (Pg.W p) s a + vlV (Pg.W p) s b)) ∧ (Pg.W p = Pg.W p) ∧ (vlV (Pg.W p) s a + vlV (Pg.W p) s b = vlV (Pg.W p) s a + vlV (Pg.W p) s b) ∧ cS8r0 p s a b ∧ (((3 : Int) == (1 : Int)) = false) ∧ (((3 : Int) == (4 : Int)) = false) ∧ (((3 : Int) == (2 : Int)) = false) ∧ (((3 : Int) == (3 : Int)) = true) ∧ (decide (Wd.maskV (Pg.W p) (vlV (Pg.W p) s a + vlV (Pg.W p) s b) ≥ (↑(List.length (S8.m s)) : Int)) = true) ∧ (frS8r8 s (((0 : Nat) = (0 : Nat)) ∧ ((2 : Int) = (2 : Int)) ∧ True))))))))))))))) (by kernel_rfl)
    (frS8r3_mk p (frS8r5_mk p s ⟨hA, (frS8r3_mk p (frS8r4_mk p s a ⟨rfl,
 rvalC p s a ha, (frS8r3_mk p (frS8r2_mk p s b ⟨rfl,
 rvalC p s b hb,
 (by first | omega | rfl),
 (by first | omega | rfl),
 (in64 (by omega) (by omega)),
 (in64 (by have := vlV_bd (W := p.W) hs a; have := vlV_bd (W := p.W) hs b; omega) (by have := vlV_bd (W := p.W) hs a; have := vlV_bd (W := p.W) hs b; omega)),
 rfl,
 rfl,
 rmaskC p.W ((vlV p.W s a) + (vlV p.W s b)),
 (by first | omega | rfl | (simp; done) | (simp; omega)),
 (by first | omega | rfl | (simp; done) | (simp; omega)),
 (by first | omega | rfl | (simp; done) | (simp; omega)),
 (by first | omega | rfl | (simp; done) | (simp; omega)),
 (decide_eq_true (by first | omega | (simp; omega) | (simp; done))), (frS8r8_mk s ⟨rfl,
 rfl, trivial⟩)⟩))⟩))⟩))
theorem rs_load1 (p : Pg) (s : S8) (op d tg : Int) (a b : Vl) (nm : ByteArray) (hm : s.m.length ≤ 1000) (hst : s.st.length ≤ 1000) (hp0 : -1 ≤ s.pc) (hp1 : s.pc < 1000000) (hs : okR s) (ha : okV a) (hb : okV b) (hA : PureC Try.prog 24 [.agg (pgA p), .int .i64 s.pc] (.agg (inA (⟨2, op, d, a, b, nm, tg⟩ : In))) []) (hx : (Wd.maskV p.W ((vlV p.W s a) + (vlV p.W s b))) < s.m.length) (h0 : 0 ≤ d) (h1 : d < 4) : Vc (vcFn Try.prog false 21 [.agg (pgA p), .agg (s8R s)] [.fv, .fv, .cl [.agg (pgA p), .int .i64 s.pc] (.agg (inA (⟨2, op, d, a, b, nm, tg⟩ : In))) [], .cl [.agg (pgA p), .agg (rgA s), .agg (vlA a)] (.int .i64 (vlV p.W s a)) [], .cl [.agg (pgA p), .agg (rgA s), .agg (vlA b)] (.int .i64 (vlV p.W s b)) [], .cl [.int .i64 p.W, .int .i64 ((vlV p.W s a) + (vlV p.W s b))] (.int .i64 (Wd.maskV p.W ((vlV p.W s a) + (vlV p.W s b)))) [], .b false, .b false, .b true, .b false, .iz, .sv (s8A ((s.go (s.pc + 1)).set d (s.m.getD (Wd.maskV p.W ((vlV p.W s a) + (vlV p.W s b))).toNat 0)) (.own 3 1 1 0 s.m.length) (.own 4 1 1 0 s.st.length))] [] (.tup [.agg (s8R ((s.go (s.pc + 1)).set d (s.m.getD (Wd.maskV p.W ((vlV p.W s a) + (vlV p.W s b))).toNat 0))), obR [⟨1, (Wd.maskV p.W ((vlV p.W s a) + (vlV p.W s b)))⟩], .int .i64 0]) []) :=
  vc_of (q := (frS8r3 p ((frS8r5 p s ((PureC Try.prog 24 [.agg (pgA p), .int .i64 s.pc] (.agg (inA (⟨2, op, d, a, b, nm, tg⟩ : In))) []) ∧ (frS8r3 p ((frS8r4 p s a ((Vl.n a = Vl.n a) ∧ cS8r2 p s a ∧ (frS8r3 p ((frS8r2 p s b ((Vl.n b = Vl.n b) ∧ cS8r1 p s b ∧ ((0 : Nat) = (0 : Nat) ∧ (0 : Nat) = (0 : Nat) ∧ ((0 : Nat) + List.length (S8.m s)) * (8 : Nat) ≤ (140737488355328 : Nat) ∧ (0 : Nat) + List.length (S8.m s) ≤ (140737488355328 : Nat)) ∧ ((0 : Nat) = (0 : Nat) ∧ (0 : Nat) = (0 : Nat) ∧ ((0 : Nat) + List.length (S8.st s)) * (8 : Nat) ≤ (140737488355328 : Nat) ∧ (0 : Nat) + List.length (S8.st s) ≤ (140737488355328 : Nat)) ∧ (inK IntKind.i64 (S8.pc s + (1 : Int))) ∧ (inK IntKind.i64 (vlV (Pg.W p) s a + vlV (Pg.W p) s b)) ∧ (Pg.W p = Pg.W p) ∧ (vlV (Pg.W p) s a + vlV (Pg.W p) s b = vlV (Pg.W p) s a + vlV (Pg.W p) s b) ∧ cS8r0 p s a b ∧ (((2 : Int) == (1 : Int)) = false) ∧ (((2 : Int) == (4 : Int)) = false) ∧ (((2 : Int) == (2 : Int)) = true) ∧ (decide (Wd.maskV (Pg.W p) (vlV (Pg.W p) s a + vlV (Pg.W p) s b) ≥ (↑(List.length (S8.m s)) : Int)) = false) ∧ ((0 : Int) ≤ Wd.maskV (Pg.W p) (vlV (Pg.W p) s a + vlV (Pg.W p) s b) ∧ Wd.maskV (Pg.W p) (vlV (Pg.W p) s a + vlV (Pg.W p) s b) < (↑(List.length (S8.m s)) : Int)) ∧ ((0 : Int) ≤ Go.bits Go.BinOp.and IntKind.i64 d (3 : Int) ∧ Go.bits Go.BinOp.and IntKind.i64 d (3 : Int) < (↑(4 : Nat) : Int)) ∧ ((0 : Nat) + Int.toNat (Go.bits Go.BinOp.and IntKind.i64 d (3 : Int)) * (1 : Nat) + (1 : Nat) ≤ (7 : Nat)) ∧ (setR [AV.int IntKind.i64 (S8.r0 s), AV.int IntKind.i64 (S8.r1 s), AV.int IntKind.i64 (S8.r2 s), AV.int IntKind.i64 (S8.r3 s), AV.own (nat_lit 3) (nat_lit 1) (nat_lit 1) (nat_lit 0) ((0 : Nat) + List.length (S8.m s)), AV.own (nat_lit 4) (nat_lit 1) (nat_lit 1) (nat_lit 0) ((0 : Nat) + List.length (S8.st s)), AV.int IntKind.i64 (S8.pc s + (1 : Int))] ((0 : Nat) + Int.toNat (Go.bits Go.BinOp.and IntKind.i64 d (3 : Int)) * (1 : Nat)) [AV.int IntKind.i64 (List.getD (S8.m s) (Int.toNat (Wd.maskV (Pg.W p) (vlV (Pg.W p) s a + vlV (Pg.W p) s b))) (0 : Int))] = [AV.int IntKind.i64 (if d = (0 : Int) then List.getD (S8.m s) (Int.toNat (Wd.maskV (Pg.W p) (vlV (Pg.W p) s a + vlV (Pg.W p) s b))) (0 : Int) else S8.r0 s), AV.int IntKind.i64 (if d = (1 : Int) then List.getD (S8.m s) (Int.toNat (Wd.maskV (Pg.W p) (vlV (Pg.W p) s a + vlV (Pg.W p) s b))) (0 : Int) else S8.r1 s), AV.int IntKind.i64 (if d = (2 : Int) then List.getD (S8.m s) (Int.toNat (Wd.maskV (Pg.W p) (vlV (Pg.W p) s a + vlV (Pg.W p) s b))) (0 : Int) else S8.r2 s), AV.int IntKind.i64 (if d = (3 : Int) then List.getD (S8.m s) (Int.toNat (Wd.maskV (Pg.W p) (vlV (Pg.W p) s a + vlV (Pg.W p) s b))) (0 : Int) else S8.r3 s), AV.own (nat_lit 3) (nat_lit 1) (nat_lit 1) (nat_lit 0) (List.length (S8.m s)), AV.own (nat_lit 4) (nat_lit 1) (nat_lit 1) (nat_lit 0) (List.length (S8.st s)), AV.int IntKind.i64 (S8.pc s + (1 : Int))]) ∧ ((if d = (0 : Int) then List.getD (S8.m s) (Int.toNat (Wd.maskV (Pg.W p) (vlV (Pg.W p) s a + vlV (Pg.W p) s b))) (0 : Int) else S8.r0 s) = if d = (0 : Int) then List.getD (S8.m s) (Int.toNat (Wd.maskV (Pg.W p) (vlV (Pg.W p) s a + vlV (Pg.W p) s b))) (0 : Int) else S8.r0 s) ∧ ((if d = (1 : Int) then List.getD (S8.m s) (Int.toNat (Wd.maskV (Pg.W p) (vlV (Pg.W p) s a + vlV (Pg.W p) s b))) (0 : Int) else S8.r1 s) = if d = (1 : Int) then List.getD (S8.m s) (Int.toNat (Wd.maskV (Pg.W p) (vlV (Pg.W p) s a + vlV (Pg.W p) s b))) (0 : Int) else S8.r1 s) ∧ ((if d = (2 : Int) then List.getD (S8.m s) (Int.toNat (Wd.maskV (Pg.W p) (vlV (Pg.W p) s a + vlV (Pg.W p) s b))) (0 : Int) else S8.r2 s) = if d = (2 : Int) then List.getD (S8.m s) (Int.toNat (Wd.maskV (Pg.W p) (vlV (Pg.W p) s a + vlV (Pg.W p) s b))) (0 : Int) else S8.r2 s) ∧ ((if d = (3 : Int) then List.getD (S8.m s) (Int.toNat (Wd.maskV (Pg.W p) (vlV (Pg.W p) s a + vlV (Pg.W p) s b))) (0 : Int) else S8.r3 s) = if d = (3 : Int) then List.getD (S8.m s) (Int.toNat (Wd.maskV (Pg.W p) (vlV (Pg.W p) s a + vlV (Pg.W p) s b))) (0 : Int) else S8.r3 s) ∧ (List.length (S8.m s) = List.length (S8.m s)) ∧ (∀ (i : Nat), i < List.length (S8.m s) → ∀ (j : Nat), j < (1 : Nat) → AV.int IntKind.i64 (List.getD (S8.m s) (i + (0 : Nat) - (0 : Nat)) (0 : Int)) = AV.int IntKind.i64 (List.getD (S8.m s) i (0 : Int))) ∧ (List.length (S8.st s) = List.length (S8.st s)) ∧ (∀ (i : Nat), i < List.length (S8.st s) → ∀ (j : Nat), j < (1 : Nat) → AV.int IntKind.i64 (List.getD (S8.st s) (i + (0 : Nat) - (0 : Nat)) (0 : Int)) = AV.int IntKind.i64 (List.getD (S8.st s) i (0 : Int))) ∧ (S8.pc s + (1 : Int) = S8.pc s + (1 : Int)) ∧ ((1 : Nat) = (1 : Nat)) ∧ (∀ (i : Nat), i < (1 : Nat) → ∀ (j : Nat), j < (2 : Nat) → List.getD [AV.int IntKind.i64 (1 : Int), AV.int IntKind.i64 (Wd.maskV (Pg.W p) (vlV (Pg.W p) s a + vlV (Pg.W p) s b))] ((i + (0 : Nat)) * (2 : Nat) + j) AV.junk = rowL obC [Ob.mk (1 : Int) (Wd.maskV (Pg.W p) (vlV (Pg.W p) s a + vlV (Pg.W p) s b))] i j) ∧ ((0 : Int) = (0 : Int)) ∧ True))))))))))))) (by kernel_rfl)
    (frS8r3_mk p (frS8r5_mk p s ⟨hA, (frS8r3_mk p (frS8r4_mk p s a ⟨rfl,
 rvalC p s a ha, (frS8r3_mk p (frS8r2_mk p s b ⟨rfl,
 rvalC p s b hb,
 (by first | omega | rfl),
 (by first | omega | rfl),
 (in64 (by omega) (by omega)),
 (in64 (by have := vlV_bd (W := p.W) hs a; have := vlV_bd (W := p.W) hs b; omega) (by have := vlV_bd (W := p.W) hs a; have := vlV_bd (W := p.W) hs b; omega)),
 rfl,
 rfl,
 rmaskC p.W ((vlV p.W s a) + (vlV p.W s b)),
 (by first | omega | rfl | (simp; done) | (simp; omega)),
 (by first | omega | rfl | (simp; done) | (simp; omega)),
 (by first | omega | rfl | (simp; done) | (simp; omega)),
 (decide_eq_false (by first | omega | (simp; omega) | (simp; done))),
 ⟨(Wd.maskV_bd p.W ((vlV p.W s a) + (vlV p.W s b))).1, by omega⟩,
 (by rw [and3 h0 h1]; exact ⟨h0, h1⟩),
 (by rw [and3 h0 h1]; omega),
 (by rw [and3 h0 h1]; simp only [Nat.zero_add]; rcases four h0 h1 with rfl | rfl | rfl | rfl <;> rfl),
 (by first | omega | rfl | (simp; done) | (simp; omega)),
 (by first | omega | rfl | (simp; done) | (simp; omega)),
 (by first | omega | rfl | (simp; done) | (simp; omega)),
 (by first | omega | rfl | (simp; done) | (simp; omega)),
 rfl,
 (fun _ _ _ _ => rfl),
 rfl,
 (fun _ _ _ _ => rfl),
 rfl,
 rfl,
 (fun i hi j hj => match i, hi, j, hj with | 0, _, 0, _ => rfl | 0, _, 1, _ => rfl),
 rfl, trivial⟩))⟩))⟩))
theorem rs_store1 (p : Pg) (s : S8) (op d tg : Int) (a b : Vl) (nm : ByteArray) (hm : s.m.length ≤ 1000) (hst : s.st.length ≤ 1000) (hp0 : -1 ≤ s.pc) (hp1 : s.pc < 1000000) (hs : okR s) (ha : okV a) (hb : okV b) (hA : PureC Try.prog 24 [.agg (pgA p), .int .i64 s.pc] (.agg (inA (⟨3, op, d, a, b, nm, tg⟩ : In))) []) (hx : (Wd.maskV p.W ((vlV p.W s a) + (vlV p.W s b))) < s.m.length) (h0 : 0 ≤ d) (h1 : d < 4) : Vc (vcFn Try.prog false 21 [.agg (pgA p), .agg (s8R s)] [.fv, .fv, .cl [.agg (pgA p), .int .i64 s.pc] (.agg (inA (⟨3, op, d, a, b, nm, tg⟩ : In))) [], .cl [.agg (pgA p), .agg (rgA s), .agg (vlA a)] (.int .i64 (vlV p.W s a)) [], .cl [.agg (pgA p), .agg (rgA s), .agg (vlA b)] (.int .i64 (vlV p.W s b)) [], .cl [.int .i64 p.W, .int .i64 ((vlV p.W s a) + (vlV p.W s b))] (.int .i64 (Wd.maskV p.W ((vlV p.W s a) + (vlV p.W s b)))) [], .b false, .b false, .b false, .b true, .b false, .iz, .lv (.int .i64 (s.reg d))] [] (.tup [.agg (s8R { s with m := s.m.set (Wd.maskV p.W ((vlV p.W s a) + (vlV p.W s b))).toNat (s.reg d), pc := s.pc + 1 }), obR [⟨2, (Wd.maskV p.W ((vlV p.W s a) + (vlV p.W s b)))⟩], .int .i64 0]) []) :=
  vc_of (q := (frS8r3 p ((frS8r5 p s ((PureC Try.prog 24 [.agg (pgA p), .int .i64 s.pc] (.agg (inA (⟨3, op, d, a, b, nm, tg⟩ : In))) []) ∧ (frS8r3 p ((frS8r4 p s a ((Vl.n a = Vl.n a) ∧ cS8r2 p s a ∧ (frS8r3 p ((frS8r2 p s b ((Vl.n b = Vl.n b) ∧ cS8r1 p s b ∧ ((0 : Nat) = (0 : Nat) ∧ (0 : Nat) = (0 : Nat) ∧ ((0 : Nat) + List.length (S8.m s)) * (8 : Nat) ≤ (140737488355328 : Nat) ∧ (0 : Nat) + List.length (S8.m s) ≤ (140737488355328 : Nat)) ∧ ((0 : Nat) = (0 : Nat) ∧ (0 : Nat) = (0 : Nat) ∧ ((0 : Nat) + List.length (S8.st s)) * (8 : Nat) ≤ (140737488355328 : Nat) ∧ (0 : Nat) + List.length (S8.st s) ≤ (140737488355328 : Nat)) ∧ (inK IntKind.i64 (S8.pc s + (1 : Int))) ∧ (inK IntKind.i64 (vlV (Pg.W p) s a + vlV (Pg.W p) s b)) ∧ (Pg.W p = Pg.W p) ∧ (vlV (Pg.W p) s a + vlV (Pg.W p) s b = vlV (Pg.W p) s a + vlV (Pg.W p) s b) ∧ cS8r0 p s a b ∧ (((3 : Int) == (1 : Int)) = false) ∧ (((3 : Int) == (4 : Int)) = false) ∧ (((3 : Int) == (2 : Int)) = false) ∧ (((3 : Int) == (3 : Int)) = true) ∧ (decide (Wd.maskV (Pg.W p) (vlV (Pg.W p) s a + vlV (Pg.W p) s b) ≥ (↑(List.length (S8.m s)) : Int)) = false) ∧ ((0 : Int) ≤ Go.bits Go.BinOp.and IntKind.i64 d (3 : Int) ∧ Go.bits Go.BinOp.and IntKind.i64 d (3 : Int) < (↑(4 : Nat) : Int)) ∧ (partF Go.Proofs.Try.prog (3 : Nat) (7 : Nat) (fun (q : Nat) => List.getD [AV.int IntKind.i64 (S8.r0 s), AV.int IntKind.i64 (S8.r1 s), AV.int IntKind.i64 (S8.r2 s), AV.int IntKind.i64 (S8.r3 s), AV.row (nat_lit 1) (List.length (S8.m s)) fun (a a_1 : Nat) => AV.int IntKind.i64 (List.getD (S8.m s) a (0 : Int)), AV.row (nat_lit 1) (List.length (S8.st s)) fun (a a_1 : Nat) => AV.int IntKind.i64 (List.getD (S8.st s) a (0 : Int)), AV.int IntKind.i64 (S8.pc s)] q AV.junk) ((0 : Nat) + Int.toNat (Go.bits Go.BinOp.and IntKind.i64 d (3 : Int)) * (1 : Nat)) = Option.some (AV.int IntKind.i64 (S8.reg s d))) ∧ ((0 : Int) ≤ Wd.maskV (Pg.W p) (vlV (Pg.W p) s a + vlV (Pg.W p) s b) ∧ Wd.maskV (Pg.W p) (vlV (Pg.W p) s a + vlV (Pg.W p) s b) < (↑((0 : Nat) + List.length (S8.m s)) : Int)) ∧ (Int.toNat (Wd.maskV (Pg.W p) (vlV (Pg.W p) s a + vlV (Pg.W p) s b)) + (0 : Nat) < (0 : Nat) + List.length (S8.m s)) ∧ (frS8r7 s (((0 : Nat) + List.length (S8.m s) = List.length (List.set (S8.m s) (Int.toNat (Wd.maskV (Pg.W p) (vlV (Pg.W p) s a + vlV (Pg.W p) s b))) (S8.reg s d))) ∧ (∀ (i : Nat), i < (0 : Nat) + List.length (S8.m s) → ∀ (j : Nat), j < (1 : Nat) → (bif Nat.beq (i + (0 : Nat)) (Int.toNat (Wd.maskV (Pg.W p) (vlV (Pg.W p) s a + vlV (Pg.W p) s b)) + (0 : Nat)) && Nat.ble (0 : Nat) j && Nat.blt j (1 : Nat) then List.getD [AV.int IntKind.i64 (S8.reg s d)] (j - (0 : Nat)) AV.junk else AV.int IntKind.i64 (List.getD (S8.m s) (i + (0 : Nat) - (0 : Nat)) (0 : Int))) = AV.int IntKind.i64 (List.getD (List.set (S8.m s) (Int.toNat (Wd.maskV (Pg.W p) (vlV (Pg.W p) s a + vlV (Pg.W p) s b))) (S8.reg s d)) i (0 : Int))) ∧ ((0 : Nat) + List.length (S8.st s) = List.length (S8.st s)) ∧ (∀ (i : Nat), i < (0 : Nat) + List.length (S8.st s) → ∀ (j : Nat), j < (1 : Nat) → AV.int IntKind.i64 (List.getD (S8.st s) (i + (0 : Nat) - (0 : Nat)) (0 : Int)) = AV.int IntKind.i64 (List.getD (S8.st s) i (0 : Int))) ∧ (S8.pc s + (1 : Int) = S8.pc s + (1 : Int)) ∧ ((1 : Nat) = (1 : Nat)) ∧ (∀ (i : Nat), i < (1 : Nat) → ∀ (j : Nat), j < (2 : Nat) → List.getD [AV.int IntKind.i64 (2 : Int), AV.int IntKind.i64 (Wd.maskV (Pg.W p) (vlV (Pg.W p) s a + vlV (Pg.W p) s b))] ((i + (0 : Nat)) * (2 : Nat) + j) AV.junk = rowL obC [Ob.mk (2 : Int) (Wd.maskV (Pg.W p) (vlV (Pg.W p) s a + vlV (Pg.W p) s b))] i j) ∧ ((0 : Int) = (0 : Int)) ∧ True))))))))))))))) (by kernel_rfl)
    (frS8r3_mk p (frS8r5_mk p s ⟨hA, (frS8r3_mk p (frS8r4_mk p s a ⟨rfl,
 rvalC p s a ha, (frS8r3_mk p (frS8r2_mk p s b ⟨rfl,
 rvalC p s b hb,
 (by first | omega | rfl),
 (by first | omega | rfl),
 (in64 (by omega) (by omega)),
 (in64 (by have := vlV_bd (W := p.W) hs a; have := vlV_bd (W := p.W) hs b; omega) (by have := vlV_bd (W := p.W) hs a; have := vlV_bd (W := p.W) hs b; omega)),
 rfl,
 rfl,
 rmaskC p.W ((vlV p.W s a) + (vlV p.W s b)),
 (by first | omega | rfl | (simp; done) | (simp; omega)),
 (by first | omega | rfl | (simp; done) | (simp; omega)),
 (by first | omega | rfl | (simp; done) | (simp; omega)),
 (by first | omega | rfl | (simp; done) | (simp; omega)),
 (decide_eq_false (by first | omega | (simp; omega) | (simp; done))),
 (by rw [and3 h0 h1]; exact ⟨h0, h1⟩),
 (by rw [and3 h0 h1]; rcases four h0 h1 with rfl | rfl | rfl | rfl <;> kernel_rfl),
 ⟨(Wd.maskV_bd p.W ((vlV p.W s a) + (vlV p.W s b))).1, by omega⟩,
 (by have := (Wd.maskV_bd p.W ((vlV p.W s a) + (vlV p.W s b))).1; omega), (frS8r7_mk s ⟨(by rw [List.length_set]; omega),
 (fun i hi j hj => set_row i (by omega) j hj),
 (by first | omega | rfl | (simp; done) | (simp; omega)),
 (fun _ _ _ _ => rfl),
 rfl,
 rfl,
 (fun i hi j hj => match i, hi, j, hj with | 0, _, 0, _ => rfl | 0, _, 1, _ => rfl),
 rfl, trivial⟩)⟩))⟩))⟩))
theorem rs_br0 (p : Pg) (s : S8) (op d tg : Int) (a b : Vl) (nm : ByteArray) (hm : s.m.length ≤ 1000) (hst : s.st.length ≤ 1000) (hp0 : -1 ≤ s.pc) (hp1 : s.pc < 1000000) (hs : okR s) (ha : okV a) (hb : okV b) (hA : PureC Try.prog 24 [.agg (pgA p), .int .i64 s.pc] (.agg (inA (⟨5, op, d, a, b, nm, tg⟩ : In))) []) (hz : (Wd.doV p.W op (vlV p.W s a) (vlV p.W s b)) = 0) : Vc (vcFn Try.prog false 21 [.agg (pgA p), .agg (s8R s)] [.fv, .fv, .cl [.agg (pgA p), .int .i64 s.pc] (.agg (inA (⟨5, op, d, a, b, nm, tg⟩ : In))) [], .cl [.agg (pgA p), .agg (rgA s), .agg (vlA a)] (.int .i64 (vlV p.W s a)) [], .cl [.agg (pgA p), .agg (rgA s), .agg (vlA b)] (.int .i64 (vlV p.W s b)) [], .cl [.int .i64 p.W, .int .i64 ((vlV p.W s a) + (vlV p.W s b))] (.int .i64 (Wd.maskV p.W ((vlV p.W s a) + (vlV p.W s b)))) [], .cl [.int .i64 p.W, .int .i64 op, .int .i64 (vlV p.W s a), .int .i64 (vlV p.W s b)] (.tup [.int .i64 (Wd.doV p.W op (vlV p.W s a) (vlV p.W s b)), .bool (Wd.doB p.W op)]) [], .b false] [] (.tup [.agg (s8R (s.go (s.pc + 1))), obR [⟨3, s.pc + 1⟩], .int .i64 0]) []) :=
  vc_of (q := (frS8r3 p ((frS8r5 p s ((PureC Try.prog 24 [.agg (pgA p), .int .i64 s.pc] (.agg (inA (⟨5, op, d, a, b, nm, tg⟩ : In))) []) ∧ (frS8r3 p ((frS8r4 p s a ((Vl.n a = Vl.n a) ∧ cS8r2 p s a ∧ (frS8r3 p ((frS8r2 p s b ((Vl.n b = Vl.n b) ∧ cS8r1 p s b ∧ ((0 : Nat) = (0 : Nat) ∧ (0 : Nat) = (0 : Nat) ∧ ((0 : Nat) + List.length (S8.m s)) * (8 : Nat) ≤ (140737488355328 : Nat) ∧ (0 : Nat) + List.length (S8.m s) ≤ (140737488355328 : Nat)) ∧ ((0 : Nat) = (0 : Nat) ∧ (0 : Nat) = (0 : Nat) ∧ ((0 : Nat) + List.length (S8.st s)) * (8 : Nat) ≤ (140737488355328 : Nat) ∧ (0 : Nat) + List.length (S8.st s) ≤ (140737488355328 : Nat)) ∧ (inK IntKind.i64 (S8.pc s + (1 : Int))) ∧ (inK IntKind.i64 (vlV (Pg.W p) s a + vlV (Pg.W p) s b)) ∧ (Pg.W p = Pg.W p) ∧ (vlV (Pg.W p) s a + vlV (Pg.W p) s b = vlV (Pg.W p) s a + vlV (Pg.W p) s b) ∧ cS8r0 p s a b ∧ (frS8r1 p s op a b ((PureC Try.prog 42 [.int .i64 p.W, .int .i64 op, .int .i64 (vlV p.W s a), .int .i64 (vlV p.W s b)] (.tup [.int .i64 (Wd.doV p.W op (vlV p.W s a) (vlV p.W s b)), .bool (Wd.doB p.W op)]) []) ∧ ((Wd.doV (Pg.W p) op (vlV (Pg.W p) s a) (vlV (Pg.W p) s b) != (0 : Int)) = false) ∧ (frS8r7 s (((0 : Nat) + List.length (S8.m s) = List.length (S8.m s)) ∧ (∀ (i : Nat), i < (0 : Nat) + List.length (S8.m s) → ∀ (j : Nat), j < (1 : Nat) → AV.int IntKind.i64 (List.getD (S8.m s) (i + (0 : Nat) - (0 : Nat)) (0 : Int)) = AV.int IntKind.i64 (List.getD (S8.m s) i (0 : Int))) ∧ ((0 : Nat) + List.length (S8.st s) = List.length (S8.st s)) ∧ (∀ (i : Nat), i < (0 : Nat) + List.length (S8.st s) → ∀ (j : Nat), j < (1 : Nat) → AV.int IntKind.i64 (List.getD (S8.st s) (i + (0 : Nat) - (0 : Nat)) (0 : Int)) = AV.int IntKind.i64 (List.getD (S8.st s) i (0 : Int))) ∧ (S8.pc s + (1 : Int) = S8.pc s + (1 : Int)) ∧ ((1 : Nat) = (1 : Nat)) ∧ (∀ (i : Nat), i < (1 : Nat) → ∀ (j : Nat), j < (2 : Nat) → List.getD [AV.int IntKind.i64 (3 : Int), AV.int IntKind.i64 (S8.pc s + (1 : Int))] ((i + (0 : Nat)) * (2 : Nat) + j) AV.junk = rowL obC [Ob.mk (3 : Int) (S8.pc s + (1 : Int))] i j) ∧ ((0 : Int) = (0 : Int)) ∧ True))))))))))))))))) (by kernel_rfl)
    (frS8r3_mk p (frS8r5_mk p s ⟨hA, (frS8r3_mk p (frS8r4_mk p s a ⟨rfl,
 rvalC p s a ha, (frS8r3_mk p (frS8r2_mk p s b ⟨rfl,
 rvalC p s b hb,
 (by first | omega | rfl),
 (by first | omega | rfl),
 (in64 (by omega) (by omega)),
 (in64 (by have := vlV_bd (W := p.W) hs a; have := vlV_bd (W := p.W) hs b; omega) (by have := vlV_bd (W := p.W) hs a; have := vlV_bd (W := p.W) hs b; omega)),
 rfl,
 rfl,
 rmaskC p.W ((vlV p.W s a) + (vlV p.W s b)), (frS8r1_mk p s op a b ⟨rdoC p.W op (vlV p.W s a) (vlV p.W s b),
 (by rw [hz]; rfl), (frS8r7_mk s ⟨(by first | omega | rfl | (simp; done) | (simp; omega)),
 (fun _ _ _ _ => rfl),
 (by first | omega | rfl | (simp; done) | (simp; omega)),
 (fun _ _ _ _ => rfl),
 rfl,
 rfl,
 (fun i hi j hj => match i, hi, j, hj with | 0, _, 0, _ => rfl | 0, _, 1, _ => rfl),
 rfl, trivial⟩)⟩)⟩))⟩))⟩))
theorem rs_br1 (p : Pg) (s : S8) (op d tg : Int) (a b : Vl) (nm : ByteArray) (hm : s.m.length ≤ 1000) (hst : s.st.length ≤ 1000) (hp0 : -1 ≤ s.pc) (hp1 : s.pc < 1000000) (hs : okR s) (ha : okV a) (hb : okV b) (hA : PureC Try.prog 24 [.agg (pgA p), .int .i64 s.pc] (.agg (inA (⟨5, op, d, a, b, nm, tg⟩ : In))) []) (hz : ¬ (Wd.doV p.W op (vlV p.W s a) (vlV p.W s b)) = 0) : Vc (vcFn Try.prog false 21 [.agg (pgA p), .agg (s8R s)] [.fv, .fv, .cl [.agg (pgA p), .int .i64 s.pc] (.agg (inA (⟨5, op, d, a, b, nm, tg⟩ : In))) [], .cl [.agg (pgA p), .agg (rgA s), .agg (vlA a)] (.int .i64 (vlV p.W s a)) [], .cl [.agg (pgA p), .agg (rgA s), .agg (vlA b)] (.int .i64 (vlV p.W s b)) [], .cl [.int .i64 p.W, .int .i64 ((vlV p.W s a) + (vlV p.W s b))] (.int .i64 (Wd.maskV p.W ((vlV p.W s a) + (vlV p.W s b)))) [], .cl [.int .i64 p.W, .int .i64 op, .int .i64 (vlV p.W s a), .int .i64 (vlV p.W s b)] (.tup [.int .i64 (Wd.doV p.W op (vlV p.W s a) (vlV p.W s b)), .bool (Wd.doB p.W op)]) [], .b true] [] (.tup [.agg (s8R (s.go tg)), obR [⟨3, tg⟩], .int .i64 0]) []) :=
  vc_of (q := (frS8r3 p ((frS8r5 p s ((PureC Try.prog 24 [.agg (pgA p), .int .i64 s.pc] (.agg (inA (⟨5, op, d, a, b, nm, tg⟩ : In))) []) ∧ (frS8r3 p ((frS8r4 p s a ((Vl.n a = Vl.n a) ∧ cS8r2 p s a ∧ (frS8r3 p ((frS8r2 p s b ((Vl.n b = Vl.n b) ∧ cS8r1 p s b ∧ ((0 : Nat) = (0 : Nat) ∧ (0 : Nat) = (0 : Nat) ∧ ((0 : Nat) + List.length (S8.m s)) * (8 : Nat) ≤ (140737488355328 : Nat) ∧ (0 : Nat) + List.length (S8.m s) ≤ (140737488355328 : Nat)) ∧ ((0 : Nat) = (0 : Nat) ∧ (0 : Nat) = (0 : Nat) ∧ ((0 : Nat) + List.length (S8.st s)) * (8 : Nat) ≤ (140737488355328 : Nat) ∧ (0 : Nat) + List.length (S8.st s) ≤ (140737488355328 : Nat)) ∧ (inK IntKind.i64 (S8.pc s + (1 : Int))) ∧ (inK IntKind.i64 (vlV (Pg.W p) s a + vlV (Pg.W p) s b)) ∧ (Pg.W p = Pg.W p) ∧ (vlV (Pg.W p) s a + vlV (Pg.W p) s b = vlV (Pg.W p) s a + vlV (Pg.W p) s b) ∧ cS8r0 p s a b ∧ (frS8r1 p s op a b ((PureC Try.prog 42 [.int .i64 p.W, .int .i64 op, .int .i64 (vlV p.W s a), .int .i64 (vlV p.W s b)] (.tup [.int .i64 (Wd.doV p.W op (vlV p.W s a) (vlV p.W s b)), .bool (Wd.doB p.W op)]) []) ∧ ((Wd.doV (Pg.W p) op (vlV (Pg.W p) s a) (vlV (Pg.W p) s b) != (0 : Int)) = true) ∧ (frS8r7 s (((0 : Nat) + List.length (S8.m s) = List.length (S8.m s)) ∧ (∀ (i : Nat), i < (0 : Nat) + List.length (S8.m s) → ∀ (j : Nat), j < (1 : Nat) → AV.int IntKind.i64 (List.getD (S8.m s) (i + (0 : Nat) - (0 : Nat)) (0 : Int)) = AV.int IntKind.i64 (List.getD (S8.m s) i (0 : Int))) ∧ ((0 : Nat) + List.length (S8.st s) = List.length (S8.st s)) ∧ (∀ (i : Nat), i < (0 : Nat) + List.length (S8.st s) → ∀ (j : Nat), j < (1 : Nat) → AV.int IntKind.i64 (List.getD (S8.st s) (i + (0 : Nat) - (0 : Nat)) (0 : Int)) = AV.int IntKind.i64 (List.getD (S8.st s) i (0 : Int))) ∧ (tg = tg) ∧ ((1 : Nat) = (1 : Nat)) ∧ (∀ (i : Nat), i < (1 : Nat) → ∀ (j : Nat), j < (2 : Nat) → List.getD [AV.int IntKind.i64 (3 : Int), AV.int IntKind.i64 tg] ((i + (0 : Nat)) * (2 : Nat) + j) AV.junk = rowL obC [Ob.mk (3 : Int) tg] i j) ∧ ((0 : Int) = (0 : Int)) ∧ True))))))))))))))))) (by kernel_rfl)
    (frS8r3_mk p (frS8r5_mk p s ⟨hA, (frS8r3_mk p (frS8r4_mk p s a ⟨rfl,
 rvalC p s a ha, (frS8r3_mk p (frS8r2_mk p s b ⟨rfl,
 rvalC p s b hb,
 (by first | omega | rfl),
 (by first | omega | rfl),
 (in64 (by omega) (by omega)),
 (in64 (by have := vlV_bd (W := p.W) hs a; have := vlV_bd (W := p.W) hs b; omega) (by have := vlV_bd (W := p.W) hs a; have := vlV_bd (W := p.W) hs b; omega)),
 rfl,
 rfl,
 rmaskC p.W ((vlV p.W s a) + (vlV p.W s b)), (frS8r1_mk p s op a b ⟨rdoC p.W op (vlV p.W s a) (vlV p.W s b),
 (bne_iff_ne.2 hz), (frS8r7_mk s ⟨(by first | omega | rfl | (simp; done) | (simp; omega)),
 (fun _ _ _ _ => rfl),
 (by first | omega | rfl | (simp; done) | (simp; omega)),
 (fun _ _ _ _ => rfl),
 rfl,
 rfl,
 (fun i hi j hj => match i, hi, j, hj with | 0, _, 0, _ => rfl | 0, _, 1, _ => rfl),
 rfl, trivial⟩)⟩)⟩))⟩))⟩))
theorem rs_jmp (p : Pg) (s : S8) (op d tg : Int) (a b : Vl) (nm : ByteArray) (hm : s.m.length ≤ 1000) (hst : s.st.length ≤ 1000) (hp0 : -1 ≤ s.pc) (hp1 : s.pc < 1000000) (hs : okR s) (ha : okV a) (hb : okV b) (hA : PureC Try.prog 24 [.agg (pgA p), .int .i64 s.pc] (.agg (inA (⟨6, op, d, a, b, nm, tg⟩ : In))) [])  : Vc (vcFn Try.prog false 21 [.agg (pgA p), .agg (s8R s)] [.fv, .fv, .cl [.agg (pgA p), .int .i64 s.pc] (.agg (inA (⟨6, op, d, a, b, nm, tg⟩ : In))) [], .cl [.agg (pgA p), .agg (rgA s), .agg (vlA a)] (.int .i64 (vlV p.W s a)) [], .cl [.agg (pgA p), .agg (rgA s), .agg (vlA b)] (.int .i64 (vlV p.W s b)) [], .cl [.int .i64 p.W, .int .i64 ((vlV p.W s a) + (vlV p.W s b))] (.int .i64 (Wd.maskV p.W ((vlV p.W s a) + (vlV p.W s b)))) []] [] (.tup [.agg (s8R (s.go tg)), obR [], .int .i64 0]) []) :=
  vc_of (q := (frS8r3 p ((frS8r5 p s ((PureC Try.prog 24 [.agg (pgA p), .int .i64 s.pc] (.agg (inA (⟨6, op, d, a, b, nm, tg⟩ : In))) []) ∧ (frS8r3 p ((frS8r4 p s a ((Vl.n a = Vl.n a) ∧ cS8r2 p s a ∧ (frS8r3 p ((frS8r2 p s b ((Vl.n b = Vl.n b) ∧ cS8r1 p s b ∧ ((0 : Nat) = (0 : Nat) ∧ (0 : Nat) = (0 : Nat) ∧ ((0 : Nat) + List.length (S8.m s)) * (8 : Nat) ≤ (140737488355328 : Nat) ∧ (0 : Nat) + List.length (S8.m s) ≤ (140737488355328 : Nat)) ∧ ((0 : Nat) = (0 : Nat) ∧ (0 : Nat) = (0 : Nat) ∧ ((0 : Nat) + List.length (S8.st s)) * (8 : Nat) ≤ (140737488355328 : Nat) ∧ (0 : Nat) + List.length (S8.st s) ≤ (140737488355328 : Nat)) ∧ (inK IntKind.i64 (S8.pc s + (1 : Int))) ∧ (inK IntKind.i64 (vlV (Pg.W p) s a + vlV (Pg.W p) s b)) ∧ (Pg.W p = Pg.W p) ∧ (vlV (Pg.W p) s a + vlV (Pg.W p) s b = vlV (Pg.W p) s a + vlV (Pg.W p) s b) ∧ cS8r0 p s a b ∧ (frS8r7 s (((0 : Nat) + List.length (S8.m s) = List.length (S8.m s)) ∧ (∀ (i : Nat), i < (0 : Nat) + List.length (S8.m s) → ∀ (j : Nat), j < (1 : Nat) → AV.int IntKind.i64 (List.getD (S8.m s) (i + (0 : Nat) - (0 : Nat)) (0 : Int)) = AV.int IntKind.i64 (List.getD (S8.m s) i (0 : Int))) ∧ ((0 : Nat) + List.length (S8.st s) = List.length (S8.st s)) ∧ (∀ (i : Nat), i < (0 : Nat) + List.length (S8.st s) → ∀ (j : Nat), j < (1 : Nat) → AV.int IntKind.i64 (List.getD (S8.st s) (i + (0 : Nat) - (0 : Nat)) (0 : Int)) = AV.int IntKind.i64 (List.getD (S8.st s) i (0 : Int))) ∧ (tg = tg) ∧ ((0 : Nat) = (0 : Nat)) ∧ ((0 : Int) = (0 : Int)) ∧ True))))))))))))))) (by kernel_rfl)
    (frS8r3_mk p (frS8r5_mk p s ⟨hA, (frS8r3_mk p (frS8r4_mk p s a ⟨rfl,
 rvalC p s a ha, (frS8r3_mk p (frS8r2_mk p s b ⟨rfl,
 rvalC p s b hb,
 (by first | omega | rfl),
 (by first | omega | rfl),
 (in64 (by omega) (by omega)),
 (in64 (by have := vlV_bd (W := p.W) hs a; have := vlV_bd (W := p.W) hs b; omega) (by have := vlV_bd (W := p.W) hs a; have := vlV_bd (W := p.W) hs b; omega)),
 rfl,
 rfl,
 rmaskC p.W ((vlV p.W s a) + (vlV p.W s b)), (frS8r7_mk s ⟨(by first | omega | rfl | (simp; done) | (simp; omega)),
 (fun _ _ _ _ => rfl),
 (by first | omega | rfl | (simp; done) | (simp; omega)),
 (fun _ _ _ _ => rfl),
 rfl,
 rfl,
 rfl, trivial⟩)⟩))⟩))⟩))
theorem rs_ind (p : Pg) (s : S8) (op d tg : Int) (a b : Vl) (nm : ByteArray) (hm : s.m.length ≤ 1000) (hst : s.st.length ≤ 1000) (hp0 : -1 ≤ s.pc) (hp1 : s.pc < 1000000) (hs : okR s) (ha : okV a) (hb : okV b) (hA : PureC Try.prog 24 [.agg (pgA p), .int .i64 s.pc] (.agg (inA (⟨7, op, d, a, b, nm, tg⟩ : In))) [])  : Vc (vcFn Try.prog false 21 [.agg (pgA p), .agg (s8R s)] [.fv, .fv, .cl [.agg (pgA p), .int .i64 s.pc] (.agg (inA (⟨7, op, d, a, b, nm, tg⟩ : In))) [], .cl [.agg (pgA p), .agg (rgA s), .agg (vlA a)] (.int .i64 (vlV p.W s a)) [], .cl [.agg (pgA p), .agg (rgA s), .agg (vlA b)] (.int .i64 (vlV p.W s b)) [], .cl [.int .i64 p.W, .int .i64 ((vlV p.W s a) + (vlV p.W s b))] (.int .i64 (Wd.maskV p.W ((vlV p.W s a) + (vlV p.W s b)))) [], .cl [.agg (pgA p), .int .i64 (vlV p.W s a)] (.int .i64 (if (p.is.length : Int) < (vlV p.W s a) then (p.is.length : Int) else (vlV p.W s a))) []] [] (.tup [.agg (s8R (s.go (if (p.is.length : Int) < (vlV p.W s a) then (p.is.length : Int) else (vlV p.W s a)))), obR [⟨3, (if (p.is.length : Int) < (vlV p.W s a) then (p.is.length : Int) else (vlV p.W s a))⟩], .int .i64 0]) []) :=
  vc_of (q := (frS8r3 p ((frS8r5 p s ((PureC Try.prog 24 [.agg (pgA p), .int .i64 s.pc] (.agg (inA (⟨7, op, d, a, b, nm, tg⟩ : In))) []) ∧ (frS8r3 p ((frS8r4 p s a ((Vl.n a = Vl.n a) ∧ cS8r2 p s a ∧ (frS8r3 p ((frS8r2 p s b ((Vl.n b = Vl.n b) ∧ cS8r1 p s b ∧ ((0 : Nat) = (0 : Nat) ∧ (0 : Nat) = (0 : Nat) ∧ ((0 : Nat) + List.length (S8.m s)) * (8 : Nat) ≤ (140737488355328 : Nat) ∧ (0 : Nat) + List.length (S8.m s) ≤ (140737488355328 : Nat)) ∧ ((0 : Nat) = (0 : Nat) ∧ (0 : Nat) = (0 : Nat) ∧ ((0 : Nat) + List.length (S8.st s)) * (8 : Nat) ≤ (140737488355328 : Nat) ∧ (0 : Nat) + List.length (S8.st s) ≤ (140737488355328 : Nat)) ∧ (inK IntKind.i64 (S8.pc s + (1 : Int))) ∧ (inK IntKind.i64 (vlV (Pg.W p) s a + vlV (Pg.W p) s b)) ∧ (Pg.W p = Pg.W p) ∧ (vlV (Pg.W p) s a + vlV (Pg.W p) s b = vlV (Pg.W p) s a + vlV (Pg.W p) s b) ∧ cS8r0 p s a b ∧ (frS8r3 p ((List.length (Pg.ls p) = List.length (Pg.ls p)) ∧ (∀ (i : Nat), i < List.length (Pg.ls p) → ∀ (j : Nat), j < (2 : Nat) → rowL lbC (Pg.ls p) i j = rowL lbC (Pg.ls p) i j) ∧ (List.length (Pg.is p) = List.length (Pg.is p)) ∧ (∀ (i : Nat), i < List.length (Pg.is p) → ∀ (j : Nat), j < (9 : Nat) → rowL inC (Pg.is p) i j = rowL inC (Pg.is p) i j) ∧ (vlV (Pg.W p) s a = vlV (Pg.W p) s a) ∧ (PureC Try.prog 43 [.agg (pgA p), .int .i64 (vlV p.W s a)] (.int .i64 (if (p.is.length : Int) < (vlV p.W s a) then (p.is.length : Int) else (vlV p.W s a))) []) ∧ (frS8r7 s (((0 : Nat) + List.length (S8.m s) = List.length (S8.m s)) ∧ (∀ (i : Nat), i < (0 : Nat) + List.length (S8.m s) → ∀ (j : Nat), j < (1 : Nat) → AV.int IntKind.i64 (List.getD (S8.m s) (i + (0 : Nat) - (0 : Nat)) (0 : Int)) = AV.int IntKind.i64 (List.getD (S8.m s) i (0 : Int))) ∧ ((0 : Nat) + List.length (S8.st s) = List.length (S8.st s)) ∧ (∀ (i : Nat), i < (0 : Nat) + List.length (S8.st s) → ∀ (j : Nat), j < (1 : Nat) → AV.int IntKind.i64 (List.getD (S8.st s) (i + (0 : Nat) - (0 : Nat)) (0 : Int)) = AV.int IntKind.i64 (List.getD (S8.st s) i (0 : Int))) ∧ ((if (↑(List.length (Pg.is p)) : Int) < vlV (Pg.W p) s a then (↑(List.length (Pg.is p)) : Int) else vlV (Pg.W p) s a) = if (↑(List.length (Pg.is p)) : Int) < vlV (Pg.W p) s a then (↑(List.length (Pg.is p)) : Int) else vlV (Pg.W p) s a) ∧ ((1 : Nat) = (1 : Nat)) ∧ (∀ (i : Nat), i < (1 : Nat) → ∀ (j : Nat), j < (2 : Nat) → List.getD [AV.int IntKind.i64 (3 : Int), AV.int IntKind.i64 (if (↑(List.length (Pg.is p)) : Int) < vlV (Pg.W p) s a then (↑(List.length (Pg.is p)) : Int) else vlV (Pg.W p) s a)] ((i + (0 : Nat)) * (2 : Nat) + j) AV.junk = rowL obC [Ob.mk (3 : Int) (if (↑(List.length (Pg.is p)) : Int) < vlV (Pg.W p) s a then (↑(List.length (Pg.is p)) : Int) else vlV (Pg.W p) s a)] i j) ∧ ((0 : Int) = (0 : Int)) ∧ True))))))))))))))))) (by kernel_rfl)
    (frS8r3_mk p (frS8r5_mk p s ⟨hA, (frS8r3_mk p (frS8r4_mk p s a ⟨rfl,
 rvalC p s a ha, (frS8r3_mk p (frS8r2_mk p s b ⟨rfl,
 rvalC p s b hb,
 (by first | omega | rfl),
 (by first | omega | rfl),
 (in64 (by omega) (by omega)),
 (in64 (by have := vlV_bd (W := p.W) hs a; have := vlV_bd (W := p.W) hs b; omega) (by have := vlV_bd (W := p.W) hs a; have := vlV_bd (W := p.W) hs b; omega)),
 rfl,
 rfl,
 rmaskC p.W ((vlV p.W s a) + (vlV p.W s b)), (frS8r3_mk p ⟨rfl,
 (fun _ _ _ _ => rfl),
 rfl,
 (fun _ _ _ _ => rfl),
 rfl,
 rjumpC p (vlV p.W s a), (frS8r7_mk s ⟨(by first | omega | rfl | (simp; done) | (simp; omega)),
 (fun _ _ _ _ => rfl),
 (by first | omega | rfl | (simp; done) | (simp; omega)),
 (fun _ _ _ _ => rfl),
 (by first | omega | rfl),
 rfl,
 (fun i hi j hj => match i, hi, j, hj with | 0, _, 0, _ => rfl | 0, _, 1, _ => rfl),
 rfl, trivial⟩)⟩)⟩))⟩))⟩))
theorem rs_call0 (p : Pg) (s : S8) (op d tg : Int) (a b : Vl) (nm : ByteArray) (hm : s.m.length ≤ 1000) (hst : s.st.length ≤ 1000) (hp0 : -1 ≤ s.pc) (hp1 : s.pc < 1000000) (hs : okR s) (ha : okV a) (hb : okV b) (hA : PureC Try.prog 24 [.agg (pgA p), .int .i64 s.pc] (.agg (inA (⟨8, op, d, a, b, nm, tg⟩ : In))) []) (hk : 4 ≤ s.st.length) : Vc (vcFn Try.prog false 21 [.agg (pgA p), .agg (s8R s)] [.fv, .fv, .cl [.agg (pgA p), .int .i64 s.pc] (.agg (inA (⟨8, op, d, a, b, nm, tg⟩ : In))) [], .cl [.agg (pgA p), .agg (rgA s), .agg (vlA a)] (.int .i64 (vlV p.W s a)) [], .cl [.agg (pgA p), .agg (rgA s), .agg (vlA b)] (.int .i64 (vlV p.W s b)) [], .cl [.int .i64 p.W, .int .i64 ((vlV p.W s a) + (vlV p.W s b))] (.int .i64 (Wd.maskV p.W ((vlV p.W s a) + (vlV p.W s b)))) [], .b false, .b false, .b false, .b false, .b false, .b false, .b false, .b true, .b true] [] (.tup [.agg (s8R s), obR [], .int .i64 2]) []) :=
  vc_of (q := (frS8r3 p ((frS8r5 p s ((PureC Try.prog 24 [.agg (pgA p), .int .i64 s.pc] (.agg (inA (⟨8, op, d, a, b, nm, tg⟩ : In))) []) ∧ (frS8r3 p ((frS8r4 p s a ((Vl.n a = Vl.n a) ∧ cS8r2 p s a ∧ (frS8r3 p ((frS8r2 p s b ((Vl.n b = Vl.n b) ∧ cS8r1 p s b ∧ ((0 : Nat) = (0 : Nat) ∧ (0 : Nat) = (0 : Nat) ∧ ((0 : Nat) + List.length (S8.m s)) * (8 : Nat) ≤ (140737488355328 : Nat) ∧ (0 : Nat) + List.length (S8.m s) ≤ (140737488355328 : Nat)) ∧ ((0 : Nat) = (0 : Nat) ∧ (0 : Nat) = (0 : Nat) ∧ ((0 : Nat) + List.length (S8.st s)) * (8 : Nat) ≤ (140737488355328 : Nat) ∧ (0 : Nat) + List.length (S8.st s) ≤ (140737488355328 : Nat)) ∧ (inK IntKind.i64 (S8.pc s + (1 : Int))) ∧ (inK IntKind.i64 (vlV (Pg.W p) s a + vlV (Pg.W p) s b)) ∧ (Pg.W p = Pg.W p) ∧ (vlV (Pg.W p) s a + vlV (Pg.W p) s b = vlV (Pg.W p) s a + vlV (Pg.W p) s b) ∧ cS8r0 p s a b ∧ (((8 : Int) == (1 : Int)) = false) ∧ (((8 : Int) == (4 : Int)) = false) ∧ (((8 : Int) == (2 : Int)) = false) ∧ (((8 : Int) == (3 : Int)) = false) ∧ (((8 : Int) == (5 : Int)) = false) ∧ (((8 : Int) == (6 : Int)) = false) ∧ (((8 : Int) == (7 : Int)) = false) ∧ (((8 : Int) == (8 : Int)) = true) ∧ (decide ((↑(List.length (S8.st s)) : Int) ≥ (4 : Int)) = true) ∧ (frS8r8 s (((0 : Nat) = (0 : Nat)) ∧ ((2 : Int) = (2 : Int)) ∧ True))))))))))))))) (by kernel_rfl)
    (frS8r3_mk p (frS8r5_mk p s ⟨hA, (frS8r3_mk p (frS8r4_mk p s a ⟨rfl,
 rvalC p s a ha, (frS8r3_mk p (frS8r2_mk p s b ⟨rfl,
 rvalC p s b hb,
 (by first | omega | rfl),
 (by first | omega | rfl),
 (in64 (by omega) (by omega)),
 (in64 (by have := vlV_bd (W := p.W) hs a; have := vlV_bd (W := p.W) hs b; omega) (by have := vlV_bd (W := p.W) hs a; have := vlV_bd (W := p.W) hs b; omega)),
 rfl,
 rfl,
 rmaskC p.W ((vlV p.W s a) + (vlV p.W s b)),
 (by first | omega | rfl | (simp; done) | (simp; omega)),
 (by first | omega | rfl | (simp; done) | (simp; omega)),
 (by first | omega | rfl | (simp; done) | (simp; omega)),
 (by first | omega | rfl | (simp; done) | (simp; omega)),
 (by first | omega | rfl | (simp; done) | (simp; omega)),
 (by first | omega | rfl | (simp; done) | (simp; omega)),
 (by first | omega | rfl | (simp; done) | (simp; omega)),
 (by first | omega | rfl | (simp; done) | (simp; omega)),
 (decide_eq_true (by first | omega | (simp; omega) | (simp; done))), (frS8r8_mk s ⟨rfl,
 rfl, trivial⟩)⟩))⟩))⟩))
theorem rs_call1 (p : Pg) (s : S8) (op d tg : Int) (a b : Vl) (nm : ByteArray) (hm : s.m.length ≤ 1000) (hst : s.st.length ≤ 1000) (hp0 : -1 ≤ s.pc) (hp1 : s.pc < 1000000) (hs : okR s) (ha : okV a) (hb : okV b) (hA : PureC Try.prog 24 [.agg (pgA p), .int .i64 s.pc] (.agg (inA (⟨8, op, d, a, b, nm, tg⟩ : In))) []) (hk : ¬ 4 ≤ s.st.length) : Vc (vcFn Try.prog false 21 [.agg (pgA p), .agg (s8R s)] [.fv, .fv, .cl [.agg (pgA p), .int .i64 s.pc] (.agg (inA (⟨8, op, d, a, b, nm, tg⟩ : In))) [], .cl [.agg (pgA p), .agg (rgA s), .agg (vlA a)] (.int .i64 (vlV p.W s a)) [], .cl [.agg (pgA p), .agg (rgA s), .agg (vlA b)] (.int .i64 (vlV p.W s b)) [], .cl [.int .i64 p.W, .int .i64 ((vlV p.W s a) + (vlV p.W s b))] (.int .i64 (Wd.maskV p.W ((vlV p.W s a) + (vlV p.W s b)))) [], .b false, .b false, .b false, .b false, .b false, .b false, .b false, .b true, .b false] [] (.tup [.agg (s8R { s with st := s.st ++ [s.pc + 1], pc := tg }), obR [], .int .i64 0]) []) :=
  vc_of (q := (frS8r3 p ((frS8r5 p s ((PureC Try.prog 24 [.agg (pgA p), .int .i64 s.pc] (.agg (inA (⟨8, op, d, a, b, nm, tg⟩ : In))) []) ∧ (frS8r3 p ((frS8r4 p s a ((Vl.n a = Vl.n a) ∧ cS8r2 p s a ∧ (frS8r3 p ((frS8r2 p s b ((Vl.n b = Vl.n b) ∧ cS8r1 p s b ∧ ((0 : Nat) = (0 : Nat) ∧ (0 : Nat) = (0 : Nat) ∧ ((0 : Nat) + List.length (S8.m s)) * (8 : Nat) ≤ (140737488355328 : Nat) ∧ (0 : Nat) + List.length (S8.m s) ≤ (140737488355328 : Nat)) ∧ ((0 : Nat) = (0 : Nat) ∧ (0 : Nat) = (0 : Nat) ∧ ((0 : Nat) + List.length (S8.st s)) * (8 : Nat) ≤ (140737488355328 : Nat) ∧ (0 : Nat) + List.length (S8.st s) ≤ (140737488355328 : Nat)) ∧ (inK IntKind.i64 (S8.pc s + (1 : Int))) ∧ (inK IntKind.i64 (vlV (Pg.W p) s a + vlV (Pg.W p) s b)) ∧ (Pg.W p = Pg.W p) ∧ (vlV (Pg.W p) s a + vlV (Pg.W p) s b = vlV (Pg.W p) s a + vlV (Pg.W p) s b) ∧ cS8r0 p s a b ∧ (((8 : Int) == (1 : Int)) = false) ∧ (((8 : Int) == (4 : Int)) = false) ∧ (((8 : Int) == (2 : Int)) = false) ∧ (((8 : Int) == (3 : Int)) = false) ∧ (((8 : Int) == (5 : Int)) = false) ∧ (((8 : Int) == (6 : Int)) = false) ∧ (((8 : Int) == (7 : Int)) = false) ∧ (((8 : Int) == (8 : Int)) = true) ∧ (decide ((↑(List.length (S8.st s)) : Int) ≥ (4 : Int)) = false) ∧ (inK IntKind.i64 (S8.pc s + (1 : Int))) ∧ ((0 : Nat) = (0 : Nat) ∧ (0 : Nat) + List.length (S8.st s) = (0 : Nat) + List.length (S8.st s) ∧ ((0 : Nat) + List.length (S8.st s) + (1 : Nat)) * (8 : Nat) ≤ (140737488355328 : Nat) ∧ (0 : Nat) + List.length (S8.st s) + (1 : Nat) ≤ (140737488355328 : Nat)) ∧ (frS8r7 s (((0 : Nat) + List.length (S8.m s) = List.length (S8.m s)) ∧ (∀ (i : Nat), i < (0 : Nat) + List.length (S8.m s) → ∀ (j : Nat), j < (1 : Nat) → AV.int IntKind.i64 (List.getD (S8.m s) (i + (0 : Nat) - (0 : Nat)) (0 : Int)) = AV.int IntKind.i64 (List.getD (S8.m s) i (0 : Int))) ∧ ((0 : Nat) + List.length (S8.st s) + (1 : Nat) = List.length (S8.st s ++ [S8.pc s + (1 : Int)])) ∧ (∀ (i : Nat), i < (0 : Nat) + List.length (S8.st s) + (1 : Nat) → ∀ (j : Nat), j < (1 : Nat) → (bif Nat.blt (i + (0 : Nat)) ((0 : Nat) + List.length (S8.st s)) then AV.int IntKind.i64 (List.getD (S8.st s) (i + (0 : Nat) - (0 : Nat)) (0 : Int)) else List.getD [AV.int IntKind.i64 (S8.pc s + (1 : Int))] ((i + (0 : Nat) - ((0 : Nat) + List.length (S8.st s)) + (0 : Nat)) * (1 : Nat) + j) AV.junk) = AV.int IntKind.i64 (List.getD (S8.st s ++ [S8.pc s + (1 : Int)]) i (0 : Int))) ∧ (tg = tg) ∧ ((0 : Nat) = (0 : Nat)) ∧ ((0 : Int) = (0 : Int)) ∧ True))))))))))))))) (by kernel_rfl)
    (frS8r3_mk p (frS8r5_mk p s ⟨hA, (frS8r3_mk p (frS8r4_mk p s a ⟨rfl,
 rvalC p s a ha, (frS8r3_mk p (frS8r2_mk p s b ⟨rfl,
 rvalC p s b hb,
 (by first | omega | rfl),
 (by first | omega | rfl),
 (in64 (by omega) (by omega)),
 (in64 (by have := vlV_bd (W := p.W) hs a; have := vlV_bd (W := p.W) hs b; omega) (by have := vlV_bd (W := p.W) hs a; have := vlV_bd (W := p.W) hs b; omega)),
 rfl,
 rfl,
 rmaskC p.W ((vlV p.W s a) + (vlV p.W s b)),
 (by first | omega | rfl | (simp; done) | (simp; omega)),
 (by first | omega | rfl | (simp; done) | (simp; omega)),
 (by first | omega | rfl | (simp; done) | (simp; omega)),
 (by first | omega | rfl | (simp; done) | (simp; omega)),
 (by first | omega | rfl | (simp; done) | (simp; omega)),
 (by first | omega | rfl | (simp; done) | (simp; omega)),
 (by first | omega | rfl | (simp; done) | (simp; omega)),
 (by first | omega | rfl | (simp; done) | (simp; omega)),
 (decide_eq_false (by first | omega | (simp; omega) | (simp; done))),
 (in64 (by omega) (by omega)),
 (by first | omega | rfl), (frS8r7_mk s ⟨(by first | omega | rfl | (simp; done) | (simp; omega)),
 (fun _ _ _ _ => rfl),
 (by first | omega | rfl | (simp; done) | (simp; omega)),
 snoc0,
 rfl,
 rfl,
 rfl, trivial⟩)⟩))⟩))⟩))
theorem rs_ret0 (p : Pg) (s : S8) (op d tg : Int) (a b : Vl) (nm : ByteArray) (hm : s.m.length ≤ 1000) (hst : s.st.length ≤ 1000) (hp0 : -1 ≤ s.pc) (hp1 : s.pc < 1000000) (hs : okR s) (ha : okV a) (hb : okV b) (hA : PureC Try.prog 24 [.agg (pgA p), .int .i64 s.pc] (.agg (inA (⟨9, op, d, a, b, nm, tg⟩ : In))) []) (hk : s.st.length = 0) : Vc (vcFn Try.prog false 21 [.agg (pgA p), .agg (s8R s)] [.fv, .fv, .cl [.agg (pgA p), .int .i64 s.pc] (.agg (inA (⟨9, op, d, a, b, nm, tg⟩ : In))) [], .cl [.agg (pgA p), .agg (rgA s), .agg (vlA a)] (.int .i64 (vlV p.W s a)) [], .cl [.agg (pgA p), .agg (rgA s), .agg (vlA b)] (.int .i64 (vlV p.W s b)) [], .cl [.int .i64 p.W, .int .i64 ((vlV p.W s a) + (vlV p.W s b))] (.int .i64 (Wd.maskV p.W ((vlV p.W s a) + (vlV p.W s b)))) [], .b false, .b false, .b false, .b false, .b false, .b false, .b false, .b false, .b true, .b true] [] (.tup [.agg (s8R s), obR [], .int .i64 2]) []) :=
  vc_of (q := (frS8r3 p ((frS8r5 p s ((PureC Try.prog 24 [.agg (pgA p), .int .i64 s.pc] (.agg (inA (⟨9, op, d, a, b, nm, tg⟩ : In))) []) ∧ (frS8r3 p ((frS8r4 p s a ((Vl.n a = Vl.n a) ∧ cS8r2 p s a ∧ (frS8r3 p ((frS8r2 p s b ((Vl.n b = Vl.n b) ∧ cS8r1 p s b ∧ ((0 : Nat) = (0 : Nat) ∧ (0 : Nat) = (0 : Nat) ∧ ((0 : Nat) + List.length (S8.m s)) * (8 : Nat) ≤ (140737488355328 : Nat) ∧ (0 : Nat) + List.length (S8.m s) ≤ (140737488355328 : Nat)) ∧ ((0 : Nat) = (0 : Nat) ∧ (0 : Nat) = (0 : Nat) ∧ ((0 : Nat) + List.length (S8.st s)) * (8 : Nat) ≤ (140737488355328 : Nat) ∧ (0 : Nat) + List.length (S8.st s) ≤ (140737488355328 : Nat)) ∧ (inK IntKind.i64 (S8.pc s + (1 : Int))) ∧ (inK IntKind.i64 (vlV (Pg.W p) s a + vlV (Pg.W p) s b)) ∧ (Pg.W p = Pg.W p) ∧ (vlV (Pg.W p) s a + vlV (Pg.W p) s b = vlV (Pg.W p) s a + vlV (Pg.W p) s b) ∧ cS8r0 p s a b ∧ (((9 : Int) == (1 : Int)) = false) ∧ (((9 : Int) == (4 : Int)) = false) ∧ (((9 : Int) == (2 : Int)) = false) ∧ (((9 : Int) == (3 : Int)) = false) ∧ (((9 : Int) == (5 : Int)) = false) ∧ (((9 : Int) == (6 : Int)) = false) ∧ (((9 : Int) == (7 : Int)) = false) ∧ (((9 : Int) == (8 : Int)) = false) ∧ (((9 : Int) == (9 : Int)) = true) ∧ (((↑(List.length (S8.st s)) : Int) == (0 : Int)) = true) ∧ (frS8r8 s (((0 : Nat) = (0 : Nat)) ∧ ((2 : Int) = (2 : Int)) ∧ True))))))))))))))) (by kernel_rfl)
    (frS8r3_mk p (frS8r5_mk p s ⟨hA, (frS8r3_mk p (frS8r4_mk p s a ⟨rfl,
 rvalC p s a ha, (frS8r3_mk p (frS8r2_mk p s b ⟨rfl,
 rvalC p s b hb,
 (by first | omega | rfl),
 (by first | omega | rfl),
 (in64 (by omega) (by omega)),
 (in64 (by have := vlV_bd (W := p.W) hs a; have := vlV_bd (W := p.W) hs b; omega) (by have := vlV_bd (W := p.W) hs a; have := vlV_bd (W := p.W) hs b; omega)),
 rfl,
 rfl,
 rmaskC p.W ((vlV p.W s a) + (vlV p.W s b)),
 (by first | omega | rfl | (simp; done) | (simp; omega)),
 (by first | omega | rfl | (simp; done) | (simp; omega)),
 (by first | omega | rfl | (simp; done) | (simp; omega)),
 (by first | omega | rfl | (simp; done) | (simp; omega)),
 (by first | omega | rfl | (simp; done) | (simp; omega)),
 (by first | omega | rfl | (simp; done) | (simp; omega)),
 (by first | omega | rfl | (simp; done) | (simp; omega)),
 (by first | omega | rfl | (simp; done) | (simp; omega)),
 (by first | omega | rfl | (simp; done) | (simp; omega)),
 (by rw [hk]; rfl), (frS8r8_mk s ⟨rfl,
 rfl, trivial⟩)⟩))⟩))⟩))
theorem rs_ret1 (p : Pg) (s : S8) (op d tg : Int) (a b : Vl) (nm : ByteArray) (hm : s.m.length ≤ 1000) (hst : s.st.length ≤ 1000) (hp0 : -1 ≤ s.pc) (hp1 : s.pc < 1000000) (hs : okR s) (ha : okV a) (hb : okV b) (hA : PureC Try.prog 24 [.agg (pgA p), .int .i64 s.pc] (.agg (inA (⟨9, op, d, a, b, nm, tg⟩ : In))) []) (hk : ¬ s.st.length = 0) : Vc (vcFn Try.prog false 21 [.agg (pgA p), .agg (s8R s)] [.fv, .fv, .cl [.agg (pgA p), .int .i64 s.pc] (.agg (inA (⟨9, op, d, a, b, nm, tg⟩ : In))) [], .cl [.agg (pgA p), .agg (rgA s), .agg (vlA a)] (.int .i64 (vlV p.W s a)) [], .cl [.agg (pgA p), .agg (rgA s), .agg (vlA b)] (.int .i64 (vlV p.W s b)) [], .cl [.int .i64 p.W, .int .i64 ((vlV p.W s a) + (vlV p.W s b))] (.int .i64 (Wd.maskV p.W ((vlV p.W s a) + (vlV p.W s b)))) [], .b false, .b false, .b false, .b false, .b false, .b false, .b false, .b false, .b true, .b false] [] (.tup [.agg (s8R { s with st := s.st.take (s.st.length - 1), pc := (s.st.getD (s.st.length - 1) 0) }), obR [⟨3, (s.st.getD (s.st.length - 1) 0)⟩], .int .i64 0]) []) :=
  vc_of (q := (frS8r3 p ((frS8r5 p s ((PureC Try.prog 24 [.agg (pgA p), .int .i64 s.pc] (.agg (inA (⟨9, op, d, a, b, nm, tg⟩ : In))) []) ∧ (frS8r3 p ((frS8r4 p s a ((Vl.n a = Vl.n a) ∧ cS8r2 p s a ∧ (frS8r3 p ((frS8r2 p s b ((Vl.n b = Vl.n b) ∧ cS8r1 p s b ∧ ((0 : Nat) = (0 : Nat) ∧ (0 : Nat) = (0 : Nat) ∧ ((0 : Nat) + List.length (S8.m s)) * (8 : Nat) ≤ (140737488355328 : Nat) ∧ (0 : Nat) + List.length (S8.m s) ≤ (140737488355328 : Nat)) ∧ ((0 : Nat) = (0 : Nat) ∧ (0 : Nat) = (0 : Nat) ∧ ((0 : Nat) + List.length (S8.st s)) * (8 : Nat) ≤ (140737488355328 : Nat) ∧ (0 : Nat) + List.length (S8.st s) ≤ (140737488355328 : Nat)) ∧ (inK IntKind.i64 (S8.pc s + (1 : Int))) ∧ (inK IntKind.i64 (vlV (Pg.W p) s a + vlV (Pg.W p) s b)) ∧ (Pg.W p = Pg.W p) ∧ (vlV (Pg.W p) s a + vlV (Pg.W p) s b = vlV (Pg.W p) s a + vlV (Pg.W p) s b) ∧ cS8r0 p s a b ∧ (((9 : Int) == (1 : Int)) = false) ∧ (((9 : Int) == (4 : Int)) = false) ∧ (((9 : Int) == (2 : Int)) = false) ∧ (((9 : Int) == (3 : Int)) = false) ∧ (((9 : Int) == (5 : Int)) = false) ∧ (((9 : Int) == (6 : Int)) = false) ∧ (((9 : Int) == (7 : Int)) = false) ∧ (((9 : Int) == (8 : Int)) = false) ∧ (((9 : Int) == (9 : Int)) = true) ∧ (((↑(List.length (S8.st s)) : Int) == (0 : Int)) = false) ∧ (inK IntKind.i64 ((↑(List.length (S8.st s)) : Int) - (1 : Int))) ∧ ((0 : Int) ≤ (↑(List.length (S8.st s)) : Int) - (1 : Int) ∧ (↑(List.length (S8.st s)) : Int) - (1 : Int) < (↑(List.length (S8.st s)) : Int)) ∧ (inK IntKind.i64 ((↑((0 : Nat) + List.length (S8.st s)) : Int) - (1 : Int))) ∧ ((0 : Int) ≤ (↑((0 : Nat) + List.length (S8.st s)) : Int) - (1 : Int) ∧ (↑((0 : Nat) + List.length (S8.st s)) : Int) - (1 : Int) ≤ (↑((0 : Nat) + List.length (S8.st s)) : Int)) ∧ (frS8r7 s (((0 : Nat) + List.length (S8.m s) = List.length (S8.m s)) ∧ (∀ (i : Nat), i < (0 : Nat) + List.length (S8.m s) → ∀ (j : Nat), j < (1 : Nat) → AV.int IntKind.i64 (List.getD (S8.m s) (i + (0 : Nat) - (0 : Nat)) (0 : Int)) = AV.int IntKind.i64 (List.getD (S8.m s) i (0 : Int))) ∧ (Int.toNat ((↑((0 : Nat) + List.length (S8.st s)) : Int) - (1 : Int)) = List.length (List.take (List.length (S8.st s) - (1 : Nat)) (S8.st s))) ∧ (∀ (i : Nat), i < Int.toNat ((↑((0 : Nat) + List.length (S8.st s)) : Int) - (1 : Int)) → ∀ (j : Nat), j < (1 : Nat) → AV.int IntKind.i64 (List.getD (S8.st s) (i + (0 : Nat) - (0 : Nat)) (0 : Int)) = AV.int IntKind.i64 (List.getD (List.take (List.length (S8.st s) - (1 : Nat)) (S8.st s)) i (0 : Int))) ∧ (List.getD (S8.st s) (Int.toNat ((↑(List.length (S8.st s)) : Int) - (1 : Int))) (0 : Int) = List.getD (S8.st s) (List.length (S8.st s) - (1 : Nat)) (0 : Int)) ∧ ((1 : Nat) = (1 : Nat)) ∧ (∀ (i : Nat), i < (1 : Nat) → ∀ (j : Nat), j < (2 : Nat) → List.getD [AV.int IntKind.i64 (3 : Int), AV.int IntKind.i64 (List.getD (S8.st s) (Int.toNat ((↑(List.length (S8.st s)) : Int) - (1 : Int))) (0 : Int))] ((i + (0 : Nat)) * (2 : Nat) + j) AV.junk = rowL obC [Ob.mk (3 : Int) (List.getD (S8.st s) (List.length (S8.st s) - (1 : Nat)) (0 : Int))] i j) ∧ ((0 : Int) = (0 : Int)) ∧ True))))))))))))))) (by kernel_rfl)
    (frS8r3_mk p (frS8r5_mk p s ⟨hA, (frS8r3_mk p (frS8r4_mk p s a ⟨rfl,
 rvalC p s a ha, (frS8r3_mk p (frS8r2_mk p s b ⟨rfl,
 rvalC p s b hb,
 (by first | omega | rfl),
 (by first | omega | rfl),
 (in64 (by omega) (by omega)),
 (in64 (by have := vlV_bd (W := p.W) hs a; have := vlV_bd (W := p.W) hs b; omega) (by have := vlV_bd (W := p.W) hs a; have := vlV_bd (W := p.W) hs b; omega)),
 rfl,
 rfl,
 rmaskC p.W ((vlV p.W s a) + (vlV p.W s b)),
 (by first | omega | rfl | (simp; done) | (simp; omega)),
 (by first | omega | rfl | (simp; done) | (simp; omega)),
 (by first | omega | rfl | (simp; done) | (simp; omega)),
 (by first | omega | rfl | (simp; done) | (simp; omega)),
 (by first | omega | rfl | (simp; done) | (simp; omega)),
 (by first | omega | rfl | (simp; done) | (simp; omega)),
 (by first | omega | rfl | (simp; done) | (simp; omega)),
 (by first | omega | rfl | (simp; done) | (simp; omega)),
 (by first | omega | rfl | (simp; done) | (simp; omega)),
 (beq_eq_false_iff_ne.2 (by omega)),
 (in64 (by omega) (by omega)),
 (by first | omega | rfl | (simp; done) | (simp; omega)),
 (in64 (by omega) (by omega)),
 (by first | omega | rfl | (simp; done) | (simp; omega)), (frS8r7_mk s ⟨(by first | omega | rfl | (simp; done) | (simp; omega)),
 (fun _ _ _ _ => rfl),
 (by rw [List.length_take]; omega),
 take0,
 (by rw [last_nat]),
 rfl,
 ret_ob,
 rfl, trivial⟩)⟩))⟩))⟩))
theorem rs_fence (p : Pg) (s : S8) (op d tg : Int) (a b : Vl) (nm : ByteArray) (hm : s.m.length ≤ 1000) (hst : s.st.length ≤ 1000) (hp0 : -1 ≤ s.pc) (hp1 : s.pc < 1000000) (hs : okR s) (ha : okV a) (hb : okV b) (hA : PureC Try.prog 24 [.agg (pgA p), .int .i64 s.pc] (.agg (inA (⟨10, op, d, a, b, nm, tg⟩ : In))) [])  : Vc (vcFn Try.prog false 21 [.agg (pgA p), .agg (s8R s)] [.fv, .fv, .cl [.agg (pgA p), .int .i64 s.pc] (.agg (inA (⟨10, op, d, a, b, nm, tg⟩ : In))) [], .cl [.agg (pgA p), .agg (rgA s), .agg (vlA a)] (.int .i64 (vlV p.W s a)) [], .cl [.agg (pgA p), .agg (rgA s), .agg (vlA b)] (.int .i64 (vlV p.W s b)) [], .cl [.int .i64 p.W, .int .i64 ((vlV p.W s a) + (vlV p.W s b))] (.int .i64 (Wd.maskV p.W ((vlV p.W s a) + (vlV p.W s b)))) []] [] (.tup [.agg (s8R (s.go (s.pc + 1))), obR [], .int .i64 0]) []) :=
  vc_of (q := (frS8r3 p ((frS8r5 p s ((PureC Try.prog 24 [.agg (pgA p), .int .i64 s.pc] (.agg (inA (⟨10, op, d, a, b, nm, tg⟩ : In))) []) ∧ (frS8r3 p ((frS8r4 p s a ((Vl.n a = Vl.n a) ∧ cS8r2 p s a ∧ (frS8r3 p ((frS8r2 p s b ((Vl.n b = Vl.n b) ∧ cS8r1 p s b ∧ ((0 : Nat) = (0 : Nat) ∧ (0 : Nat) = (0 : Nat) ∧ ((0 : Nat) + List.length (S8.m s)) * (8 : Nat) ≤ (140737488355328 : Nat) ∧ (0 : Nat) + List.length (S8.m s) ≤ (140737488355328 : Nat)) ∧ ((0 : Nat) = (0 : Nat) ∧ (0 : Nat) = (0 : Nat) ∧ ((0 : Nat) + List.length (S8.st s)) * (8 : Nat) ≤ (140737488355328 : Nat) ∧ (0 : Nat) + List.length (S8.st s) ≤ (140737488355328 : Nat)) ∧ (inK IntKind.i64 (S8.pc s + (1 : Int))) ∧ (inK IntKind.i64 (vlV (Pg.W p) s a + vlV (Pg.W p) s b)) ∧ (Pg.W p = Pg.W p) ∧ (vlV (Pg.W p) s a + vlV (Pg.W p) s b = vlV (Pg.W p) s a + vlV (Pg.W p) s b) ∧ cS8r0 p s a b ∧ (frS8r7 s (((0 : Nat) + List.length (S8.m s) = List.length (S8.m s)) ∧ (∀ (i : Nat), i < (0 : Nat) + List.length (S8.m s) → ∀ (j : Nat), j < (1 : Nat) → AV.int IntKind.i64 (List.getD (S8.m s) (i + (0 : Nat) - (0 : Nat)) (0 : Int)) = AV.int IntKind.i64 (List.getD (S8.m s) i (0 : Int))) ∧ ((0 : Nat) + List.length (S8.st s) = List.length (S8.st s)) ∧ (frS8r6 s (True))))))))))))))))) (by kernel_rfl)
    (frS8r3_mk p (frS8r5_mk p s ⟨hA, (frS8r3_mk p (frS8r4_mk p s a ⟨rfl,
 rvalC p s a ha, (frS8r3_mk p (frS8r2_mk p s b ⟨rfl,
 rvalC p s b hb,
 (by first | omega | rfl),
 (by first | omega | rfl),
 (in64 (by omega) (by omega)),
 (in64 (by have := vlV_bd (W := p.W) hs a; have := vlV_bd (W := p.W) hs b; omega) (by have := vlV_bd (W := p.W) hs a; have := vlV_bd (W := p.W) hs b; omega)),
 rfl,
 rfl,
 rmaskC p.W ((vlV p.W s a) + (vlV p.W s b)), (frS8r7_mk s ⟨(by first | omega | rfl | (simp; done) | (simp; omega)),
 (fun _ _ _ _ => rfl),
 (by first | omega | rfl | (simp; done) | (simp; omega)), (frS8r6_mk s trivial)⟩)⟩))⟩))⟩))
theorem rs_halt (p : Pg) (s : S8) (op d tg : Int) (a b : Vl) (nm : ByteArray) (hm : s.m.length ≤ 1000) (hst : s.st.length ≤ 1000) (hp0 : -1 ≤ s.pc) (hp1 : s.pc < 1000000) (hs : okR s) (ha : okV a) (hb : okV b) (hA : PureC Try.prog 24 [.agg (pgA p), .int .i64 s.pc] (.agg (inA (⟨11, op, d, a, b, nm, tg⟩ : In))) [])  : Vc (vcFn Try.prog false 21 [.agg (pgA p), .agg (s8R s)] [.fv, .fv, .cl [.agg (pgA p), .int .i64 s.pc] (.agg (inA (⟨11, op, d, a, b, nm, tg⟩ : In))) [], .cl [.agg (pgA p), .agg (rgA s), .agg (vlA a)] (.int .i64 (vlV p.W s a)) [], .cl [.agg (pgA p), .agg (rgA s), .agg (vlA b)] (.int .i64 (vlV p.W s b)) [], .cl [.int .i64 p.W, .int .i64 ((vlV p.W s a) + (vlV p.W s b))] (.int .i64 (Wd.maskV p.W ((vlV p.W s a) + (vlV p.W s b)))) []] [] (.tup [.agg (s8R s), obR [], .int .i64 1]) []) :=
  vc_of (q := (frS8r3 p ((frS8r5 p s ((PureC Try.prog 24 [.agg (pgA p), .int .i64 s.pc] (.agg (inA (⟨11, op, d, a, b, nm, tg⟩ : In))) []) ∧ (frS8r3 p ((frS8r4 p s a ((Vl.n a = Vl.n a) ∧ cS8r2 p s a ∧ (frS8r3 p ((frS8r2 p s b ((Vl.n b = Vl.n b) ∧ cS8r1 p s b ∧ ((0 : Nat) = (0 : Nat) ∧ (0 : Nat) = (0 : Nat) ∧ ((0 : Nat) + List.length (S8.m s)) * (8 : Nat) ≤ (140737488355328 : Nat) ∧ (0 : Nat) + List.length (S8.m s) ≤ (140737488355328 : Nat)) ∧ ((0 : Nat) = (0 : Nat) ∧ (0 : Nat) = (0 : Nat) ∧ ((0 : Nat) + List.length (S8.st s)) * (8 : Nat) ≤ (140737488355328 : Nat) ∧ (0 : Nat) + List.length (S8.st s) ≤ (140737488355328 : Nat)) ∧ (inK IntKind.i64 (S8.pc s + (1 : Int))) ∧ (inK IntKind.i64 (vlV (Pg.W p) s a + vlV (Pg.W p) s b)) ∧ (Pg.W p = Pg.W p) ∧ (vlV (Pg.W p) s a + vlV (Pg.W p) s b = vlV (Pg.W p) s a + vlV (Pg.W p) s b) ∧ cS8r0 p s a b ∧ (frS8r8 s (((0 : Nat) = (0 : Nat)) ∧ ((1 : Int) = (1 : Int)) ∧ True))))))))))))))) (by kernel_rfl)
    (frS8r3_mk p (frS8r5_mk p s ⟨hA, (frS8r3_mk p (frS8r4_mk p s a ⟨rfl,
 rvalC p s a ha, (frS8r3_mk p (frS8r2_mk p s b ⟨rfl,
 rvalC p s b hb,
 (by first | omega | rfl),
 (by first | omega | rfl),
 (in64 (by omega) (by omega)),
 (in64 (by have := vlV_bd (W := p.W) hs a; have := vlV_bd (W := p.W) hs b; omega) (by have := vlV_bd (W := p.W) hs a; have := vlV_bd (W := p.W) hs b; omega)),
 rfl,
 rfl,
 rmaskC p.W ((vlV p.W s a) + (vlV p.W s b)), (frS8r8_mk s ⟨rfl,
 rfl, trivial⟩)⟩))⟩))⟩))
theorem rs_fault (p : Pg) (s : S8) (op d tg : Int) (a b : Vl) (nm : ByteArray) (hm : s.m.length ≤ 1000) (hst : s.st.length ≤ 1000) (hp0 : -1 ≤ s.pc) (hp1 : s.pc < 1000000) (hs : okR s) (ha : okV a) (hb : okV b) (hA : PureC Try.prog 24 [.agg (pgA p), .int .i64 s.pc] (.agg (inA (⟨12, op, d, a, b, nm, tg⟩ : In))) [])  : Vc (vcFn Try.prog false 21 [.agg (pgA p), .agg (s8R s)] [.fv, .fv, .cl [.agg (pgA p), .int .i64 s.pc] (.agg (inA (⟨12, op, d, a, b, nm, tg⟩ : In))) [], .cl [.agg (pgA p), .agg (rgA s), .agg (vlA a)] (.int .i64 (vlV p.W s a)) [], .cl [.agg (pgA p), .agg (rgA s), .agg (vlA b)] (.int .i64 (vlV p.W s b)) [], .cl [.int .i64 p.W, .int .i64 ((vlV p.W s a) + (vlV p.W s b))] (.int .i64 (Wd.maskV p.W ((vlV p.W s a) + (vlV p.W s b)))) []] [] (.tup [.agg (s8R s), obR [], .int .i64 2]) []) :=
  vc_of (q := (frS8r3 p ((frS8r5 p s ((PureC Try.prog 24 [.agg (pgA p), .int .i64 s.pc] (.agg (inA (⟨12, op, d, a, b, nm, tg⟩ : In))) []) ∧ (frS8r3 p ((frS8r4 p s a ((Vl.n a = Vl.n a) ∧ cS8r2 p s a ∧ (frS8r3 p ((frS8r2 p s b ((Vl.n b = Vl.n b) ∧ cS8r1 p s b ∧ ((0 : Nat) = (0 : Nat) ∧ (0 : Nat) = (0 : Nat) ∧ ((0 : Nat) + List.length (S8.m s)) * (8 : Nat) ≤ (140737488355328 : Nat) ∧ (0 : Nat) + List.length (S8.m s) ≤ (140737488355328 : Nat)) ∧ ((0 : Nat) = (0 : Nat) ∧ (0 : Nat) = (0 : Nat) ∧ ((0 : Nat) + List.length (S8.st s)) * (8 : Nat) ≤ (140737488355328 : Nat) ∧ (0 : Nat) + List.length (S8.st s) ≤ (140737488355328 : Nat)) ∧ (inK IntKind.i64 (S8.pc s + (1 : Int))) ∧ (inK IntKind.i64 (vlV (Pg.W p) s a + vlV (Pg.W p) s b)) ∧ (Pg.W p = Pg.W p) ∧ (vlV (Pg.W p) s a + vlV (Pg.W p) s b = vlV (Pg.W p) s a + vlV (Pg.W p) s b) ∧ cS8r0 p s a b ∧ (frS8r8 s (((0 : Nat) = (0 : Nat)) ∧ ((2 : Int) = (2 : Int)) ∧ True))))))))))))))) (by kernel_rfl)
    (frS8r3_mk p (frS8r5_mk p s ⟨hA, (frS8r3_mk p (frS8r4_mk p s a ⟨rfl,
 rvalC p s a ha, (frS8r3_mk p (frS8r2_mk p s b ⟨rfl,
 rvalC p s b hb,
 (by first | omega | rfl),
 (by first | omega | rfl),
 (in64 (by omega) (by omega)),
 (in64 (by have := vlV_bd (W := p.W) hs a; have := vlV_bd (W := p.W) hs b; omega) (by have := vlV_bd (W := p.W) hs a; have := vlV_bd (W := p.W) hs b; omega)),
 rfl,
 rfl,
 rmaskC p.W ((vlV p.W s a) + (vlV p.W s b)), (frS8r8_mk s ⟨rfl,
 rfl, trivial⟩)⟩))⟩))⟩))
end
end Go.Proofs.Ytjdiabjmphdhiaa.Px
namespace Go.Proofs.Ytjdiabjmphdhiaa.Px
section
open Go.RowKit Go.Proofs.Ytjdiabjmphdhiaa.Rx
theorem rstepC (p : Pg) (s : S8) (hP : OkP p) (hs : OkS ((sumN p.ms : Nat) : Int) p.is.length s) : PureC Try.prog 21 [.agg (pgA p), .agg (s8R s)] (.tup [.agg (s8R (stepI p.W ((sumN p.ms : Nat) : Int) p.is.length (atI p s.pc) s).1), obR (stepI p.W ((sumN p.ms : Nat) : Int) p.is.length (atI p s.pc) s).2.1, .int .i64 (stepI p.W ((sumN p.ms : Nat) : Int) p.is.length (atI p s.pc) s).2.2]) [] := by
  obtain ⟨hi, hpc⟩ := atI_ok hP s.pc
  have hA := ratC p s.pc
  generalize atI p s.pc = i at hi hpc hA ⊢
  obtain ⟨k, op, d, a, b, nm, tg⟩ := i
  obtain ⟨hk, ha, hb, hd, ht⟩ := hi
  simp only at hk ha hb hd ht hpc
  have hp := hs.pc
  have hlen := hP.len
  have hp1 : s.pc < 1000000 := by omega
  have hst : s.st.length ≤ 1000 := by have := hs.st; omega
  have hc := hs.c
  have hm : s.m.length ≤ 1000 := by have := hP.sum; omega
  refine stepI_elim (Q := fun r => PureC Try.prog 21 [.agg (pgA p), .agg (s8R s)] (.tup [.agg (s8R r.1), obR r.2.1, .int .i64 r.2.2]) []) _ _ _ _ _ ?_ ?_ ?_ ?_ ?_ ?_ ?_ ?_ ?_ ?_ ?_ ?_ ?_ ?_ ?_ ?_ ?_ ?_
  · intro hk; have hk : k = 1 := hk; subst hk; exact PureC.vc (rs_alu p s op d tg a b nm hm hst hp.1 hp1 hs.reg ha hb hA hd.1 hd.2)
  · intro hk hz; have hk : k = 4 := hk; subst hk; exact PureC.vc (rs_cmov0 p s op d tg a b nm hm hst hp.1 hp1 hs.reg ha hb hA hz)
  · intro hk hz; have hk : k = 4 := hk; subst hk; exact PureC.vc (rs_cmov1 p s op d tg a b nm hm hst hp.1 hp1 hs.reg ha hb hA hz hd.1 hd.2)
  · intro hk hx; have hk : k = 2 := hk; subst hk; rw [hc] at hx; exact PureC.vc (rs_load1 p s op d tg a b nm hm hst hp.1 hp1 hs.reg ha hb hA hx hd.1 hd.2)
  · intro hk hx; have hk : k = 2 := hk; subst hk; rw [hc] at hx; exact PureC.vc (rs_load0 p s op d tg a b nm hm hst hp.1 hp1 hs.reg ha hb hA hx)
  · intro hk hx; have hk : k = 3 := hk; subst hk; rw [hc] at hx; exact PureC.vc (rs_store1 p s op d tg a b nm hm hst hp.1 hp1 hs.reg ha hb hA hx hd.1 hd.2)
  · intro hk hx; have hk : k = 3 := hk; subst hk; rw [hc] at hx; exact PureC.vc (rs_store0 p s op d tg a b nm hm hst hp.1 hp1 hs.reg ha hb hA hx)
  · intro hk hz; have hk : k = 5 := hk; subst hk; exact PureC.vc (rs_br0 p s op d tg a b nm hm hst hp.1 hp1 hs.reg ha hb hA hz)
  · intro hk hz; have hk : k = 5 := hk; subst hk; exact PureC.vc (rs_br1 p s op d tg a b nm hm hst hp.1 hp1 hs.reg ha hb hA hz)
  · intro hk; have hk : k = 6 := hk; subst hk; exact PureC.vc (rs_jmp p s op d tg a b nm hm hst hp.1 hp1 hs.reg ha hb hA)
  · intro hk; have hk : k = 7 := hk; subst hk; exact PureC.vc (rs_ind p s op d tg a b nm hm hst hp.1 hp1 hs.reg ha hb hA)
  · intro hk hz; have hk : k = 8 := hk; subst hk; exact PureC.vc (rs_call0 p s op d tg a b nm hm hst hp.1 hp1 hs.reg ha hb hA hz)
  · intro hk hz; have hk : k = 8 := hk; subst hk; exact PureC.vc (rs_call1 p s op d tg a b nm hm hst hp.1 hp1 hs.reg ha hb hA hz)
  · intro hk hz; have hk : k = 9 := hk; subst hk; exact PureC.vc (rs_ret0 p s op d tg a b nm hm hst hp.1 hp1 hs.reg ha hb hA hz)
  · intro hk hz; have hk : k = 9 := hk; subst hk; exact PureC.vc (rs_ret1 p s op d tg a b nm hm hst hp.1 hp1 hs.reg ha hb hA hz)
  · intro hk; have hk : k = 10 := hk; subst hk; exact PureC.vc (rs_fence p s op d tg a b nm hm hst hp.1 hp1 hs.reg ha hb hA)
  · intro hk; have hk : k = 11 := hk; subst hk; exact PureC.vc (rs_halt p s op d tg a b nm hm hst hp.1 hp1 hs.reg ha hb hA)
  · rintro ⟨k1, k2, k3, k4, k5, k6, k7, k8, k9, k10, k11⟩
    simp only at k1 k2 k3 k4 k5 k6 k7 k8 k9 k10 k11
    have hk : k = 12 := by omega
    subst hk; exact PureC.vc (rs_fault p s op d tg a b nm hm hst hp.1 hp1 hs.reg ha hb hA)
def frS8s0 (s : S8) (Z : Prop) : Prop := (∀ (i : Nat), i < List.length (S8.m s) → ∀ (j : Nat), j < (1 : Nat) → AV.int IntKind.i64 (List.getD (S8.m s) i (0 : Int)) = AV.int IntKind.i64 (List.getD (S8.m s) i (0 : Int))) ∧ (List.length (S8.st s) = List.length (S8.st s)) ∧ (∀ (i : Nat), i < List.length (S8.st s) → ∀ (j : Nat), j < (1 : Nat) → AV.int IntKind.i64 (List.getD (S8.st s) i (0 : Int)) = AV.int IntKind.i64 (List.getD (S8.st s) i (0 : Int))) ∧ (S8.pc s = S8.pc s) ∧ Z
theorem frS8s0_mk (s : S8) {Z : Prop} (z : Z) : frS8s0 s Z := ⟨(fun _ _ _ _ => rfl), rfl, (fun _ _ _ _ => rfl), rfl, z⟩
def frS8s1 (p : Pg) (s : S8) (Z : Prop) : Prop := (List.length (Pg.ls p) = List.length (Pg.ls p)) ∧ (∀ (i : Nat), i < List.length (Pg.ls p) → ∀ (j : Nat), j < (2 : Nat) → rowL lbC (Pg.ls p) i j = rowL lbC (Pg.ls p) i j) ∧ (List.length (Pg.is p) = List.length (Pg.is p)) ∧ (∀ (i : Nat), i < List.length (Pg.is p) → ∀ (j : Nat), j < (9 : Nat) → rowL inC (Pg.is p) i j = rowL inC (Pg.is p) i j) ∧ (S8.r0 s = S8.r0 s) ∧ (S8.r1 s = S8.r1 s) ∧ (S8.r2 s = S8.r2 s) ∧ (S8.r3 s = S8.r3 s) ∧ (List.length (S8.m s) = List.length (S8.m s)) ∧ Z
theorem frS8s1_mk (p : Pg) (s : S8) {Z : Prop} (z : Z) : frS8s1 p s Z := ⟨rfl, (fun _ _ _ _ => rfl), rfl, (fun _ _ _ _ => rfl), rfl, rfl, rfl, rfl, rfl, z⟩
def frS8s2 (p : Pg) (Z : Prop) : Prop := (Pg.W p = Pg.W p) ∧ (Pg.win p = Pg.win p) ∧ (Pg.fuel p = Pg.fuel p) ∧ (Pg.r0 p = Pg.r0 p) ∧ (Pg.r1 p = Pg.r1 p) ∧ (Pg.r2 p = Pg.r2 p) ∧ (Pg.r3 p = Pg.r3 p) ∧ (List.length (Pg.ms p) = List.length (Pg.ms p)) ∧ (∀ (i : Nat), i < List.length (Pg.ms p) → ∀ (j : Nat), j < (3 : Nat) → rowL mmC (Pg.ms p) i j = rowL mmC (Pg.ms p) i j) ∧ Z
theorem frS8s2_mk (p : Pg) {Z : Prop} (z : Z) : frS8s2 p Z := ⟨rfl, rfl, rfl, rfl, rfl, rfl, rfl, rfl, (fun _ _ _ _ => rfl), z⟩
theorem sq_step (p : Pg) (s : S8) (hP : OkP p) (hs : OkS ((sumN p.ms : Nat) : Int) p.is.length s) : Vc (vcFn Try.prog false 16 [.agg (pgA p), .agg (s8A s (.row 1 s.m.length (rowI s.m)) (.row 1 s.st.length (rowI s.st)))] [.cl [.agg (pgA p), .agg (s8A s (.row 1 s.m.length (rowI s.m)) (.row 1 s.st.length (rowI s.st))), .int .i64 1] (.tup [.agg (s8A (runD p ((sumN p.ms : Nat) : Int) s (1 : Int).toNat).s (.own 0 0 1 0 (runD p ((sumN p.ms : Nat) : Int) s (1 : Int).toNat).s.m.length) (.own 1 0 1 0 (runD p ((sumN p.ms : Nat) : Int) s (1 : Int).toNat).s.st.length)), .own 2 0 2 0 (runD p ((sumN p.ms : Nat) : Int) s (1 : Int).toNat).o.length, .int .i64 (runD p ((sumN p.ms : Nat) : Int) s (1 : Int).toNat).k, .int .i64 (runD p ((sumN p.ms : Nat) : Int) s (1 : Int).toNat).e]) [blkI (runD p ((sumN p.ms : Nat) : Int) s (1 : Int).toNat).s.m, blkI (runD p ((sumN p.ms : Nat) : Int) s (1 : Int).toNat).s.st, obB (runD p ((sumN p.ms : Nat) : Int) s (1 : Int).toNat).o]] [(0, 3), (1, 4), (2, 5)] (.tup [.agg (s8A (runD p ((sumN p.ms : Nat) : Int) s (1 : Int).toNat).s (.own 0 0 1 0 (runD p ((sumN p.ms : Nat) : Int) s (1 : Int).toNat).s.m.length) (.own 1 0 1 0 (runD p ((sumN p.ms : Nat) : Int) s (1 : Int).toNat).s.st.length)), .own 2 0 2 0 (runD p ((sumN p.ms : Nat) : Int) s (1 : Int).toNat).o.length, .int .i64 (runD p ((sumN p.ms : Nat) : Int) s (1 : Int).toNat).e]) [blkI (runD p ((sumN p.ms : Nat) : Int) s (1 : Int).toNat).s.m, blkI (runD p ((sumN p.ms : Nat) : Int) s (1 : Int).toNat).s.st, obB (runD p ((sumN p.ms : Nat) : Int) s (1 : Int).toNat).o]) :=
  vc_of (q := (frS8s2 p ((frS8s1 p s ((frS8s0 s (((1 : Int) = (1 : Int)) ∧ (PureC Try.prog 19 [.agg (pgA p), .agg (s8A s (.row 1 s.m.length (rowI s.m)) (.row 1 s.st.length (rowI s.st))), .int .i64 1] (.tup [.agg (s8A (runD p ((sumN p.ms : Nat) : Int) s (1 : Int).toNat).s (.own 0 0 1 0 (runD p ((sumN p.ms : Nat) : Int) s (1 : Int).toNat).s.m.length) (.own 1 0 1 0 (runD p ((sumN p.ms : Nat) : Int) s (1 : Int).toNat).s.st.length)), .own 2 0 2 0 (runD p ((sumN p.ms : Nat) : Int) s (1 : Int).toNat).o.length, .int .i64 (runD p ((sumN p.ms : Nat) : Int) s (1 : Int).toNat).k, .int .i64 (runD p ((sumN p.ms : Nat) : Int) s (1 : Int).toNat).e]) [blkI (runD p ((sumN p.ms : Nat) : Int) s (1 : Int).toNat).s.m, blkI (runD p ((sumN p.ms : Nat) : Int) s (1 : Int).toNat).s.st, obB (runD p ((sumN p.ms : Nat) : Int) s (1 : Int).toNat).o]) ∧ (List.length (S8.m (Prod.fst (stepI (Pg.W p) (↑(sumN (Pg.ms p)) : Int) (↑(List.length (Pg.is p)) : Int) (atI p (S8.pc s)) s))) = List.length (S8.m (Prod.fst (stepI (Pg.W p) (↑(sumN (Pg.ms p)) : Int) (↑(List.length (Pg.is p)) : Int) (atI p (S8.pc s)) s)))) ∧ (∀ (i : Nat), i < List.length (S8.m (Prod.fst (stepI (Pg.W p) (↑(sumN (Pg.ms p)) : Int) (↑(List.length (Pg.is p)) : Int) (atI p (S8.pc s)) s))) → ∀ (j : Nat), j < (1 : Nat) → AV.int IntKind.i64 (List.getD (S8.m (Prod.fst (stepI (Pg.W p) (↑(sumN (Pg.ms p)) : Int) (↑(List.length (Pg.is p)) : Int) (atI p (S8.pc s)) s))) i (0 : Int)) = AV.int IntKind.i64 (List.getD (S8.m (Prod.fst (stepI (Pg.W p) (↑(sumN (Pg.ms p)) : Int) (↑(List.length (Pg.is p)) : Int) (atI p (S8.pc s)) s))) i (0 : Int))) ∧ (List.length (S8.st (Prod.fst (stepI (Pg.W p) (↑(sumN (Pg.ms p)) : Int) (↑(List.length (Pg.is p)) : Int) (atI p (S8.pc s)) s))) = List.length (S8.st (Prod.fst (stepI (Pg.W p) (↑(sumN (Pg.ms p)) : Int) (↑(List.length (Pg.is p)) : Int) (atI p (S8.pc s)) s)))) ∧ (∀ (i : Nat), i < List.length (S8.st (Prod.fst (stepI (Pg.W p) (↑(sumN (Pg.ms p)) : Int) (↑(List.length (Pg.is p)) : Int) (atI p (S8.pc s)) s))) → ∀ (j : Nat), j < (1 : Nat) → AV.int IntKind.i64 (List.getD (S8.st (Prod.fst (stepI (Pg.W p) (↑(sumN (Pg.ms p)) : Int) (↑(List.length (Pg.is p)) : Int) (atI p (S8.pc s)) s))) i (0 : Int)) = AV.int IntKind.i64 (List.getD (S8.st (Prod.fst (stepI (Pg.W p) (↑(sumN (Pg.ms p)) : Int) (↑(List.length (Pg.is p)) : Int) (atI p (S8.pc s)) s))) i (0 : Int))) ∧ (List.length ([] ++ Prod.fst (Prod.snd (stepI (Pg.W p) (↑(sumN (Pg.ms p)) : Int) (↑(List.length (Pg.is p)) : Int) (atI p (S8.pc s)) s))) = List.length ([] ++ Prod.fst (Prod.snd (stepI (Pg.W p) (↑(sumN (Pg.ms p)) : Int) (↑(List.length (Pg.is p)) : Int) (atI p (S8.pc s)) s)))) ∧ (∀ (i : Nat), i < List.length ([] ++ Prod.fst (Prod.snd (stepI (Pg.W p) (↑(sumN (Pg.ms p)) : Int) (↑(List.length (Pg.is p)) : Int) (atI p (S8.pc s)) s))) → ∀ (j : Nat), j < (2 : Nat) → rowL obC ([] ++ Prod.fst (Prod.snd (stepI (Pg.W p) (↑(sumN (Pg.ms p)) : Int) (↑(List.length (Pg.is p)) : Int) (atI p (S8.pc s)) s))) i j = rowL obC ([] ++ Prod.fst (Prod.snd (stepI (Pg.W p) (↑(sumN (Pg.ms p)) : Int) (↑(List.length (Pg.is p)) : Int) (atI p (S8.pc s)) s))) i j) ∧ (S8.r0 (Prod.fst (stepI (Pg.W p) (↑(sumN (Pg.ms p)) : Int) (↑(List.length (Pg.is p)) : Int) (atI p (S8.pc s)) s)) = S8.r0 (Prod.fst (stepI (Pg.W p) (↑(sumN (Pg.ms p)) : Int) (↑(List.length (Pg.is p)) : Int) (atI p (S8.pc s)) s))) ∧ (S8.r1 (Prod.fst (stepI (Pg.W p) (↑(sumN (Pg.ms p)) : Int) (↑(List.length (Pg.is p)) : Int) (atI p (S8.pc s)) s)) = S8.r1 (Prod.fst (stepI (Pg.W p) (↑(sumN (Pg.ms p)) : Int) (↑(List.length (Pg.is p)) : Int) (atI p (S8.pc s)) s))) ∧ (S8.r2 (Prod.fst (stepI (Pg.W p) (↑(sumN (Pg.ms p)) : Int) (↑(List.length (Pg.is p)) : Int) (atI p (S8.pc s)) s)) = S8.r2 (Prod.fst (stepI (Pg.W p) (↑(sumN (Pg.ms p)) : Int) (↑(List.length (Pg.is p)) : Int) (atI p (S8.pc s)) s))) ∧ (S8.r3 (Prod.fst (stepI (Pg.W p) (↑(sumN (Pg.ms p)) : Int) (↑(List.length (Pg.is p)) : Int) (atI p (S8.pc s)) s)) = S8.r3 (Prod.fst (stepI (Pg.W p) (↑(sumN (Pg.ms p)) : Int) (↑(List.length (Pg.is p)) : Int) (atI p (S8.pc s)) s))) ∧ ((0 : Nat) = (0 : Nat)) ∧ (List.length (S8.m (Prod.fst (stepI (Pg.W p) (↑(sumN (Pg.ms p)) : Int) (↑(List.length (Pg.is p)) : Int) (atI p (S8.pc s)) s))) = List.length (S8.m (Prod.fst (stepI (Pg.W p) (↑(sumN (Pg.ms p)) : Int) (↑(List.length (Pg.is p)) : Int) (atI p (S8.pc s)) s)))) ∧ ((0 : Nat) = (0 : Nat)) ∧ (List.length (S8.st (Prod.fst (stepI (Pg.W p) (↑(sumN (Pg.ms p)) : Int) (↑(List.length (Pg.is p)) : Int) (atI p (S8.pc s)) s))) = List.length (S8.st (Prod.fst (stepI (Pg.W p) (↑(sumN (Pg.ms p)) : Int) (↑(List.length (Pg.is p)) : Int) (atI p (S8.pc s)) s)))) ∧ (S8.pc (Prod.fst (stepI (Pg.W p) (↑(sumN (Pg.ms p)) : Int) (↑(List.length (Pg.is p)) : Int) (atI p (S8.pc s)) s)) = S8.pc (Prod.fst (stepI (Pg.W p) (↑(sumN (Pg.ms p)) : Int) (↑(List.length (Pg.is p)) : Int) (atI p (S8.pc s)) s))) ∧ ((0 : Nat) = (0 : Nat)) ∧ (List.length ([] ++ Prod.fst (Prod.snd (stepI (Pg.W p) (↑(sumN (Pg.ms p)) : Int) (↑(List.length (Pg.is p)) : Int) (atI p (S8.pc s)) s))) = List.length ([] ++ Prod.fst (Prod.snd (stepI (Pg.W p) (↑(sumN (Pg.ms p)) : Int) (↑(List.length (Pg.is p)) : Int) (atI p (S8.pc s)) s)))) ∧ (Prod.snd (Prod.snd (stepI (Pg.W p) (↑(sumN (Pg.ms p)) : Int) (↑(List.length (Pg.is p)) : Int) (atI p (S8.pc s)) s)) = Prod.snd (Prod.snd (stepI (Pg.W p) (↑(sumN (Pg.ms p)) : Int) (↑(List.length (Pg.is p)) : Int) (atI p (S8.pc s)) s))) ∧ True))))))) (by kernel_rfl)
    (frS8s2_mk p (frS8s1_mk p s (frS8s0_mk s ⟨rfl,
 runC p s 1 hP hs (by omega),
 rfl,
 (fun _ _ _ _ => rfl),
 rfl,
 (fun _ _ _ _ => rfl),
 rfl,
 (fun _ _ _ _ => rfl),
 rfl,
 rfl,
 rfl,
 rfl,
 rfl,
 rfl,
 rfl,
 rfl,
 rfl,
 rfl,
 rfl,
 rfl, trivial⟩)))
theorem stepC (p : Pg) (s : S8) (hP : OkP p) (hs : OkS ((sumN p.ms : Nat) : Int) p.is.length s) : PureC Try.prog 16 [.agg (pgA p), .agg (s8R s)] (.tup [.agg (s8A (runD p ((sumN p.ms : Nat) : Int) s 1).s (.own 0 0 1 0 (runD p ((sumN p.ms : Nat) : Int) s 1).s.m.length) (.own 1 0 1 0 (runD p ((sumN p.ms : Nat) : Int) s 1).s.st.length)), .own 2 0 2 0 (runD p ((sumN p.ms : Nat) : Int) s 1).o.length, .int .i64 (runD p ((sumN p.ms : Nat) : Int) s 1).e]) [blkI (runD p ((sumN p.ms : Nat) : Int) s 1).s.m, blkI (runD p ((sumN p.ms : Nat) : Int) s 1).s.st, obB (runD p ((sumN p.ms : Nat) : Int) s 1).o] := PureC.vc (sq_step p s hP hs)
theorem stepF (p : Pg) (s : S8) (hP : OkP p) (hs : OkS ((sumN p.ms : Nat) : Int) p.is.length s) : PureC Try.prog 16 [.agg (pgA p), .agg (s8R s)] (.tup [.agg (s8R (runD p ((sumN p.ms : Nat) : Int) s 1).s), obR (runD p ((sumN p.ms : Nat) : Int) s 1).o, .int .i64 (runD p ((sumN p.ms : Nat) : Int) s 1).e]) [] := (stepC p s hP hs).frozenT
theorem runF (p : Pg) (s : S8) (n : Int) (hP : OkP p) (hs : OkS ((sumN p.ms : Nat) : Int) p.is.length s) (hn : n < 1000000) : PureC Try.prog 19 [.agg (pgA p), .agg (s8R s), .int .i64 n] (.tup [.agg (s8R (runD p ((sumN p.ms : Nat) : Int) s n.toNat).s), obR (runD p ((sumN p.ms : Nat) : Int) s n.toNat).o, .int .i64 (runD p ((sumN p.ms : Nat) : Int) s n.toNat).k, .int .i64 (runD p ((sumN p.ms : Nat) : Int) s n.toNat).e]) [] := (runC p s n hP hs hn).frozenT
end
end Go.Proofs.Ytjdiabjmphdhiaa.Px
namespace Go.Proofs.Ytjdiabjmphdhiaa.Px
section
open Go.RowKit Go.Proofs.Ytjdiabjmphdhiaa.Rx
def soS (l : List Ob) (k : Nat) : Sm := ⟨[(0, obR l), (1, obR l), (5, .int .i64 k), (4, .bool false)], [], 0⟩
def siS (l : List Int) (k : Nat) : Sm := ⟨[(0, lR l), (1, lR l), (5, .int .i64 k), (4, .bool false)], [], 0⟩
/-- a state's numbers -/
def intsL (s : S8) : List Int := ((([s.r0, s.r1, s.r2, s.r3, (s.m.length : Int)] ++ s.m) ++ [(s.st.length : Int)]) ++ s.st) ++ [s.pc]
def frS8t0 (l : List Ob) (Z : Prop) : Prop := (List.length l = List.length l) ∧ (∀ (i : Nat), i < List.length l → ∀ (j : Nat), j < (2 : Nat) → rowL obC l i j = rowL obC l i j) ∧ (List.length l = List.length l) ∧ (∀ (i : Nat), i < List.length l → ∀ (j : Nat), j < (2 : Nat) → rowL obC l i j = rowL obC l i j) ∧ Z
theorem frS8t0_mk (l : List Ob) {Z : Prop} (z : Z) : frS8t0 l Z := ⟨rfl, (fun _ _ _ _ => rfl), rfl, (fun _ _ _ _ => rfl), z⟩
theorem so_step (l : List Ob) (k : Nat) (hk : k < l.length) (hb : l.length < 1000000000) : Vc (vcC Try.prog false (ntOf Try.prog 17) (lpC Try.prog 17 0) (soS l k) [.b true, .b false] .nrm [] (soS l (k + 1))) :=
  vc_of (q := (decide ((↑k : Int) < (↑(List.length l) : Int)) = true) ∧ ((0 : Int) ≤ (↑k : Int) ∧ (↑k : Int) < (↑(List.length l) : Int)) ∧ ((0 : Int) ≤ (↑k : Int) ∧ (↑k : Int) < (↑(List.length l) : Int)) ∧ ((!bif Ob.k (List.getD l k Inhabited.default) == Ob.k (List.getD l k Inhabited.default) then bif Ob.a (List.getD l k Inhabited.default) == Ob.a (List.getD l k Inhabited.default) then true else false else false) = false) ∧ (inK IntKind.i64 ((↑k : Int) + (1 : Int))) ∧ (frS8t0 l (((↑k : Int) + (1 : Int) = (↑(k + (1 : Nat)) : Int)) ∧ (false = false) ∧ True))) (by kernel_rfl)
    ⟨(decide_eq_true (by first | omega | (simp; omega) | (simp; done))),
 (by first | omega | rfl),
 (by first | omega | rfl),
 (by simp),
 (in64 (by omega) (by omega)), (frS8t0_mk l ⟨(by first | omega | rfl),
 (by simp), trivial⟩)⟩
theorem so_end (l : List Ob) : Vc (vcC Try.prog false (ntOf Try.prog 17) (lpC Try.prog 17 0) (soS l l.length) [.b false] (.ext 0) [] (soS l l.length)) :=
  vc_of (q := (decide ((↑(List.length l) : Int) < (↑(List.length l) : Int)) = false) ∧ (frS8t0 l (((↑(List.length l) : Int) = (↑(List.length l) : Int)) ∧ (false = false) ∧ True))) (by kernel_rfl)
    ⟨(decide_eq_false (by first | omega | (simp; omega) | (simp; done))), (frS8t0_mk l ⟨rfl,
 rfl, trivial⟩)⟩
theorem so_loop (l : List Ob) (hb : l.length < 1000000000) : Ok Try.prog (ntOf Try.prog 17) (.loop (lpC Try.prog 17 0)) (soS l 0).st (.ext 0) (soS l l.length).st :=
  Ok.loop (P := Try.prog) (nt := ntOf Try.prog 17) (c := lpC Try.prog 17 0) (F := fun k => soS l k) (m := l.length) (x := .ext 0) (J := soS l l.length) (fun k hk => Ok.vc (so_step l k hk hb)) (Ok.vc (so_end l)) (by simp)
theorem so_vc (l : List Ob) (hb : l.length < 1000000000) : Vc (vcFn Try.prog false 17 [obR l, obR l] [.b false, .lp [] (soS l 0) (.ext 0) (soS l l.length)] [] (.bool true) []) :=
  vc_of (q := (((↑(List.length l) : Int) != (↑(List.length l) : Int)) = false) ∧ (frS8t0 l (((0 : Int) = (↑(0 : Nat) : Int)) ∧ (false = false) ∧ (Ok Try.prog (ntOf Try.prog 17) (.loop (lpC Try.prog 17 0)) (soS l 0).st (.ext 0) (soS l l.length).st) ∧ (true = true) ∧ True))) (by kernel_rfl)
    ⟨(by simp), (frS8t0_mk l ⟨(by first | omega | rfl),
 rfl,
 so_loop l hb,
 rfl, trivial⟩)⟩
theorem soC (l : List Ob) (hb : l.length < 1000000000) : PureC Try.prog 17 [obR l, obR l] (.bool true) [] := PureC.vc (so_vc l hb)
def frS8t1 (l : List Int) (Z : Prop) : Prop := (List.length l = List.length l) ∧ (∀ (i : Nat), i < List.length l → ∀ (j : Nat), j < (1 : Nat) → AV.int IntKind.i64 (List.getD l i (0 : Int)) = AV.int IntKind.i64 (List.getD l i (0 : Int))) ∧ (List.length l = List.length l) ∧ (∀ (i : Nat), i < List.length l → ∀ (j : Nat), j < (1 : Nat) → AV.int IntKind.i64 (List.getD l i (0 : Int)) = AV.int IntKind.i64 (List.getD l i (0 : Int))) ∧ Z
theorem frS8t1_mk (l : List Int) {Z : Prop} (z : Z) : frS8t1 l Z := ⟨rfl, (fun _ _ _ _ => rfl), rfl, (fun _ _ _ _ => rfl), z⟩
theorem si_step (l : List Int) (k : Nat) (hk : k < l.length) (hb : l.length < 1000000000) : Vc (vcC Try.prog false (ntOf Try.prog 44) (lpC Try.prog 44 0) (siS l k) [.b true, .b false] .nrm [] (siS l (k + 1))) :=
  vc_of (q := (decide ((↑k : Int) < (↑(List.length l) : Int)) = true) ∧ ((0 : Int) ≤ (↑k : Int) ∧ (↑k : Int) < (↑(List.length l) : Int)) ∧ ((0 : Int) ≤ (↑k : Int) ∧ (↑k : Int) < (↑(List.length l) : Int)) ∧ ((List.getD l k (0 : Int) != List.getD l k (0 : Int)) = false) ∧ (inK IntKind.i64 ((↑k : Int) + (1 : Int))) ∧ (frS8t1 l (((↑k : Int) + (1 : Int) = (↑(k + (1 : Nat)) : Int)) ∧ (false = false) ∧ True))) (by kernel_rfl)
    ⟨(decide_eq_true (by first | omega | (simp; omega) | (simp; done))),
 (by first | omega | rfl),
 (by first | omega | rfl),
 (by simp),
 (in64 (by omega) (by omega)), (frS8t1_mk l ⟨(by first | omega | rfl),
 (by simp), trivial⟩)⟩
theorem si_end (l : List Int) : Vc (vcC Try.prog false (ntOf Try.prog 44) (lpC Try.prog 44 0) (siS l l.length) [.b false] (.ext 0) [] (siS l l.length)) :=
  vc_of (q := (decide ((↑(List.length l) : Int) < (↑(List.length l) : Int)) = false) ∧ (frS8t1 l (((↑(List.length l) : Int) = (↑(List.length l) : Int)) ∧ (false = false) ∧ True))) (by kernel_rfl)
    ⟨(decide_eq_false (by first | omega | (simp; omega) | (simp; done))), (frS8t1_mk l ⟨rfl,
 rfl, trivial⟩)⟩
theorem si_loop (l : List Int) (hb : l.length < 1000000000) : Ok Try.prog (ntOf Try.prog 44) (.loop (lpC Try.prog 44 0)) (siS l 0).st (.ext 0) (siS l l.length).st :=
  Ok.loop (P := Try.prog) (nt := ntOf Try.prog 44) (c := lpC Try.prog 44 0) (F := fun k => siS l k) (m := l.length) (x := .ext 0) (J := siS l l.length) (fun k hk => Ok.vc (si_step l k hk hb)) (Ok.vc (si_end l)) (by simp)
theorem si_vc (l : List Int) (hb : l.length < 1000000000) : Vc (vcFn Try.prog false 44 [lR l, lR l] [.b false, .lp [] (siS l 0) (.ext 0) (siS l l.length)] [] (.bool true) []) :=
  vc_of (q := (((↑(List.length l) : Int) != (↑(List.length l) : Int)) = false) ∧ (frS8t1 l (((0 : Int) = (↑(0 : Nat) : Int)) ∧ (false = false) ∧ (Ok Try.prog (ntOf Try.prog 44) (.loop (lpC Try.prog 44 0)) (siS l 0).st (.ext 0) (siS l l.length).st) ∧ (true = true) ∧ True))) (by kernel_rfl)
    ⟨(by simp), (frS8t1_mk l ⟨(by first | omega | rfl),
 rfl,
 si_loop l hb,
 rfl, trivial⟩)⟩
theorem siC (l : List Int) (hb : l.length < 1000000000) : PureC Try.prog 44 [lR l, lR l] (.bool true) [] := PureC.vc (si_vc l hb)
theorem cat_if {A B : List Int} {n i : Nat} {x y : AV} (hn : n = A.length) (hx : i < n → x = .int .i64 (A.getD i 0)) (hy : n ≤ i → y = .int .i64 (B.getD (i - n) 0)) : (bif Nat.blt i n then x else y) = .int .i64 ((A ++ B).getD i 0) := by
  subst hn
  by_cases h : i < A.length
  · have : Nat.blt i A.length = true := by rw [Nat.blt_eq]; exact h
    rw [this, cond_true, hx h]
    simp [List.getD, List.getElem?_append_left h]
  · have : Nat.blt i A.length = false := by
      cases hb : Nat.blt i A.length with
      | false => rfl
      | true => rw [Nat.blt_eq] at hb; omega
    rw [this, cond_false, hy (by omega)]
    simp [List.getD, List.getElem?_append_right (Nat.le_of_not_lt h)]
theorem sing {x : Int} {q : Nat} (h : q = 0) : [AV.int .i64 x].getD ((q + 0) * 1 + 0) .junk = .int .i64 ([x].getD q 0) := by subst h; rfl
theorem five {a b c d e : Int} {i : Nat} (h : i < 5) : [AV.int .i64 a, .int .i64 b, .int .i64 c, .int .i64 d, .int .i64 e].getD ((i + 0) * 1 + 0) .junk = .int .i64 ([a, b, c, d, e].getD i 0) :=
  match i, h with | 0, _ => rfl | 1, _ => rfl | 2, _ => rfl | 3, _ => rfl | 4, _ => rfl
theorem intsL_len (s : S8) : (intsL s).length = s.m.length + s.st.length + 7 := by simp [intsL]; omega
theorem in_vc (s : S8) (L : List Int) (hL : L = intsL s) (hm : s.m.length < 1000000) (hst : s.st.length < 1000000) : Vc (vcFn Try.prog false 39 [.agg (s8R s)] [.fv] [] (lR L) []) :=
  vc_of (q := ((0 : Nat) = (0 : Nat) ∧ (5 : Nat) = (5 : Nat) ∧ ((5 : Nat) + List.length (S8.m s)) * (8 : Nat) ≤ (140737488355328 : Nat) ∧ (5 : Nat) + List.length (S8.m s) ≤ (140737488355328 : Nat)) ∧ ((0 : Nat) = (0 : Nat) ∧ (5 : Nat) + List.length (S8.m s) = (5 : Nat) + List.length (S8.m s) ∧ ((5 : Nat) + List.length (S8.m s) + (1 : Nat)) * (8 : Nat) ≤ (140737488355328 : Nat) ∧ (5 : Nat) + List.length (S8.m s) + (1 : Nat) ≤ (140737488355328 : Nat)) ∧ ((0 : Nat) = (0 : Nat) ∧ (5 : Nat) + List.length (S8.m s) + (1 : Nat) = (5 : Nat) + List.length (S8.m s) + (1 : Nat) ∧ ((5 : Nat) + List.length (S8.m s) + (1 : Nat) + List.length (S8.st s)) * (8 : Nat) ≤ (140737488355328 : Nat) ∧ (5 : Nat) + List.length (S8.m s) + (1 : Nat) + List.length (S8.st s) ≤ (140737488355328 : Nat)) ∧ ((0 : Nat) = (0 : Nat) ∧ (5 : Nat) + List.length (S8.m s) + (1 : Nat) + List.length (S8.st s) = (5 : Nat) + List.length (S8.m s) + (1 : Nat) + List.length (S8.st s) ∧ ((5 : Nat) + List.length (S8.m s) + (1 : Nat) + List.length (S8.st s) + (1 : Nat)) * (8 : Nat) ≤ (140737488355328 : Nat) ∧ (5 : Nat) + List.length (S8.m s) + (1 : Nat) + List.length (S8.st s) + (1 : Nat) ≤ (140737488355328 : Nat)) ∧ ((5 : Nat) + List.length (S8.m s) + (1 : Nat) + List.length (S8.st s) + (1 : Nat) = List.length L) ∧ (∀ (i : Nat), i < (5 : Nat) + List.length (S8.m s) + (1 : Nat) + List.length (S8.st s) + (1 : Nat) → ∀ (j : Nat), j < (1 : Nat) → (bif Nat.blt (i + (0 : Nat)) ((5 : Nat) + List.length (S8.m s) + (1 : Nat) + List.length (S8.st s)) then bif Nat.blt (i + (0 : Nat)) ((5 : Nat) + List.length (S8.m s) + (1 : Nat)) then bif Nat.blt (i + (0 : Nat)) ((5 : Nat) + List.length (S8.m s)) then bif Nat.blt (i + (0 : Nat)) (5 : Nat) then List.getD [AV.int IntKind.i64 (S8.r0 s), AV.int IntKind.i64 (S8.r1 s), AV.int IntKind.i64 (S8.r2 s), AV.int IntKind.i64 (S8.r3 s), AV.int IntKind.i64 (↑(List.length (S8.m s)) : Int)] ((i + (0 : Nat)) * (1 : Nat) + j) AV.junk else AV.int IntKind.i64 (List.getD (S8.m s) (i + (0 : Nat) - (5 : Nat)) (0 : Int)) else List.getD [AV.int IntKind.i64 (↑(List.length (S8.st s)) : Int)] ((i + (0 : Nat) - ((5 : Nat) + List.length (S8.m s)) + (0 : Nat)) * (1 : Nat) + j) AV.junk else AV.int IntKind.i64 (List.getD (S8.st s) (i + (0 : Nat) - ((5 : Nat) + List.length (S8.m s) + (1 : Nat))) (0 : Int)) else List.getD [AV.int IntKind.i64 (S8.pc s)] ((i + (0 : Nat) - ((5 : Nat) + List.length (S8.m s) + (1 : Nat) + List.length (S8.st s)) + (0 : Nat)) * (1 : Nat) + j) AV.junk) = AV.int IntKind.i64 (List.getD L i (0 : Int))) ∧ True) (by kernel_rfl)
    ⟨(by first | omega | rfl),
 (by first | omega | rfl),
 (by first | omega | rfl),
 (by first | omega | rfl),
 (by rw [hL, intsL_len]; omega),
 (fun i hi j hj => by
  subst hL
  obtain rfl : j = 0 := by omega
  exact cat_if (A := ((([s.r0, s.r1, s.r2, s.r3, (s.m.length : Int)] ++ s.m) ++ [(s.st.length : Int)]) ++ s.st)) (B := [s.pc]) (by simp; omega) (fun _ => cat_if (A := (([s.r0, s.r1, s.r2, s.r3, (s.m.length : Int)] ++ s.m) ++ [(s.st.length : Int)])) (B := s.st) (by simp; omega) (fun _ => cat_if (A := ([s.r0, s.r1, s.r2, s.r3, (s.m.length : Int)] ++ s.m)) (B := [(s.st.length : Int)]) (by simp; omega) (fun _ => cat_if (A := [s.r0, s.r1, s.r2, s.r3, (s.m.length : Int)]) (B := s.m) rfl (fun h => five h) (fun _ => rfl)) (fun _ => sing (by omega))) (fun _ => rfl)) (fun _ => sing (by omega))), trivial⟩
theorem intsC (s : S8) (hm : s.m.length < 1000000) (hst : s.st.length < 1000000) : PureC Try.prog 39 [.agg (s8R s)] (lR (intsL s)) [] := PureC.vc (in_vc s _ rfl hm hst)
theorem sm_vc (s : S8) (L : List Int) (hI : PureC Try.prog 39 [.agg (s8R s)] (lR L) []) (hL : L.length < 1000000000) : Vc (vcFn Try.prog false 22 [.agg (s8R s), .agg (s8R s)] [.cl [.agg (s8R s)] (lR L) [], .cl [.agg (s8R s)] (lR L) [], .cl [lR L, lR L] (.bool true) []] [] (.bool true) []) :=
  vc_of (q := (S8.r0 s = S8.r0 s) ∧ (S8.r1 s = S8.r1 s) ∧ (S8.r2 s = S8.r2 s) ∧ (S8.r3 s = S8.r3 s) ∧ (List.length (S8.m s) = List.length (S8.m s)) ∧ (∀ (i : Nat), i < List.length (S8.m s) → ∀ (j : Nat), j < (1 : Nat) → AV.int IntKind.i64 (List.getD (S8.m s) i (0 : Int)) = AV.int IntKind.i64 (List.getD (S8.m s) i (0 : Int))) ∧ (List.length (S8.st s) = List.length (S8.st s)) ∧ (∀ (i : Nat), i < List.length (S8.st s) → ∀ (j : Nat), j < (1 : Nat) → AV.int IntKind.i64 (List.getD (S8.st s) i (0 : Int)) = AV.int IntKind.i64 (List.getD (S8.st s) i (0 : Int))) ∧ (S8.pc s = S8.pc s) ∧ (PureC Try.prog 39 [.agg (s8R s)] (lR L) []) ∧ (S8.r0 s = S8.r0 s) ∧ (S8.r1 s = S8.r1 s) ∧ (S8.r2 s = S8.r2 s) ∧ (S8.r3 s = S8.r3 s) ∧ (List.length (S8.m s) = List.length (S8.m s)) ∧ (∀ (i : Nat), i < List.length (S8.m s) → ∀ (j : Nat), j < (1 : Nat) → AV.int IntKind.i64 (List.getD (S8.m s) i (0 : Int)) = AV.int IntKind.i64 (List.getD (S8.m s) i (0 : Int))) ∧ (List.length (S8.st s) = List.length (S8.st s)) ∧ (∀ (i : Nat), i < List.length (S8.st s) → ∀ (j : Nat), j < (1 : Nat) → AV.int IntKind.i64 (List.getD (S8.st s) i (0 : Int)) = AV.int IntKind.i64 (List.getD (S8.st s) i (0 : Int))) ∧ (S8.pc s = S8.pc s) ∧ (PureC Try.prog 39 [.agg (s8R s)] (lR L) []) ∧ (List.length L = List.length L) ∧ (∀ (i : Nat), i < List.length L → ∀ (j : Nat), j < (1 : Nat) → AV.int IntKind.i64 (List.getD L i (0 : Int)) = AV.int IntKind.i64 (List.getD L i (0 : Int))) ∧ (List.length L = List.length L) ∧ (∀ (i : Nat), i < List.length L → ∀ (j : Nat), j < (1 : Nat) → AV.int IntKind.i64 (List.getD L i (0 : Int)) = AV.int IntKind.i64 (List.getD L i (0 : Int))) ∧ (PureC Try.prog 44 [lR L, lR L] (.bool true) []) ∧ (true = true) ∧ True) (by kernel_rfl)
    ⟨rfl,
 rfl,
 rfl,
 rfl,
 rfl,
 (fun _ _ _ _ => rfl),
 rfl,
 (fun _ _ _ _ => rfl),
 rfl,
 hI,
 rfl,
 rfl,
 rfl,
 rfl,
 rfl,
 (fun _ _ _ _ => rfl),
 rfl,
 (fun _ _ _ _ => rfl),
 rfl,
 hI,
 rfl,
 (fun _ _ _ _ => rfl),
 rfl,
 (fun _ _ _ _ => rfl),
 siC L hL,
 rfl, trivial⟩
theorem sameC8 (s : S8) (hm : s.m.length < 1000000) (hst : s.st.length < 1000000) : PureC Try.prog 22 [.agg (s8R s), .agg (s8R s)] (.bool true) [] := PureC.vc (sm_vc s _ (intsC s hm hst) (by rw [intsL_len]; omega))
end
end Go.Proofs.Ytjdiabjmphdhiaa.Px
namespace Go.Proofs.Ytjdiabjmphdhiaa.Px
section
open Go.RowKit Go.Proofs.Ytjdiabjmphdhiaa.Rx
def vN (n : Int) : Vl := ⟨false, n⟩
def isW : List In := [⟨1, 1, 0, vN 1, vN 2, ⟨#[]⟩, 0⟩, ⟨3, 0, 0, vN 0, vN 1, ⟨#[]⟩, 0⟩, ⟨5, 9, 0, ⟨true, 0⟩, vN 1, ⟨#[]⟩, 0⟩, ⟨2, 0, 1, vN 3, vN 0, ⟨#[]⟩, 0⟩]
def pW : Pg := ⟨2, 1, 5, 0, 0, 0, 0, [⟨⟨#[109]⟩, false, 2⟩], [], isW⟩
def sW : S8 := ⟨0, 0, 0, 0, [0, 0], [], 0⟩
def rW : S8 := ⟨3, 0, 0, 0, [0, 3], [], 3⟩
def oW : List Ob := [⟨2, 1⟩, ⟨3, 3⟩]
theorem runD_go {p : Pg} {c : Int} {s : S8} {n : Nat} {r : R8} (h : runD p c s n = r) (he : r.e = 0) : runD p c s (n + 1) = ⟨(stepI p.W c p.is.length (atI p r.s.pc) r.s).1, r.o ++ (stepI p.W c p.is.length (atI p r.s.pc) r.s).2.1, r.k + 1, (stepI p.W c p.is.length (atI p r.s.pc) r.s).2.2⟩ := by
  subst h
  rw [runD, if_pos he]
theorem runD_stay {p : Pg} {c : Int} {s : S8} {n : Nat} {r : R8} (h : runD p c s n = r) (he : ¬ r.e = 0) : runD p c s (n + 1) = r := by
  subst h
  rw [runD, if_neg he]
theorem okR0 {a b c d : Int} {m st : List Int} {pc : Int} (h : (0 ≤ a ∧ a < 65536) ∧ (0 ≤ b ∧ b < 65536) ∧ (0 ≤ c ∧ c < 65536) ∧ (0 ≤ d ∧ d < 65536)) : okR ⟨a, b, c, d, m, st, pc⟩ := h
theorem pW_ok : OkP pW := ⟨fun i hi => by
    simp only [pW, isW, List.mem_cons, List.not_mem_nil, or_false] at hi
    rcases hi with rfl | rfl | rfl | rfl <;> exact ⟨⟨by decide, by decide⟩, fun h => by first | exact absurd h (by decide) | exact ⟨by decide, by decide⟩, fun h => by first | exact absurd h (by decide) | exact ⟨by decide, by decide⟩, ⟨by decide, by decide⟩, by decide, by decide⟩, by decide, by decide, by decide⟩
theorem sW_ok : OkS ((sumN pW.ms : Nat) : Int) pW.is.length sW := ⟨okR0 ⟨⟨by decide, by decide⟩, ⟨by decide, by decide⟩, ⟨by decide, by decide⟩, ⟨by decide, by decide⟩⟩, fun x hx => by
    simp only [sW, List.mem_cons, List.not_mem_nil, or_false, or_self] at hx
    omega, by decide, ⟨by decide, by decide⟩, by decide, fun x hx => by cases hx⟩
theorem run9 : runD pW 2 sW 9 = ⟨rW, oW, 4, 2⟩ := by
  have h0 : runD pW 2 sW 0 = ⟨sW, [], 0, 0⟩ := rfl
  have h1 : runD pW 2 sW 1 = ⟨⟨3, 0, 0, 0, [0, 0], [], 1⟩, [], 1, 0⟩ := (runD_go h0 rfl).trans (by kernel_rfl)
  have h2 : runD pW 2 sW 2 = ⟨⟨3, 0, 0, 0, [0, 3], [], 2⟩, [⟨2, 1⟩], 2, 0⟩ := (runD_go h1 rfl).trans (by kernel_rfl)
  have h3 : runD pW 2 sW 3 = ⟨⟨3, 0, 0, 0, [0, 3], [], 3⟩, [⟨2, 1⟩, ⟨3, 3⟩], 3, 0⟩ := (runD_go h2 rfl).trans (by kernel_rfl)
  have h4 : runD pW 2 sW 4 = ⟨rW, oW, 4, 2⟩ := (runD_go h3 rfl).trans (by kernel_rfl)
  have h5 := runD_stay h4 (by decide)
  have h6 := runD_stay h5 (by decide)
  have h7 := runD_stay h6 (by decide)
  have h8 := runD_stay h7 (by decide)
  exact runD_stay h8 (by decide)
theorem runW : PureC Try.prog 19 [.agg (pgA pW), .agg (s8R sW), .int .i64 9] (.tup [.agg (s8R rW), obR oW, .int .i64 4, .int .i64 2]) [] := by
  have h := runF pW sW 9 pW_ok sW_ok (by decide)
  rw [show runD pW ((sumN pW.ms : Nat) : Int) sW (9 : Int).toNat = ⟨rW, oW, 4, 2⟩ from run9] at h
  exact h
theorem atW9 : PureC Try.prog 23 [.agg (pgA pW), .int .i64 9] (.agg (inA { In0 with kind := 12 })) [] := by
  have h := atC pW 9
  rw [atI_out (by decide)] at h
  exact h
theorem atW1 : PureC Try.prog 23 [.agg (pgA pW), .int .i64 (-1)] (.agg (inA { In0 with kind := 12 })) [] := by
  have h := atC pW (-1)
  rw [atI_out (by decide)] at h
  exact h
def frS8u0  (Z : Prop) : Prop := ((2 : Int) = (2 : Int)) ∧ ((1 : Int) = (1 : Int)) ∧ ((5 : Int) = (5 : Int)) ∧ ((0 : Int) = (0 : Int)) ∧ ((0 : Int) = (0 : Int)) ∧ ((0 : Int) = (0 : Int)) ∧ ((0 : Int) = (0 : Int)) ∧ ((1 : Nat) = (1 : Nat)) ∧ Z
theorem frS8u0_mk  {Z : Prop} (z : Z) : frS8u0  Z := ⟨rfl, rfl, rfl, rfl, rfl, rfl, rfl, rfl, z⟩
theorem aw_vc  : Vc (vcFn Try.prog true 18 [] [.fz, .fz, .fz, .cl [.agg (pgA pW), .agg (s8R sW), .int .i64 9] (.tup [.agg (s8R rW), obR oW, .int .i64 4, .int .i64 2]) [], .fz, .cl [obR oW, obR oW] (.bool true) [], .cl [.agg (pgA pW), .int .i64 9] (.agg (inA { In0 with kind := 12 })) [], .cl [.agg (pgA pW), .int .i64 (-1)] (.agg (inA { In0 with kind := 12 })) []] [] (.bool true) []) :=
  vc_of (q := (frS8u0  ((∀ (i : Nat), i < (1 : Nat) → ∀ (j : Nat), j < (3 : Nat) → List.getD [AV.str (ByteArray.mk (Array.mk [(109 : UInt8)])), AV.bool false, AV.int IntKind.i64 (2 : Int)] (i * (3 : Nat) + j) AV.junk = rowL mmC [Mm.mk (ByteArray.mk (Array.mk [(109 : UInt8)])) false (2 : Nat)] i j) ∧ ((0 : Nat) = (0 : Nat)) ∧ ((4 : Nat) = (4 : Nat)) ∧ (∀ (i : Nat), i < (4 : Nat) → ∀ (j : Nat), j < (9 : Nat) → List.getD [AV.int IntKind.i64 (1 : Int), AV.int IntKind.i64 (1 : Int), AV.int IntKind.i64 (0 : Int), AV.bool false, AV.int IntKind.i64 (1 : Int), AV.bool false, AV.int IntKind.i64 (2 : Int), AV.str (ByteArray.mk (Array.mk [])), AV.int IntKind.i64 (0 : Int), AV.int IntKind.i64 (3 : Int), AV.int IntKind.i64 (0 : Int), AV.int IntKind.i64 (0 : Int), AV.bool false, AV.int IntKind.i64 (0 : Int), AV.bool false, AV.int IntKind.i64 (1 : Int), AV.str (ByteArray.mk (Array.mk [])), AV.int IntKind.i64 (0 : Int), AV.int IntKind.i64 (5 : Int), AV.int IntKind.i64 (9 : Int), AV.int IntKind.i64 (0 : Int), AV.bool true, AV.int IntKind.i64 (0 : Int), AV.bool false, AV.int IntKind.i64 (1 : Int), AV.str (ByteArray.mk (Array.mk [])), AV.int IntKind.i64 (0 : Int), AV.int IntKind.i64 (2 : Int), AV.int IntKind.i64 (0 : Int), AV.int IntKind.i64 (1 : Int), AV.bool false, AV.int IntKind.i64 (3 : Int), AV.bool false, AV.int IntKind.i64 (0 : Int), AV.str (ByteArray.mk (Array.mk [])), AV.int IntKind.i64 (0 : Int)] (i * (9 : Nat) + j) AV.junk = rowL inC [In.mk (1 : Int) (1 : Int) (0 : Int) (vN (1 : Int)) (vN (2 : Int)) (ByteArray.mk (Array.mk [])) (0 : Int), In.mk (3 : Int) (0 : Int) (0 : Int) (vN (0 : Int)) (vN (1 : Int)) (ByteArray.mk (Array.mk [])) (0 : Int), In.mk (5 : Int) (9 : Int) (0 : Int) (Vl.mk true (0 : Int)) (vN (1 : Int)) (ByteArray.mk (Array.mk [])) (0 : Int), In.mk (2 : Int) (0 : Int) (1 : Int) (vN (3 : Int)) (vN (0 : Int)) (ByteArray.mk (Array.mk [])) (0 : Int)] i j) ∧ ((0 : Int) = (0 : Int)) ∧ ((0 : Int) = (0 : Int)) ∧ ((0 : Int) = (0 : Int)) ∧ ((0 : Int) = (0 : Int)) ∧ ((2 : Nat) = (2 : Nat)) ∧ (∀ (i : Nat), i < (2 : Nat) → ∀ (j : Nat), j < (1 : Nat) → List.getD [AV.int IntKind.i64 (0 : Int), AV.int IntKind.i64 (0 : Int)] (i * (1 : Nat) + j) AV.junk = AV.int IntKind.i64 (List.getD [(0 : Int), (0 : Int)] i (0 : Int))) ∧ ((0 : Nat) = (0 : Nat)) ∧ ((0 : Int) = (0 : Int)) ∧ ((9 : Int) = (9 : Int)) ∧ (PureC Try.prog 19 [.agg (pgA pW), .agg (s8R sW), .int .i64 9] (.tup [.agg (s8R rW), obR oW, .int .i64 4, .int .i64 2]) []) ∧ ((2 : Nat) = (2 : Nat)) ∧ (∀ (i : Nat), i < (2 : Nat) → ∀ (j : Nat), j < (2 : Nat) → rowL obC [Ob.mk (2 : Int) (1 : Int), Ob.mk (3 : Int) (3 : Int)] i j = rowL obC [Ob.mk (2 : Int) (1 : Int), Ob.mk (3 : Int) (3 : Int)] i j) ∧ ((2 : Nat) = (2 : Nat)) ∧ (∀ (i : Nat), i < (2 : Nat) → ∀ (j : Nat), j < (2 : Nat) → List.getD [AV.int IntKind.i64 (2 : Int), AV.int IntKind.i64 (1 : Int), AV.int IntKind.i64 (3 : Int), AV.int IntKind.i64 (3 : Int)] (i * (2 : Nat) + j) AV.junk = rowL obC [Ob.mk (2 : Int) (1 : Int), Ob.mk (3 : Int) (3 : Int)] i j) ∧ (PureC Try.prog 17 [obR oW, obR oW] (.bool true) []) ∧ (frS8u0  ((∀ (i : Nat), i < (1 : Nat) → ∀ (j : Nat), j < (3 : Nat) → List.getD [AV.str (ByteArray.mk (Array.mk [(109 : UInt8)])), AV.bool false, AV.int IntKind.i64 (2 : Int)] (i * (3 : Nat) + j) AV.junk = rowL mmC [Mm.mk (ByteArray.mk (Array.mk [(109 : UInt8)])) false (2 : Nat)] i j) ∧ ((0 : Nat) = (0 : Nat)) ∧ ((4 : Nat) = (4 : Nat)) ∧ (∀ (i : Nat), i < (4 : Nat) → ∀ (j : Nat), j < (9 : Nat) → List.getD [AV.int IntKind.i64 (1 : Int), AV.int IntKind.i64 (1 : Int), AV.int IntKind.i64 (0 : Int), AV.bool false, AV.int IntKind.i64 (1 : Int), AV.bool false, AV.int IntKind.i64 (2 : Int), AV.str (ByteArray.mk (Array.mk [])), AV.int IntKind.i64 (0 : Int), AV.int IntKind.i64 (3 : Int), AV.int IntKind.i64 (0 : Int), AV.int IntKind.i64 (0 : Int), AV.bool false, AV.int IntKind.i64 (0 : Int), AV.bool false, AV.int IntKind.i64 (1 : Int), AV.str (ByteArray.mk (Array.mk [])), AV.int IntKind.i64 (0 : Int), AV.int IntKind.i64 (5 : Int), AV.int IntKind.i64 (9 : Int), AV.int IntKind.i64 (0 : Int), AV.bool true, AV.int IntKind.i64 (0 : Int), AV.bool false, AV.int IntKind.i64 (1 : Int), AV.str (ByteArray.mk (Array.mk [])), AV.int IntKind.i64 (0 : Int), AV.int IntKind.i64 (2 : Int), AV.int IntKind.i64 (0 : Int), AV.int IntKind.i64 (1 : Int), AV.bool false, AV.int IntKind.i64 (3 : Int), AV.bool false, AV.int IntKind.i64 (0 : Int), AV.str (ByteArray.mk (Array.mk [])), AV.int IntKind.i64 (0 : Int)] (i * (9 : Nat) + j) AV.junk = rowL inC [In.mk (1 : Int) (1 : Int) (0 : Int) (vN (1 : Int)) (vN (2 : Int)) (ByteArray.mk (Array.mk [])) (0 : Int), In.mk (3 : Int) (0 : Int) (0 : Int) (vN (0 : Int)) (vN (1 : Int)) (ByteArray.mk (Array.mk [])) (0 : Int), In.mk (5 : Int) (9 : Int) (0 : Int) (Vl.mk true (0 : Int)) (vN (1 : Int)) (ByteArray.mk (Array.mk [])) (0 : Int), In.mk (2 : Int) (0 : Int) (1 : Int) (vN (3 : Int)) (vN (0 : Int)) (ByteArray.mk (Array.mk [])) (0 : Int)] i j) ∧ ((9 : Int) = (9 : Int)) ∧ (PureC Try.prog 23 [.agg (pgA pW), .int .i64 9] (.agg (inA { In0 with kind := 12 })) []) ∧ (frS8u0  ((∀ (i : Nat), i < (1 : Nat) → ∀ (j : Nat), j < (3 : Nat) → List.getD [AV.str (ByteArray.mk (Array.mk [(109 : UInt8)])), AV.bool false, AV.int IntKind.i64 (2 : Int)] (i * (3 : Nat) + j) AV.junk = rowL mmC [Mm.mk (ByteArray.mk (Array.mk [(109 : UInt8)])) false (2 : Nat)] i j) ∧ ((0 : Nat) = (0 : Nat)) ∧ ((4 : Nat) = (4 : Nat)) ∧ (∀ (i : Nat), i < (4 : Nat) → ∀ (j : Nat), j < (9 : Nat) → List.getD [AV.int IntKind.i64 (1 : Int), AV.int IntKind.i64 (1 : Int), AV.int IntKind.i64 (0 : Int), AV.bool false, AV.int IntKind.i64 (1 : Int), AV.bool false, AV.int IntKind.i64 (2 : Int), AV.str (ByteArray.mk (Array.mk [])), AV.int IntKind.i64 (0 : Int), AV.int IntKind.i64 (3 : Int), AV.int IntKind.i64 (0 : Int), AV.int IntKind.i64 (0 : Int), AV.bool false, AV.int IntKind.i64 (0 : Int), AV.bool false, AV.int IntKind.i64 (1 : Int), AV.str (ByteArray.mk (Array.mk [])), AV.int IntKind.i64 (0 : Int), AV.int IntKind.i64 (5 : Int), AV.int IntKind.i64 (9 : Int), AV.int IntKind.i64 (0 : Int), AV.bool true, AV.int IntKind.i64 (0 : Int), AV.bool false, AV.int IntKind.i64 (1 : Int), AV.str (ByteArray.mk (Array.mk [])), AV.int IntKind.i64 (0 : Int), AV.int IntKind.i64 (2 : Int), AV.int IntKind.i64 (0 : Int), AV.int IntKind.i64 (1 : Int), AV.bool false, AV.int IntKind.i64 (3 : Int), AV.bool false, AV.int IntKind.i64 (0 : Int), AV.str (ByteArray.mk (Array.mk [])), AV.int IntKind.i64 (0 : Int)] (i * (9 : Nat) + j) AV.junk = rowL inC [In.mk (1 : Int) (1 : Int) (0 : Int) (vN (1 : Int)) (vN (2 : Int)) (ByteArray.mk (Array.mk [])) (0 : Int), In.mk (3 : Int) (0 : Int) (0 : Int) (vN (0 : Int)) (vN (1 : Int)) (ByteArray.mk (Array.mk [])) (0 : Int), In.mk (5 : Int) (9 : Int) (0 : Int) (Vl.mk true (0 : Int)) (vN (1 : Int)) (ByteArray.mk (Array.mk [])) (0 : Int), In.mk (2 : Int) (0 : Int) (1 : Int) (vN (3 : Int)) (vN (0 : Int)) (ByteArray.mk (Array.mk [])) (0 : Int)] i j) ∧ ((-1 : Int) = (-1 : Int)) ∧ (PureC Try.prog 23 [.agg (pgA pW), .int .i64 (-1)] (.agg (inA { In0 with kind := 12 })) []) ∧ ((bif bif bif bif bif bif bif bif (4 : Int) == (4 : Int) then (2 : Int) == (2 : Int) else false then (↑(2 : Nat) : Int) == (2 : Int) else false then (3 : Int) == (3 : Int) else false then (3 : Int) == (3 : Int) else false then List.getD [(0 : Int), (3 : Int)] (1 : Nat) (0 : Int) == (3 : Int) else false then true else false then (12 : Int) == (12 : Int) else false then (12 : Int) == (12 : Int) else false) = true) ∧ True))))))) (by kernel_rfl)
    (frS8u0_mk  ⟨(fun i hi j hj => match i, hi, j, hj with | 0, _, 0, _ => rfl | 0, _, 1, _ => rfl | 0, _, 2, _ => rfl),
 rfl,
 rfl,
 (fun i hi j hj => match i, hi, j, hj with | 0, _, 0, _ => rfl | 0, _, 1, _ => rfl | 0, _, 2, _ => rfl | 0, _, 3, _ => rfl | 0, _, 4, _ => rfl | 0, _, 5, _ => rfl | 0, _, 6, _ => rfl | 0, _, 7, _ => rfl | 0, _, 8, _ => rfl | 1, _, 0, _ => rfl | 1, _, 1, _ => rfl | 1, _, 2, _ => rfl | 1, _, 3, _ => rfl | 1, _, 4, _ => rfl | 1, _, 5, _ => rfl | 1, _, 6, _ => rfl | 1, _, 7, _ => rfl | 1, _, 8, _ => rfl | 2, _, 0, _ => rfl | 2, _, 1, _ => rfl | 2, _, 2, _ => rfl | 2, _, 3, _ => rfl | 2, _, 4, _ => rfl | 2, _, 5, _ => rfl | 2, _, 6, _ => rfl | 2, _, 7, _ => rfl | 2, _, 8, _ => rfl | 3, _, 0, _ => rfl | 3, _, 1, _ => rfl | 3, _, 2, _ => rfl | 3, _, 3, _ => rfl | 3, _, 4, _ => rfl | 3, _, 5, _ => rfl | 3, _, 6, _ => rfl | 3, _, 7, _ => rfl | 3, _, 8, _ => rfl),
 rfl,
 rfl,
 rfl,
 rfl,
 rfl,
 (fun i hi j hj => match i, hi, j, hj with | 0, _, 0, _ => rfl | 1, _, 0, _ => rfl),
 rfl,
 rfl,
 rfl,
 runW,
 rfl,
 (fun _ _ _ _ => rfl),
 rfl,
 (fun i hi j hj => match i, hi, j, hj with | 0, _, 0, _ => rfl | 0, _, 1, _ => rfl | 1, _, 0, _ => rfl | 1, _, 1, _ => rfl),
 soC oW (by decide), (frS8u0_mk  ⟨(fun i hi j hj => match i, hi, j, hj with | 0, _, 0, _ => rfl | 0, _, 1, _ => rfl | 0, _, 2, _ => rfl),
 rfl,
 rfl,
 (fun i hi j hj => match i, hi, j, hj with | 0, _, 0, _ => rfl | 0, _, 1, _ => rfl | 0, _, 2, _ => rfl | 0, _, 3, _ => rfl | 0, _, 4, _ => rfl | 0, _, 5, _ => rfl | 0, _, 6, _ => rfl | 0, _, 7, _ => rfl | 0, _, 8, _ => rfl | 1, _, 0, _ => rfl | 1, _, 1, _ => rfl | 1, _, 2, _ => rfl | 1, _, 3, _ => rfl | 1, _, 4, _ => rfl | 1, _, 5, _ => rfl | 1, _, 6, _ => rfl | 1, _, 7, _ => rfl | 1, _, 8, _ => rfl | 2, _, 0, _ => rfl | 2, _, 1, _ => rfl | 2, _, 2, _ => rfl | 2, _, 3, _ => rfl | 2, _, 4, _ => rfl | 2, _, 5, _ => rfl | 2, _, 6, _ => rfl | 2, _, 7, _ => rfl | 2, _, 8, _ => rfl | 3, _, 0, _ => rfl | 3, _, 1, _ => rfl | 3, _, 2, _ => rfl | 3, _, 3, _ => rfl | 3, _, 4, _ => rfl | 3, _, 5, _ => rfl | 3, _, 6, _ => rfl | 3, _, 7, _ => rfl | 3, _, 8, _ => rfl),
 rfl,
 atW9, (frS8u0_mk  ⟨(fun i hi j hj => match i, hi, j, hj with | 0, _, 0, _ => rfl | 0, _, 1, _ => rfl | 0, _, 2, _ => rfl),
 rfl,
 rfl,
 (fun i hi j hj => match i, hi, j, hj with | 0, _, 0, _ => rfl | 0, _, 1, _ => rfl | 0, _, 2, _ => rfl | 0, _, 3, _ => rfl | 0, _, 4, _ => rfl | 0, _, 5, _ => rfl | 0, _, 6, _ => rfl | 0, _, 7, _ => rfl | 0, _, 8, _ => rfl | 1, _, 0, _ => rfl | 1, _, 1, _ => rfl | 1, _, 2, _ => rfl | 1, _, 3, _ => rfl | 1, _, 4, _ => rfl | 1, _, 5, _ => rfl | 1, _, 6, _ => rfl | 1, _, 7, _ => rfl | 1, _, 8, _ => rfl | 2, _, 0, _ => rfl | 2, _, 1, _ => rfl | 2, _, 2, _ => rfl | 2, _, 3, _ => rfl | 2, _, 4, _ => rfl | 2, _, 5, _ => rfl | 2, _, 6, _ => rfl | 2, _, 7, _ => rfl | 2, _, 8, _ => rfl | 3, _, 0, _ => rfl | 3, _, 1, _ => rfl | 3, _, 2, _ => rfl | 3, _, 3, _ => rfl | 3, _, 4, _ => rfl | 3, _, 5, _ => rfl | 3, _, 6, _ => rfl | 3, _, 7, _ => rfl | 3, _, 8, _ => rfl),
 rfl,
 atW1,
 (by kernel_rfl), trivial⟩)⟩)⟩)
theorem awakeC8 : PureC Try.prog 18 [] (.bool true) [] := PureC.vc aw_vc
end
end Go.Proofs.Ytjdiabjmphdhiaa.Px
namespace Go.Proofs.Ytjdiabjmphdhiaa.Px
section
open Go.RowKit Go.Proofs.Ytjdiabjmphdhiaa.Rx
def B7 (s : S7) : Prop := ((0 ≤ s.r0 ∧ s.r0 < 65536) ∧ (0 ≤ s.r1 ∧ s.r1 < 65536) ∧ (0 ≤ s.r2 ∧ s.r2 < 65536) ∧ (0 ≤ s.r3 ∧ s.r3 < 65536)) ∧ ∀ x ∈ s.m, 0 ≤ x ∧ x < 65536
theorem put7_b {s : S7} (h : B7 s) (P : Pl) {v : Int} (hv : 0 ≤ v ∧ v < 65536) : B7 (put7 s P v) := by
  obtain ⟨⟨h0, h1, h2, h3⟩, hm⟩ := h
  unfold put7
  split
  · split
    · exact ⟨⟨hv, h1, h2, h3⟩, hm⟩
    · split
      · exact ⟨⟨h0, hv, h2, h3⟩, hm⟩
      · split
        · exact ⟨⟨h0, h1, hv, h3⟩, hm⟩
        · exact ⟨⟨h0, h1, h2, hv⟩, hm⟩
  · refine ⟨⟨h0, h1, h2, h3⟩, fun x hx => ?_⟩
    rcases List.mem_or_eq_of_mem_set hx with h | rfl
    · exact hm x h
    · exact hv
theorem zz : (0 : Int) ≤ 0 ∧ (0 : Int) < 65536 := by decide
theorem zer7_b (n : Nat) : B7 (zer7 n) := ⟨⟨zz, zz, zz, zz⟩, fun x hx => by
  have := (List.mem_replicate.1 hx).2
  omega⟩
theorem putK_b (W : Int) (pl : List Pl) (l : List Int) (s : S7) (h : B7 s) : ∀ k, B7 (putK W pl l s k)
  | 0 => h
  | k + 1 => put7_b (putK_b W pl l s h k) _ (Wd.maskV_bd _ _)
theorem s8S_ok (p : Pg) (l : List Int) : OkS ((sumN p.ms : Nat) : Int) p.is.length (s8S (stK p l)) := by
  obtain ⟨h1, h2⟩ := putK_b p.W (plF p) l (zer7 (sumN p.ms)) (zer7_b _) (plF p).length
  refine ⟨h1, h2, ?_, ⟨by show (-1 : Int) ≤ 0; decide, by show (0 : Int) ≤ _; omega⟩, by show (0 : Nat) ≤ 100; decide, fun x hx => by cases hx⟩
  show ((sumN p.ms : Nat) : Int) = (((stK p l).m.length : Nat) : Int)
  rw [stK_len]
theorem sA_ok (p : Pg) (l : List Int) : OkS ((sumN p.ms : Nat) : Int) p.is.length (sA p l) := s8S_ok p _
end
end Go.Proofs.Ytjdiabjmphdhiaa.Px
namespace Go.Proofs.Ytjdiabjmphdhiaa.Px
section
open Go.RowKit Go.Proofs.Ytjdiabjmphdhiaa.Rx
end
end Go.Proofs.Ytjdiabjmphdhiaa.Px
namespace Go.Proofs.Ytjdiabjmphdhiaa.Px
section
open Go.RowKit Go.Proofs.Ytjdiabjmphdhiaa.Rx
theorem and15 (n : Int) : 0 ≤ bits .and .i64 n 15 ∧ bits .and .i64 n 15 < 16 := by
  have h := Wd.bits_mask n 4 (by omega)
  have h2 : bits .and .i64 n 15 = n % 16 := h
  rw [h2]; omega
end
end Go.Proofs.Ytjdiabjmphdhiaa.Px
