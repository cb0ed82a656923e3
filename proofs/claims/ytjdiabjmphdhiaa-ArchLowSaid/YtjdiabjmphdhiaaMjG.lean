/- Merged: A7i, Rx26. -/
import Derived.Test.YtjdiabjmphdhiaaMjF
import Derived.Test.YtjdiabjmphdhiaaMjE
set_option linter.unusedVariables false
set_option linter.unusedSimpArgs false
set_option maxRecDepth 100000
namespace Go.Proofs.Ytjdiabjmphdhiaa.Px
section
open Go.RowKit Go.Proofs.Ytjdiabjmphdhiaa.Rx
def pubK (pl : List Pl) (s0 : S7) : Nat → S7
  | 0 => s0
  | k + 1 => if (pl.getD k default).sec = true then put7 (pubK pl s0 k) (pl.getD k default) 0 else pubK pl s0 k
def stD (s : S7) (a sk : AV) (pc : Int) : List AV := [.int .i64 s.r0, .int .i64 s.r1, .int .i64 s.r2, .int .i64 s.r3, a, sk, .int .i64 pc]
def pubS (pl : List Pl) (s : S7) (sk : AV) (pc : Int) (k : Nat) : Sm := ⟨[(13, .int .i64 pl.length), (12, .own 4 0 3 0 pl.length), (3, .bptr 1 0), (4, .bptr 2 0), (14, .int .i64 k)],
  [(1, bx 31 (stD s (.own 3 0 1 0 s.m.length) sk pc)), (2, bx 31 (stZ .nils)), (3, blkI s.m), (4, plB pl)], 5⟩
def s7 (a0 a1 a2 a3 : Int) (m : List Int) : S7 := ⟨a0, a1, a2, a3, m⟩
theorem pubK_len (pl : List Pl) (s : S7) (k : Nat) : (pubK pl s k).m.length = s.m.length := by
  induction k with
  | zero => rfl
  | succ k ih =>
    rw [pubK]
    split
    · rw [put7_len, ih]
    · exact ih
def frA7i0 (pl : List Pl) (s : S7) (Z : Prop) : Prop := ((0 : Int) = (0 : Int)) ∧ ((0 : Int) = (0 : Int)) ∧ ((0 : Int) = (0 : Int)) ∧ (List.length (S7.m s) = List.length (S7.m s)) ∧ (∀ (i : Nat), i < List.length (S7.m s) → ∀ (j : Nat), j < (1 : Nat) → AV.int IntKind.i64 (List.getD (S7.m s) i (0 : Int)) = AV.int IntKind.i64 (List.getD (S7.m s) i (0 : Int))) ∧ (List.length pl = List.length pl) ∧ (∀ (i : Nat), i < List.length pl → ∀ (j : Nat), j < (3 : Nat) → rowL plC pl i j = rowL plC pl i j) ∧ ((↑(List.length pl) : Int) = (↑(List.length pl) : Int)) ∧ ((0 : Nat) = (0 : Nat)) ∧ Z
theorem frA7i0_mk (pl : List Pl) (s : S7) {Z : Prop} (z : Z) : frA7i0 pl s Z := ⟨rfl, rfl, rfl, rfl, (fun _ _ _ _ => rfl), rfl, (fun _ _ _ _ => rfl), rfl, rfl, z⟩
def frA7i1 (s : S7) (pc : Int) (Z : Prop) : Prop := (S7.r0 s = S7.r0 s) ∧ (S7.r1 s = S7.r1 s) ∧ (S7.r2 s = S7.r2 s) ∧ (S7.r3 s = S7.r3 s) ∧ ((0 : Nat) = (0 : Nat)) ∧ (List.length (S7.m s) = List.length (S7.m s)) ∧ (pc = pc) ∧ ((0 : Int) = (0 : Int)) ∧ ((0 : Int) = (0 : Int)) ∧ Z
theorem frA7i1_mk (s : S7) (pc : Int) {Z : Prop} (z : Z) : frA7i1 s pc Z := ⟨rfl, rfl, rfl, rfl, rfl, rfl, rfl, rfl, rfl, z⟩
theorem pb_no_n (pl : List Pl) (s : S7) (pc : Int) (k : Nat) (hk : k < pl.length) (hp : pl.length < 1000000) (hs7 : (pl.getD k default).sec = false) : Vc (vcC Try.prog false (ntOf Try.prog 32) (lpC Try.prog 32 0) (pubS pl s .nils pc k) [.b true, .b false] .nrm [(1, 1), (2, 2), (3, 3), (4, 4)] (pubS pl s .nils pc (k + 1))) :=
  vc_of (q := (decide ((↑k : Int) < (↑(List.length pl) : Int)) = true) ∧ ((0 : Int) ≤ (↑k : Int) ∧ (↑k : Int) < (↑(List.length pl) : Int)) ∧ (k + (0 : Nat) < List.length pl) ∧ (Pl.sec (List.getD pl (k + (0 : Nat)) Inhabited.default) = false) ∧ (inK IntKind.i64 ((↑k : Int) + (1 : Int))) ∧ (frA7i1 s pc ((frA7i0 pl s ((List.length pl = List.length pl) ∧ ((↑k : Int) + (1 : Int) = (↑(k + (1 : Nat)) : Int)) ∧ True))))) (by kernel_rfl)
    ⟨(decide_eq_true (by first | omega | (simp; omega) | (simp; done))),
 (by first | omega | rfl),
 (by first | omega | rfl),
 hs7,
 (in64 (by omega) (by omega)), (frA7i1_mk s pc (frA7i0_mk pl s ⟨rfl,
 (by first | omega | rfl), trivial⟩))⟩
abbrev cA7i0 (pl : List Pl) (k : Nat) : Prop := (Pl.reg (List.getD pl (k + (0 : Nat)) Inhabited.default) = true)
abbrev cA7i1 (pl : List Pl) (k : Nat) : Prop := (Pl.sec (List.getD pl (k + (0 : Nat)) Inhabited.default) = true)
theorem pb_reg0_n (pl : List Pl) (s : S7) (pc : Int) (k : Nat) (hk : k < pl.length) (hp : pl.length < 1000000) (hs7 : (pl.getD k default).sec = true) (hr : (pl.getD k default).reg = true) (hn : (pl.getD k default).n = 0) : Vc (vcC Try.prog false (ntOf Try.prog 32) (lpC Try.prog 32 0) (pubS pl s .nils pc k) [.b true, .b true, .b true, .ix 0] .nrm [(1, 1), (2, 2), (3, 3), (4, 4)] (pubS pl { s with r0 := 0 } .nils pc (k + 1))) :=
  vc_of (q := (decide ((↑k : Int) < (↑(List.length pl) : Int)) = true) ∧ ((0 : Int) ≤ (↑k : Int) ∧ (↑k : Int) < (↑(List.length pl) : Int)) ∧ (k + (0 : Nat) < List.length pl) ∧ cA7i1 pl k ∧ cA7i0 pl k ∧ ((↑(Pl.n (List.getD pl (k + (0 : Nat)) Inhabited.default)) : Int) = (↑(0 : Nat) : Int)) ∧ (inK IntKind.i64 ((↑k : Int) + (1 : Int))) ∧ ((0 : Int) = (0 : Int)) ∧ (S7.r1 s = S7.r1 s) ∧ (S7.r2 s = S7.r2 s) ∧ (S7.r3 s = S7.r3 s) ∧ ((0 : Nat) = (0 : Nat)) ∧ (List.length (S7.m s) = List.length (S7.m s)) ∧ (pc = pc) ∧ ((0 : Int) = (0 : Int)) ∧ ((0 : Int) = (0 : Int)) ∧ (frA7i0 pl s ((List.length pl = List.length pl) ∧ ((↑k : Int) + (1 : Int) = (↑(k + (1 : Nat)) : Int)) ∧ True))) (by kernel_rfl)
    ⟨(decide_eq_true (by first | omega | (simp; omega) | (simp; done))),
 (by first | omega | rfl),
 (by first | omega | rfl),
 hs7,
 hr,
 (congrArg Int.ofNat hn),
 (in64 (by omega) (by omega)),
 rfl,
 rfl,
 rfl,
 rfl,
 rfl,
 rfl,
 rfl,
 rfl,
 rfl, (frA7i0_mk pl s ⟨rfl,
 (by first | omega | rfl), trivial⟩)⟩
theorem pb_reg1_n (pl : List Pl) (s : S7) (pc : Int) (k : Nat) (hk : k < pl.length) (hp : pl.length < 1000000) (hs7 : (pl.getD k default).sec = true) (hr : (pl.getD k default).reg = true) (hn : (pl.getD k default).n = 1) : Vc (vcC Try.prog false (ntOf Try.prog 32) (lpC Try.prog 32 0) (pubS pl s .nils pc k) [.b true, .b true, .b true, .ix 1] .nrm [(1, 1), (2, 2), (3, 3), (4, 4)] (pubS pl { s with r1 := 0 } .nils pc (k + 1))) :=
  vc_of (q := (decide ((↑k : Int) < (↑(List.length pl) : Int)) = true) ∧ ((0 : Int) ≤ (↑k : Int) ∧ (↑k : Int) < (↑(List.length pl) : Int)) ∧ (k + (0 : Nat) < List.length pl) ∧ cA7i1 pl k ∧ cA7i0 pl k ∧ ((↑(Pl.n (List.getD pl (k + (0 : Nat)) Inhabited.default)) : Int) = (↑(1 : Nat) : Int)) ∧ (inK IntKind.i64 ((↑k : Int) + (1 : Int))) ∧ (S7.r0 s = S7.r0 s) ∧ ((0 : Int) = (0 : Int)) ∧ (S7.r2 s = S7.r2 s) ∧ (S7.r3 s = S7.r3 s) ∧ ((0 : Nat) = (0 : Nat)) ∧ (List.length (S7.m s) = List.length (S7.m s)) ∧ (pc = pc) ∧ ((0 : Int) = (0 : Int)) ∧ ((0 : Int) = (0 : Int)) ∧ (frA7i0 pl s ((List.length pl = List.length pl) ∧ ((↑k : Int) + (1 : Int) = (↑(k + (1 : Nat)) : Int)) ∧ True))) (by kernel_rfl)
    ⟨(decide_eq_true (by first | omega | (simp; omega) | (simp; done))),
 (by first | omega | rfl),
 (by first | omega | rfl),
 hs7,
 hr,
 (congrArg Int.ofNat hn),
 (in64 (by omega) (by omega)),
 rfl,
 rfl,
 rfl,
 rfl,
 rfl,
 rfl,
 rfl,
 rfl,
 rfl, (frA7i0_mk pl s ⟨rfl,
 (by first | omega | rfl), trivial⟩)⟩
theorem pb_reg2_n (pl : List Pl) (s : S7) (pc : Int) (k : Nat) (hk : k < pl.length) (hp : pl.length < 1000000) (hs7 : (pl.getD k default).sec = true) (hr : (pl.getD k default).reg = true) (hn : (pl.getD k default).n = 2) : Vc (vcC Try.prog false (ntOf Try.prog 32) (lpC Try.prog 32 0) (pubS pl s .nils pc k) [.b true, .b true, .b true, .ix 2] .nrm [(1, 1), (2, 2), (3, 3), (4, 4)] (pubS pl { s with r2 := 0 } .nils pc (k + 1))) :=
  vc_of (q := (decide ((↑k : Int) < (↑(List.length pl) : Int)) = true) ∧ ((0 : Int) ≤ (↑k : Int) ∧ (↑k : Int) < (↑(List.length pl) : Int)) ∧ (k + (0 : Nat) < List.length pl) ∧ cA7i1 pl k ∧ cA7i0 pl k ∧ ((↑(Pl.n (List.getD pl (k + (0 : Nat)) Inhabited.default)) : Int) = (↑(2 : Nat) : Int)) ∧ (inK IntKind.i64 ((↑k : Int) + (1 : Int))) ∧ (S7.r0 s = S7.r0 s) ∧ (S7.r1 s = S7.r1 s) ∧ ((0 : Int) = (0 : Int)) ∧ (S7.r3 s = S7.r3 s) ∧ ((0 : Nat) = (0 : Nat)) ∧ (List.length (S7.m s) = List.length (S7.m s)) ∧ (pc = pc) ∧ ((0 : Int) = (0 : Int)) ∧ ((0 : Int) = (0 : Int)) ∧ (frA7i0 pl s ((List.length pl = List.length pl) ∧ ((↑k : Int) + (1 : Int) = (↑(k + (1 : Nat)) : Int)) ∧ True))) (by kernel_rfl)
    ⟨(decide_eq_true (by first | omega | (simp; omega) | (simp; done))),
 (by first | omega | rfl),
 (by first | omega | rfl),
 hs7,
 hr,
 (congrArg Int.ofNat hn),
 (in64 (by omega) (by omega)),
 rfl,
 rfl,
 rfl,
 rfl,
 rfl,
 rfl,
 rfl,
 rfl,
 rfl, (frA7i0_mk pl s ⟨rfl,
 (by first | omega | rfl), trivial⟩)⟩
theorem pb_reg3_n (pl : List Pl) (s : S7) (pc : Int) (k : Nat) (hk : k < pl.length) (hp : pl.length < 1000000) (hs7 : (pl.getD k default).sec = true) (hr : (pl.getD k default).reg = true) (hn : (pl.getD k default).n = 3) : Vc (vcC Try.prog false (ntOf Try.prog 32) (lpC Try.prog 32 0) (pubS pl s .nils pc k) [.b true, .b true, .b true, .ix 3] .nrm [(1, 1), (2, 2), (3, 3), (4, 4)] (pubS pl { s with r3 := 0 } .nils pc (k + 1))) :=
  vc_of (q := (decide ((↑k : Int) < (↑(List.length pl) : Int)) = true) ∧ ((0 : Int) ≤ (↑k : Int) ∧ (↑k : Int) < (↑(List.length pl) : Int)) ∧ (k + (0 : Nat) < List.length pl) ∧ cA7i1 pl k ∧ cA7i0 pl k ∧ ((↑(Pl.n (List.getD pl (k + (0 : Nat)) Inhabited.default)) : Int) = (↑(3 : Nat) : Int)) ∧ (inK IntKind.i64 ((↑k : Int) + (1 : Int))) ∧ (S7.r0 s = S7.r0 s) ∧ (S7.r1 s = S7.r1 s) ∧ (S7.r2 s = S7.r2 s) ∧ ((0 : Int) = (0 : Int)) ∧ ((0 : Nat) = (0 : Nat)) ∧ (List.length (S7.m s) = List.length (S7.m s)) ∧ (pc = pc) ∧ ((0 : Int) = (0 : Int)) ∧ ((0 : Int) = (0 : Int)) ∧ (frA7i0 pl s ((List.length pl = List.length pl) ∧ ((↑k : Int) + (1 : Int) = (↑(k + (1 : Nat)) : Int)) ∧ True))) (by kernel_rfl)
    ⟨(decide_eq_true (by first | omega | (simp; omega) | (simp; done))),
 (by first | omega | rfl),
 (by first | omega | rfl),
 hs7,
 hr,
 (congrArg Int.ofNat hn),
 (in64 (by omega) (by omega)),
 rfl,
 rfl,
 rfl,
 rfl,
 rfl,
 rfl,
 rfl,
 rfl,
 rfl, (frA7i0_mk pl s ⟨rfl,
 (by first | omega | rfl), trivial⟩)⟩
def frA7i2 (pl : List Pl) (Z : Prop) : Prop := (List.length pl = List.length pl) ∧ (∀ (i : Nat), i < List.length pl → ∀ (j : Nat), j < (3 : Nat) → rowL plC pl i j = rowL plC pl i j) ∧ ((↑(List.length pl) : Int) = (↑(List.length pl) : Int)) ∧ ((0 : Nat) = (0 : Nat)) ∧ (List.length pl = List.length pl) ∧ Z
theorem frA7i2_mk (pl : List Pl) {Z : Prop} (z : Z) : frA7i2 pl Z := ⟨rfl, (fun _ _ _ _ => rfl), rfl, rfl, rfl, z⟩
def frA7i3 (s : S7) (Z : Prop) : Prop := (S7.r0 s = S7.r0 s) ∧ (S7.r1 s = S7.r1 s) ∧ (S7.r2 s = S7.r2 s) ∧ (S7.r3 s = S7.r3 s) ∧ ((0 : Nat) = (0 : Nat)) ∧ Z
theorem frA7i3_mk (s : S7) {Z : Prop} (z : Z) : frA7i3 s Z := ⟨rfl, rfl, rfl, rfl, rfl, z⟩
theorem pb_mem_n (pl : List Pl) (s : S7) (pc : Int) (k : Nat) (hk : k < pl.length) (hp : pl.length < 1000000) (hs7 : (pl.getD k default).sec = true) (hr : (pl.getD k default).reg = false) (hn : (pl.getD k default).n < s.m.length) : Vc (vcC Try.prog false (ntOf Try.prog 32) (lpC Try.prog 32 0) (pubS pl s .nils pc k) [.b true, .b true, .b false] .nrm [(1, 1), (2, 2), (3, 3), (4, 4)] (pubS pl { s with m := s.m.set (pl.getD k default).n 0 } .nils pc (k + 1))) :=
  vc_of (q := (decide ((↑k : Int) < (↑(List.length pl) : Int)) = true) ∧ ((0 : Int) ≤ (↑k : Int) ∧ (↑k : Int) < (↑(List.length pl) : Int)) ∧ (k + (0 : Nat) < List.length pl) ∧ cA7i1 pl k ∧ (Pl.reg (List.getD pl (k + (0 : Nat)) Inhabited.default) = false) ∧ ((0 : Int) ≤ (↑(Pl.n (List.getD pl (k + (0 : Nat)) Inhabited.default)) : Int) ∧ (↑(Pl.n (List.getD pl (k + (0 : Nat)) Inhabited.default)) : Int) < (↑(List.length (S7.m s)) : Int)) ∧ (Pl.n (List.getD pl (k + (0 : Nat)) Inhabited.default) + (0 : Nat) < List.length (S7.m s)) ∧ (inK IntKind.i64 ((↑k : Int) + (1 : Int))) ∧ (frA7i3 s ((List.length (S7.m s) = List.length (List.set (S7.m s) (Pl.n (List.getD pl k Inhabited.default)) (0 : Int))) ∧ (pc = pc) ∧ ((0 : Int) = (0 : Int)) ∧ ((0 : Int) = (0 : Int)) ∧ ((0 : Int) = (0 : Int)) ∧ ((0 : Int) = (0 : Int)) ∧ ((0 : Int) = (0 : Int)) ∧ (List.length (S7.m s) = List.length (List.set (S7.m s) (Pl.n (List.getD pl k Inhabited.default)) (0 : Int))) ∧ (∀ (i : Nat), i < List.length (S7.m s) → ∀ (j : Nat), j < (1 : Nat) → (bif Nat.beq i (Pl.n (List.getD pl (k + (0 : Nat)) Inhabited.default) + (0 : Nat)) && Nat.ble (0 : Nat) j && Nat.blt j (1 : Nat) then List.getD [AV.int IntKind.i64 (0 : Int)] (j - (0 : Nat)) AV.junk else AV.int IntKind.i64 (List.getD (S7.m s) i (0 : Int))) = AV.int IntKind.i64 (List.getD (List.set (S7.m s) (Pl.n (List.getD pl k Inhabited.default)) (0 : Int)) i (0 : Int))) ∧ (frA7i2 pl (((↑k : Int) + (1 : Int) = (↑(k + (1 : Nat)) : Int)) ∧ True))))) (by kernel_rfl)
    ⟨(decide_eq_true (by first | omega | (simp; omega) | (simp; done))),
 (by first | omega | rfl),
 (by first | omega | rfl),
 hs7,
 hr,
 ⟨Int.natCast_nonneg _, Int.ofNat_lt.2 hn⟩,
 hn,
 (in64 (by omega) (by omega)), (frA7i3_mk s ⟨List.length_set.symm,
 rfl,
 rfl,
 rfl,
 rfl,
 rfl,
 rfl,
 List.length_set.symm,
 set_row, (frA7i2_mk pl ⟨(by first | omega | rfl), trivial⟩)⟩)⟩
theorem pb_end_n (pl : List Pl) (s : S7) (pc : Int) : Vc (vcC Try.prog false (ntOf Try.prog 32) (lpC Try.prog 32 0) (pubS pl s .nils pc pl.length) [.b false] (.ext 0) [(1, 1), (2, 2), (3, 3), (4, 4)] (pubS pl s .nils pc pl.length)) :=
  vc_of (q := (decide ((↑(List.length pl) : Int) < (↑(List.length pl) : Int)) = false) ∧ (frA7i1 s pc ((frA7i0 pl s ((List.length pl = List.length pl) ∧ ((↑(List.length pl) : Int) = (↑(List.length pl) : Int)) ∧ True))))) (by kernel_rfl)
    ⟨(decide_eq_false (by first | omega | (simp; omega) | (simp; done))), (frA7i1_mk s pc (frA7i0_mk pl s ⟨rfl,
 rfl, trivial⟩))⟩
theorem pub_loop_n (pl : List Pl) (s : S7) (pc : Int) (hp : pl.length < 1000000) (ho : ∀ p ∈ pl, plOk s.m.length p) : Ok Try.prog (ntOf Try.prog 32) (.loop (lpC Try.prog 32 0)) (pubS pl s .nils pc 0).st (.ext 0) (pubS pl (pubK pl s pl.length) .nils pc pl.length).st :=
  Ok.loop (P := Try.prog) (nt := ntOf Try.prog 32) (c := lpC Try.prog 32 0) (F := fun k => pubS pl (pubK pl s k) .nils pc k) (m := pl.length) (x := .ext 0) (J := pubS pl (pubK pl s pl.length) .nils pc pl.length) (fun k hk => by
    have hm := pubK_len pl s k
    obtain ⟨h1, h2⟩ := ho _ (getD_mem hk)
    show Ok _ _ _ _ _ (pubS pl (if (pl.getD k default).sec = true then put7 (pubK pl s k) (pl.getD k default) 0 else pubK pl s k) .nils pc (k + 1)).st
    cases hs7 : (pl.getD k default).sec with
    | false =>
      rw [if_neg (by simp)]
      exact Ok.vc (pb_no_n pl _ pc k hk hp hs7)
    | true =>
      rw [if_pos rfl]
      cases hr : (pl.getD k default).reg with
      | true =>
        have hn := h1 hr
        unfold put7
        rw [if_pos hr]
        match hq : (pl.getD k default).n, hn with
        | 0, _ => exact Ok.vc (pb_reg0_n pl _ pc k hk hp hs7 hr hq)
        | 1, _ => exact Ok.vc (pb_reg1_n pl _ pc k hk hp hs7 hr hq)
        | 2, _ => exact Ok.vc (pb_reg2_n pl _ pc k hk hp hs7 hr hq)
        | 3, _ => exact Ok.vc (pb_reg3_n pl _ pc k hk hp hs7 hr hq)
      | false =>
        have hn := h2 hr
        unfold put7
        rw [if_neg (by rw [hr]; simp)]
        exact Ok.vc (pb_mem_n pl _ pc k hk hp hs7 hr (by rw [hm]; exact hn))) (Ok.vc (pb_end_n pl _ pc)) (by simp)
def frA7i4 (W : Int) (r0 : Int) (r1 : Int) (r2 : Int) (r3 : Int) (ms : List Mm) (Z : Prop) : Prop := (W = W) ∧ (r0 = r0) ∧ (r1 = r1) ∧ (r2 = r2) ∧ (r3 = r3) ∧ (List.length ms = List.length ms) ∧ (∀ (i : Nat), i < List.length ms → ∀ (j : Nat), j < (3 : Nat) → rowL mmC ms i j = rowL mmC ms i j) ∧ Z
theorem frA7i4_mk (W : Int) (r0 : Int) (r1 : Int) (r2 : Int) (r3 : Int) (ms : List Mm) {Z : Prop} (z : Z) : frA7i4 W r0 r1 r2 r3 ms Z := ⟨rfl, rfl, rfl, rfl, rfl, rfl, (fun _ _ _ _ => rfl), z⟩
theorem pub_n (W r0 r1 r2 r3 : Int) (ms : List Mm) (a0 a1 a2 a3 pc : Int) (m : List Int) (h64 : ms.length < 4611686018427387904) (hs : sumN ms ≤ 16) (hm : m.length = sumN ms) : Vc (vcFn Try.prog false 32 [.agg (progL W r0 r1 r2 r3 (memR ms)), .agg (stA a0 a1 a2 a3 m .nils pc)] [.cl [.row 1 m.length (rowI m)] (.own 0 0 1 0 m.length) [blkI m], .cl [.agg (progL W r0 r1 r2 r3 (memR ms))] (.own 0 0 3 0 (places (rg r0 r1 r2 r3) ms).length) [plB (places (rg r0 r1 r2 r3) ms)], .lp [(1, 1), (2, 2), (3, 3), (4, 4)] (pubS (places (rg r0 r1 r2 r3) ms) (s7 a0 a1 a2 a3 m) .nils pc 0) (.ext 0) (pubS (places (rg r0 r1 r2 r3) ms) (pubK (places (rg r0 r1 r2 r3) ms) (s7 a0 a1 a2 a3 m) (places (rg r0 r1 r2 r3) ms).length) .nils pc (places (rg r0 r1 r2 r3) ms).length)] [(0, 3)] (.agg (stD (pubK (places (rg r0 r1 r2 r3) ms) (s7 a0 a1 a2 a3 m) (places (rg r0 r1 r2 r3) ms).length) (.own 0 0 1 0 (pubK (places (rg r0 r1 r2 r3) ms) (s7 a0 a1 a2 a3 m) (places (rg r0 r1 r2 r3) ms).length).m.length) .nils pc)) [blkI (pubK (places (rg r0 r1 r2 r3) ms) (s7 a0 a1 a2 a3 m) (places (rg r0 r1 r2 r3) ms).length).m]) :=
  vc_of (q := (List.length m = List.length m) ∧ (∀ (i : Nat), i < List.length m → ∀ (j : Nat), j < (1 : Nat) → AV.int IntKind.i64 (List.getD m i (0 : Int)) = AV.int IntKind.i64 (List.getD m i (0 : Int))) ∧ (PureC Try.prog 37 [.row 1 m.length (rowI m)] (.own 0 0 1 0 m.length) [blkI m]) ∧ (frA7i4 W r0 r1 r2 r3 ms ((PureC Try.prog 33 [.agg (progL W r0 r1 r2 r3 (memR ms))] (.own 0 0 3 0 (places (rg r0 r1 r2 r3) ms).length) [plB (places (rg r0 r1 r2 r3) ms)]) ∧ (a0 = a0) ∧ (a1 = a1) ∧ (a2 = a2) ∧ (a3 = a3) ∧ ((0 : Nat) = (0 : Nat)) ∧ (List.length m = List.length m) ∧ (pc = pc) ∧ ((0 : Int) = (0 : Int)) ∧ ((0 : Int) = (0 : Int)) ∧ ((0 : Int) = (0 : Int)) ∧ ((0 : Int) = (0 : Int)) ∧ ((0 : Int) = (0 : Int)) ∧ (List.length m = List.length m) ∧ (∀ (i : Nat), i < List.length m → ∀ (j : Nat), j < (1 : Nat) → AV.int IntKind.i64 (List.getD m i (0 : Int)) = AV.int IntKind.i64 (List.getD m i (0 : Int))) ∧ (List.length (places (rg r0 r1 r2 r3) ms) = List.length (places (rg r0 r1 r2 r3) ms)) ∧ (∀ (i : Nat), i < List.length (places (rg r0 r1 r2 r3) ms) → ∀ (j : Nat), j < (3 : Nat) → rowL plC (places (rg r0 r1 r2 r3) ms) i j = rowL plC (places (rg r0 r1 r2 r3) ms) i j) ∧ ((↑(List.length (places (rg r0 r1 r2 r3) ms)) : Int) = (↑(List.length (places (rg r0 r1 r2 r3) ms)) : Int)) ∧ ((0 : Nat) = (0 : Nat)) ∧ (List.length (places (rg r0 r1 r2 r3) ms) = List.length (places (rg r0 r1 r2 r3) ms)) ∧ ((0 : Int) = (↑(0 : Nat) : Int)) ∧ (Ok Try.prog (ntOf Try.prog 32) (.loop (lpC Try.prog 32 0)) (pubS (places (rg r0 r1 r2 r3) ms) (s7 a0 a1 a2 a3 m) .nils pc 0).st (.ext 0) (pubS (places (rg r0 r1 r2 r3) ms) (pubK (places (rg r0 r1 r2 r3) ms) (s7 a0 a1 a2 a3 m) (places (rg r0 r1 r2 r3) ms).length) .nils pc (places (rg r0 r1 r2 r3) ms).length).st) ∧ (List.length (S7.m (pubK (places (rg r0 r1 r2 r3) ms) (s7 a0 a1 a2 a3 m) (List.length (places (rg r0 r1 r2 r3) ms)))) = List.length (S7.m (pubK (places (rg r0 r1 r2 r3) ms) (s7 a0 a1 a2 a3 m) (List.length (places (rg r0 r1 r2 r3) ms))))) ∧ (∀ (i : Nat), i < List.length (S7.m (pubK (places (rg r0 r1 r2 r3) ms) (s7 a0 a1 a2 a3 m) (List.length (places (rg r0 r1 r2 r3) ms)))) → ∀ (j : Nat), j < (1 : Nat) → AV.int IntKind.i64 (List.getD (S7.m (pubK (places (rg r0 r1 r2 r3) ms) (s7 a0 a1 a2 a3 m) (List.length (places (rg r0 r1 r2 r3) ms)))) i (0 : Int)) = AV.int IntKind.i64 (List.getD (S7.m (pubK (places (rg r0 r1 r2 r3) ms) (s7 a0 a1 a2 a3 m) (List.length (places (rg r0 r1 r2 r3) ms)))) i (0 : Int))) ∧ (S7.r0 (pubK (places (rg r0 r1 r2 r3) ms) (s7 a0 a1 a2 a3 m) (List.length (places (rg r0 r1 r2 r3) ms))) = S7.r0 (pubK (places (rg r0 r1 r2 r3) ms) (s7 a0 a1 a2 a3 m) (List.length (places (rg r0 r1 r2 r3) ms)))) ∧ (S7.r1 (pubK (places (rg r0 r1 r2 r3) ms) (s7 a0 a1 a2 a3 m) (List.length (places (rg r0 r1 r2 r3) ms))) = S7.r1 (pubK (places (rg r0 r1 r2 r3) ms) (s7 a0 a1 a2 a3 m) (List.length (places (rg r0 r1 r2 r3) ms)))) ∧ (S7.r2 (pubK (places (rg r0 r1 r2 r3) ms) (s7 a0 a1 a2 a3 m) (List.length (places (rg r0 r1 r2 r3) ms))) = S7.r2 (pubK (places (rg r0 r1 r2 r3) ms) (s7 a0 a1 a2 a3 m) (List.length (places (rg r0 r1 r2 r3) ms)))) ∧ (S7.r3 (pubK (places (rg r0 r1 r2 r3) ms) (s7 a0 a1 a2 a3 m) (List.length (places (rg r0 r1 r2 r3) ms))) = S7.r3 (pubK (places (rg r0 r1 r2 r3) ms) (s7 a0 a1 a2 a3 m) (List.length (places (rg r0 r1 r2 r3) ms)))) ∧ ((0 : Nat) = (0 : Nat)) ∧ (List.length (S7.m (pubK (places (rg r0 r1 r2 r3) ms) (s7 a0 a1 a2 a3 m) (List.length (places (rg r0 r1 r2 r3) ms)))) = List.length (S7.m (pubK (places (rg r0 r1 r2 r3) ms) (s7 a0 a1 a2 a3 m) (List.length (places (rg r0 r1 r2 r3) ms))))) ∧ (pc = pc) ∧ True))) (by kernel_rfl)
    ⟨rfl,
 (fun _ _ _ _ => rfl),
 cloneC (.row m) (by omega), (frA7i4_mk W r0 r1 r2 r3 ms ⟨archPlaces W r0 r1 r2 r3 ms h64 hs,
 rfl,
 rfl,
 rfl,
 rfl,
 rfl,
 rfl,
 rfl,
 rfl,
 rfl,
 rfl,
 rfl,
 rfl,
 rfl,
 (fun _ _ _ _ => rfl),
 rfl,
 (fun _ _ _ _ => rfl),
 rfl,
 rfl,
 rfl,
 (by first | omega | rfl),
 pub_loop_n (places (rg r0 r1 r2 r3) ms) (s7 a0 a1 a2 a3 m) pc (by have := places_length (rg r0 r1 r2 r3) ms; omega) (by have := places_ok (rg r0 r1 r2 r3) ms; simpa [s7, hm] using this),
 rfl,
 (fun _ _ _ _ => rfl),
 rfl,
 rfl,
 rfl,
 rfl,
 rfl,
 rfl,
 rfl, trivial⟩)⟩
theorem publicC_n (W r0 r1 r2 r3 : Int) (ms : List Mm) (a0 a1 a2 a3 pc : Int) (m : List Int) (h64 : ms.length < 4611686018427387904) (hs : sumN ms ≤ 16) (hm : m.length = sumN ms) : PureC Try.prog 32 [.agg (progL W r0 r1 r2 r3 (memR ms)), .agg (stA a0 a1 a2 a3 m .nils pc)] (.agg (stD (pubK (places (rg r0 r1 r2 r3) ms) (s7 a0 a1 a2 a3 m) (places (rg r0 r1 r2 r3) ms).length) (.own 0 0 1 0 (pubK (places (rg r0 r1 r2 r3) ms) (s7 a0 a1 a2 a3 m) (places (rg r0 r1 r2 r3) ms).length).m.length) .nils pc)) [blkI (pubK (places (rg r0 r1 r2 r3) ms) (s7 a0 a1 a2 a3 m) (places (rg r0 r1 r2 r3) ms).length).m] := PureC.vc (pub_n W r0 r1 r2 r3 ms a0 a1 a2 a3 pc m h64 hs hm)
def frA7i5 (pl : List Pl) (s : S7) (Z : Prop) : Prop := ((0 : Int) = (0 : Int)) ∧ ((0 : Int) = (0 : Int)) ∧ ((0 : Int) = (0 : Int)) ∧ ((0 : Int) = (0 : Int)) ∧ ((0 : Int) = (0 : Int)) ∧ (List.length (S7.m s) = List.length (S7.m s)) ∧ (∀ (i : Nat), i < List.length (S7.m s) → ∀ (j : Nat), j < (1 : Nat) → AV.int IntKind.i64 (List.getD (S7.m s) i (0 : Int)) = AV.int IntKind.i64 (List.getD (S7.m s) i (0 : Int))) ∧ (List.length pl = List.length pl) ∧ (∀ (i : Nat), i < List.length pl → ∀ (j : Nat), j < (3 : Nat) → rowL plC pl i j = rowL plC pl i j) ∧ Z
theorem frA7i5_mk (pl : List Pl) (s : S7) {Z : Prop} (z : Z) : frA7i5 pl s Z := ⟨rfl, rfl, rfl, rfl, rfl, rfl, (fun _ _ _ _ => rfl), rfl, (fun _ _ _ _ => rfl), z⟩
def frA7i6 (s : S7) (pc : Int) (st : List Int) (Z : Prop) : Prop := (S7.r0 s = S7.r0 s) ∧ (S7.r1 s = S7.r1 s) ∧ (S7.r2 s = S7.r2 s) ∧ (S7.r3 s = S7.r3 s) ∧ ((0 : Nat) = (0 : Nat)) ∧ (List.length (S7.m s) = List.length (S7.m s)) ∧ (List.length st = List.length st) ∧ (∀ (i : Nat), i < List.length st → ∀ (j : Nat), j < (1 : Nat) → AV.int IntKind.i64 (List.getD st i (0 : Int)) = AV.int IntKind.i64 (List.getD st i (0 : Int))) ∧ (pc = pc) ∧ Z
theorem frA7i6_mk (s : S7) (pc : Int) (st : List Int) {Z : Prop} (z : Z) : frA7i6 s pc st Z := ⟨rfl, rfl, rfl, rfl, rfl, rfl, rfl, (fun _ _ _ _ => rfl), rfl, z⟩
theorem pb_no_r (pl : List Pl) (s : S7) (pc : Int) (st : List Int) (k : Nat) (hk : k < pl.length) (hp : pl.length < 1000000) (hs7 : (pl.getD k default).sec = false) : Vc (vcC Try.prog false (ntOf Try.prog 32) (lpC Try.prog 32 0) (pubS pl s (.row 1 st.length (rowI st)) pc k) [.b true, .b false] .nrm [(1, 1), (2, 2), (3, 3), (4, 4)] (pubS pl s (.row 1 st.length (rowI st)) pc (k + 1))) :=
  vc_of (q := (decide ((↑k : Int) < (↑(List.length pl) : Int)) = true) ∧ ((0 : Int) ≤ (↑k : Int) ∧ (↑k : Int) < (↑(List.length pl) : Int)) ∧ (k + (0 : Nat) < List.length pl) ∧ (Pl.sec (List.getD pl (k + (0 : Nat)) Inhabited.default) = false) ∧ (inK IntKind.i64 ((↑k : Int) + (1 : Int))) ∧ (frA7i6 s pc st ((frA7i5 pl s (((↑(List.length pl) : Int) = (↑(List.length pl) : Int)) ∧ ((0 : Nat) = (0 : Nat)) ∧ (List.length pl = List.length pl) ∧ ((↑k : Int) + (1 : Int) = (↑(k + (1 : Nat)) : Int)) ∧ True))))) (by kernel_rfl)
    ⟨(decide_eq_true (by first | omega | (simp; omega) | (simp; done))),
 (by first | omega | rfl),
 (by first | omega | rfl),
 hs7,
 (in64 (by omega) (by omega)), (frA7i6_mk s pc st (frA7i5_mk pl s ⟨rfl,
 rfl,
 rfl,
 (by first | omega | rfl), trivial⟩))⟩
theorem pb_reg0_r (pl : List Pl) (s : S7) (pc : Int) (st : List Int) (k : Nat) (hk : k < pl.length) (hp : pl.length < 1000000) (hs7 : (pl.getD k default).sec = true) (hr : (pl.getD k default).reg = true) (hn : (pl.getD k default).n = 0) : Vc (vcC Try.prog false (ntOf Try.prog 32) (lpC Try.prog 32 0) (pubS pl s (.row 1 st.length (rowI st)) pc k) [.b true, .b true, .b true, .ix 0] .nrm [(1, 1), (2, 2), (3, 3), (4, 4)] (pubS pl { s with r0 := 0 } (.row 1 st.length (rowI st)) pc (k + 1))) :=
  vc_of (q := (decide ((↑k : Int) < (↑(List.length pl) : Int)) = true) ∧ ((0 : Int) ≤ (↑k : Int) ∧ (↑k : Int) < (↑(List.length pl) : Int)) ∧ (k + (0 : Nat) < List.length pl) ∧ cA7i1 pl k ∧ cA7i0 pl k ∧ ((↑(Pl.n (List.getD pl (k + (0 : Nat)) Inhabited.default)) : Int) = (↑(0 : Nat) : Int)) ∧ (inK IntKind.i64 ((↑k : Int) + (1 : Int))) ∧ ((0 : Int) = (0 : Int)) ∧ (S7.r1 s = S7.r1 s) ∧ (S7.r2 s = S7.r2 s) ∧ (S7.r3 s = S7.r3 s) ∧ ((0 : Nat) = (0 : Nat)) ∧ (List.length (S7.m s) = List.length (S7.m s)) ∧ (List.length st = List.length st) ∧ (∀ (i : Nat), i < List.length st → ∀ (j : Nat), j < (1 : Nat) → AV.int IntKind.i64 (List.getD st i (0 : Int)) = AV.int IntKind.i64 (List.getD st i (0 : Int))) ∧ (pc = pc) ∧ (frA7i5 pl s (((↑(List.length pl) : Int) = (↑(List.length pl) : Int)) ∧ ((0 : Nat) = (0 : Nat)) ∧ (List.length pl = List.length pl) ∧ ((↑k : Int) + (1 : Int) = (↑(k + (1 : Nat)) : Int)) ∧ True))) (by kernel_rfl)
    ⟨(decide_eq_true (by first | omega | (simp; omega) | (simp; done))),
 (by first | omega | rfl),
 (by first | omega | rfl),
 hs7,
 hr,
 (congrArg Int.ofNat hn),
 (in64 (by omega) (by omega)),
 rfl,
 rfl,
 rfl,
 rfl,
 rfl,
 rfl,
 rfl,
 (fun _ _ _ _ => rfl),
 rfl, (frA7i5_mk pl s ⟨rfl,
 rfl,
 rfl,
 (by first | omega | rfl), trivial⟩)⟩
theorem pb_reg1_r (pl : List Pl) (s : S7) (pc : Int) (st : List Int) (k : Nat) (hk : k < pl.length) (hp : pl.length < 1000000) (hs7 : (pl.getD k default).sec = true) (hr : (pl.getD k default).reg = true) (hn : (pl.getD k default).n = 1) : Vc (vcC Try.prog false (ntOf Try.prog 32) (lpC Try.prog 32 0) (pubS pl s (.row 1 st.length (rowI st)) pc k) [.b true, .b true, .b true, .ix 1] .nrm [(1, 1), (2, 2), (3, 3), (4, 4)] (pubS pl { s with r1 := 0 } (.row 1 st.length (rowI st)) pc (k + 1))) :=
  vc_of (q := (decide ((↑k : Int) < (↑(List.length pl) : Int)) = true) ∧ ((0 : Int) ≤ (↑k : Int) ∧ (↑k : Int) < (↑(List.length pl) : Int)) ∧ (k + (0 : Nat) < List.length pl) ∧ cA7i1 pl k ∧ cA7i0 pl k ∧ ((↑(Pl.n (List.getD pl (k + (0 : Nat)) Inhabited.default)) : Int) = (↑(1 : Nat) : Int)) ∧ (inK IntKind.i64 ((↑k : Int) + (1 : Int))) ∧ (S7.r0 s = S7.r0 s) ∧ ((0 : Int) = (0 : Int)) ∧ (S7.r2 s = S7.r2 s) ∧ (S7.r3 s = S7.r3 s) ∧ ((0 : Nat) = (0 : Nat)) ∧ (List.length (S7.m s) = List.length (S7.m s)) ∧ (List.length st = List.length st) ∧ (∀ (i : Nat), i < List.length st → ∀ (j : Nat), j < (1 : Nat) → AV.int IntKind.i64 (List.getD st i (0 : Int)) = AV.int IntKind.i64 (List.getD st i (0 : Int))) ∧ (pc = pc) ∧ (frA7i5 pl s (((↑(List.length pl) : Int) = (↑(List.length pl) : Int)) ∧ ((0 : Nat) = (0 : Nat)) ∧ (List.length pl = List.length pl) ∧ ((↑k : Int) + (1 : Int) = (↑(k + (1 : Nat)) : Int)) ∧ True))) (by kernel_rfl)
    ⟨(decide_eq_true (by first | omega | (simp; omega) | (simp; done))),
 (by first | omega | rfl),
 (by first | omega | rfl),
 hs7,
 hr,
 (congrArg Int.ofNat hn),
 (in64 (by omega) (by omega)),
 rfl,
 rfl,
 rfl,
 rfl,
 rfl,
 rfl,
 rfl,
 (fun _ _ _ _ => rfl),
 rfl, (frA7i5_mk pl s ⟨rfl,
 rfl,
 rfl,
 (by first | omega | rfl), trivial⟩)⟩
theorem pb_reg2_r (pl : List Pl) (s : S7) (pc : Int) (st : List Int) (k : Nat) (hk : k < pl.length) (hp : pl.length < 1000000) (hs7 : (pl.getD k default).sec = true) (hr : (pl.getD k default).reg = true) (hn : (pl.getD k default).n = 2) : Vc (vcC Try.prog false (ntOf Try.prog 32) (lpC Try.prog 32 0) (pubS pl s (.row 1 st.length (rowI st)) pc k) [.b true, .b true, .b true, .ix 2] .nrm [(1, 1), (2, 2), (3, 3), (4, 4)] (pubS pl { s with r2 := 0 } (.row 1 st.length (rowI st)) pc (k + 1))) :=
  vc_of (q := (decide ((↑k : Int) < (↑(List.length pl) : Int)) = true) ∧ ((0 : Int) ≤ (↑k : Int) ∧ (↑k : Int) < (↑(List.length pl) : Int)) ∧ (k + (0 : Nat) < List.length pl) ∧ cA7i1 pl k ∧ cA7i0 pl k ∧ ((↑(Pl.n (List.getD pl (k + (0 : Nat)) Inhabited.default)) : Int) = (↑(2 : Nat) : Int)) ∧ (inK IntKind.i64 ((↑k : Int) + (1 : Int))) ∧ (S7.r0 s = S7.r0 s) ∧ (S7.r1 s = S7.r1 s) ∧ ((0 : Int) = (0 : Int)) ∧ (S7.r3 s = S7.r3 s) ∧ ((0 : Nat) = (0 : Nat)) ∧ (List.length (S7.m s) = List.length (S7.m s)) ∧ (List.length st = List.length st) ∧ (∀ (i : Nat), i < List.length st → ∀ (j : Nat), j < (1 : Nat) → AV.int IntKind.i64 (List.getD st i (0 : Int)) = AV.int IntKind.i64 (List.getD st i (0 : Int))) ∧ (pc = pc) ∧ (frA7i5 pl s (((↑(List.length pl) : Int) = (↑(List.length pl) : Int)) ∧ ((0 : Nat) = (0 : Nat)) ∧ (List.length pl = List.length pl) ∧ ((↑k : Int) + (1 : Int) = (↑(k + (1 : Nat)) : Int)) ∧ True))) (by kernel_rfl)
    ⟨(decide_eq_true (by first | omega | (simp; omega) | (simp; done))),
 (by first | omega | rfl),
 (by first | omega | rfl),
 hs7,
 hr,
 (congrArg Int.ofNat hn),
 (in64 (by omega) (by omega)),
 rfl,
 rfl,
 rfl,
 rfl,
 rfl,
 rfl,
 rfl,
 (fun _ _ _ _ => rfl),
 rfl, (frA7i5_mk pl s ⟨rfl,
 rfl,
 rfl,
 (by first | omega | rfl), trivial⟩)⟩
theorem pb_reg3_r (pl : List Pl) (s : S7) (pc : Int) (st : List Int) (k : Nat) (hk : k < pl.length) (hp : pl.length < 1000000) (hs7 : (pl.getD k default).sec = true) (hr : (pl.getD k default).reg = true) (hn : (pl.getD k default).n = 3) : Vc (vcC Try.prog false (ntOf Try.prog 32) (lpC Try.prog 32 0) (pubS pl s (.row 1 st.length (rowI st)) pc k) [.b true, .b true, .b true, .ix 3] .nrm [(1, 1), (2, 2), (3, 3), (4, 4)] (pubS pl { s with r3 := 0 } (.row 1 st.length (rowI st)) pc (k + 1))) :=
  vc_of (q := (decide ((↑k : Int) < (↑(List.length pl) : Int)) = true) ∧ ((0 : Int) ≤ (↑k : Int) ∧ (↑k : Int) < (↑(List.length pl) : Int)) ∧ (k + (0 : Nat) < List.length pl) ∧ cA7i1 pl k ∧ cA7i0 pl k ∧ ((↑(Pl.n (List.getD pl (k + (0 : Nat)) Inhabited.default)) : Int) = (↑(3 : Nat) : Int)) ∧ (inK IntKind.i64 ((↑k : Int) + (1 : Int))) ∧ (S7.r0 s = S7.r0 s) ∧ (S7.r1 s = S7.r1 s) ∧ (S7.r2 s = S7.r2 s) ∧ ((0 : Int) = (0 : Int)) ∧ ((0 : Nat) = (0 : Nat)) ∧ (List.length (S7.m s) = List.length (S7.m s)) ∧ (List.length st = List.length st) ∧ (∀ (i : Nat), i < List.length st → ∀ (j : Nat), j < (1 : Nat) → AV.int IntKind.i64 (List.getD st i (0 : Int)) = AV.int IntKind.i64 (List.getD st i (0 : Int))) ∧ (pc = pc) ∧ (frA7i5 pl s (((↑(List.length pl) : Int) = (↑(List.length pl) : Int)) ∧ ((0 : Nat) = (0 : Nat)) ∧ (List.length pl = List.length pl) ∧ ((↑k : Int) + (1 : Int) = (↑(k + (1 : Nat)) : Int)) ∧ True))) (by kernel_rfl)
    ⟨(decide_eq_true (by first | omega | (simp; omega) | (simp; done))),
 (by first | omega | rfl),
 (by first | omega | rfl),
 hs7,
 hr,
 (congrArg Int.ofNat hn),
 (in64 (by omega) (by omega)),
 rfl,
 rfl,
 rfl,
 rfl,
 rfl,
 rfl,
 rfl,
 (fun _ _ _ _ => rfl),
 rfl, (frA7i5_mk pl s ⟨rfl,
 rfl,
 rfl,
 (by first | omega | rfl), trivial⟩)⟩
theorem pb_mem_r (pl : List Pl) (s : S7) (pc : Int) (st : List Int) (k : Nat) (hk : k < pl.length) (hp : pl.length < 1000000) (hs7 : (pl.getD k default).sec = true) (hr : (pl.getD k default).reg = false) (hn : (pl.getD k default).n < s.m.length) : Vc (vcC Try.prog false (ntOf Try.prog 32) (lpC Try.prog 32 0) (pubS pl s (.row 1 st.length (rowI st)) pc k) [.b true, .b true, .b false] .nrm [(1, 1), (2, 2), (3, 3), (4, 4)] (pubS pl { s with m := s.m.set (pl.getD k default).n 0 } (.row 1 st.length (rowI st)) pc (k + 1))) :=
  vc_of (q := (decide ((↑k : Int) < (↑(List.length pl) : Int)) = true) ∧ ((0 : Int) ≤ (↑k : Int) ∧ (↑k : Int) < (↑(List.length pl) : Int)) ∧ (k + (0 : Nat) < List.length pl) ∧ cA7i1 pl k ∧ (Pl.reg (List.getD pl (k + (0 : Nat)) Inhabited.default) = false) ∧ ((0 : Int) ≤ (↑(Pl.n (List.getD pl (k + (0 : Nat)) Inhabited.default)) : Int) ∧ (↑(Pl.n (List.getD pl (k + (0 : Nat)) Inhabited.default)) : Int) < (↑(List.length (S7.m s)) : Int)) ∧ (Pl.n (List.getD pl (k + (0 : Nat)) Inhabited.default) + (0 : Nat) < List.length (S7.m s)) ∧ (inK IntKind.i64 ((↑k : Int) + (1 : Int))) ∧ (frA7i3 s ((List.length (S7.m s) = List.length (List.set (S7.m s) (Pl.n (List.getD pl k Inhabited.default)) (0 : Int))) ∧ (List.length st = List.length st) ∧ (∀ (i : Nat), i < List.length st → ∀ (j : Nat), j < (1 : Nat) → AV.int IntKind.i64 (List.getD st i (0 : Int)) = AV.int IntKind.i64 (List.getD st i (0 : Int))) ∧ (pc = pc) ∧ ((0 : Int) = (0 : Int)) ∧ ((0 : Int) = (0 : Int)) ∧ ((0 : Int) = (0 : Int)) ∧ ((0 : Int) = (0 : Int)) ∧ ((0 : Int) = (0 : Int)) ∧ (List.length (S7.m s) = List.length (List.set (S7.m s) (Pl.n (List.getD pl k Inhabited.default)) (0 : Int))) ∧ (∀ (i : Nat), i < List.length (S7.m s) → ∀ (j : Nat), j < (1 : Nat) → (bif Nat.beq i (Pl.n (List.getD pl (k + (0 : Nat)) Inhabited.default) + (0 : Nat)) && Nat.ble (0 : Nat) j && Nat.blt j (1 : Nat) then List.getD [AV.int IntKind.i64 (0 : Int)] (j - (0 : Nat)) AV.junk else AV.int IntKind.i64 (List.getD (S7.m s) i (0 : Int))) = AV.int IntKind.i64 (List.getD (List.set (S7.m s) (Pl.n (List.getD pl k Inhabited.default)) (0 : Int)) i (0 : Int))) ∧ (frA7i2 pl (((↑k : Int) + (1 : Int) = (↑(k + (1 : Nat)) : Int)) ∧ True))))) (by kernel_rfl)
    ⟨(decide_eq_true (by first | omega | (simp; omega) | (simp; done))),
 (by first | omega | rfl),
 (by first | omega | rfl),
 hs7,
 hr,
 ⟨Int.natCast_nonneg _, Int.ofNat_lt.2 hn⟩,
 hn,
 (in64 (by omega) (by omega)), (frA7i3_mk s ⟨List.length_set.symm,
 rfl,
 (fun _ _ _ _ => rfl),
 rfl,
 rfl,
 rfl,
 rfl,
 rfl,
 rfl,
 List.length_set.symm,
 set_row, (frA7i2_mk pl ⟨(by first | omega | rfl), trivial⟩)⟩)⟩
theorem pb_end_r (pl : List Pl) (s : S7) (pc : Int) (st : List Int) : Vc (vcC Try.prog false (ntOf Try.prog 32) (lpC Try.prog 32 0) (pubS pl s (.row 1 st.length (rowI st)) pc pl.length) [.b false] (.ext 0) [(1, 1), (2, 2), (3, 3), (4, 4)] (pubS pl s (.row 1 st.length (rowI st)) pc pl.length)) :=
  vc_of (q := (decide ((↑(List.length pl) : Int) < (↑(List.length pl) : Int)) = false) ∧ (frA7i6 s pc st ((frA7i5 pl s (((↑(List.length pl) : Int) = (↑(List.length pl) : Int)) ∧ ((0 : Nat) = (0 : Nat)) ∧ (List.length pl = List.length pl) ∧ ((↑(List.length pl) : Int) = (↑(List.length pl) : Int)) ∧ True))))) (by kernel_rfl)
    ⟨(decide_eq_false (by first | omega | (simp; omega) | (simp; done))), (frA7i6_mk s pc st (frA7i5_mk pl s ⟨rfl,
 rfl,
 rfl,
 rfl, trivial⟩))⟩
theorem pub_loop_r (pl : List Pl) (s : S7) (pc : Int) (st : List Int) (hp : pl.length < 1000000) (ho : ∀ p ∈ pl, plOk s.m.length p) : Ok Try.prog (ntOf Try.prog 32) (.loop (lpC Try.prog 32 0)) (pubS pl s (.row 1 st.length (rowI st)) pc 0).st (.ext 0) (pubS pl (pubK pl s pl.length) (.row 1 st.length (rowI st)) pc pl.length).st :=
  Ok.loop (P := Try.prog) (nt := ntOf Try.prog 32) (c := lpC Try.prog 32 0) (F := fun k => pubS pl (pubK pl s k) (.row 1 st.length (rowI st)) pc k) (m := pl.length) (x := .ext 0) (J := pubS pl (pubK pl s pl.length) (.row 1 st.length (rowI st)) pc pl.length) (fun k hk => by
    have hm := pubK_len pl s k
    obtain ⟨h1, h2⟩ := ho _ (getD_mem hk)
    show Ok _ _ _ _ _ (pubS pl (if (pl.getD k default).sec = true then put7 (pubK pl s k) (pl.getD k default) 0 else pubK pl s k) (.row 1 st.length (rowI st)) pc (k + 1)).st
    cases hs7 : (pl.getD k default).sec with
    | false =>
      rw [if_neg (by simp)]
      exact Ok.vc (pb_no_r pl _ pc st k hk hp hs7)
    | true =>
      rw [if_pos rfl]
      cases hr : (pl.getD k default).reg with
      | true =>
        have hn := h1 hr
        unfold put7
        rw [if_pos hr]
        match hq : (pl.getD k default).n, hn with
        | 0, _ => exact Ok.vc (pb_reg0_r pl _ pc st k hk hp hs7 hr hq)
        | 1, _ => exact Ok.vc (pb_reg1_r pl _ pc st k hk hp hs7 hr hq)
        | 2, _ => exact Ok.vc (pb_reg2_r pl _ pc st k hk hp hs7 hr hq)
        | 3, _ => exact Ok.vc (pb_reg3_r pl _ pc st k hk hp hs7 hr hq)
      | false =>
        have hn := h2 hr
        unfold put7
        rw [if_neg (by rw [hr]; simp)]
        exact Ok.vc (pb_mem_r pl _ pc st k hk hp hs7 hr (by rw [hm]; exact hn))) (Ok.vc (pb_end_r pl _ pc st)) (by simp)
theorem pub_r (W r0 r1 r2 r3 : Int) (ms : List Mm) (a0 a1 a2 a3 pc : Int) (m : List Int) (st : List Int) (h64 : ms.length < 4611686018427387904) (hs : sumN ms ≤ 16) (hm : m.length = sumN ms) : Vc (vcFn Try.prog false 32 [.agg (progL W r0 r1 r2 r3 (memR ms)), .agg (stA a0 a1 a2 a3 m (.row 1 st.length (rowI st)) pc)] [.cl [.row 1 m.length (rowI m)] (.own 0 0 1 0 m.length) [blkI m], .cl [.agg (progL W r0 r1 r2 r3 (memR ms))] (.own 0 0 3 0 (places (rg r0 r1 r2 r3) ms).length) [plB (places (rg r0 r1 r2 r3) ms)], .lp [(1, 1), (2, 2), (3, 3), (4, 4)] (pubS (places (rg r0 r1 r2 r3) ms) (s7 a0 a1 a2 a3 m) (.row 1 st.length (rowI st)) pc 0) (.ext 0) (pubS (places (rg r0 r1 r2 r3) ms) (pubK (places (rg r0 r1 r2 r3) ms) (s7 a0 a1 a2 a3 m) (places (rg r0 r1 r2 r3) ms).length) (.row 1 st.length (rowI st)) pc (places (rg r0 r1 r2 r3) ms).length)] [(0, 3)] (.agg (stD (pubK (places (rg r0 r1 r2 r3) ms) (s7 a0 a1 a2 a3 m) (places (rg r0 r1 r2 r3) ms).length) (.own 0 0 1 0 (pubK (places (rg r0 r1 r2 r3) ms) (s7 a0 a1 a2 a3 m) (places (rg r0 r1 r2 r3) ms).length).m.length) (.row 1 st.length (rowI st)) pc)) [blkI (pubK (places (rg r0 r1 r2 r3) ms) (s7 a0 a1 a2 a3 m) (places (rg r0 r1 r2 r3) ms).length).m]) :=
  vc_of (q := (List.length m = List.length m) ∧ (∀ (i : Nat), i < List.length m → ∀ (j : Nat), j < (1 : Nat) → AV.int IntKind.i64 (List.getD m i (0 : Int)) = AV.int IntKind.i64 (List.getD m i (0 : Int))) ∧ (PureC Try.prog 37 [.row 1 m.length (rowI m)] (.own 0 0 1 0 m.length) [blkI m]) ∧ (frA7i4 W r0 r1 r2 r3 ms ((PureC Try.prog 33 [.agg (progL W r0 r1 r2 r3 (memR ms))] (.own 0 0 3 0 (places (rg r0 r1 r2 r3) ms).length) [plB (places (rg r0 r1 r2 r3) ms)]) ∧ (a0 = a0) ∧ (a1 = a1) ∧ (a2 = a2) ∧ (a3 = a3) ∧ ((0 : Nat) = (0 : Nat)) ∧ (List.length m = List.length m) ∧ (List.length st = List.length st) ∧ (∀ (i : Nat), i < List.length st → ∀ (j : Nat), j < (1 : Nat) → AV.int IntKind.i64 (List.getD st i (0 : Int)) = AV.int IntKind.i64 (List.getD st i (0 : Int))) ∧ (pc = pc) ∧ ((0 : Int) = (0 : Int)) ∧ ((0 : Int) = (0 : Int)) ∧ ((0 : Int) = (0 : Int)) ∧ ((0 : Int) = (0 : Int)) ∧ ((0 : Int) = (0 : Int)) ∧ (List.length m = List.length m) ∧ (∀ (i : Nat), i < List.length m → ∀ (j : Nat), j < (1 : Nat) → AV.int IntKind.i64 (List.getD m i (0 : Int)) = AV.int IntKind.i64 (List.getD m i (0 : Int))) ∧ (List.length (places (rg r0 r1 r2 r3) ms) = List.length (places (rg r0 r1 r2 r3) ms)) ∧ (∀ (i : Nat), i < List.length (places (rg r0 r1 r2 r3) ms) → ∀ (j : Nat), j < (3 : Nat) → rowL plC (places (rg r0 r1 r2 r3) ms) i j = rowL plC (places (rg r0 r1 r2 r3) ms) i j) ∧ ((↑(List.length (places (rg r0 r1 r2 r3) ms)) : Int) = (↑(List.length (places (rg r0 r1 r2 r3) ms)) : Int)) ∧ ((0 : Nat) = (0 : Nat)) ∧ (List.length (places (rg r0 r1 r2 r3) ms) = List.length (places (rg r0 r1 r2 r3) ms)) ∧ ((0 : Int) = (↑(0 : Nat) : Int)) ∧ (Ok Try.prog (ntOf Try.prog 32) (.loop (lpC Try.prog 32 0)) (pubS (places (rg r0 r1 r2 r3) ms) (s7 a0 a1 a2 a3 m) (.row 1 st.length (rowI st)) pc 0).st (.ext 0) (pubS (places (rg r0 r1 r2 r3) ms) (pubK (places (rg r0 r1 r2 r3) ms) (s7 a0 a1 a2 a3 m) (places (rg r0 r1 r2 r3) ms).length) (.row 1 st.length (rowI st)) pc (places (rg r0 r1 r2 r3) ms).length).st) ∧ (List.length (S7.m (pubK (places (rg r0 r1 r2 r3) ms) (s7 a0 a1 a2 a3 m) (List.length (places (rg r0 r1 r2 r3) ms)))) = List.length (S7.m (pubK (places (rg r0 r1 r2 r3) ms) (s7 a0 a1 a2 a3 m) (List.length (places (rg r0 r1 r2 r3) ms))))) ∧ (∀ (i : Nat), i < List.length (S7.m (pubK (places (rg r0 r1 r2 r3) ms) (s7 a0 a1 a2 a3 m) (List.length (places (rg r0 r1 r2 r3) ms)))) → ∀ (j : Nat), j < (1 : Nat) → AV.int IntKind.i64 (List.getD (S7.m (pubK (places (rg r0 r1 r2 r3) ms) (s7 a0 a1 a2 a3 m) (List.length (places (rg r0 r1 r2 r3) ms)))) i (0 : Int)) = AV.int IntKind.i64 (List.getD (S7.m (pubK (places (rg r0 r1 r2 r3) ms) (s7 a0 a1 a2 a3 m) (List.length (places (rg r0 r1 r2 r3) ms)))) i (0 : Int))) ∧ (S7.r0 (pubK (places (rg r0 r1 r2 r3) ms) (s7 a0 a1 a2 a3 m) (List.length (places (rg r0 r1 r2 r3) ms))) = S7.r0 (pubK (places (rg r0 r1 r2 r3) ms) (s7 a0 a1 a2 a3 m) (List.length (places (rg r0 r1 r2 r3) ms)))) ∧ (S7.r1 (pubK (places (rg r0 r1 r2 r3) ms) (s7 a0 a1 a2 a3 m) (List.length (places (rg r0 r1 r2 r3) ms))) = S7.r1 (pubK (places (rg r0 r1 r2 r3) ms) (s7 a0 a1 a2 a3 m) (List.length (places (rg r0 r1 r2 r3) ms)))) ∧ (S7.r2 (pubK (places (rg r0 r1 r2 r3) ms) (s7 a0 a1 a2 a3 m) (List.length (places (rg r0 r1 r2 r3) ms))) = S7.r2 (pubK (places (rg r0 r1 r2 r3) ms) (s7 a0 a1 a2 a3 m) (List.length (places (rg r0 r1 r2 r3) ms)))) ∧ (S7.r3 (pubK (places (rg r0 r1 r2 r3) ms) (s7 a0 a1 a2 a3 m) (List.length (places (rg r0 r1 r2 r3) ms))) = S7.r3 (pubK (places (rg r0 r1 r2 r3) ms) (s7 a0 a1 a2 a3 m) (List.length (places (rg r0 r1 r2 r3) ms)))) ∧ ((0 : Nat) = (0 : Nat)) ∧ (List.length (S7.m (pubK (places (rg r0 r1 r2 r3) ms) (s7 a0 a1 a2 a3 m) (List.length (places (rg r0 r1 r2 r3) ms)))) = List.length (S7.m (pubK (places (rg r0 r1 r2 r3) ms) (s7 a0 a1 a2 a3 m) (List.length (places (rg r0 r1 r2 r3) ms))))) ∧ (List.length st = List.length st) ∧ (∀ (i : Nat), i < List.length st → ∀ (j : Nat), j < (1 : Nat) → AV.int IntKind.i64 (List.getD st i (0 : Int)) = AV.int IntKind.i64 (List.getD st i (0 : Int))) ∧ (pc = pc) ∧ True))) (by kernel_rfl)
    ⟨rfl,
 (fun _ _ _ _ => rfl),
 cloneC (.row m) (by omega), (frA7i4_mk W r0 r1 r2 r3 ms ⟨archPlaces W r0 r1 r2 r3 ms h64 hs,
 rfl,
 rfl,
 rfl,
 rfl,
 rfl,
 rfl,
 rfl,
 (fun _ _ _ _ => rfl),
 rfl,
 rfl,
 rfl,
 rfl,
 rfl,
 rfl,
 rfl,
 (fun _ _ _ _ => rfl),
 rfl,
 (fun _ _ _ _ => rfl),
 rfl,
 rfl,
 rfl,
 (by first | omega | rfl),
 pub_loop_r (places (rg r0 r1 r2 r3) ms) (s7 a0 a1 a2 a3 m) pc st (by have := places_length (rg r0 r1 r2 r3) ms; omega) (by have := places_ok (rg r0 r1 r2 r3) ms; simpa [s7, hm] using this),
 rfl,
 (fun _ _ _ _ => rfl),
 rfl,
 rfl,
 rfl,
 rfl,
 rfl,
 rfl,
 rfl,
 (fun _ _ _ _ => rfl),
 rfl, trivial⟩)⟩
theorem publicC_r (W r0 r1 r2 r3 : Int) (ms : List Mm) (a0 a1 a2 a3 pc : Int) (m : List Int) (st : List Int) (h64 : ms.length < 4611686018427387904) (hs : sumN ms ≤ 16) (hm : m.length = sumN ms) : PureC Try.prog 32 [.agg (progL W r0 r1 r2 r3 (memR ms)), .agg (stA a0 a1 a2 a3 m (.row 1 st.length (rowI st)) pc)] (.agg (stD (pubK (places (rg r0 r1 r2 r3) ms) (s7 a0 a1 a2 a3 m) (places (rg r0 r1 r2 r3) ms).length) (.own 0 0 1 0 (pubK (places (rg r0 r1 r2 r3) ms) (s7 a0 a1 a2 a3 m) (places (rg r0 r1 r2 r3) ms).length).m.length) (.row 1 st.length (rowI st)) pc)) [blkI (pubK (places (rg r0 r1 r2 r3) ms) (s7 a0 a1 a2 a3 m) (places (rg r0 r1 r2 r3) ms).length).m] := PureC.vc (pub_r W r0 r1 r2 r3 ms a0 a1 a2 a3 pc m st h64 hs hm)
def pubOf (r0 r1 r2 r3 : Int) (ms : List Mm) (a0 a1 a2 a3 : Int) (m : List Int) : S7 := pubK (places (rg r0 r1 r2 r3) ms) (s7 a0 a1 a2 a3 m) (places (rg r0 r1 r2 r3) ms).length
def lowB (r0 r1 r2 r3 : Int) (ms : List Mm) (a0 a1 a2 a3 : Int) (m st : List Int) (pa b0 b1 b2 b3 : Int) (m' st' : List Int) (pb : Int) : Bool :=
  sameB (pubOf r0 r1 r2 r3 ms a0 a1 a2 a3 m).r0 (pubOf r0 r1 r2 r3 ms a0 a1 a2 a3 m).r1 (pubOf r0 r1 r2 r3 ms a0 a1 a2 a3 m).r2 (pubOf r0 r1 r2 r3 ms a0 a1 a2 a3 m).r3 (pubOf r0 r1 r2 r3 ms a0 a1 a2 a3 m).m st pa
    (pubOf r0 r1 r2 r3 ms b0 b1 b2 b3 m').r0 (pubOf r0 r1 r2 r3 ms b0 b1 b2 b3 m').r1 (pubOf r0 r1 r2 r3 ms b0 b1 b2 b3 m').r2 (pubOf r0 r1 r2 r3 ms b0 b1 b2 b3 m').r3 (pubOf r0 r1 r2 r3 ms b0 b1 b2 b3 m').m st' pb
theorem pubOf_len (r0 r1 r2 r3 : Int) (ms : List Mm) (a0 a1 a2 a3 : Int) (m : List Int) : (pubOf r0 r1 r2 r3 ms a0 a1 a2 a3 m).m.length = m.length := pubK_len _ _ _
def frA7i7 (r0 : Int) (r1 : Int) (r2 : Int) (r3 : Int) (ms : List Mm) (a0 : Int) (a1 : Int) (a2 : Int) (a3 : Int) (pa : Int) (b0 : Int) (b1 : Int) (b2 : Int) (b3 : Int) (m : List Int) (m' : List Int) (Z : Prop) : Prop := (S7.r0 (pubOf r0 r1 r2 r3 ms a0 a1 a2 a3 m) = S7.r0 (pubOf r0 r1 r2 r3 ms a0 a1 a2 a3 m)) ∧ (S7.r1 (pubOf r0 r1 r2 r3 ms a0 a1 a2 a3 m) = S7.r1 (pubOf r0 r1 r2 r3 ms a0 a1 a2 a3 m)) ∧ (S7.r2 (pubOf r0 r1 r2 r3 ms a0 a1 a2 a3 m) = S7.r2 (pubOf r0 r1 r2 r3 ms a0 a1 a2 a3 m)) ∧ (S7.r3 (pubOf r0 r1 r2 r3 ms a0 a1 a2 a3 m) = S7.r3 (pubOf r0 r1 r2 r3 ms a0 a1 a2 a3 m)) ∧ (List.length (S7.m (pubOf r0 r1 r2 r3 ms a0 a1 a2 a3 m)) = List.length (S7.m (pubOf r0 r1 r2 r3 ms a0 a1 a2 a3 m))) ∧ (∀ (i : Nat), i < List.length (S7.m (pubOf r0 r1 r2 r3 ms a0 a1 a2 a3 m)) → ∀ (j : Nat), j < (1 : Nat) → AV.int IntKind.i64 (List.getD (S7.m (pubOf r0 r1 r2 r3 ms a0 a1 a2 a3 m)) (i + (0 : Nat)) (0 : Int)) = AV.int IntKind.i64 (List.getD (S7.m (pubOf r0 r1 r2 r3 ms a0 a1 a2 a3 m)) i (0 : Int))) ∧ (pa = pa) ∧ (S7.r0 (pubOf r0 r1 r2 r3 ms b0 b1 b2 b3 m') = S7.r0 (pubOf r0 r1 r2 r3 ms b0 b1 b2 b3 m')) ∧ (S7.r1 (pubOf r0 r1 r2 r3 ms b0 b1 b2 b3 m') = S7.r1 (pubOf r0 r1 r2 r3 ms b0 b1 b2 b3 m')) ∧ Z
theorem frA7i7_mk (r0 : Int) (r1 : Int) (r2 : Int) (r3 : Int) (ms : List Mm) (a0 : Int) (a1 : Int) (a2 : Int) (a3 : Int) (pa : Int) (b0 : Int) (b1 : Int) (b2 : Int) (b3 : Int) (m : List Int) (m' : List Int) {Z : Prop} (z : Z) : frA7i7 r0 r1 r2 r3 ms a0 a1 a2 a3 pa b0 b1 b2 b3 m m' Z := ⟨rfl, rfl, rfl, rfl, rfl, (fun _ _ _ _ => rfl), rfl, rfl, rfl, z⟩
def frA7i8 (b2 : Int) (b3 : Int) (pb : Int) (m' : List Int) (Z : Prop) : Prop := (b2 = b2) ∧ (b3 = b3) ∧ (List.length m' = List.length m') ∧ (∀ (i : Nat), i < List.length m' → ∀ (j : Nat), j < (1 : Nat) → AV.int IntKind.i64 (List.getD m' i (0 : Int)) = AV.int IntKind.i64 (List.getD m' i (0 : Int))) ∧ (pb = pb) ∧ Z
theorem frA7i8_mk (b2 : Int) (b3 : Int) (pb : Int) (m' : List Int) {Z : Prop} (z : Z) : frA7i8 b2 b3 pb m' Z := ⟨rfl, rfl, rfl, (fun _ _ _ _ => rfl), rfl, z⟩
def frA7i9 (W : Int) (r0 : Int) (r1 : Int) (r2 : Int) (r3 : Int) (ms : List Mm) (b0 : Int) (b1 : Int) (Z : Prop) : Prop := (W = W) ∧ (r0 = r0) ∧ (r1 = r1) ∧ (r2 = r2) ∧ (r3 = r3) ∧ (List.length ms = List.length ms) ∧ (∀ (i : Nat), i < List.length ms → ∀ (j : Nat), j < (3 : Nat) → rowL mmC ms i j = rowL mmC ms i j) ∧ (b0 = b0) ∧ (b1 = b1) ∧ Z
theorem frA7i9_mk (W : Int) (r0 : Int) (r1 : Int) (r2 : Int) (r3 : Int) (ms : List Mm) (b0 : Int) (b1 : Int) {Z : Prop} (z : Z) : frA7i9 W r0 r1 r2 r3 ms b0 b1 Z := ⟨rfl, rfl, rfl, rfl, rfl, rfl, (fun _ _ _ _ => rfl), rfl, rfl, z⟩
def frA7i10 (a2 : Int) (a3 : Int) (pa : Int) (m : List Int) (Z : Prop) : Prop := (a2 = a2) ∧ (a3 = a3) ∧ (List.length m = List.length m) ∧ (∀ (i : Nat), i < List.length m → ∀ (j : Nat), j < (1 : Nat) → AV.int IntKind.i64 (List.getD m i (0 : Int)) = AV.int IntKind.i64 (List.getD m i (0 : Int))) ∧ (pa = pa) ∧ Z
theorem frA7i10_mk (a2 : Int) (a3 : Int) (pa : Int) (m : List Int) {Z : Prop} (z : Z) : frA7i10 a2 a3 pa m Z := ⟨rfl, rfl, rfl, (fun _ _ _ _ => rfl), rfl, z⟩
def frA7i11 (W : Int) (r0 : Int) (r1 : Int) (r2 : Int) (r3 : Int) (ms : List Mm) (a0 : Int) (a1 : Int) (Z : Prop) : Prop := (W = W) ∧ (r0 = r0) ∧ (r1 = r1) ∧ (r2 = r2) ∧ (r3 = r3) ∧ (List.length ms = List.length ms) ∧ (∀ (i : Nat), i < List.length ms → ∀ (j : Nat), j < (3 : Nat) → rowL mmC ms i j = rowL mmC ms i j) ∧ (a0 = a0) ∧ (a1 = a1) ∧ Z
theorem frA7i11_mk (W : Int) (r0 : Int) (r1 : Int) (r2 : Int) (r3 : Int) (ms : List Mm) (a0 : Int) (a1 : Int) {Z : Prop} (z : Z) : frA7i11 W r0 r1 r2 r3 ms a0 a1 Z := ⟨rfl, rfl, rfl, rfl, rfl, rfl, (fun _ _ _ _ => rfl), rfl, rfl, z⟩
theorem low_nn (W r0 r1 r2 r3 : Int) (ms : List Mm) (a0 a1 a2 a3 pa b0 b1 b2 b3 pb : Int) (m m' : List Int) (h64 : ms.length < 4611686018427387904) (hs : sumN ms ≤ 16) (hm : m.length = sumN ms) (hm' : m'.length = sumN ms) : Vc (vcFn Try.prog false 12 [.agg (progL W r0 r1 r2 r3 (memR ms)), .agg (stA a0 a1 a2 a3 m .nils pa), .agg (stA b0 b1 b2 b3 m' .nils pb)] [.cl [.agg (progL W r0 r1 r2 r3 (memR ms))] (.int .i64 (sumN ms)) [], .b false, .b false, .b false, .b false, .b false, .b false, .b false, .cl [.agg (progL W r0 r1 r2 r3 (memR ms)), .agg (stA a0 a1 a2 a3 m .nils pa)] (.agg (stD (pubOf r0 r1 r2 r3 ms a0 a1 a2 a3 m) (.own 0 0 1 0 (pubOf r0 r1 r2 r3 ms a0 a1 a2 a3 m).m.length) .nils pa)) [blkI (pubOf r0 r1 r2 r3 ms a0 a1 a2 a3 m).m], .cl [.agg (progL W r0 r1 r2 r3 (memR ms)), .agg (stA b0 b1 b2 b3 m' .nils pb)] (.agg (stD (pubOf r0 r1 r2 r3 ms b0 b1 b2 b3 m') (.own 0 0 1 0 (pubOf r0 r1 r2 r3 ms b0 b1 b2 b3 m').m.length) .nils pb)) [blkI (pubOf r0 r1 r2 r3 ms b0 b1 b2 b3 m').m], .cl [.agg (stA (pubOf r0 r1 r2 r3 ms a0 a1 a2 a3 m).r0 (pubOf r0 r1 r2 r3 ms a0 a1 a2 a3 m).r1 (pubOf r0 r1 r2 r3 ms a0 a1 a2 a3 m).r2 (pubOf r0 r1 r2 r3 ms a0 a1 a2 a3 m).r3 (pubOf r0 r1 r2 r3 ms a0 a1 a2 a3 m).m .nils pa), .agg (stA (pubOf r0 r1 r2 r3 ms b0 b1 b2 b3 m').r0 (pubOf r0 r1 r2 r3 ms b0 b1 b2 b3 m').r1 (pubOf r0 r1 r2 r3 ms b0 b1 b2 b3 m').r2 (pubOf r0 r1 r2 r3 ms b0 b1 b2 b3 m').r3 (pubOf r0 r1 r2 r3 ms b0 b1 b2 b3 m').m .nils pb)] (.bool (lowB r0 r1 r2 r3 ms a0 a1 a2 a3 m [] pa b0 b1 b2 b3 m' [] pb)) []] [] (.bool (lowB r0 r1 r2 r3 ms a0 a1 a2 a3 m [] pa b0 b1 b2 b3 m' [] pb)) []) :=
  vc_of (q := (frA7i4 W r0 r1 r2 r3 ms ((PureC Try.prog 30 [.agg (progL W r0 r1 r2 r3 (memR ms))] (.int .i64 (sumN ms)) []) ∧ (((↑(List.length m) : Int) != (↑(sumN ms) : Int)) = false) ∧ (((↑(List.length m) : Int) != (↑(sumN ms) : Int)) = false) ∧ (((↑(List.length m) : Int) != (↑(sumN ms) : Int)) = false) ∧ (((↑(List.length m) : Int) != (↑(sumN ms) : Int)) = false) ∧ (((↑(List.length m) : Int) != (↑(sumN ms) : Int)) = false) ∧ (((↑(List.length m) : Int) != (↑(sumN ms) : Int)) = false) ∧ (((↑(List.length m') : Int) != (↑(sumN ms) : Int)) = false) ∧ (frA7i11 W r0 r1 r2 r3 ms a0 a1 ((frA7i10 a2 a3 pa m ((PureC Try.prog 32 [.agg (progL W r0 r1 r2 r3 (memR ms)), .agg (stA a0 a1 a2 a3 m .nils pa)] (.agg (stD (pubOf r0 r1 r2 r3 ms a0 a1 a2 a3 m) (.own 0 0 1 0 (pubOf r0 r1 r2 r3 ms a0 a1 a2 a3 m).m.length) .nils pa)) [blkI (pubOf r0 r1 r2 r3 ms a0 a1 a2 a3 m).m]) ∧ (frA7i9 W r0 r1 r2 r3 ms b0 b1 ((frA7i8 b2 b3 pb m' ((PureC Try.prog 32 [.agg (progL W r0 r1 r2 r3 (memR ms)), .agg (stA b0 b1 b2 b3 m' .nils pb)] (.agg (stD (pubOf r0 r1 r2 r3 ms b0 b1 b2 b3 m') (.own 0 0 1 0 (pubOf r0 r1 r2 r3 ms b0 b1 b2 b3 m').m.length) .nils pb)) [blkI (pubOf r0 r1 r2 r3 ms b0 b1 b2 b3 m').m]) ∧ (frA7i7 r0 r1 r2 r3 ms a0 a1 a2 a3 pa b0 b1 b2 b3 m m' ((S7.r2 (pubOf r0 r1 r2 r3 ms b0 b1 b2 b3 m') = S7.r2 (pubOf r0 r1 r2 r3 ms b0 b1 b2 b3 m')) ∧ (S7.r3 (pubOf r0 r1 r2 r3 ms b0 b1 b2 b3 m') = S7.r3 (pubOf r0 r1 r2 r3 ms b0 b1 b2 b3 m')) ∧ (List.length (S7.m (pubOf r0 r1 r2 r3 ms b0 b1 b2 b3 m')) = List.length (S7.m (pubOf r0 r1 r2 r3 ms b0 b1 b2 b3 m'))) ∧ (∀ (i : Nat), i < List.length (S7.m (pubOf r0 r1 r2 r3 ms b0 b1 b2 b3 m')) → ∀ (j : Nat), j < (1 : Nat) → AV.int IntKind.i64 (List.getD (S7.m (pubOf r0 r1 r2 r3 ms b0 b1 b2 b3 m')) (i + (0 : Nat)) (0 : Int)) = AV.int IntKind.i64 (List.getD (S7.m (pubOf r0 r1 r2 r3 ms b0 b1 b2 b3 m')) i (0 : Int))) ∧ (pb = pb) ∧ (PureC Try.prog 31 [.agg (stA (pubOf r0 r1 r2 r3 ms a0 a1 a2 a3 m).r0 (pubOf r0 r1 r2 r3 ms a0 a1 a2 a3 m).r1 (pubOf r0 r1 r2 r3 ms a0 a1 a2 a3 m).r2 (pubOf r0 r1 r2 r3 ms a0 a1 a2 a3 m).r3 (pubOf r0 r1 r2 r3 ms a0 a1 a2 a3 m).m .nils pa), .agg (stA (pubOf r0 r1 r2 r3 ms b0 b1 b2 b3 m').r0 (pubOf r0 r1 r2 r3 ms b0 b1 b2 b3 m').r1 (pubOf r0 r1 r2 r3 ms b0 b1 b2 b3 m').r2 (pubOf r0 r1 r2 r3 ms b0 b1 b2 b3 m').r3 (pubOf r0 r1 r2 r3 ms b0 b1 b2 b3 m').m .nils pb)] (.bool (lowB r0 r1 r2 r3 ms a0 a1 a2 a3 m [] pa b0 b1 b2 b3 m' [] pb)) []) ∧ (lowB r0 r1 r2 r3 ms a0 a1 a2 a3 m [] pa b0 b1 b2 b3 m' [] pb = lowB r0 r1 r2 r3 ms a0 a1 a2 a3 m [] pa b0 b1 b2 b3 m' [] pb) ∧ True))))))))))))) (by kernel_rfl)
    (frA7i4_mk W r0 r1 r2 r3 ms ⟨archCells W r0 r1 r2 r3 ms h64 hs,
 (by first | (rw [hm]; simp) | (rw [hm']; simp)),
 (by first | (rw [hm]; simp) | (rw [hm']; simp)),
 (by first | (rw [hm]; simp) | (rw [hm']; simp)),
 (by first | (rw [hm]; simp) | (rw [hm']; simp)),
 (by first | (rw [hm]; simp) | (rw [hm']; simp)),
 (by first | (rw [hm]; simp) | (rw [hm']; simp)),
 (by first | (rw [hm]; simp) | (rw [hm']; simp)), (frA7i11_mk W r0 r1 r2 r3 ms a0 a1 (frA7i10_mk a2 a3 pa m ⟨publicC_n W r0 r1 r2 r3 ms a0 a1 a2 a3 pa m h64 hs hm, (frA7i9_mk W r0 r1 r2 r3 ms b0 b1 (frA7i8_mk b2 b3 pb m' ⟨publicC_n W r0 r1 r2 r3 ms b0 b1 b2 b3 pb m' h64 hs hm', (frA7i7_mk r0 r1 r2 r3 ms a0 a1 a2 a3 pa b0 b1 b2 b3 m m' ⟨rfl,
 rfl,
 rfl,
 (fun _ _ _ _ => rfl),
 rfl,
 same_nn _ _ _ _ pa _ _ _ _ pb _ _ (by rw [pubOf_len]; omega) (by rw [pubOf_len]; omega),
 rfl, trivial⟩)⟩))⟩))⟩)
theorem lowC_nn (W r0 r1 r2 r3 : Int) (ms : List Mm) (a0 a1 a2 a3 pa b0 b1 b2 b3 pb : Int) (m m' : List Int) (h64 : ms.length < 4611686018427387904) (hs : sumN ms ≤ 16) (hm : m.length = sumN ms) (hm' : m'.length = sumN ms) : PureC Try.prog 12 [.agg (progL W r0 r1 r2 r3 (memR ms)), .agg (stA a0 a1 a2 a3 m .nils pa), .agg (stA b0 b1 b2 b3 m' .nils pb)] (.bool (lowB r0 r1 r2 r3 ms a0 a1 a2 a3 m [] pa b0 b1 b2 b3 m' [] pb)) [] := PureC.vc (low_nn W r0 r1 r2 r3 ms a0 a1 a2 a3 pa b0 b1 b2 b3 pb m m' h64 hs hm hm')
def frA7i12 (b2 : Int) (b3 : Int) (pb : Int) (m' : List Int) (st' : List Int) (Z : Prop) : Prop := (b2 = b2) ∧ (b3 = b3) ∧ (List.length m' = List.length m') ∧ (∀ (i : Nat), i < List.length m' → ∀ (j : Nat), j < (1 : Nat) → AV.int IntKind.i64 (List.getD m' i (0 : Int)) = AV.int IntKind.i64 (List.getD m' i (0 : Int))) ∧ (List.length st' = List.length st') ∧ (∀ (i : Nat), i < List.length st' → ∀ (j : Nat), j < (1 : Nat) → AV.int IntKind.i64 (List.getD st' i (0 : Int)) = AV.int IntKind.i64 (List.getD st' i (0 : Int))) ∧ (pb = pb) ∧ Z
theorem frA7i12_mk (b2 : Int) (b3 : Int) (pb : Int) (m' : List Int) (st' : List Int) {Z : Prop} (z : Z) : frA7i12 b2 b3 pb m' st' Z := ⟨rfl, rfl, rfl, (fun _ _ _ _ => rfl), rfl, (fun _ _ _ _ => rfl), rfl, z⟩
theorem low_nr (W r0 r1 r2 r3 : Int) (ms : List Mm) (a0 a1 a2 a3 pa b0 b1 b2 b3 pb : Int) (m m' : List Int) (st' : List Int) (h64 : ms.length < 4611686018427387904) (hs : sumN ms ≤ 16) (hm : m.length = sumN ms) (hm' : m'.length = sumN ms) (hst' : st'.length < 1000000000) : Vc (vcFn Try.prog false 12 [.agg (progL W r0 r1 r2 r3 (memR ms)), .agg (stA a0 a1 a2 a3 m .nils pa), .agg (stA b0 b1 b2 b3 m' (.row 1 st'.length (rowI st')) pb)] [.cl [.agg (progL W r0 r1 r2 r3 (memR ms))] (.int .i64 (sumN ms)) [], .b false, .b false, .b false, .b false, .b false, .b false, .b false, .cl [.agg (progL W r0 r1 r2 r3 (memR ms)), .agg (stA a0 a1 a2 a3 m .nils pa)] (.agg (stD (pubOf r0 r1 r2 r3 ms a0 a1 a2 a3 m) (.own 0 0 1 0 (pubOf r0 r1 r2 r3 ms a0 a1 a2 a3 m).m.length) .nils pa)) [blkI (pubOf r0 r1 r2 r3 ms a0 a1 a2 a3 m).m], .cl [.agg (progL W r0 r1 r2 r3 (memR ms)), .agg (stA b0 b1 b2 b3 m' (.row 1 st'.length (rowI st')) pb)] (.agg (stD (pubOf r0 r1 r2 r3 ms b0 b1 b2 b3 m') (.own 0 0 1 0 (pubOf r0 r1 r2 r3 ms b0 b1 b2 b3 m').m.length) (.row 1 st'.length (rowI st')) pb)) [blkI (pubOf r0 r1 r2 r3 ms b0 b1 b2 b3 m').m], .cl [.agg (stA (pubOf r0 r1 r2 r3 ms a0 a1 a2 a3 m).r0 (pubOf r0 r1 r2 r3 ms a0 a1 a2 a3 m).r1 (pubOf r0 r1 r2 r3 ms a0 a1 a2 a3 m).r2 (pubOf r0 r1 r2 r3 ms a0 a1 a2 a3 m).r3 (pubOf r0 r1 r2 r3 ms a0 a1 a2 a3 m).m .nils pa), .agg (stA (pubOf r0 r1 r2 r3 ms b0 b1 b2 b3 m').r0 (pubOf r0 r1 r2 r3 ms b0 b1 b2 b3 m').r1 (pubOf r0 r1 r2 r3 ms b0 b1 b2 b3 m').r2 (pubOf r0 r1 r2 r3 ms b0 b1 b2 b3 m').r3 (pubOf r0 r1 r2 r3 ms b0 b1 b2 b3 m').m (.row 1 st'.length (rowI st')) pb)] (.bool (lowB r0 r1 r2 r3 ms a0 a1 a2 a3 m [] pa b0 b1 b2 b3 m' st' pb)) []] [] (.bool (lowB r0 r1 r2 r3 ms a0 a1 a2 a3 m [] pa b0 b1 b2 b3 m' st' pb)) []) :=
  vc_of (q := (frA7i4 W r0 r1 r2 r3 ms ((PureC Try.prog 30 [.agg (progL W r0 r1 r2 r3 (memR ms))] (.int .i64 (sumN ms)) []) ∧ (((↑(List.length m) : Int) != (↑(sumN ms) : Int)) = false) ∧ (((↑(List.length m) : Int) != (↑(sumN ms) : Int)) = false) ∧ (((↑(List.length m) : Int) != (↑(sumN ms) : Int)) = false) ∧ (((↑(List.length m) : Int) != (↑(sumN ms) : Int)) = false) ∧ (((↑(List.length m) : Int) != (↑(sumN ms) : Int)) = false) ∧ (((↑(List.length m) : Int) != (↑(sumN ms) : Int)) = false) ∧ (((↑(List.length m') : Int) != (↑(sumN ms) : Int)) = false) ∧ (frA7i11 W r0 r1 r2 r3 ms a0 a1 ((frA7i10 a2 a3 pa m ((PureC Try.prog 32 [.agg (progL W r0 r1 r2 r3 (memR ms)), .agg (stA a0 a1 a2 a3 m .nils pa)] (.agg (stD (pubOf r0 r1 r2 r3 ms a0 a1 a2 a3 m) (.own 0 0 1 0 (pubOf r0 r1 r2 r3 ms a0 a1 a2 a3 m).m.length) .nils pa)) [blkI (pubOf r0 r1 r2 r3 ms a0 a1 a2 a3 m).m]) ∧ (frA7i9 W r0 r1 r2 r3 ms b0 b1 ((frA7i12 b2 b3 pb m' st' ((PureC Try.prog 32 [.agg (progL W r0 r1 r2 r3 (memR ms)), .agg (stA b0 b1 b2 b3 m' (.row 1 st'.length (rowI st')) pb)] (.agg (stD (pubOf r0 r1 r2 r3 ms b0 b1 b2 b3 m') (.own 0 0 1 0 (pubOf r0 r1 r2 r3 ms b0 b1 b2 b3 m').m.length) (.row 1 st'.length (rowI st')) pb)) [blkI (pubOf r0 r1 r2 r3 ms b0 b1 b2 b3 m').m]) ∧ (frA7i7 r0 r1 r2 r3 ms a0 a1 a2 a3 pa b0 b1 b2 b3 m m' ((S7.r2 (pubOf r0 r1 r2 r3 ms b0 b1 b2 b3 m') = S7.r2 (pubOf r0 r1 r2 r3 ms b0 b1 b2 b3 m')) ∧ (S7.r3 (pubOf r0 r1 r2 r3 ms b0 b1 b2 b3 m') = S7.r3 (pubOf r0 r1 r2 r3 ms b0 b1 b2 b3 m')) ∧ (List.length (S7.m (pubOf r0 r1 r2 r3 ms b0 b1 b2 b3 m')) = List.length (S7.m (pubOf r0 r1 r2 r3 ms b0 b1 b2 b3 m'))) ∧ (∀ (i : Nat), i < List.length (S7.m (pubOf r0 r1 r2 r3 ms b0 b1 b2 b3 m')) → ∀ (j : Nat), j < (1 : Nat) → AV.int IntKind.i64 (List.getD (S7.m (pubOf r0 r1 r2 r3 ms b0 b1 b2 b3 m')) (i + (0 : Nat)) (0 : Int)) = AV.int IntKind.i64 (List.getD (S7.m (pubOf r0 r1 r2 r3 ms b0 b1 b2 b3 m')) i (0 : Int))) ∧ (List.length st' = List.length st') ∧ (∀ (i : Nat), i < List.length st' → ∀ (j : Nat), j < (1 : Nat) → AV.int IntKind.i64 (List.getD st' i (0 : Int)) = AV.int IntKind.i64 (List.getD st' i (0 : Int))) ∧ (pb = pb) ∧ (PureC Try.prog 31 [.agg (stA (pubOf r0 r1 r2 r3 ms a0 a1 a2 a3 m).r0 (pubOf r0 r1 r2 r3 ms a0 a1 a2 a3 m).r1 (pubOf r0 r1 r2 r3 ms a0 a1 a2 a3 m).r2 (pubOf r0 r1 r2 r3 ms a0 a1 a2 a3 m).r3 (pubOf r0 r1 r2 r3 ms a0 a1 a2 a3 m).m .nils pa), .agg (stA (pubOf r0 r1 r2 r3 ms b0 b1 b2 b3 m').r0 (pubOf r0 r1 r2 r3 ms b0 b1 b2 b3 m').r1 (pubOf r0 r1 r2 r3 ms b0 b1 b2 b3 m').r2 (pubOf r0 r1 r2 r3 ms b0 b1 b2 b3 m').r3 (pubOf r0 r1 r2 r3 ms b0 b1 b2 b3 m').m (.row 1 st'.length (rowI st')) pb)] (.bool (lowB r0 r1 r2 r3 ms a0 a1 a2 a3 m [] pa b0 b1 b2 b3 m' st' pb)) []) ∧ (lowB r0 r1 r2 r3 ms a0 a1 a2 a3 m [] pa b0 b1 b2 b3 m' st' pb = lowB r0 r1 r2 r3 ms a0 a1 a2 a3 m [] pa b0 b1 b2 b3 m' st' pb) ∧ True))))))))))))) (by kernel_rfl)
    (frA7i4_mk W r0 r1 r2 r3 ms ⟨archCells W r0 r1 r2 r3 ms h64 hs,
 (by first | (rw [hm]; simp) | (rw [hm']; simp)),
 (by first | (rw [hm]; simp) | (rw [hm']; simp)),
 (by first | (rw [hm]; simp) | (rw [hm']; simp)),
 (by first | (rw [hm]; simp) | (rw [hm']; simp)),
 (by first | (rw [hm]; simp) | (rw [hm']; simp)),
 (by first | (rw [hm]; simp) | (rw [hm']; simp)),
 (by first | (rw [hm]; simp) | (rw [hm']; simp)), (frA7i11_mk W r0 r1 r2 r3 ms a0 a1 (frA7i10_mk a2 a3 pa m ⟨publicC_n W r0 r1 r2 r3 ms a0 a1 a2 a3 pa m h64 hs hm, (frA7i9_mk W r0 r1 r2 r3 ms b0 b1 (frA7i12_mk b2 b3 pb m' st' ⟨publicC_r W r0 r1 r2 r3 ms b0 b1 b2 b3 pb m' st' h64 hs hm', (frA7i7_mk r0 r1 r2 r3 ms a0 a1 a2 a3 pa b0 b1 b2 b3 m m' ⟨rfl,
 rfl,
 rfl,
 (fun _ _ _ _ => rfl),
 rfl,
 (fun _ _ _ _ => rfl),
 rfl,
 same_nr _ _ _ _ pa _ _ _ _ pb _ _ st' (by rw [pubOf_len]; omega) (by rw [pubOf_len]; omega) hst',
 rfl, trivial⟩)⟩))⟩))⟩)
theorem lowC_nr (W r0 r1 r2 r3 : Int) (ms : List Mm) (a0 a1 a2 a3 pa b0 b1 b2 b3 pb : Int) (m m' : List Int) (st' : List Int) (h64 : ms.length < 4611686018427387904) (hs : sumN ms ≤ 16) (hm : m.length = sumN ms) (hm' : m'.length = sumN ms) (hst' : st'.length < 1000000000) : PureC Try.prog 12 [.agg (progL W r0 r1 r2 r3 (memR ms)), .agg (stA a0 a1 a2 a3 m .nils pa), .agg (stA b0 b1 b2 b3 m' (.row 1 st'.length (rowI st')) pb)] (.bool (lowB r0 r1 r2 r3 ms a0 a1 a2 a3 m [] pa b0 b1 b2 b3 m' st' pb)) [] := PureC.vc (low_nr W r0 r1 r2 r3 ms a0 a1 a2 a3 pa b0 b1 b2 b3 pb m m' st' h64 hs hm hm' hst')
end
end Go.Proofs.Ytjdiabjmphdhiaa.Px
namespace Go.Proofs.Ytjdiabjmphdhiaa.Rx
section
open Go.RowKit
section
variable {P : Program}
/-- what stays of a context when its own blocks are forgotten -/
theorem forget_rep {cx : Cx} (hc : CRep cx) : CRep ⟨cx.w, cx.R, fun _ => none, fun i => ([] : List Blk)[i]?, cx.B⟩ :=
  ⟨fun id b hb => (by simp at hb), fun _ _ _ _ _ _ _ h1 _ => (by cases h1), hc.rlt, hc.blt⟩
theorem freeze_all {cx : Cx} {H : List Blk} (hc : CRep cx) (hH : cx.H = fun i => H[i]?) (ids : List Nat) : ∃ cx1, CRep cx1 ∧ cx1.w = cx.w ∧ Stab cx cx1 ∧
    ∀ a v, Rep cx a v → (∀ id ∈ idsF a, id ∈ ids) → RepP cx1.w cx1.R (frz (fun i => H[i]?) a) v := by
  obtain ⟨cx1, e1, hc1, hs1, e2, e3, e4, e5⟩ := frzIds_ok ids hc
  refine ⟨cx1, hc1, e2, hs1, fun a v hr hi => frz_rep hc1 (fun id b hb => by rw [e1, hH]; exact frzIds_gen _ _ _ _ hb) (hr.stab hc hs1) fun id hid b g c hb hg => ?_⟩
  obtain ⟨b', hb'⟩ := Option.isSome_iff_exists.1 (e5 id (by rw [hb]; rfl))
  rw [e3] at hg
  exact e4 id b' g c (hi id hid) hb' hg
theorem PureC.frozen {f : FuncId} {args : List AV} {a : AV} {H : List Blk} (h : PureC P f args a H) : PureC P f args (frz (fun i => H[i]?) a) [] := by
  intro w R vs hR hl ha
  refine (h w R vs hR hl ha).mono ?_
  rintro e w' ⟨z, cx, rfl, rfl, k1, k2, k3, k4, k5, k6, k7⟩
  obtain ⟨cx1, hc1, e2, hs1, hfr⟩ := freeze_all k2 k1 (idsF a)
  refine ⟨z, ⟨cx1.w, cx1.R, fun _ => none, fun i => ([] : List Blk)[i]?, cx1.B⟩, rfl, e2.symm, rfl, forget_rep hc1, by rw [hs1.ext.B]; exact k3, fun g hg => hs1.ext.R g (k4 g hg), fun g hg => ?_, k6, .pure (hfr a z k7 fun _ h => h)⟩
  rcases hs1.ext.Rn g hg with h1 | h1
  · exact k5 g h1
  · rw [k3] at h1; exact .inr h1
theorem PureC.frozen2 {f : FuncId} {args : List AV} {a b : AV} {H : List Blk} (h : PureC P f args (.tup [a, b]) H) : PureC P f args (.tup [frz (fun i => H[i]?) a, frz (fun i => H[i]?) b]) [] := by
  intro w R vs hR hl ha
  refine (h w R vs hR hl ha).mono ?_
  rintro e w' ⟨z, cx, rfl, rfl, k1, k2, k3, k4, k5, k6, k7⟩
  obtain ⟨cx1, hc1, e2, hs1, hfr⟩ := freeze_all k2 k1 (idsF a ++ idsF b)
  have hz : RepP cx1.w cx1.R (.tup [frz (fun i => H[i]?) a, frz (fun i => H[i]?) b]) z := by
    obtain ⟨us, rfl, h1, h2⟩ : ∃ us : Array Value, z = .tuple us ∧ 2 = us.size ∧ ∀ (j : Nat) x v, [a, b][j]? = some x → us[j]? = some v → Rep cx x v := by
      cases k7 with
      | pure h => cases h with
        | tup hl h => exact ⟨_, rfl, hl, fun j x v h1 h2 => .pure (h j x v h1 h2)⟩
      | tup hl h => exact ⟨_, rfl, hl, h⟩
    refine .tup h1 fun j x v hx hv => ?_
    match j, hx with
    | 0, hx =>
      simp only [List.getElem?_cons_zero, Option.some.injEq] at hx
      subst hx
      exact hfr a v (h2 0 a v rfl hv) fun _ h => List.mem_append_left _ h
    | 1, hx =>
      simp only [List.getElem?_cons_succ, List.getElem?_cons_zero, Option.some.injEq] at hx
      subst hx
      exact hfr b v (h2 1 b v rfl hv) fun _ h => List.mem_append_right _ h
    | j + 2, hx => simp at hx
  refine ⟨z, ⟨cx1.w, cx1.R, fun _ => none, fun i => ([] : List Blk)[i]?, cx1.B⟩, rfl, e2.symm, rfl, forget_rep hc1, by rw [hs1.ext.B]; exact k3, fun g hg => hs1.ext.R g (k4 g hg), fun g hg => ?_, k6, .pure hz⟩
  rcases hs1.ext.Rn g hg with h1 | h1
  · exact k5 g h1
  · rw [k3] at h1; exact .inr h1
/-- a row of numbers that is read, as the law's argument is -/
theorem RepP.ofRd {w : World} {A : Option Addr} {c : Nat} {k : IntKind} {z : List Int} (hr : Rd w w.heap.size A (z.map (Value.int k))) (hc : z.length ≤ c) (hm : c ≤ maxLen) : RepP w (fun g => g < w.heap.size) (.row 1 z.length fun i _ => .int k (z.getD i 0)) (.slice A z.length c) := by
  refine .row A c (fun i _ => .int k (z.getD i 0)) hc hm (fun h => ?_) (fun _ _ _ _ => rfl) (fun _ _ _ _ => .int _ _)
  obtain ⟨ad, rfl, hb, hcell⟩ := hr (by rw [List.length_map]; omega)
  obtain ⟨g, o, sp⟩ := ad
  have h0 := hcell 0 _ (List.getElem?_eq_getElem (by rw [List.length_map]; omega))
  rw [adr_zero] at h0
  have hsp : sp = none := by
    unfold World.cell? at h0
    split at h0
    · cases sp with
      | none => rfl
      | some x => simp at h0
    · cases h0
  subst hsp
  refine ⟨g, o, rfl, hb, fun i hi j hj => ?_⟩
  have h1 := hcell i (.int k (z.getD i 0)) (by simp [List.getD, hi])
  rw [show Addr.add ⟨g, o, none⟩ i = ⟨g, o + i, none⟩ from adr_mk g o i] at h1
  rw [show o + (i * 1 + j) = o + i by omega]
  exact h1
/-- a contract that answers a bool, as a law's walk -/
theorem PureC.lawB {f : FuncId} {args : List AV} {b : Bool} (h : PureC P f args (.bool b) []) {W : World} {R : Nat → Prop} {vs : Array Value} (hR : ∀ g, R g → g < W.heap.size) (hl : args.length = vs.size) (ha : ∀ (j : Nat) a v, args[j]? = some a → vs[j]? = some v → RepP W R a v) : Calls P f vs W (RetB (.bool b) W) := by
  refine (h W R vs hR hl ha).mono ?_
  rintro e w' ⟨z, cx, rfl, rfl, _, _, _, _, _, hb, hz⟩
  refine ⟨?_, hb⟩
  cases hz with
  | pure h => cases h; rfl
end
end
end Go.Proofs.Ytjdiabjmphdhiaa.Rx
