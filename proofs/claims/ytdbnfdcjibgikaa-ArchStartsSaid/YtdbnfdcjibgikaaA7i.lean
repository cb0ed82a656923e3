/- What is public of a state, and which two look alike, as the program has it. -/
import Derived.Test.YtdbnfdcjibgikaaA7h
set_option linter.unusedVariables false
set_option linter.unusedSimpArgs false
set_option maxRecDepth 100000
namespace Go.Proofs.Ytdbnfdcjibgikaa.Px
open Go.RowKit Go.Proofs.Ytdbnfdcjibgikaa.Rx
def pubK (pl : List Pl) (s0 : S7) : Nat → S7
  | 0 => s0
  | k + 1 => if (pl.getD k default).sec = true then put7 (pubK pl s0 k) (pl.getD k default) 0 else pubK pl s0 k
def stD (s : S7) (a sk : AV) (pc : Int) : List AV := [.int .i64 s.r0, .int .i64 s.r1, .int .i64 s.r2, .int .i64 s.r3, a, sk, .int .i64 pc]
def pubS (pl : List Pl) (s : S7) (sk : AV) (pc : Int) (k : Nat) : Sm := ⟨[(13, .int .i64 pl.length), (12, .own 4 0 3 0 pl.length), (3, .bptr 1 0), (4, .bptr 2 0), (14, .int .i64 k)],
  [(1, bx 45 (stD s (.own 3 0 1 0 s.m.length) sk pc)), (2, bx 45 (stZ .nils)), (3, blkI s.m), (4, plB pl)], 5⟩
def s7 (a0 a1 a2 a3 : Int) (m : List Int) : S7 := ⟨a0, a1, a2, a3, m⟩
theorem pubK_len (pl : List Pl) (s : S7) (k : Nat) : (pubK pl s k).m.length = s.m.length := by
  induction k with
  | zero => rfl
  | succ k ih =>
    rw [pubK]
    split
    · rw [put7_len, ih]
    · exact ih
def frA7i0 (pl : List Pl) (s : S7) (Z : Prop) : Prop := ((0 : Int) = (0 : Int)) ∧ ((0 : Int) = (0 : Int)) ∧ ((0 : Int) = (0 : Int)) ∧ (List.length (S7.m s) = List.length (S7.m s)) ∧ (∀ (i : Nat), i < List.length (S7.m s) → ∀ (j : Nat), j < (1 : Nat) → AV.int IntKind.i64 (List.getD (S7.m s) i (0 : Int)) = AV.int IntKind.i64 (List.getD (S7.m s) i (0 : Int))) ∧ (List.length pl = List.length pl) ∧ (∀ (i : Nat), i < List.length pl → ∀ (j : Nat), j < (3 : Nat) → rowL plC pl i j = rowL plC pl i j) ∧ ((↑(List.length pl) : Int) = (↑(List.length pl) : Int)) ∧ ((0 : Nat) = (0 : Nat)) ∧ Z
theorem frA7i0_mk (pl : List Pl) (s : S7) {Z : Prop} (z : Z) : frA7i0 pl s Z := ⟨rfl, rfl, rfl, rfl, (fun _ _ _ _ => rfl), rfl, (fun _ _ _ _ => rfl), rfl, rfl, z⟩
def frA7i1 (s : S7) (pc : Int) (Z : Prop) : Prop := (S7.r0 s = S7.r0 s) ∧ (S7.r1 s = S7.r1 s) ∧ (S7.r2 s = S7.r2 s) ∧ (S7.r3 s = S7.r3 s) ∧ ((0 : Nat) = (0 : Nat)) ∧ (List.length (S7.m s) = List.length (S7.m s)) ∧ (pc = pc) ∧ ((0 : Int) = (0 : Int)) ∧ ((0 : Int) = (0 : Int)) ∧ Z
theorem frA7i1_mk (s : S7) (pc : Int) {Z : Prop} (z : Z) : frA7i1 s pc Z := ⟨rfl, rfl, rfl, rfl, rfl, rfl, rfl, rfl, rfl, z⟩
theorem pb_no_n (pl : List Pl) (s : S7) (pc : Int) (k : Nat) (hk : k < pl.length) (hp : pl.length < 1000000) (hs7 : (pl.getD k default).sec = false) : Vc (vcC Try.prog false (ntOf Try.prog 29) (lpC Try.prog 29 0) (pubS pl s .nils pc k) [.b true, .b false] .nrm [(1, 1), (2, 2), (3, 3), (4, 4)] (pubS pl s .nils pc (k + 1))) :=
  vc_of (q := (decide ((↑k : Int) < (↑(List.length pl) : Int)) = true) ∧ ((0 : Int) ≤ (↑k : Int) ∧ (↑k : Int) < (↑(List.length pl) : Int)) ∧ (k + (0 : Nat) < List.length pl) ∧ (Pl.sec (List.getD pl (k + (0 : Nat)) Inhabited.default) = false) ∧ (inK IntKind.i64 ((↑k : Int) + (1 : Int))) ∧ (frA7i1 s pc ((frA7i0 pl s ((List.length pl = List.length pl) ∧ ((↑k : Int) + (1 : Int) = (↑(k + (1 : Nat)) : Int)) ∧ True))))) (by kernel_rfl)
    ⟨(decide_eq_true (by first | omega | (simp; omega) | (simp; done))),
 (by first | omega | rfl),
 (by first | omega | rfl),
 hs7,
 (in64 (by omega) (by omega)), (frA7i1_mk s pc (frA7i0_mk pl s ⟨rfl,
 (by first | omega | rfl), trivial⟩))⟩
abbrev cA7i0 (pl : List Pl) (k : Nat) : Prop := (Pl.reg (List.getD pl (k + (0 : Nat)) Inhabited.default) = true)
abbrev cA7i1 (pl : List Pl) (k : Nat) : Prop := (Pl.sec (List.getD pl (k + (0 : Nat)) Inhabited.default) = true)
theorem pb_reg0_n (pl : List Pl) (s : S7) (pc : Int) (k : Nat) (hk : k < pl.length) (hp : pl.length < 1000000) (hs7 : (pl.getD k default).sec = true) (hr : (pl.getD k default).reg = true) (hn : (pl.getD k default).n = 0) : Vc (vcC Try.prog false (ntOf Try.prog 29) (lpC Try.prog 29 0) (pubS pl s .nils pc k) [.b true, .b true, .b true, .ix 0] .nrm [(1, 1), (2, 2), (3, 3), (4, 4)] (pubS pl { s with r0 := 0 } .nils pc (k + 1))) :=
  vc_of (q := (decide ((↑k : Int) < (↑(List.length pl) : Int)) = true) ∧ ((0 : Int) ≤ (↑k : Int) ∧ (↑k : Int) < (↑(List.length pl) : Int)) ∧ (k + (0 : Nat) < List.length pl) ∧ cA7i1 pl k ∧ cA7i0 pl k ∧ ((↑(Pl.n (List.getD pl (k + (0 : Nat)) Inhabited.default)) : Int) = (↑(0 : Nat) : Int)) ∧ (inK IntKind.i64 ((↑k : Int) + (1 : Int))) ∧ ((0 : Int) = (0 : Int)) ∧ (S7.r1 s = S7.r1 s) ∧ (S7.r2 s = S7.r2 s) ∧ (S7.r3 s = S7.r3 s) ∧ ((0 : Nat) = (0 : Nat)) ∧ (List.length (S7.m s) = List.length (S7.m s)) ∧ (pc = pc) ∧ ((0 : Int) = (0 : Int)) ∧ ((0 : Int) = (0 : Int)) ∧ (frA7i0 pl s ((List.length pl = List.length pl) ∧ ((↑k : Int) + (1 : Int) = (↑(k + (1 : Nat)) : Int)) ∧ True))) (by kernel_rfl)
    ⟨(decide_eq_true (by first | omega | (simp; omega) | (simp; done))),
 (by first | omega | rfl),
 (by first | omega | rfl),
 hs7,
 hr,
 (congrArg Int.ofNat hn),
 (in64 (by omega) (by omega)),
 rfl,
 rfl,
 rfl,
 rfl,
 rfl,
 rfl,
 rfl,
 rfl,
 rfl, (frA7i0_mk pl s ⟨rfl,
 (by first | omega | rfl), trivial⟩)⟩
theorem pb_reg1_n (pl : List Pl) (s : S7) (pc : Int) (k : Nat) (hk : k < pl.length) (hp : pl.length < 1000000) (hs7 : (pl.getD k default).sec = true) (hr : (pl.getD k default).reg = true) (hn : (pl.getD k default).n = 1) : Vc (vcC Try.prog false (ntOf Try.prog 29) (lpC Try.prog 29 0) (pubS pl s .nils pc k) [.b true, .b true, .b true, .ix 1] .nrm [(1, 1), (2, 2), (3, 3), (4, 4)] (pubS pl { s with r1 := 0 } .nils pc (k + 1))) :=
  vc_of (q := (decide ((↑k : Int) < (↑(List.length pl) : Int)) = true) ∧ ((0 : Int) ≤ (↑k : Int) ∧ (↑k : Int) < (↑(List.length pl) : Int)) ∧ (k + (0 : Nat) < List.length pl) ∧ cA7i1 pl k ∧ cA7i0 pl k ∧ ((↑(Pl.n (List.getD pl (k + (0 : Nat)) Inhabited.default)) : Int) = (↑(1 : Nat) : Int)) ∧ (inK IntKind.i64 ((↑k : Int) + (1 : Int))) ∧ (S7.r0 s = S7.r0 s) ∧ ((0 : Int) = (0 : Int)) ∧ (S7.r2 s = S7.r2 s) ∧ (S7.r3 s = S7.r3 s) ∧ ((0 : Nat) = (0 : Nat)) ∧ (List.length (S7.m s) = List.length (S7.m s)) ∧ (pc = pc) ∧ ((0 : Int) = (0 : Int)) ∧ ((0 : Int) = (0 : Int)) ∧ (frA7i0 pl s ((List.length pl = List.length pl) ∧ ((↑k : Int) + (1 : Int) = (↑(k + (1 : Nat)) : Int)) ∧ True))) (by kernel_rfl)
    ⟨(decide_eq_true (by first | omega | (simp; omega) | (simp; done))),
 (by first | omega | rfl),
 (by first | omega | rfl),
 hs7,
 hr,
 (congrArg Int.ofNat hn),
 (in64 (by omega) (by omega)),
 rfl,
 rfl,
 rfl,
 rfl,
 rfl,
 rfl,
 rfl,
 rfl,
 rfl, (frA7i0_mk pl s ⟨rfl,
 (by first | omega | rfl), trivial⟩)⟩
theorem pb_reg2_n (pl : List Pl) (s : S7) (pc : Int) (k : Nat) (hk : k < pl.length) (hp : pl.length < 1000000) (hs7 : (pl.getD k default).sec = true) (hr : (pl.getD k default).reg = true) (hn : (pl.getD k default).n = 2) : Vc (vcC Try.prog false (ntOf Try.prog 29) (lpC Try.prog 29 0) (pubS pl s .nils pc k) [.b true, .b true, .b true, .ix 2] .nrm [(1, 1), (2, 2), (3, 3), (4, 4)] (pubS pl { s with r2 := 0 } .nils pc (k + 1))) :=
  vc_of (q := (decide ((↑k : Int) < (↑(List.length pl) : Int)) = true) ∧ ((0 : Int) ≤ (↑k : Int) ∧ (↑k : Int) < (↑(List.length pl) : Int)) ∧ (k + (0 : Nat) < List.length pl) ∧ cA7i1 pl k ∧ cA7i0 pl k ∧ ((↑(Pl.n (List.getD pl (k + (0 : Nat)) Inhabited.default)) : Int) = (↑(2 : Nat) : Int)) ∧ (inK IntKind.i64 ((↑k : Int) + (1 : Int))) ∧ (S7.r0 s = S7.r0 s) ∧ (S7.r1 s = S7.r1 s) ∧ ((0 : Int) = (0 : Int)) ∧ (S7.r3 s = S7.r3 s) ∧ ((0 : Nat) = (0 : Nat)) ∧ (List.length (S7.m s) = List.length (S7.m s)) ∧ (pc = pc) ∧ ((0 : Int) = (0 : Int)) ∧ ((0 : Int) = (0 : Int)) ∧ (frA7i0 pl s ((List.length pl = List.length pl) ∧ ((↑k : Int) + (1 : Int) = (↑(k + (1 : Nat)) : Int)) ∧ True))) (by kernel_rfl)
    ⟨(decide_eq_true (by first | omega | (simp; omega) | (simp; done))),
 (by first | omega | rfl),
 (by first | omega | rfl),
 hs7,
 hr,
 (congrArg Int.ofNat hn),
 (in64 (by omega) (by omega)),
 rfl,
 rfl,
 rfl,
 rfl,
 rfl,
 rfl,
 rfl,
 rfl,
 rfl, (frA7i0_mk pl s ⟨rfl,
 (by first | omega | rfl), trivial⟩)⟩
theorem pb_reg3_n (pl : List Pl) (s : S7) (pc : Int) (k : Nat) (hk : k < pl.length) (hp : pl.length < 1000000) (hs7 : (pl.getD k default).sec = true) (hr : (pl.getD k default).reg = true) (hn : (pl.getD k default).n = 3) : Vc (vcC Try.prog false (ntOf Try.prog 29) (lpC Try.prog 29 0) (pubS pl s .nils pc k) [.b true, .b true, .b true, .ix 3] .nrm [(1, 1), (2, 2), (3, 3), (4, 4)] (pubS pl { s with r3 := 0 } .nils pc (k + 1))) :=
  vc_of (q := (decide ((↑k : Int) < (↑(List.length pl) : Int)) = true) ∧ ((0 : Int) ≤ (↑k : Int) ∧ (↑k : Int) < (↑(List.length pl) : Int)) ∧ (k + (0 : Nat) < List.length pl) ∧ cA7i1 pl k ∧ cA7i0 pl k ∧ ((↑(Pl.n (List.getD pl (k + (0 : Nat)) Inhabited.default)) : Int) = (↑(3 : Nat) : Int)) ∧ (inK IntKind.i64 ((↑k : Int) + (1 : Int))) ∧ (S7.r0 s = S7.r0 s) ∧ (S7.r1 s = S7.r1 s) ∧ (S7.r2 s = S7.r2 s) ∧ ((0 : Int) = (0 : Int)) ∧ ((0 : Nat) = (0 : Nat)) ∧ (List.length (S7.m s) = List.length (S7.m s)) ∧ (pc = pc) ∧ ((0 : Int) = (0 : Int)) ∧ ((0 : Int) = (0 : Int)) ∧ (frA7i0 pl s ((List.length pl = List.length pl) ∧ ((↑k : Int) + (1 : Int) = (↑(k + (1 : Nat)) : Int)) ∧ True))) (by kernel_rfl)
    ⟨(decide_eq_true (by first | omega | (simp; omega) | (simp; done))),
 (by first | omega | rfl),
 (by first | omega | rfl),
 hs7,
 hr,
 (congrArg Int.ofNat hn),
 (in64 (by omega) (by omega)),
 rfl,
 rfl,
 rfl,
 rfl,
 rfl,
 rfl,
 rfl,
 rfl,
 rfl, (frA7i0_mk pl s ⟨rfl,
 (by first | omega | rfl), trivial⟩)⟩
def frA7i2 (pl : List Pl) (Z : Prop) : Prop := (List.length pl = List.length pl) ∧ (∀ (i : Nat), i < List.length pl → ∀ (j : Nat), j < (3 : Nat) → rowL plC pl i j = rowL plC pl i j) ∧ ((↑(List.length pl) : Int) = (↑(List.length pl) : Int)) ∧ ((0 : Nat) = (0 : Nat)) ∧ (List.length pl = List.length pl) ∧ Z
theorem frA7i2_mk (pl : List Pl) {Z : Prop} (z : Z) : frA7i2 pl Z := ⟨rfl, (fun _ _ _ _ => rfl), rfl, rfl, rfl, z⟩
def frA7i3 (s : S7) (Z : Prop) : Prop := (S7.r0 s = S7.r0 s) ∧ (S7.r1 s = S7.r1 s) ∧ (S7.r2 s = S7.r2 s) ∧ (S7.r3 s = S7.r3 s) ∧ ((0 : Nat) = (0 : Nat)) ∧ Z
theorem frA7i3_mk (s : S7) {Z : Prop} (z : Z) : frA7i3 s Z := ⟨rfl, rfl, rfl, rfl, rfl, z⟩
theorem pb_mem_n (pl : List Pl) (s : S7) (pc : Int) (k : Nat) (hk : k < pl.length) (hp : pl.length < 1000000) (hs7 : (pl.getD k default).sec = true) (hr : (pl.getD k default).reg = false) (hn : (pl.getD k default).n < s.m.length) : Vc (vcC Try.prog false (ntOf Try.prog 29) (lpC Try.prog 29 0) (pubS pl s .nils pc k) [.b true, .b true, .b false] .nrm [(1, 1), (2, 2), (3, 3), (4, 4)] (pubS pl { s with m := s.m.set (pl.getD k default).n 0 } .nils pc (k + 1))) :=
  vc_of (q := (decide ((↑k : Int) < (↑(List.length pl) : Int)) = true) ∧ ((0 : Int) ≤ (↑k : Int) ∧ (↑k : Int) < (↑(List.length pl) : Int)) ∧ (k + (0 : Nat) < List.length pl) ∧ cA7i1 pl k ∧ (Pl.reg (List.getD pl (k + (0 : Nat)) Inhabited.default) = false) ∧ ((0 : Int) ≤ (↑(Pl.n (List.getD pl (k + (0 : Nat)) Inhabited.default)) : Int) ∧ (↑(Pl.n (List.getD pl (k + (0 : Nat)) Inhabited.default)) : Int) < (↑(List.length (S7.m s)) : Int)) ∧ (Pl.n (List.getD pl (k + (0 : Nat)) Inhabited.default) + (0 : Nat) < List.length (S7.m s)) ∧ (inK IntKind.i64 ((↑k : Int) + (1 : Int))) ∧ (frA7i3 s ((List.length (S7.m s) = List.length (List.set (S7.m s) (Pl.n (List.getD pl k Inhabited.default)) (0 : Int))) ∧ (pc = pc) ∧ ((0 : Int) = (0 : Int)) ∧ ((0 : Int) = (0 : Int)) ∧ ((0 : Int) = (0 : Int)) ∧ ((0 : Int) = (0 : Int)) ∧ ((0 : Int) = (0 : Int)) ∧ (List.length (S7.m s) = List.length (List.set (S7.m s) (Pl.n (List.getD pl k Inhabited.default)) (0 : Int))) ∧ (∀ (i : Nat), i < List.length (S7.m s) → ∀ (j : Nat), j < (1 : Nat) → (bif Nat.beq i (Pl.n (List.getD pl (k + (0 : Nat)) Inhabited.default) + (0 : Nat)) && Nat.ble (0 : Nat) j && Nat.blt j (1 : Nat) then List.getD [AV.int IntKind.i64 (0 : Int)] (j - (0 : Nat)) AV.junk else AV.int IntKind.i64 (List.getD (S7.m s) i (0 : Int))) = AV.int IntKind.i64 (List.getD (List.set (S7.m s) (Pl.n (List.getD pl k Inhabited.default)) (0 : Int)) i (0 : Int))) ∧ (frA7i2 pl (((↑k : Int) + (1 : Int) = (↑(k + (1 : Nat)) : Int)) ∧ True))))) (by kernel_rfl)
    ⟨(decide_eq_true (by first | omega | (simp; omega) | (simp; done))),
 (by first | omega | rfl),
 (by first | omega | rfl),
 hs7,
 hr,
 ⟨Int.natCast_nonneg _, Int.ofNat_lt.2 hn⟩,
 hn,
 (in64 (by omega) (by omega)), (frA7i3_mk s ⟨List.length_set.symm,
 rfl,
 rfl,
 rfl,
 rfl,
 rfl,
 rfl,
 List.length_set.symm,
 set_row, (frA7i2_mk pl ⟨(by first | omega | rfl), trivial⟩)⟩)⟩
theorem pb_end_n (pl : List Pl) (s : S7) (pc : Int) : Vc (vcC Try.prog false (ntOf Try.prog 29) (lpC Try.prog 29 0) (pubS pl s .nils pc pl.length) [.b false] (.ext 0) [(1, 1), (2, 2), (3, 3), (4, 4)] (pubS pl s .nils pc pl.length)) :=
  vc_of (q := (decide ((↑(List.length pl) : Int) < (↑(List.length pl) : Int)) = false) ∧ (frA7i1 s pc ((frA7i0 pl s ((List.length pl = List.length pl) ∧ ((↑(List.length pl) : Int) = (↑(List.length pl) : Int)) ∧ True))))) (by kernel_rfl)
    ⟨(decide_eq_false (by first | omega | (simp; omega) | (simp; done))), (frA7i1_mk s pc (frA7i0_mk pl s ⟨rfl,
 rfl, trivial⟩))⟩
theorem pub_loop_n (pl : List Pl) (s : S7) (pc : Int) (hp : pl.length < 1000000) (ho : ∀ p ∈ pl, plOk s.m.length p) : Ok Try.prog (ntOf Try.prog 29) (.loop (lpC Try.prog 29 0)) (pubS pl s .nils pc 0).st (.ext 0) (pubS pl (pubK pl s pl.length) .nils pc pl.length).st :=
  Ok.loop (P := Try.prog) (nt := ntOf Try.prog 29) (c := lpC Try.prog 29 0) (F := fun k => pubS pl (pubK pl s k) .nils pc k) (m := pl.length) (x := .ext 0) (J := pubS pl (pubK pl s pl.length) .nils pc pl.length) (fun k hk => by
    have hm := pubK_len pl s k
    obtain ⟨h1, h2⟩ := ho _ (getD_mem hk)
    show Ok _ _ _ _ _ (pubS pl (if (pl.getD k default).sec = true then put7 (pubK pl s k) (pl.getD k default) 0 else pubK pl s k) .nils pc (k + 1)).st
    cases hs7 : (pl.getD k default).sec with
    | false =>
      rw [if_neg (by simp)]
      exact Ok.vc (pb_no_n pl _ pc k hk hp hs7)
    | true =>
      rw [if_pos rfl]
      cases hr : (pl.getD k default).reg with
      | true =>
        have hn := h1 hr
        unfold put7
        rw [if_pos hr]
        match hq : (pl.getD k default).n, hn with
        | 0, _ => exact Ok.vc (pb_reg0_n pl _ pc k hk hp hs7 hr hq)
        | 1, _ => exact Ok.vc (pb_reg1_n pl _ pc k hk hp hs7 hr hq)
        | 2, _ => exact Ok.vc (pb_reg2_n pl _ pc k hk hp hs7 hr hq)
        | 3, _ => exact Ok.vc (pb_reg3_n pl _ pc k hk hp hs7 hr hq)
      | false =>
        have hn := h2 hr
        unfold put7
        rw [if_neg (by rw [hr]; simp)]
        exact Ok.vc (pb_mem_n pl _ pc k hk hp hs7 hr (by rw [hm]; exact hn))) (Ok.vc (pb_end_n pl _ pc)) (by simp)
def frA7i4 (W : Int) (r0 : Int) (r1 : Int) (r2 : Int) (r3 : Int) (ms : List Mm) (Z : Prop) : Prop := (W = W) ∧ (r0 = r0) ∧ (r1 = r1) ∧ (r2 = r2) ∧ (r3 = r3) ∧ (List.length ms = List.length ms) ∧ (∀ (i : Nat), i < List.length ms → ∀ (j : Nat), j < (3 : Nat) → rowL mmC ms i j = rowL mmC ms i j) ∧ Z
theorem frA7i4_mk (W : Int) (r0 : Int) (r1 : Int) (r2 : Int) (r3 : Int) (ms : List Mm) {Z : Prop} (z : Z) : frA7i4 W r0 r1 r2 r3 ms Z := ⟨rfl, rfl, rfl, rfl, rfl, rfl, (fun _ _ _ _ => rfl), z⟩
theorem pub_n (W r0 r1 r2 r3 : Int) (ms : List Mm) (a0 a1 a2 a3 pc : Int) (m : List Int) (h64 : ms.length < 4611686018427387904) (hs : sumN ms ≤ 16) (hm : m.length = sumN ms) : Vc (vcFn Try.prog false 29 [.agg (progL W r0 r1 r2 r3 (memR ms)), .agg (stA a0 a1 a2 a3 m .nils pc)] [.cl [.row 1 m.length (rowI m)] (.own 0 0 1 0 m.length) [blkI m], .cl [.agg (progL W r0 r1 r2 r3 (memR ms))] (.own 0 0 3 0 (places (rg r0 r1 r2 r3) ms).length) [plB (places (rg r0 r1 r2 r3) ms)], .lp [(1, 1), (2, 2), (3, 3), (4, 4)] (pubS (places (rg r0 r1 r2 r3) ms) (s7 a0 a1 a2 a3 m) .nils pc 0) (.ext 0) (pubS (places (rg r0 r1 r2 r3) ms) (pubK (places (rg r0 r1 r2 r3) ms) (s7 a0 a1 a2 a3 m) (places (rg r0 r1 r2 r3) ms).length) .nils pc (places (rg r0 r1 r2 r3) ms).length)] [(0, 3)] (.agg (stD (pubK (places (rg r0 r1 r2 r3) ms) (s7 a0 a1 a2 a3 m) (places (rg r0 r1 r2 r3) ms).length) (.own 0 0 1 0 (pubK (places (rg r0 r1 r2 r3) ms) (s7 a0 a1 a2 a3 m) (places (rg r0 r1 r2 r3) ms).length).m.length) .nils pc)) [blkI (pubK (places (rg r0 r1 r2 r3) ms) (s7 a0 a1 a2 a3 m) (places (rg r0 r1 r2 r3) ms).length).m]) :=
  vc_of (q := (List.length m = List.length m) ∧ (∀ (i : Nat), i < List.length m → ∀ (j : Nat), j < (1 : Nat) → AV.int IntKind.i64 (List.getD m i (0 : Int)) = AV.int IntKind.i64 (List.getD m i (0 : Int))) ∧ (PureC Try.prog 38 [.row 1 m.length (rowI m)] (.own 0 0 1 0 m.length) [blkI m]) ∧ (frA7i4 W r0 r1 r2 r3 ms ((PureC Try.prog 7 [.agg (progL W r0 r1 r2 r3 (memR ms))] (.own 0 0 3 0 (places (rg r0 r1 r2 r3) ms).length) [plB (places (rg r0 r1 r2 r3) ms)]) ∧ (a0 = a0) ∧ (a1 = a1) ∧ (a2 = a2) ∧ (a3 = a3) ∧ ((0 : Nat) = (0 : Nat)) ∧ (List.length m = List.length m) ∧ (pc = pc) ∧ ((0 : Int) = (0 : Int)) ∧ ((0 : Int) = (0 : Int)) ∧ ((0 : Int) = (0 : Int)) ∧ ((0 : Int) = (0 : Int)) ∧ ((0 : Int) = (0 : Int)) ∧ (List.length m = List.length m) ∧ (∀ (i : Nat), i < List.length m → ∀ (j : Nat), j < (1 : Nat) → AV.int IntKind.i64 (List.getD m i (0 : Int)) = AV.int IntKind.i64 (List.getD m i (0 : Int))) ∧ (List.length (places (rg r0 r1 r2 r3) ms) = List.length (places (rg r0 r1 r2 r3) ms)) ∧ (∀ (i : Nat), i < List.length (places (rg r0 r1 r2 r3) ms) → ∀ (j : Nat), j < (3 : Nat) → rowL plC (places (rg r0 r1 r2 r3) ms) i j = rowL plC (places (rg r0 r1 r2 r3) ms) i j) ∧ ((↑(List.length (places (rg r0 r1 r2 r3) ms)) : Int) = (↑(List.length (places (rg r0 r1 r2 r3) ms)) : Int)) ∧ ((0 : Nat) = (0 : Nat)) ∧ (List.length (places (rg r0 r1 r2 r3) ms) = List.length (places (rg r0 r1 r2 r3) ms)) ∧ ((0 : Int) = (↑(0 : Nat) : Int)) ∧ (Ok Try.prog (ntOf Try.prog 29) (.loop (lpC Try.prog 29 0)) (pubS (places (rg r0 r1 r2 r3) ms) (s7 a0 a1 a2 a3 m) .nils pc 0).st (.ext 0) (pubS (places (rg r0 r1 r2 r3) ms) (pubK (places (rg r0 r1 r2 r3) ms) (s7 a0 a1 a2 a3 m) (places (rg r0 r1 r2 r3) ms).length) .nils pc (places (rg r0 r1 r2 r3) ms).length).st) ∧ (List.length (S7.m (pubK (places (rg r0 r1 r2 r3) ms) (s7 a0 a1 a2 a3 m) (List.length (places (rg r0 r1 r2 r3) ms)))) = List.length (S7.m (pubK (places (rg r0 r1 r2 r3) ms) (s7 a0 a1 a2 a3 m) (List.length (places (rg r0 r1 r2 r3) ms))))) ∧ (∀ (i : Nat), i < List.length (S7.m (pubK (places (rg r0 r1 r2 r3) ms) (s7 a0 a1 a2 a3 m) (List.length (places (rg r0 r1 r2 r3) ms)))) → ∀ (j : Nat), j < (1 : Nat) → AV.int IntKind.i64 (List.getD (S7.m (pubK (places (rg r0 r1 r2 r3) ms) (s7 a0 a1 a2 a3 m) (List.length (places (rg r0 r1 r2 r3) ms)))) i (0 : Int)) = AV.int IntKind.i64 (List.getD (S7.m (pubK (places (rg r0 r1 r2 r3) ms) (s7 a0 a1 a2 a3 m) (List.length (places (rg r0 r1 r2 r3) ms)))) i (0 : Int))) ∧ (S7.r0 (pubK (places (rg r0 r1 r2 r3) ms) (s7 a0 a1 a2 a3 m) (List.length (places (rg r0 r1 r2 r3) ms))) = S7.r0 (pubK (places (rg r0 r1 r2 r3) ms) (s7 a0 a1 a2 a3 m) (List.length (places (rg r0 r1 r2 r3) ms)))) ∧ (S7.r1 (pubK (places (rg r0 r1 r2 r3) ms) (s7 a0 a1 a2 a3 m) (List.length (places (rg r0 r1 r2 r3) ms))) = S7.r1 (pubK (places (rg r0 r1 r2 r3) ms) (s7 a0 a1 a2 a3 m) (List.length (places (rg r0 r1 r2 r3) ms)))) ∧ (S7.r2 (pubK (places (rg r0 r1 r2 r3) ms) (s7 a0 a1 a2 a3 m) (List.length (places (rg r0 r1 r2 r3) ms))) = S7.r2 (pubK (places (rg r0 r1 r2 r3) ms) (s7 a0 a1 a2 a3 m) (List.length (places (rg r0 r1 r2 r3) ms)))) ∧ (S7.r3 (pubK (places (rg r0 r1 r2 r3) ms) (s7 a0 a1 a2 a3 m) (List.length (places (rg r0 r1 r2 r3) ms))) = S7.r3 (pubK (places (rg r0 r1 r2 r3) ms) (s7 a0 a1 a2 a3 m) (List.length (places (rg r0 r1 r2 r3) ms)))) ∧ ((0 : Nat) = (0 : Nat)) ∧ (List.length (S7.m (pubK (places (rg r0 r1 r2 r3) ms) (s7 a0 a1 a2 a3 m) (List.length (places (rg r0 r1 r2 r3) ms)))) = List.length (S7.m (pubK (places (rg r0 r1 r2 r3) ms) (s7 a0 a1 a2 a3 m) (List.length (places (rg r0 r1 r2 r3) ms))))) ∧ (pc = pc) ∧ True))) (by kernel_rfl)
    ⟨rfl,
 (fun _ _ _ _ => rfl),
 cloneC (.row m) (by omega), (frA7i4_mk W r0 r1 r2 r3 ms ⟨archPlaces W r0 r1 r2 r3 ms h64 hs,
 rfl,
 rfl,
 rfl,
 rfl,
 rfl,
 rfl,
 rfl,
 rfl,
 rfl,
 rfl,
 rfl,
 rfl,
 rfl,
 (fun _ _ _ _ => rfl),
 rfl,
 (fun _ _ _ _ => rfl),
 rfl,
 rfl,
 rfl,
 (by first | omega | rfl),
 pub_loop_n (places (rg r0 r1 r2 r3) ms) (s7 a0 a1 a2 a3 m) pc (by have := places_length (rg r0 r1 r2 r3) ms; omega) (by have := places_ok (rg r0 r1 r2 r3) ms; simpa [s7, hm] using this),
 rfl,
 (fun _ _ _ _ => rfl),
 rfl,
 rfl,
 rfl,
 rfl,
 rfl,
 rfl,
 rfl, trivial⟩)⟩
theorem publicC_n (W r0 r1 r2 r3 : Int) (ms : List Mm) (a0 a1 a2 a3 pc : Int) (m : List Int) (h64 : ms.length < 4611686018427387904) (hs : sumN ms ≤ 16) (hm : m.length = sumN ms) : PureC Try.prog 29 [.agg (progL W r0 r1 r2 r3 (memR ms)), .agg (stA a0 a1 a2 a3 m .nils pc)] (.agg (stD (pubK (places (rg r0 r1 r2 r3) ms) (s7 a0 a1 a2 a3 m) (places (rg r0 r1 r2 r3) ms).length) (.own 0 0 1 0 (pubK (places (rg r0 r1 r2 r3) ms) (s7 a0 a1 a2 a3 m) (places (rg r0 r1 r2 r3) ms).length).m.length) .nils pc)) [blkI (pubK (places (rg r0 r1 r2 r3) ms) (s7 a0 a1 a2 a3 m) (places (rg r0 r1 r2 r3) ms).length).m] := PureC.vc (pub_n W r0 r1 r2 r3 ms a0 a1 a2 a3 pc m h64 hs hm)
def pubOf (r0 r1 r2 r3 : Int) (ms : List Mm) (a0 a1 a2 a3 : Int) (m : List Int) : S7 := pubK (places (rg r0 r1 r2 r3) ms) (s7 a0 a1 a2 a3 m) (places (rg r0 r1 r2 r3) ms).length
def lowB (r0 r1 r2 r3 : Int) (ms : List Mm) (a0 a1 a2 a3 : Int) (m st : List Int) (pa b0 b1 b2 b3 : Int) (m' st' : List Int) (pb : Int) : Bool :=
  sameB (pubOf r0 r1 r2 r3 ms a0 a1 a2 a3 m).r0 (pubOf r0 r1 r2 r3 ms a0 a1 a2 a3 m).r1 (pubOf r0 r1 r2 r3 ms a0 a1 a2 a3 m).r2 (pubOf r0 r1 r2 r3 ms a0 a1 a2 a3 m).r3 (pubOf r0 r1 r2 r3 ms a0 a1 a2 a3 m).m st pa
    (pubOf r0 r1 r2 r3 ms b0 b1 b2 b3 m').r0 (pubOf r0 r1 r2 r3 ms b0 b1 b2 b3 m').r1 (pubOf r0 r1 r2 r3 ms b0 b1 b2 b3 m').r2 (pubOf r0 r1 r2 r3 ms b0 b1 b2 b3 m').r3 (pubOf r0 r1 r2 r3 ms b0 b1 b2 b3 m').m st' pb
theorem pubOf_len (r0 r1 r2 r3 : Int) (ms : List Mm) (a0 a1 a2 a3 : Int) (m : List Int) : (pubOf r0 r1 r2 r3 ms a0 a1 a2 a3 m).m.length = m.length := pubK_len _ _ _
def frA7i7 (r0 : Int) (r1 : Int) (r2 : Int) (r3 : Int) (ms : List Mm) (a0 : Int) (a1 : Int) (a2 : Int) (a3 : Int) (pa : Int) (b0 : Int) (b1 : Int) (b2 : Int) (b3 : Int) (m : List Int) (m' : List Int) (Z : Prop) : Prop := (S7.r0 (pubOf r0 r1 r2 r3 ms a0 a1 a2 a3 m) = S7.r0 (pubOf r0 r1 r2 r3 ms a0 a1 a2 a3 m)) ∧ (S7.r1 (pubOf r0 r1 r2 r3 ms a0 a1 a2 a3 m) = S7.r1 (pubOf r0 r1 r2 r3 ms a0 a1 a2 a3 m)) ∧ (S7.r2 (pubOf r0 r1 r2 r3 ms a0 a1 a2 a3 m) = S7.r2 (pubOf r0 r1 r2 r3 ms a0 a1 a2 a3 m)) ∧ (S7.r3 (pubOf r0 r1 r2 r3 ms a0 a1 a2 a3 m) = S7.r3 (pubOf r0 r1 r2 r3 ms a0 a1 a2 a3 m)) ∧ (List.length (S7.m (pubOf r0 r1 r2 r3 ms a0 a1 a2 a3 m)) = List.length (S7.m (pubOf r0 r1 r2 r3 ms a0 a1 a2 a3 m))) ∧ (∀ (i : Nat), i < List.length (S7.m (pubOf r0 r1 r2 r3 ms a0 a1 a2 a3 m)) → ∀ (j : Nat), j < (1 : Nat) → AV.int IntKind.i64 (List.getD (S7.m (pubOf r0 r1 r2 r3 ms a0 a1 a2 a3 m)) (i + (0 : Nat)) (0 : Int)) = AV.int IntKind.i64 (List.getD (S7.m (pubOf r0 r1 r2 r3 ms a0 a1 a2 a3 m)) i (0 : Int))) ∧ (pa = pa) ∧ (S7.r0 (pubOf r0 r1 r2 r3 ms b0 b1 b2 b3 m') = S7.r0 (pubOf r0 r1 r2 r3 ms b0 b1 b2 b3 m')) ∧ (S7.r1 (pubOf r0 r1 r2 r3 ms b0 b1 b2 b3 m') = S7.r1 (pubOf r0 r1 r2 r3 ms b0 b1 b2 b3 m')) ∧ Z
theorem frA7i7_mk (r0 : Int) (r1 : Int) (r2 : Int) (r3 : Int) (ms : List Mm) (a0 : Int) (a1 : Int) (a2 : Int) (a3 : Int) (pa : Int) (b0 : Int) (b1 : Int) (b2 : Int) (b3 : Int) (m : List Int) (m' : List Int) {Z : Prop} (z : Z) : frA7i7 r0 r1 r2 r3 ms a0 a1 a2 a3 pa b0 b1 b2 b3 m m' Z := ⟨rfl, rfl, rfl, rfl, rfl, (fun _ _ _ _ => rfl), rfl, rfl, rfl, z⟩
def frA7i8 (b2 : Int) (b3 : Int) (pb : Int) (m' : List Int) (Z : Prop) : Prop := (b2 = b2) ∧ (b3 = b3) ∧ (List.length m' = List.length m') ∧ (∀ (i : Nat), i < List.length m' → ∀ (j : Nat), j < (1 : Nat) → AV.int IntKind.i64 (List.getD m' i (0 : Int)) = AV.int IntKind.i64 (List.getD m' i (0 : Int))) ∧ (pb = pb) ∧ Z
theorem frA7i8_mk (b2 : Int) (b3 : Int) (pb : Int) (m' : List Int) {Z : Prop} (z : Z) : frA7i8 b2 b3 pb m' Z := ⟨rfl, rfl, rfl, (fun _ _ _ _ => rfl), rfl, z⟩
def frA7i9 (W : Int) (r0 : Int) (r1 : Int) (r2 : Int) (r3 : Int) (ms : List Mm) (b0 : Int) (b1 : Int) (Z : Prop) : Prop := (W = W) ∧ (r0 = r0) ∧ (r1 = r1) ∧ (r2 = r2) ∧ (r3 = r3) ∧ (List.length ms = List.length ms) ∧ (∀ (i : Nat), i < List.length ms → ∀ (j : Nat), j < (3 : Nat) → rowL mmC ms i j = rowL mmC ms i j) ∧ (b0 = b0) ∧ (b1 = b1) ∧ Z
theorem frA7i9_mk (W : Int) (r0 : Int) (r1 : Int) (r2 : Int) (r3 : Int) (ms : List Mm) (b0 : Int) (b1 : Int) {Z : Prop} (z : Z) : frA7i9 W r0 r1 r2 r3 ms b0 b1 Z := ⟨rfl, rfl, rfl, rfl, rfl, rfl, (fun _ _ _ _ => rfl), rfl, rfl, z⟩
def frA7i10 (a2 : Int) (a3 : Int) (pa : Int) (m : List Int) (Z : Prop) : Prop := (a2 = a2) ∧ (a3 = a3) ∧ (List.length m = List.length m) ∧ (∀ (i : Nat), i < List.length m → ∀ (j : Nat), j < (1 : Nat) → AV.int IntKind.i64 (List.getD m i (0 : Int)) = AV.int IntKind.i64 (List.getD m i (0 : Int))) ∧ (pa = pa) ∧ Z
theorem frA7i10_mk (a2 : Int) (a3 : Int) (pa : Int) (m : List Int) {Z : Prop} (z : Z) : frA7i10 a2 a3 pa m Z := ⟨rfl, rfl, rfl, (fun _ _ _ _ => rfl), rfl, z⟩
def frA7i11 (W : Int) (r0 : Int) (r1 : Int) (r2 : Int) (r3 : Int) (ms : List Mm) (a0 : Int) (a1 : Int) (Z : Prop) : Prop := (W = W) ∧ (r0 = r0) ∧ (r1 = r1) ∧ (r2 = r2) ∧ (r3 = r3) ∧ (List.length ms = List.length ms) ∧ (∀ (i : Nat), i < List.length ms → ∀ (j : Nat), j < (3 : Nat) → rowL mmC ms i j = rowL mmC ms i j) ∧ (a0 = a0) ∧ (a1 = a1) ∧ Z
theorem frA7i11_mk (W : Int) (r0 : Int) (r1 : Int) (r2 : Int) (r3 : Int) (ms : List Mm) (a0 : Int) (a1 : Int) {Z : Prop} (z : Z) : frA7i11 W r0 r1 r2 r3 ms a0 a1 Z := ⟨rfl, rfl, rfl, rfl, rfl, rfl, (fun _ _ _ _ => rfl), rfl, rfl, z⟩
theorem low_nn (W r0 r1 r2 r3 : Int) (ms : List Mm) (a0 a1 a2 a3 pa b0 b1 b2 b3 pb : Int) (m m' : List Int) (h64 : ms.length < 4611686018427387904) (hs : sumN ms ≤ 16) (hm : m.length = sumN ms) (hm' : m'.length = sumN ms) : Vc (vcFn Try.prog false 14 [.agg (progL W r0 r1 r2 r3 (memR ms)), .agg (stA a0 a1 a2 a3 m .nils pa), .agg (stA b0 b1 b2 b3 m' .nils pb)] [.cl [.agg (progL W r0 r1 r2 r3 (memR ms))] (.int .i64 (sumN ms)) [], .b false, .b false, .b false, .b false, .b false, .b false, .b false, .cl [.agg (progL W r0 r1 r2 r3 (memR ms)), .agg (stA a0 a1 a2 a3 m .nils pa)] (.agg (stD (pubOf r0 r1 r2 r3 ms a0 a1 a2 a3 m) (.own 0 0 1 0 (pubOf r0 r1 r2 r3 ms a0 a1 a2 a3 m).m.length) .nils pa)) [blkI (pubOf r0 r1 r2 r3 ms a0 a1 a2 a3 m).m], .cl [.agg (progL W r0 r1 r2 r3 (memR ms)), .agg (stA b0 b1 b2 b3 m' .nils pb)] (.agg (stD (pubOf r0 r1 r2 r3 ms b0 b1 b2 b3 m') (.own 0 0 1 0 (pubOf r0 r1 r2 r3 ms b0 b1 b2 b3 m').m.length) .nils pb)) [blkI (pubOf r0 r1 r2 r3 ms b0 b1 b2 b3 m').m], .cl [.agg (stA (pubOf r0 r1 r2 r3 ms a0 a1 a2 a3 m).r0 (pubOf r0 r1 r2 r3 ms a0 a1 a2 a3 m).r1 (pubOf r0 r1 r2 r3 ms a0 a1 a2 a3 m).r2 (pubOf r0 r1 r2 r3 ms a0 a1 a2 a3 m).r3 (pubOf r0 r1 r2 r3 ms a0 a1 a2 a3 m).m .nils pa), .agg (stA (pubOf r0 r1 r2 r3 ms b0 b1 b2 b3 m').r0 (pubOf r0 r1 r2 r3 ms b0 b1 b2 b3 m').r1 (pubOf r0 r1 r2 r3 ms b0 b1 b2 b3 m').r2 (pubOf r0 r1 r2 r3 ms b0 b1 b2 b3 m').r3 (pubOf r0 r1 r2 r3 ms b0 b1 b2 b3 m').m .nils pb)] (.bool (lowB r0 r1 r2 r3 ms a0 a1 a2 a3 m [] pa b0 b1 b2 b3 m' [] pb)) []] [] (.bool (lowB r0 r1 r2 r3 ms a0 a1 a2 a3 m [] pa b0 b1 b2 b3 m' [] pb)) []) :=
  vc_of (q := (frA7i4 W r0 r1 r2 r3 ms ((PureC Try.prog 8 [.agg (progL W r0 r1 r2 r3 (memR ms))] (.int .i64 (sumN ms)) []) ∧ (((↑(List.length m) : Int) != (↑(sumN ms) : Int)) = false) ∧ (((↑(List.length m) : Int) != (↑(sumN ms) : Int)) = false) ∧ (((↑(List.length m) : Int) != (↑(sumN ms) : Int)) = false) ∧ (((↑(List.length m) : Int) != (↑(sumN ms) : Int)) = false) ∧ (((↑(List.length m) : Int) != (↑(sumN ms) : Int)) = false) ∧ (((↑(List.length m) : Int) != (↑(sumN ms) : Int)) = false) ∧ (((↑(List.length m') : Int) != (↑(sumN ms) : Int)) = false) ∧ (frA7i11 W r0 r1 r2 r3 ms a0 a1 ((frA7i10 a2 a3 pa m ((PureC Try.prog 29 [.agg (progL W r0 r1 r2 r3 (memR ms)), .agg (stA a0 a1 a2 a3 m .nils pa)] (.agg (stD (pubOf r0 r1 r2 r3 ms a0 a1 a2 a3 m) (.own 0 0 1 0 (pubOf r0 r1 r2 r3 ms a0 a1 a2 a3 m).m.length) .nils pa)) [blkI (pubOf r0 r1 r2 r3 ms a0 a1 a2 a3 m).m]) ∧ (frA7i9 W r0 r1 r2 r3 ms b0 b1 ((frA7i8 b2 b3 pb m' ((PureC Try.prog 29 [.agg (progL W r0 r1 r2 r3 (memR ms)), .agg (stA b0 b1 b2 b3 m' .nils pb)] (.agg (stD (pubOf r0 r1 r2 r3 ms b0 b1 b2 b3 m') (.own 0 0 1 0 (pubOf r0 r1 r2 r3 ms b0 b1 b2 b3 m').m.length) .nils pb)) [blkI (pubOf r0 r1 r2 r3 ms b0 b1 b2 b3 m').m]) ∧ (frA7i7 r0 r1 r2 r3 ms a0 a1 a2 a3 pa b0 b1 b2 b3 m m' ((S7.r2 (pubOf r0 r1 r2 r3 ms b0 b1 b2 b3 m') = S7.r2 (pubOf r0 r1 r2 r3 ms b0 b1 b2 b3 m')) ∧ (S7.r3 (pubOf r0 r1 r2 r3 ms b0 b1 b2 b3 m') = S7.r3 (pubOf r0 r1 r2 r3 ms b0 b1 b2 b3 m')) ∧ (List.length (S7.m (pubOf r0 r1 r2 r3 ms b0 b1 b2 b3 m')) = List.length (S7.m (pubOf r0 r1 r2 r3 ms b0 b1 b2 b3 m'))) ∧ (∀ (i : Nat), i < List.length (S7.m (pubOf r0 r1 r2 r3 ms b0 b1 b2 b3 m')) → ∀ (j : Nat), j < (1 : Nat) → AV.int IntKind.i64 (List.getD (S7.m (pubOf r0 r1 r2 r3 ms b0 b1 b2 b3 m')) (i + (0 : Nat)) (0 : Int)) = AV.int IntKind.i64 (List.getD (S7.m (pubOf r0 r1 r2 r3 ms b0 b1 b2 b3 m')) i (0 : Int))) ∧ (pb = pb) ∧ (PureC Try.prog 28 [.agg (stA (pubOf r0 r1 r2 r3 ms a0 a1 a2 a3 m).r0 (pubOf r0 r1 r2 r3 ms a0 a1 a2 a3 m).r1 (pubOf r0 r1 r2 r3 ms a0 a1 a2 a3 m).r2 (pubOf r0 r1 r2 r3 ms a0 a1 a2 a3 m).r3 (pubOf r0 r1 r2 r3 ms a0 a1 a2 a3 m).m .nils pa), .agg (stA (pubOf r0 r1 r2 r3 ms b0 b1 b2 b3 m').r0 (pubOf r0 r1 r2 r3 ms b0 b1 b2 b3 m').r1 (pubOf r0 r1 r2 r3 ms b0 b1 b2 b3 m').r2 (pubOf r0 r1 r2 r3 ms b0 b1 b2 b3 m').r3 (pubOf r0 r1 r2 r3 ms b0 b1 b2 b3 m').m .nils pb)] (.bool (lowB r0 r1 r2 r3 ms a0 a1 a2 a3 m [] pa b0 b1 b2 b3 m' [] pb)) []) ∧ (lowB r0 r1 r2 r3 ms a0 a1 a2 a3 m [] pa b0 b1 b2 b3 m' [] pb = lowB r0 r1 r2 r3 ms a0 a1 a2 a3 m [] pa b0 b1 b2 b3 m' [] pb) ∧ True))))))))))))) (by kernel_rfl)
    (frA7i4_mk W r0 r1 r2 r3 ms ⟨archCells W r0 r1 r2 r3 ms h64 hs,
 (by first | (rw [hm]; simp) | (rw [hm']; simp)),
 (by first | (rw [hm]; simp) | (rw [hm']; simp)),
 (by first | (rw [hm]; simp) | (rw [hm']; simp)),
 (by first | (rw [hm]; simp) | (rw [hm']; simp)),
 (by first | (rw [hm]; simp) | (rw [hm']; simp)),
 (by first | (rw [hm]; simp) | (rw [hm']; simp)),
 (by first | (rw [hm]; simp) | (rw [hm']; simp)), (frA7i11_mk W r0 r1 r2 r3 ms a0 a1 (frA7i10_mk a2 a3 pa m ⟨publicC_n W r0 r1 r2 r3 ms a0 a1 a2 a3 pa m h64 hs hm, (frA7i9_mk W r0 r1 r2 r3 ms b0 b1 (frA7i8_mk b2 b3 pb m' ⟨publicC_n W r0 r1 r2 r3 ms b0 b1 b2 b3 pb m' h64 hs hm', (frA7i7_mk r0 r1 r2 r3 ms a0 a1 a2 a3 pa b0 b1 b2 b3 m m' ⟨rfl,
 rfl,
 rfl,
 (fun _ _ _ _ => rfl),
 rfl,
 same_nn _ _ _ _ pa _ _ _ _ pb _ _ (by rw [pubOf_len]; omega) (by rw [pubOf_len]; omega),
 rfl, trivial⟩)⟩))⟩))⟩)
theorem lowC_nn (W r0 r1 r2 r3 : Int) (ms : List Mm) (a0 a1 a2 a3 pa b0 b1 b2 b3 pb : Int) (m m' : List Int) (h64 : ms.length < 4611686018427387904) (hs : sumN ms ≤ 16) (hm : m.length = sumN ms) (hm' : m'.length = sumN ms) : PureC Try.prog 14 [.agg (progL W r0 r1 r2 r3 (memR ms)), .agg (stA a0 a1 a2 a3 m .nils pa), .agg (stA b0 b1 b2 b3 m' .nils pb)] (.bool (lowB r0 r1 r2 r3 ms a0 a1 a2 a3 m [] pa b0 b1 b2 b3 m' [] pb)) [] := PureC.vc (low_nn W r0 r1 r2 r3 ms a0 a1 a2 a3 pa b0 b1 b2 b3 pb m m' h64 hs hm hm')
end Go.Proofs.Ytdbnfdcjibgikaa.Px
