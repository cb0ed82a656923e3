/- The state at the beginning, as the program has it. -/
import Derived.Test.YtdbnfdcjibgikaaA7e
import Derived.Test.YtdbnfdcjibgikaaWdMask
set_option linter.unusedVariables false
set_option linter.unusedSimpArgs false
set_option maxRecDepth 100000
namespace Go.Proofs.Ytdbnfdcjibgikaa.Px
open Go.RowKit Go.Proofs.Ytdbnfdcjibgikaa.Rx
structure S7 where
  r0 : Int
  r1 : Int
  r2 : Int
  r3 : Int
  m : List Int
def put7 (s : S7) (p : Pl) (v : Int) : S7 :=
  if p.reg = true then (if p.n = 0 then { s with r0 := v } else if p.n = 1 then { s with r1 := v } else if p.n = 2 then { s with r2 := v } else { s with r3 := v }) else { s with m := s.m.set p.n v }
def putK (W : Int) (pl : List Pl) (l : List Int) (s0 : S7) : Nat → S7
  | 0 => s0
  | k + 1 => put7 (putK W pl l s0 k) (pl.getD k default) (Wd.maskV W (l.getD k 0))
def zer7 (N : Nat) : S7 := ⟨0, 0, 0, 0, List.replicate N 0⟩
def plOk (N : Nat) (p : Pl) : Prop := (p.reg = true → p.n < 4) ∧ (p.reg = false → p.n < N)
def stZ (a : AV) : List AV := [.int .i64 0, .int .i64 0, .int .i64 0, .int .i64 0, a, .nils, .int .i64 0]
def stC (s : S7) (a : AV) : List AV := [.int .i64 s.r0, .int .i64 s.r1, .int .i64 s.r2, .int .i64 s.r3, a, .nils, .int .i64 0]
def bx (e : TypeId) (cs : List AV) : Blk := ⟨0, false, e, .box cs⟩
def asS (cs : List AV) (pl : List Pl) (l : List Int) (s : S7) (k : Nat) : Sm := ⟨[(23, .int .i64 pl.length), (22, .own 2 0 3 0 pl.length), (2, .bptr 0 0), (1, .row 1 l.length (rowI l)), (7, .bptr 4 0), (4, .bptr 1 0), (5, .bool false), (24, .int .i64 k)],
  [(0, bx 31 cs), (1, bx 45 (stZ .nils)), (2, plB pl), (3, blkI s.m), (4, bx 45 (stC s (.own 3 0 1 0 s.m.length)))], 5⟩
theorem put7_len (s : S7) (p : Pl) (v : Int) : (put7 s p v).m.length = s.m.length := by
  unfold put7
  repeat' split
  all_goals first | rfl | simp
theorem putK_len (W : Int) (pl : List Pl) (l : List Int) (s : S7) (k : Nat) : (putK W pl l s k).m.length = s.m.length := by
  induction k with
  | zero => rfl
  | succ k ih => rw [putK, put7_len, ih]
theorem rowI_set {m : List Int} {n i j : Nat} {v : Int} {a : AV} (hi : i < m.length) (ha : a = .int .i64 v) : (bif Nat.beq i n then a else rowI m i j) = rowI (m.set n v) i j := by
  unfold rowI
  subst ha
  by_cases h : i = n
  · subst h
    simp [List.getD, hi]
  · have : Nat.beq i n = false := by
      cases hb : Nat.beq i n with
      | false => rfl
      | true => exact absurd (Nat.eq_of_beq_eq_true hb) h
    rw [this]
    simp [List.getD, List.getElem?_set, Ne.symm h]
theorem set_row {m : List Int} {n : Nat} {v : Int} : ∀ i, i < m.length → ∀ j, j < 1 → (bif Nat.beq i (n + 0) && Nat.ble 0 j && Nat.blt j 1 then [AV.int .i64 v].getD (j - 0) .junk else AV.int .i64 (m.getD i 0)) = .int .i64 ((m.set n v).getD i 0) := by
  intro i hi j hj
  obtain rfl : j = 0 := by omega
  show (bif Nat.beq i n && true && true then AV.int .i64 v else AV.int .i64 (m.getD i 0)) = _
  rw [Bool.and_true, Bool.and_true]
  exact rowI_set (m := m) (i := i) (j := 0) (n := n) (v := v) hi rfl
theorem rowI_rep {N : Nat} {a : AV} (ha : a = .int .i64 0) (i j : Nat) (hi : i < N) : a = rowI (List.replicate N 0) i j := by
  unfold rowI
  rw [ha]
  simp [List.getD, hi]
theorem places_ok (r : Nat → Int) (ms : List Mm) : ∀ p ∈ places r ms, plOk (sumN ms) p := by
  intro p hp
  rcases List.mem_append.1 hp with hp | hp
  · have key : ∀ k, p ∈ regL r k → p.reg = true ∧ p.n < k := by
      intro k
      induction k with
      | zero => intro h; cases h
      | succ k ih =>
        intro h
        rcases List.mem_append.1 h with h | h
        · have := ih h; exact ⟨this.1, by omega⟩
        · split at h
          · cases h
          · rw [List.mem_singleton] at h
            subst h
            exact ⟨rfl, Nat.lt_succ_self k⟩
    have := key 4 hp
    exact ⟨fun _ => this.2, fun h => by rw [this.1] at h; cases h⟩
  · have key : ∀ (l : List Mm) (at_ : Nat), p ∈ memL at_ l → p.reg = false ∧ p.n < at_ + sumN l := by
      intro l
      induction l with
      | nil => intro at_ h; cases h
      | cons m l ih =>
        intro at_ h
        rcases List.mem_append.1 h with h | h
        · obtain ⟨i, hi, rfl⟩ := List.mem_map.1 h
          rw [List.mem_range] at hi
          refine ⟨rfl, ?_⟩
          show at_ + i < _
          simp only [sumN]; omega
        · have := ih _ h
          refine ⟨this.1, ?_⟩
          simp only [sumN]; omega
    have := key ms 0 hp
    exact ⟨fun h => (by rw [this.1] at h; cases h), fun _ => by omega⟩
theorem places_length (r : Nat → Int) (ms : List Mm) : (places r ms).length ≤ 4 + sumN ms := by
  have := regL_le r 4
  have h2 := memL_length 0 ms
  simp only [places, List.length_append]; omega
theorem getD_mem {pl : List Pl} {k : Nat} (h : k < pl.length) : pl.getD k default ∈ pl := by
  simp [List.getD, h]
def frA7f0 (r2 : Int) (r3 : Int) (pl : List Pl) (l : List Int) (s : S7) (Z : Prop) : Prop := (S7.r2 s = S7.r2 s) ∧ (S7.r3 s = S7.r3 s) ∧ ((0 : Nat) = (0 : Nat)) ∧ (List.length (S7.m s) = List.length (S7.m s)) ∧ ((0 : Int) = (0 : Int)) ∧ ((↑(List.length pl) : Int) = (↑(List.length pl) : Int)) ∧ ((0 : Nat) = (0 : Nat)) ∧ (List.length pl = List.length pl) ∧ (List.length l = List.length l) ∧ Z
theorem frA7f0_mk (r2 : Int) (r3 : Int) (pl : List Pl) (l : List Int) (s : S7) {Z : Prop} (z : Z) : frA7f0 r2 r3 pl l s Z := ⟨rfl, rfl, rfl, rfl, rfl, rfl, rfl, rfl, rfl, z⟩
def frA7f1 (W : Int) (r0 : Int) (r1 : Int) (r2 : Int) (r3 : Int) (ms : List Mm) (Z : Prop) : Prop := (W = W) ∧ (r0 = r0) ∧ (r1 = r1) ∧ (r2 = r2) ∧ (r3 = r3) ∧ (List.length ms = List.length ms) ∧ (∀ (i : Nat), i < List.length ms → ∀ (j : Nat), j < (3 : Nat) → rowL mmC ms i j = rowL mmC ms i j) ∧ ((0 : Int) = (0 : Int)) ∧ ((0 : Int) = (0 : Int)) ∧ Z
theorem frA7f1_mk (W : Int) (r0 : Int) (r1 : Int) (r2 : Int) (r3 : Int) (ms : List Mm) {Z : Prop} (z : Z) : frA7f1 W r0 r1 r2 r3 ms Z := ⟨rfl, rfl, rfl, rfl, rfl, rfl, (fun _ _ _ _ => rfl), rfl, rfl, z⟩
theorem as_reg0 (W r0 r1 r2 r3 : Int) (ms : List Mm) (pl : List Pl) (l : List Int) (s : S7) (k : Nat) (hk : k < pl.length) (hl : l.length = pl.length) (hp : pl.length < 1000000) (hr : (pl.getD k default).reg = true) (hn : (pl.getD k default).n = 0) : Vc (vcC Try.prog false (ntOf Try.prog 12) (lpC Try.prog 12 0) (asS (progL W r0 r1 r2 r3 (memR ms)) pl l s k) [.b true, .cl [.int .i64 W, .int .i64 (l.getD k 0)] (.int .i64 (Wd.maskV W (l.getD k 0))) [], .b true, .ix 0] .nrm [(0, 0), (1, 1), (2, 2), (3, 3), (4, 4)] (asS (progL W r0 r1 r2 r3 (memR ms)) pl l { s with r0 := Wd.maskV W (l.getD k 0) } (k + 1))) :=
  vc_of (q := (decide ((↑k : Int) < (↑(List.length pl) : Int)) = true) ∧ ((0 : Int) ≤ (↑k : Int) ∧ (↑k : Int) < (↑(List.length pl) : Int)) ∧ (k + (0 : Nat) < List.length pl) ∧ ((0 : Int) ≤ (↑k : Int) ∧ (↑k : Int) < (↑(List.length l) : Int)) ∧ (W = W) ∧ (List.getD l k (0 : Int) = List.getD l k (0 : Int)) ∧ (PureC Try.prog 25 [.int .i64 W, .int .i64 (l.getD k 0)] (.int .i64 (Wd.maskV W (l.getD k 0))) []) ∧ (Pl.reg (List.getD pl (k + (0 : Nat)) Inhabited.default) = true) ∧ ((↑(Pl.n (List.getD pl (k + (0 : Nat)) Inhabited.default)) : Int) = (↑(0 : Nat) : Int)) ∧ (inK IntKind.i64 ((↑k : Int) + (1 : Int))) ∧ (frA7f1 W r0 r1 r2 r3 ms (((0 : Int) = (0 : Int)) ∧ ((0 : Int) = (0 : Int)) ∧ ((0 : Int) = (0 : Int)) ∧ (List.length pl = List.length pl) ∧ (∀ (i : Nat), i < List.length pl → ∀ (j : Nat), j < (3 : Nat) → rowL plC pl i j = rowL plC pl i j) ∧ (List.length (S7.m s) = List.length (S7.m s)) ∧ (∀ (i : Nat), i < List.length (S7.m s) → ∀ (j : Nat), j < (1 : Nat) → AV.int IntKind.i64 (List.getD (S7.m s) i (0 : Int)) = AV.int IntKind.i64 (List.getD (S7.m s) i (0 : Int))) ∧ (Wd.maskV W (List.getD l k (0 : Int)) = Wd.maskV W (List.getD l k (0 : Int))) ∧ (S7.r1 s = S7.r1 s) ∧ (frA7f0 r2 r3 pl l s ((∀ (i : Nat), i < List.length l → ∀ (j : Nat), j < (1 : Nat) → AV.int IntKind.i64 (List.getD l i (0 : Int)) = AV.int IntKind.i64 (List.getD l i (0 : Int))) ∧ (false = false) ∧ ((↑k : Int) + (1 : Int) = (↑(k + (1 : Nat)) : Int)) ∧ True))))) (by kernel_rfl)
    ⟨(decide_eq_true (by first | omega | (simp; omega) | (simp; done))),
 (by first | omega | rfl),
 (by first | omega | rfl),
 (by first | omega | rfl),
 rfl,
 rfl,
 maskC W (l.getD k 0),
 hr,
 (congrArg Int.ofNat hn),
 (in64 (by omega) (by omega)), (frA7f1_mk W r0 r1 r2 r3 ms ⟨rfl,
 rfl,
 rfl,
 rfl,
 (fun _ _ _ _ => rfl),
 rfl,
 (fun _ _ _ _ => rfl),
 rfl,
 rfl, (frA7f0_mk r2 r3 pl l s ⟨(fun _ _ _ _ => rfl),
 rfl,
 (by first | omega | rfl), trivial⟩)⟩)⟩
theorem as_reg1 (W r0 r1 r2 r3 : Int) (ms : List Mm) (pl : List Pl) (l : List Int) (s : S7) (k : Nat) (hk : k < pl.length) (hl : l.length = pl.length) (hp : pl.length < 1000000) (hr : (pl.getD k default).reg = true) (hn : (pl.getD k default).n = 1) : Vc (vcC Try.prog false (ntOf Try.prog 12) (lpC Try.prog 12 0) (asS (progL W r0 r1 r2 r3 (memR ms)) pl l s k) [.b true, .cl [.int .i64 W, .int .i64 (l.getD k 0)] (.int .i64 (Wd.maskV W (l.getD k 0))) [], .b true, .ix 1] .nrm [(0, 0), (1, 1), (2, 2), (3, 3), (4, 4)] (asS (progL W r0 r1 r2 r3 (memR ms)) pl l { s with r1 := Wd.maskV W (l.getD k 0) } (k + 1))) :=
  vc_of (q := (decide ((↑k : Int) < (↑(List.length pl) : Int)) = true) ∧ ((0 : Int) ≤ (↑k : Int) ∧ (↑k : Int) < (↑(List.length pl) : Int)) ∧ (k + (0 : Nat) < List.length pl) ∧ ((0 : Int) ≤ (↑k : Int) ∧ (↑k : Int) < (↑(List.length l) : Int)) ∧ (W = W) ∧ (List.getD l k (0 : Int) = List.getD l k (0 : Int)) ∧ (PureC Try.prog 25 [.int .i64 W, .int .i64 (l.getD k 0)] (.int .i64 (Wd.maskV W (l.getD k 0))) []) ∧ (Pl.reg (List.getD pl (k + (0 : Nat)) Inhabited.default) = true) ∧ ((↑(Pl.n (List.getD pl (k + (0 : Nat)) Inhabited.default)) : Int) = (↑(1 : Nat) : Int)) ∧ (inK IntKind.i64 ((↑k : Int) + (1 : Int))) ∧ (frA7f1 W r0 r1 r2 r3 ms (((0 : Int) = (0 : Int)) ∧ ((0 : Int) = (0 : Int)) ∧ ((0 : Int) = (0 : Int)) ∧ (List.length pl = List.length pl) ∧ (∀ (i : Nat), i < List.length pl → ∀ (j : Nat), j < (3 : Nat) → rowL plC pl i j = rowL plC pl i j) ∧ (List.length (S7.m s) = List.length (S7.m s)) ∧ (∀ (i : Nat), i < List.length (S7.m s) → ∀ (j : Nat), j < (1 : Nat) → AV.int IntKind.i64 (List.getD (S7.m s) i (0 : Int)) = AV.int IntKind.i64 (List.getD (S7.m s) i (0 : Int))) ∧ (S7.r0 s = S7.r0 s) ∧ (Wd.maskV W (List.getD l k (0 : Int)) = Wd.maskV W (List.getD l k (0 : Int))) ∧ (frA7f0 r2 r3 pl l s ((∀ (i : Nat), i < List.length l → ∀ (j : Nat), j < (1 : Nat) → AV.int IntKind.i64 (List.getD l i (0 : Int)) = AV.int IntKind.i64 (List.getD l i (0 : Int))) ∧ (false = false) ∧ ((↑k : Int) + (1 : Int) = (↑(k + (1 : Nat)) : Int)) ∧ True))))) (by kernel_rfl)
    ⟨(decide_eq_true (by first | omega | (simp; omega) | (simp; done))),
 (by first | omega | rfl),
 (by first | omega | rfl),
 (by first | omega | rfl),
 rfl,
 rfl,
 maskC W (l.getD k 0),
 hr,
 (congrArg Int.ofNat hn),
 (in64 (by omega) (by omega)), (frA7f1_mk W r0 r1 r2 r3 ms ⟨rfl,
 rfl,
 rfl,
 rfl,
 (fun _ _ _ _ => rfl),
 rfl,
 (fun _ _ _ _ => rfl),
 rfl,
 rfl, (frA7f0_mk r2 r3 pl l s ⟨(fun _ _ _ _ => rfl),
 rfl,
 (by first | omega | rfl), trivial⟩)⟩)⟩
def frA7f2 (r0 : Int) (r1 : Int) (pl : List Pl) (s : S7) (Z : Prop) : Prop := ((0 : Int) = (0 : Int)) ∧ ((0 : Int) = (0 : Int)) ∧ ((0 : Int) = (0 : Int)) ∧ (List.length pl = List.length pl) ∧ (∀ (i : Nat), i < List.length pl → ∀ (j : Nat), j < (3 : Nat) → rowL plC pl i j = rowL plC pl i j) ∧ (List.length (S7.m s) = List.length (S7.m s)) ∧ (∀ (i : Nat), i < List.length (S7.m s) → ∀ (j : Nat), j < (1 : Nat) → AV.int IntKind.i64 (List.getD (S7.m s) i (0 : Int)) = AV.int IntKind.i64 (List.getD (S7.m s) i (0 : Int))) ∧ (S7.r0 s = S7.r0 s) ∧ (S7.r1 s = S7.r1 s) ∧ Z
theorem frA7f2_mk (r0 : Int) (r1 : Int) (pl : List Pl) (s : S7) {Z : Prop} (z : Z) : frA7f2 r0 r1 pl s Z := ⟨rfl, rfl, rfl, rfl, (fun _ _ _ _ => rfl), rfl, (fun _ _ _ _ => rfl), rfl, rfl, z⟩
theorem as_reg2 (W r0 r1 r2 r3 : Int) (ms : List Mm) (pl : List Pl) (l : List Int) (s : S7) (k : Nat) (hk : k < pl.length) (hl : l.length = pl.length) (hp : pl.length < 1000000) (hr : (pl.getD k default).reg = true) (hn : (pl.getD k default).n = 2) : Vc (vcC Try.prog false (ntOf Try.prog 12) (lpC Try.prog 12 0) (asS (progL W r0 r1 r2 r3 (memR ms)) pl l s k) [.b true, .cl [.int .i64 W, .int .i64 (l.getD k 0)] (.int .i64 (Wd.maskV W (l.getD k 0))) [], .b true, .ix 2] .nrm [(0, 0), (1, 1), (2, 2), (3, 3), (4, 4)] (asS (progL W r0 r1 r2 r3 (memR ms)) pl l { s with r2 := Wd.maskV W (l.getD k 0) } (k + 1))) :=
  vc_of (q := (decide ((↑k : Int) < (↑(List.length pl) : Int)) = true) ∧ ((0 : Int) ≤ (↑k : Int) ∧ (↑k : Int) < (↑(List.length pl) : Int)) ∧ (k + (0 : Nat) < List.length pl) ∧ ((0 : Int) ≤ (↑k : Int) ∧ (↑k : Int) < (↑(List.length l) : Int)) ∧ (W = W) ∧ (List.getD l k (0 : Int) = List.getD l k (0 : Int)) ∧ (PureC Try.prog 25 [.int .i64 W, .int .i64 (l.getD k 0)] (.int .i64 (Wd.maskV W (l.getD k 0))) []) ∧ (Pl.reg (List.getD pl (k + (0 : Nat)) Inhabited.default) = true) ∧ ((↑(Pl.n (List.getD pl (k + (0 : Nat)) Inhabited.default)) : Int) = (↑(2 : Nat) : Int)) ∧ (inK IntKind.i64 ((↑k : Int) + (1 : Int))) ∧ (frA7f1 W r0 r1 r2 r3 ms ((frA7f2 r0 r1 pl s ((Wd.maskV W (List.getD l k (0 : Int)) = Wd.maskV W (List.getD l k (0 : Int))) ∧ (S7.r3 s = S7.r3 s) ∧ ((0 : Nat) = (0 : Nat)) ∧ (List.length (S7.m s) = List.length (S7.m s)) ∧ ((0 : Int) = (0 : Int)) ∧ ((↑(List.length pl) : Int) = (↑(List.length pl) : Int)) ∧ ((0 : Nat) = (0 : Nat)) ∧ (List.length pl = List.length pl) ∧ (List.length l = List.length l) ∧ (∀ (i : Nat), i < List.length l → ∀ (j : Nat), j < (1 : Nat) → AV.int IntKind.i64 (List.getD l i (0 : Int)) = AV.int IntKind.i64 (List.getD l i (0 : Int))) ∧ (false = false) ∧ ((↑k : Int) + (1 : Int) = (↑(k + (1 : Nat)) : Int)) ∧ True))))) (by kernel_rfl)
    ⟨(decide_eq_true (by first | omega | (simp; omega) | (simp; done))),
 (by first | omega | rfl),
 (by first | omega | rfl),
 (by first | omega | rfl),
 rfl,
 rfl,
 maskC W (l.getD k 0),
 hr,
 (congrArg Int.ofNat hn),
 (in64 (by omega) (by omega)), (frA7f1_mk W r0 r1 r2 r3 ms (frA7f2_mk r0 r1 pl s ⟨rfl,
 rfl,
 rfl,
 rfl,
 rfl,
 rfl,
 rfl,
 rfl,
 rfl,
 (fun _ _ _ _ => rfl),
 rfl,
 (by first | omega | rfl), trivial⟩))⟩
theorem as_reg3 (W r0 r1 r2 r3 : Int) (ms : List Mm) (pl : List Pl) (l : List Int) (s : S7) (k : Nat) (hk : k < pl.length) (hl : l.length = pl.length) (hp : pl.length < 1000000) (hr : (pl.getD k default).reg = true) (hn : (pl.getD k default).n = 3) : Vc (vcC Try.prog false (ntOf Try.prog 12) (lpC Try.prog 12 0) (asS (progL W r0 r1 r2 r3 (memR ms)) pl l s k) [.b true, .cl [.int .i64 W, .int .i64 (l.getD k 0)] (.int .i64 (Wd.maskV W (l.getD k 0))) [], .b true, .ix 3] .nrm [(0, 0), (1, 1), (2, 2), (3, 3), (4, 4)] (asS (progL W r0 r1 r2 r3 (memR ms)) pl l { s with r3 := Wd.maskV W (l.getD k 0) } (k + 1))) :=
  vc_of (q := (decide ((↑k : Int) < (↑(List.length pl) : Int)) = true) ∧ ((0 : Int) ≤ (↑k : Int) ∧ (↑k : Int) < (↑(List.length pl) : Int)) ∧ (k + (0 : Nat) < List.length pl) ∧ ((0 : Int) ≤ (↑k : Int) ∧ (↑k : Int) < (↑(List.length l) : Int)) ∧ (W = W) ∧ (List.getD l k (0 : Int) = List.getD l k (0 : Int)) ∧ (PureC Try.prog 25 [.int .i64 W, .int .i64 (l.getD k 0)] (.int .i64 (Wd.maskV W (l.getD k 0))) []) ∧ (Pl.reg (List.getD pl (k + (0 : Nat)) Inhabited.default) = true) ∧ ((↑(Pl.n (List.getD pl (k + (0 : Nat)) Inhabited.default)) : Int) = (↑(3 : Nat) : Int)) ∧ (inK IntKind.i64 ((↑k : Int) + (1 : Int))) ∧ (frA7f1 W r0 r1 r2 r3 ms ((frA7f2 r0 r1 pl s ((S7.r2 s = S7.r2 s) ∧ (Wd.maskV W (List.getD l k (0 : Int)) = Wd.maskV W (List.getD l k (0 : Int))) ∧ ((0 : Nat) = (0 : Nat)) ∧ (List.length (S7.m s) = List.length (S7.m s)) ∧ ((0 : Int) = (0 : Int)) ∧ ((↑(List.length pl) : Int) = (↑(List.length pl) : Int)) ∧ ((0 : Nat) = (0 : Nat)) ∧ (List.length pl = List.length pl) ∧ (List.length l = List.length l) ∧ (∀ (i : Nat), i < List.length l → ∀ (j : Nat), j < (1 : Nat) → AV.int IntKind.i64 (List.getD l i (0 : Int)) = AV.int IntKind.i64 (List.getD l i (0 : Int))) ∧ (false = false) ∧ ((↑k : Int) + (1 : Int) = (↑(k + (1 : Nat)) : Int)) ∧ True))))) (by kernel_rfl)
    ⟨(decide_eq_true (by first | omega | (simp; omega) | (simp; done))),
 (by first | omega | rfl),
 (by first | omega | rfl),
 (by first | omega | rfl),
 rfl,
 rfl,
 maskC W (l.getD k 0),
 hr,
 (congrArg Int.ofNat hn),
 (in64 (by omega) (by omega)), (frA7f1_mk W r0 r1 r2 r3 ms (frA7f2_mk r0 r1 pl s ⟨rfl,
 rfl,
 rfl,
 rfl,
 rfl,
 rfl,
 rfl,
 rfl,
 rfl,
 (fun _ _ _ _ => rfl),
 rfl,
 (by first | omega | rfl), trivial⟩))⟩
theorem as_mem (W r0 r1 r2 r3 : Int) (ms : List Mm) (pl : List Pl) (l : List Int) (s : S7) (k : Nat) (hk : k < pl.length) (hl : l.length = pl.length) (hp : pl.length < 1000000) (hr : (pl.getD k default).reg = false) (hn : (pl.getD k default).n < s.m.length) : Vc (vcC Try.prog false (ntOf Try.prog 12) (lpC Try.prog 12 0) (asS (progL W r0 r1 r2 r3 (memR ms)) pl l s k) [.b true, .cl [.int .i64 W, .int .i64 (l.getD k 0)] (.int .i64 (Wd.maskV W (l.getD k 0))) [], .b false] .nrm [(0, 0), (1, 1), (2, 2), (3, 3), (4, 4)] (asS (progL W r0 r1 r2 r3 (memR ms)) pl l { s with m := s.m.set (pl.getD k default).n (Wd.maskV W (l.getD k 0)) } (k + 1))) :=
  vc_of (q := (decide ((↑k : Int) < (↑(List.length pl) : Int)) = true) ∧ ((0 : Int) ≤ (↑k : Int) ∧ (↑k : Int) < (↑(List.length pl) : Int)) ∧ (k + (0 : Nat) < List.length pl) ∧ ((0 : Int) ≤ (↑k : Int) ∧ (↑k : Int) < (↑(List.length l) : Int)) ∧ (W = W) ∧ (List.getD l k (0 : Int) = List.getD l k (0 : Int)) ∧ (PureC Try.prog 25 [.int .i64 W, .int .i64 (l.getD k 0)] (.int .i64 (Wd.maskV W (l.getD k 0))) []) ∧ (Pl.reg (List.getD pl (k + (0 : Nat)) Inhabited.default) = false) ∧ ((0 : Int) ≤ (↑(Pl.n (List.getD pl (k + (0 : Nat)) Inhabited.default)) : Int) ∧ (↑(Pl.n (List.getD pl (k + (0 : Nat)) Inhabited.default)) : Int) < (↑(List.length (S7.m s)) : Int)) ∧ (Pl.n (List.getD pl (k + (0 : Nat)) Inhabited.default) + (0 : Nat) < List.length (S7.m s)) ∧ (inK IntKind.i64 ((↑k : Int) + (1 : Int))) ∧ (frA7f1 W r0 r1 r2 r3 ms (((0 : Int) = (0 : Int)) ∧ ((0 : Int) = (0 : Int)) ∧ ((0 : Int) = (0 : Int)) ∧ (List.length pl = List.length pl) ∧ (∀ (i : Nat), i < List.length pl → ∀ (j : Nat), j < (3 : Nat) → rowL plC pl i j = rowL plC pl i j) ∧ (List.length (S7.m s) = List.length (List.set (S7.m s) (Pl.n (List.getD pl k Inhabited.default)) (Wd.maskV W (List.getD l k (0 : Int))))) ∧ (∀ (i : Nat), i < List.length (S7.m s) → ∀ (j : Nat), j < (1 : Nat) → (bif Nat.beq i (Pl.n (List.getD pl (k + (0 : Nat)) Inhabited.default) + (0 : Nat)) && Nat.ble (0 : Nat) j && Nat.blt j (1 : Nat) then List.getD [AV.int IntKind.i64 (Wd.maskV W (List.getD l k (0 : Int)))] (j - (0 : Nat)) AV.junk else AV.int IntKind.i64 (List.getD (S7.m s) i (0 : Int))) = AV.int IntKind.i64 (List.getD (List.set (S7.m s) (Pl.n (List.getD pl k Inhabited.default)) (Wd.maskV W (List.getD l k (0 : Int)))) i (0 : Int))) ∧ (S7.r0 s = S7.r0 s) ∧ (S7.r1 s = S7.r1 s) ∧ (S7.r2 s = S7.r2 s) ∧ (S7.r3 s = S7.r3 s) ∧ ((0 : Nat) = (0 : Nat)) ∧ (List.length (S7.m s) = List.length (List.set (S7.m s) (Pl.n (List.getD pl k Inhabited.default)) (Wd.maskV W (List.getD l k (0 : Int))))) ∧ ((0 : Int) = (0 : Int)) ∧ ((↑(List.length pl) : Int) = (↑(List.length pl) : Int)) ∧ ((0 : Nat) = (0 : Nat)) ∧ (List.length pl = List.length pl) ∧ (List.length l = List.length l) ∧ (∀ (i : Nat), i < List.length l → ∀ (j : Nat), j < (1 : Nat) → AV.int IntKind.i64 (List.getD l i (0 : Int)) = AV.int IntKind.i64 (List.getD l i (0 : Int))) ∧ (false = false) ∧ ((↑k : Int) + (1 : Int) = (↑(k + (1 : Nat)) : Int)) ∧ True))) (by kernel_rfl)
    ⟨(decide_eq_true (by first | omega | (simp; omega) | (simp; done))),
 (by first | omega | rfl),
 (by first | omega | rfl),
 (by first | omega | rfl),
 rfl,
 rfl,
 maskC W (l.getD k 0),
 hr,
 ⟨Int.natCast_nonneg _, Int.ofNat_lt.2 hn⟩,
 hn,
 (in64 (by omega) (by omega)), (frA7f1_mk W r0 r1 r2 r3 ms ⟨rfl,
 rfl,
 rfl,
 rfl,
 (fun _ _ _ _ => rfl),
 List.length_set.symm,
 set_row,
 rfl,
 rfl,
 rfl,
 rfl,
 rfl,
 List.length_set.symm,
 rfl,
 rfl,
 rfl,
 rfl,
 rfl,
 (fun _ _ _ _ => rfl),
 rfl,
 (by first | omega | rfl), trivial⟩)⟩
theorem as_end (W r0 r1 r2 r3 : Int) (ms : List Mm) (pl : List Pl) (l : List Int) (s : S7) : Vc (vcC Try.prog false (ntOf Try.prog 12) (lpC Try.prog 12 0) (asS (progL W r0 r1 r2 r3 (memR ms)) pl l s pl.length) [.b false] (.ext 0) [(0, 0), (1, 1), (2, 2), (3, 3), (4, 4)] (asS (progL W r0 r1 r2 r3 (memR ms)) pl l s pl.length)) :=
  vc_of (q := (decide ((↑(List.length pl) : Int) < (↑(List.length pl) : Int)) = false) ∧ (frA7f1 W r0 r1 r2 r3 ms ((frA7f2 r0 r1 pl s ((frA7f0 r2 r3 pl l s ((∀ (i : Nat), i < List.length l → ∀ (j : Nat), j < (1 : Nat) → AV.int IntKind.i64 (List.getD l i (0 : Int)) = AV.int IntKind.i64 (List.getD l i (0 : Int))) ∧ (false = false) ∧ ((↑(List.length pl) : Int) = (↑(List.length pl) : Int)) ∧ True))))))) (by kernel_rfl)
    ⟨(decide_eq_false (by first | omega | (simp; omega) | (simp; done))), (frA7f1_mk W r0 r1 r2 r3 ms (frA7f2_mk r0 r1 pl s (frA7f0_mk r2 r3 pl l s ⟨(fun _ _ _ _ => rfl),
 rfl,
 rfl, trivial⟩)))⟩
theorem as_loop (W r0 r1 r2 r3 : Int) (ms : List Mm) (pl : List Pl) (l : List Int) (s : S7) (hl : l.length = pl.length) (hp : pl.length < 1000000) (ho : ∀ p ∈ pl, plOk s.m.length p) : Ok Try.prog (ntOf Try.prog 12) (.loop (lpC Try.prog 12 0)) (asS (progL W r0 r1 r2 r3 (memR ms)) pl l s 0).st (.ext 0) (asS (progL W r0 r1 r2 r3 (memR ms)) pl l (putK W pl l s pl.length) pl.length).st :=
  Ok.loop (P := Try.prog) (nt := ntOf Try.prog 12) (c := lpC Try.prog 12 0) (F := fun k => asS (progL W r0 r1 r2 r3 (memR ms)) pl l (putK W pl l s k) k) (m := pl.length) (x := .ext 0) (J := asS (progL W r0 r1 r2 r3 (memR ms)) pl l (putK W pl l s pl.length) pl.length) (fun k hk => by
    have hm := putK_len W pl l s k
    obtain ⟨h1, h2⟩ := ho _ (getD_mem hk)
    show Ok _ _ _ _ _ (asS _ pl l (put7 (putK W pl l s k) (pl.getD k default) (Wd.maskV W (l.getD k 0))) (k + 1)).st
    cases hr : (pl.getD k default).reg with
    | true =>
      have hn := h1 hr
      unfold put7
      rw [if_pos hr]
      match hq : (pl.getD k default).n, hn with
      | 0, _ => exact Ok.vc (as_reg0 W r0 r1 r2 r3 ms pl l _ k hk hl hp hr hq)
      | 1, _ => exact Ok.vc (as_reg1 W r0 r1 r2 r3 ms pl l _ k hk hl hp hr hq)
      | 2, _ => exact Ok.vc (as_reg2 W r0 r1 r2 r3 ms pl l _ k hk hl hp hr hq)
      | 3, _ => exact Ok.vc (as_reg3 W r0 r1 r2 r3 ms pl l _ k hk hl hp hr hq)
    | false =>
      have hn := h2 hr
      unfold put7
      rw [if_neg (by rw [hr]; simp)]
      exact Ok.vc (as_mem W r0 r1 r2 r3 ms pl l _ k hk hl hp hr (by rw [hm]; exact hn))) (Ok.vc (as_end W r0 r1 r2 r3 ms pl l _)) (by simp)
def frA7f3 (W : Int) (r0 : Int) (r1 : Int) (r2 : Int) (r3 : Int) (ms : List Mm) (Z : Prop) : Prop := (W = W) ∧ (r0 = r0) ∧ (r1 = r1) ∧ (r2 = r2) ∧ (r3 = r3) ∧ (List.length ms = List.length ms) ∧ (∀ (i : Nat), i < List.length ms → ∀ (j : Nat), j < (3 : Nat) → rowL mmC ms i j = rowL mmC ms i j) ∧ Z
theorem frA7f3_mk (W : Int) (r0 : Int) (r1 : Int) (r2 : Int) (r3 : Int) (ms : List Mm) {Z : Prop} (z : Z) : frA7f3 W r0 r1 r2 r3 ms Z := ⟨rfl, rfl, rfl, rfl, rfl, rfl, (fun _ _ _ _ => rfl), z⟩
theorem ast_r (W r0 r1 r2 r3 : Int) (ms : List Mm) (l : List Int) (h64 : ms.length < 4611686018427387904) (hs : sumN ms ≤ 16) (hl : l.length = (places (rg r0 r1 r2 r3) ms).length) : Vc (vcFn Try.prog false 12 [.agg (progL W r0 r1 r2 r3 (memR ms)), .row 1 l.length (rowI l)] [.cl [.agg (progL W r0 r1 r2 r3 (memR ms))] (.own 0 0 3 0 (places (rg r0 r1 r2 r3) ms).length) [plB (places (rg r0 r1 r2 r3) ms)], .b false, .cl [.agg (progL W r0 r1 r2 r3 (memR ms))] (.int .i64 (sumN ms)) [], .lp [(0, 0), (1, 1), (2, 2), (3, 3), (4, 4)] (asS (progL W r0 r1 r2 r3 (memR ms)) (places (rg r0 r1 r2 r3) ms) l (zer7 (sumN ms)) 0) (.ext 0) (asS (progL W r0 r1 r2 r3 (memR ms)) (places (rg r0 r1 r2 r3) ms) l (putK W (places (rg r0 r1 r2 r3) ms) l (zer7 (sumN ms)) (places (rg r0 r1 r2 r3) ms).length) (places (rg r0 r1 r2 r3) ms).length)] [(0, 3)] (.tup [.agg (stC (putK W (places (rg r0 r1 r2 r3) ms) l (zer7 (sumN ms)) (places (rg r0 r1 r2 r3) ms).length) (.own 0 0 1 0 (putK W (places (rg r0 r1 r2 r3) ms) l (zer7 (sumN ms)) (places (rg r0 r1 r2 r3) ms).length).m.length)), .bool true]) [blkI (putK W (places (rg r0 r1 r2 r3) ms) l (zer7 (sumN ms)) (places (rg r0 r1 r2 r3) ms).length).m]) :=
  vc_of (q := (frA7f3 W r0 r1 r2 r3 ms ((PureC Try.prog 7 [.agg (progL W r0 r1 r2 r3 (memR ms))] (.own 0 0 3 0 (places (rg r0 r1 r2 r3) ms).length) [plB (places (rg r0 r1 r2 r3) ms)]) ∧ (((↑(List.length l) : Int) != (↑(List.length (places (rg r0 r1 r2 r3) ms)) : Int)) = false) ∧ (frA7f3 W r0 r1 r2 r3 ms ((PureC Try.prog 8 [.agg (progL W r0 r1 r2 r3 (memR ms))] (.int .i64 (sumN ms)) []) ∧ ((0 : Int) ≤ (↑(sumN ms) : Int) ∧ (↑(sumN ms) : Int) ≤ (↑(sumN ms) : Int) ∧ (↑(sumN ms) : Int) * (↑(8 : Nat) : Int) ≤ (140737488355328 : Int) ∧ (↑(sumN ms) : Int) ≤ (140737488355328 : Int)) ∧ (frA7f1 W r0 r1 r2 r3 ms (((0 : Int) = (0 : Int)) ∧ ((0 : Int) = (0 : Int)) ∧ ((0 : Int) = (0 : Int)) ∧ (List.length (places (rg r0 r1 r2 r3) ms) = List.length (places (rg r0 r1 r2 r3) ms)) ∧ (∀ (i : Nat), i < List.length (places (rg r0 r1 r2 r3) ms) → ∀ (j : Nat), j < (3 : Nat) → rowL plC (places (rg r0 r1 r2 r3) ms) i j = rowL plC (places (rg r0 r1 r2 r3) ms) i j) ∧ (sumN ms = List.length (List.replicate (sumN ms) (0 : Int))) ∧ (∀ (i : Nat), i < sumN ms → ∀ (j : Nat), j < (1 : Nat) → List.getD [AV.int IntKind.i64 (0 : Int)] j AV.junk = AV.int IntKind.i64 (List.getD (List.replicate (sumN ms) (0 : Int)) i (0 : Int))) ∧ ((0 : Int) = (0 : Int)) ∧ ((0 : Int) = (0 : Int)) ∧ ((0 : Int) = (0 : Int)) ∧ ((0 : Int) = (0 : Int)) ∧ ((0 : Nat) = (0 : Nat)) ∧ (sumN ms = List.length (List.replicate (sumN ms) (0 : Int))) ∧ ((0 : Int) = (0 : Int)) ∧ ((↑(List.length (places (rg r0 r1 r2 r3) ms)) : Int) = (↑(List.length (places (rg r0 r1 r2 r3) ms)) : Int)) ∧ ((0 : Nat) = (0 : Nat)) ∧ (List.length (places (rg r0 r1 r2 r3) ms) = List.length (places (rg r0 r1 r2 r3) ms)) ∧ (List.length l = List.length l) ∧ (∀ (i : Nat), i < List.length l → ∀ (j : Nat), j < (1 : Nat) → AV.int IntKind.i64 (List.getD l i (0 : Int)) = AV.int IntKind.i64 (List.getD l i (0 : Int))) ∧ (false = false) ∧ ((0 : Int) = (↑(0 : Nat) : Int)) ∧ (Ok Try.prog (ntOf Try.prog 12) (.loop (lpC Try.prog 12 0)) (asS (progL W r0 r1 r2 r3 (memR ms)) (places (rg r0 r1 r2 r3) ms) l (zer7 (sumN ms)) 0).st (.ext 0) (asS (progL W r0 r1 r2 r3 (memR ms)) (places (rg r0 r1 r2 r3) ms) l (putK W (places (rg r0 r1 r2 r3) ms) l (zer7 (sumN ms)) (places (rg r0 r1 r2 r3) ms).length) (places (rg r0 r1 r2 r3) ms).length).st) ∧ (List.length (S7.m (putK W (places (rg r0 r1 r2 r3) ms) l (zer7 (sumN ms)) (List.length (places (rg r0 r1 r2 r3) ms)))) = List.length (S7.m (putK W (places (rg r0 r1 r2 r3) ms) l (zer7 (sumN ms)) (List.length (places (rg r0 r1 r2 r3) ms))))) ∧ (∀ (i : Nat), i < List.length (S7.m (putK W (places (rg r0 r1 r2 r3) ms) l (zer7 (sumN ms)) (List.length (places (rg r0 r1 r2 r3) ms)))) → ∀ (j : Nat), j < (1 : Nat) → AV.int IntKind.i64 (List.getD (S7.m (putK W (places (rg r0 r1 r2 r3) ms) l (zer7 (sumN ms)) (List.length (places (rg r0 r1 r2 r3) ms)))) i (0 : Int)) = AV.int IntKind.i64 (List.getD (S7.m (putK W (places (rg r0 r1 r2 r3) ms) l (zer7 (sumN ms)) (List.length (places (rg r0 r1 r2 r3) ms)))) i (0 : Int))) ∧ (S7.r0 (putK W (places (rg r0 r1 r2 r3) ms) l (zer7 (sumN ms)) (List.length (places (rg r0 r1 r2 r3) ms))) = S7.r0 (putK W (places (rg r0 r1 r2 r3) ms) l (zer7 (sumN ms)) (List.length (places (rg r0 r1 r2 r3) ms)))) ∧ (S7.r1 (putK W (places (rg r0 r1 r2 r3) ms) l (zer7 (sumN ms)) (List.length (places (rg r0 r1 r2 r3) ms))) = S7.r1 (putK W (places (rg r0 r1 r2 r3) ms) l (zer7 (sumN ms)) (List.length (places (rg r0 r1 r2 r3) ms)))) ∧ (S7.r2 (putK W (places (rg r0 r1 r2 r3) ms) l (zer7 (sumN ms)) (List.length (places (rg r0 r1 r2 r3) ms))) = S7.r2 (putK W (places (rg r0 r1 r2 r3) ms) l (zer7 (sumN ms)) (List.length (places (rg r0 r1 r2 r3) ms)))) ∧ (S7.r3 (putK W (places (rg r0 r1 r2 r3) ms) l (zer7 (sumN ms)) (List.length (places (rg r0 r1 r2 r3) ms))) = S7.r3 (putK W (places (rg r0 r1 r2 r3) ms) l (zer7 (sumN ms)) (List.length (places (rg r0 r1 r2 r3) ms)))) ∧ ((0 : Nat) = (0 : Nat)) ∧ (List.length (S7.m (putK W (places (rg r0 r1 r2 r3) ms) l (zer7 (sumN ms)) (List.length (places (rg r0 r1 r2 r3) ms)))) = List.length (S7.m (putK W (places (rg r0 r1 r2 r3) ms) l (zer7 (sumN ms)) (List.length (places (rg r0 r1 r2 r3) ms))))) ∧ ((0 : Int) = (0 : Int)) ∧ (true = true) ∧ True))))))) (by kernel_rfl)
    (frA7f3_mk W r0 r1 r2 r3 ms ⟨archPlaces W r0 r1 r2 r3 ms h64 hs,
 (by rw [hl]; simp), (frA7f3_mk W r0 r1 r2 r3 ms ⟨archCells W r0 r1 r2 r3 ms h64 hs,
 (by first | omega | rfl), (frA7f1_mk W r0 r1 r2 r3 ms ⟨rfl,
 rfl,
 rfl,
 rfl,
 (fun _ _ _ _ => rfl),
 (by simp [zer7, putK_len]),
 (fun i hi j hj => (match j, hj with | 0, _ => rowI_rep rfl i 0 (by simpa using hi))),
 rfl,
 rfl,
 rfl,
 rfl,
 rfl,
 (by simp [zer7, putK_len]),
 rfl,
 rfl,
 rfl,
 rfl,
 rfl,
 (fun _ _ _ _ => rfl),
 rfl,
 (by first | omega | rfl),
 as_loop W r0 r1 r2 r3 ms (places (rg r0 r1 r2 r3) ms) l _ hl (by have := places_length (rg r0 r1 r2 r3) ms; omega) (by have := places_ok (rg r0 r1 r2 r3) ms; simpa [zer7] using this),
 (by simp [zer7, putK_len]),
 (by simp [zer7, putK_len]),
 rfl,
 rfl,
 rfl,
 rfl,
 rfl,
 (by simp [zer7, putK_len]),
 rfl,
 rfl, trivial⟩)⟩)⟩)
theorem asn_r (W r0 r1 r2 r3 : Int) (ms : List Mm) (l : List Int) (h64 : ms.length < 4611686018427387904) (hs : sumN ms ≤ 16) (hl : l.length ≠ (places (rg r0 r1 r2 r3) ms).length) (hb : l.length < 1000000) : Vc (vcFn Try.prog false 12 [.agg (progL W r0 r1 r2 r3 (memR ms)), .row 1 l.length (rowI l)] [.cl [.agg (progL W r0 r1 r2 r3 (memR ms))] (.own 0 0 3 0 (places (rg r0 r1 r2 r3) ms).length) [plB (places (rg r0 r1 r2 r3) ms)], .b true] [] (.tup [.agg (stC ⟨0, 0, 0, 0, []⟩ .nils), .bool false]) []) :=
  vc_of (q := (frA7f3 W r0 r1 r2 r3 ms ((PureC Try.prog 7 [.agg (progL W r0 r1 r2 r3 (memR ms))] (.own 0 0 3 0 (places (rg r0 r1 r2 r3) ms).length) [plB (places (rg r0 r1 r2 r3) ms)]) ∧ (((↑(List.length l) : Int) != (↑(List.length (places (rg r0 r1 r2 r3) ms)) : Int)) = true) ∧ ((0 : Int) = (0 : Int)) ∧ ((0 : Int) = (0 : Int)) ∧ ((0 : Int) = (0 : Int)) ∧ ((0 : Int) = (0 : Int)) ∧ ((0 : Int) = (0 : Int)) ∧ (false = false) ∧ True))) (by kernel_rfl)
    (frA7f3_mk W r0 r1 r2 r3 ms ⟨archPlaces W r0 r1 r2 r3 ms h64 hs,
 (bne_iff_ne.2 fun h => hl (Int.ofNat_inj.1 h)),
 rfl,
 rfl,
 rfl,
 rfl,
 rfl,
 rfl, trivial⟩)
theorem startC (W r0 r1 r2 r3 : Int) (ms : List Mm) (l : List Int) (h64 : ms.length < 4611686018427387904) (hs : sumN ms ≤ 16) (hl : l.length = (places (rg r0 r1 r2 r3) ms).length) : PureC Try.prog 12 [.agg (progL W r0 r1 r2 r3 (memR ms)), .row 1 l.length (rowI l)] (.tup [.agg (stC (putK W (places (rg r0 r1 r2 r3) ms) l (zer7 (sumN ms)) (places (rg r0 r1 r2 r3) ms).length) (.own 0 0 1 0 (putK W (places (rg r0 r1 r2 r3) ms) l (zer7 (sumN ms)) (places (rg r0 r1 r2 r3) ms).length).m.length)), .bool true]) [blkI (putK W (places (rg r0 r1 r2 r3) ms) l (zer7 (sumN ms)) (places (rg r0 r1 r2 r3) ms).length).m] := PureC.vc (ast_r W r0 r1 r2 r3 ms l h64 hs hl)
theorem startC_no (W r0 r1 r2 r3 : Int) (ms : List Mm) (l : List Int) (h64 : ms.length < 4611686018427387904) (hs : sumN ms ≤ 16) (hl : l.length ≠ (places (rg r0 r1 r2 r3) ms).length) (hb : l.length < 1000000) : PureC Try.prog 12 [.agg (progL W r0 r1 r2 r3 (memR ms)), .row 1 l.length (rowI l)] (.tup [.agg (stC ⟨0, 0, 0, 0, []⟩ .nils), .bool false]) [] := PureC.vc (asn_r W r0 r1 r2 r3 ms l h64 hs hl hb)
end Go.Proofs.Ytdbnfdcjibgikaa.Px
