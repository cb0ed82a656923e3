/- A state that was begun is its own. -/
import Derived.Test.YtdbnfdcjibgikaaA7j
import Derived.Test.YtdbnfdcjibgikaaA7m
set_option linter.unusedVariables false
set_option linter.unusedSimpArgs false
set_option maxRecDepth 100000
namespace Go.Proofs.Ytdbnfdcjibgikaa.Px
open Go.RowKit Go.Proofs.Ytdbnfdcjibgikaa.Rx
def blkF (l : List Int) : Blk := ⟨0, true, 3, .rows 1 l.length (rowI l)⟩
def o1 (cs : List AV) (l X : List Int) (k : Nat) : Sm := ⟨[(1, .row 1 l.length (rowI l)), (4, .bool false), (5, .bptr 0 0), (6, .own 1 0 1 0 X.length), (23, .int .i64 X.length), (24, .int .i64 k)], [(0, bx 31 cs), (1, blkI X)], 2⟩
def o2 (cs : List AV) (X : List Int) (s : S7) (A : List Int) (t : ByteArray) (k : Nat) : Sm := ⟨[(4, .bool false), (5, .bptr 0 0), (6, .own 1 0 1 0 X.length), (8, .bptr 2 0), (10, .bptr 3 0), (12, .str t), (62, .int .i64 A.length), (63, .int .i64 k)],
  [(0, bx 31 cs), (1, blkF X), (2, bx 45 (stC s (.own 4 0 1 0 A.length))), (3, bx 45 (stC s (.row 1 s.m.length (rowI s.m)))), (4, blkI A)], 5⟩
def xK (l : List Int) (N : Nat) : Nat → List Int
  | 0 => List.replicate N 0
  | k + 1 => (xK l N k).set k (l.getD k 0)
def aK (m : List Int) : Nat → List Int
  | 0 => m
  | k + 1 => (aK m k).set k ((aK m k).getD k 0 + 1)
def okS (s : S7) : Prop := (0 ≤ s.r0 ∧ s.r0 < 65536) ∧ (0 ≤ s.r1 ∧ s.r1 < 65536) ∧ (0 ≤ s.r2 ∧ s.r2 < 65536) ∧ (0 ≤ s.r3 ∧ s.r3 < 65536) ∧ ∀ x ∈ s.m, 0 ≤ x ∧ x < 65536
theorem xK_len (l : List Int) (N k : Nat) : (xK l N k).length = N := by
  induction k with
  | zero => simp [xK]
  | succ k ih => simp [xK, ih]
theorem xK_zero (l : List Int) (N : Nat) : ∀ k i, k ≤ i → (xK l N k).getD i 0 = 0 := by
  intro k
  induction k with
  | zero =>
    intro i _
    simp only [xK, List.getD_eq_getElem?_getD, List.getElem?_replicate]
    split <;> rfl
  | succ k ih =>
    intro i hi
    have := ih i (by omega)
    simp only [xK, List.getD_eq_getElem?_getD] at this ⊢
    rw [List.getElem?_set_ne (by omega)]
    exact this
theorem xK_out (l : List Int) (N k : Nat) (hl : l.length ≤ k) : xK l N (k + 1) = xK l N k := by
  have h0 : l.getD k 0 = 0 := by rw [List.getD_eq_getElem?_getD, List.getElem?_eq_none hl]; rfl
  have h1 := xK_zero l N k k (Nat.le_refl _)
  show (xK l N k).set k (l.getD k 0) = xK l N k
  rw [h0]
  by_cases h : k < (xK l N k).length
  · apply List.ext_getElem (by simp)
    intro i hi hi'
    rw [List.getElem_set]
    split
    · rename_i e
      subst e
      rw [List.getD_eq_getElem?_getD, List.getElem?_eq_getElem h] at h1
      simpa using h1.symm
    · rfl
  · rw [List.set_eq_of_length_le (by omega)]
theorem aK_len (m : List Int) (k : Nat) : (aK m k).length = m.length := by
  induction k with
  | zero => rfl
  | succ k ih => simp [aK, ih]
theorem aK_bd (m : List Int) (hm : ∀ x ∈ m, 0 ≤ x ∧ x < 65536) : ∀ k i, 0 ≤ (aK m k).getD i 0 ∧ (aK m k).getD i 0 ≤ 65536 + (k : Int) := by
  intro k
  induction k with
  | zero =>
    intro i
    show 0 ≤ m.getD i 0 ∧ m.getD i 0 ≤ _
    rw [List.getD_eq_getElem?_getD]
    cases h : m[i]? with
    | none => simp
    | some x =>
      have := hm x (List.mem_of_getElem? h)
      simp only [Option.getD_some]
      omega
  | succ k ih =>
    intro i
    have h1 := ih i
    have h2 := ih k
    simp only [aK, List.getD_eq_getElem?_getD, List.getElem?_set] at *
    split
    · split
      · simp only [Option.getD_some]; omega
      · simp only [Option.getD_none]; omega
    · omega
theorem put7_ok {s : S7} {p : Pl} {v : Int} (h : okS s) (hv : 0 ≤ v ∧ v < 65536) : okS (put7 s p v) := by
  obtain ⟨h0, h1, h2, h3, h4⟩ := h
  unfold put7
  repeat' split
  · exact ⟨hv, h1, h2, h3, h4⟩
  · exact ⟨h0, hv, h2, h3, h4⟩
  · exact ⟨h0, h1, hv, h3, h4⟩
  · exact ⟨h0, h1, h2, hv, h4⟩
  · refine ⟨h0, h1, h2, h3, fun x hx => ?_⟩
    rcases List.mem_or_eq_of_mem_set hx with h | rfl
    · exact h4 x h
    · exact hv
theorem putK_ok (W : Int) (pl : List Pl) (l : List Int) (s : S7) (h : okS s) (k : Nat) : okS (putK W pl l s k) := by
  induction k with
  | zero => exact h
  | succ k ih => exact put7_ok ih (Wd.maskV_bd _ _)
theorem zer7_ok (N : Nat) : okS (zer7 N) := ⟨by simp [zer7], by simp [zer7], by simp [zer7], by simp [zer7], fun x hx => by
  have := List.eq_of_mem_replicate hx
  subst this
  omega⟩
theorem stL_isI {s : S7} (h : okS s) (hm : s.m.length ≤ 1000) : Cd.isI (stL s.r0 s.r1 s.r2 s.r3 s.m [] 0) := by
  obtain ⟨h0, h1, h2, h3, h4⟩ := h
  intro x hx
  simp only [stL, catL, List.flatten_cons, List.flatten_nil, List.mem_append, List.mem_cons, List.not_mem_nil, or_false, false_or, List.length_nil] at hx
  rcases hx with (rfl | rfl | rfl | rfl) | rfl | hx | rfl | rfl
  · omega
  · omega
  · omega
  · omega
  · omega
  · have := h4 x hx; omega
  · simp
  · simp
theorem regE_refl (a b c d : Int) : regE a b c d a b c d = true := by simp [regE]
theorem sameB_refl (a b c d : Int) (m st : List Int) (p : Int) : sameB a b c d m st p a b c d m st p = true := by
  simp [sameB, regE_refl, eqI]
theorem lowB_refl (r0 r1 r2 r3 : Int) (ms : List Mm) (a0 a1 a2 a3 : Int) (m st : List Int) (pa : Int) : lowB r0 r1 r2 r3 ms a0 a1 a2 a3 m st pa a0 a1 a2 a3 m st pa = true := sameB_refl _ _ _ _ _ _ _
theorem o1_in (W r0 r1 r2 r3 : Int) (ms : List Mm) (l X : List Int) (k : Nat) (hk : k < X.length) (hX : X.length < 1000) (hl : k < l.length) : Vc (vcC Try.prog false (ntOf Try.prog 4) (lpC Try.prog 4 0) (o1 (progL W r0 r1 r2 r3 (memR ms)) l X k) [.b true, .b true] .nrm [(0, 0), (1, 1)] (o1 (progL W r0 r1 r2 r3 (memR ms)) l (X.set k (l.getD k 0)) (k + 1))) :=
  vc_of (q := (decide ((↑k : Int) < (↑(List.length X) : Int)) = true) ∧ (decide ((↑k : Int) < (↑(List.length l) : Int)) = true) ∧ ((0 : Int) ≤ (↑k : Int) ∧ (↑k : Int) < (↑(List.length l) : Int)) ∧ ((0 : Int) ≤ (↑k : Int) ∧ (↑k : Int) < (↑(List.length X) : Int)) ∧ (k + (0 : Nat) < List.length X) ∧ (inK IntKind.i64 ((↑k : Int) + (1 : Int))) ∧ (W = W) ∧ (r0 = r0) ∧ (r1 = r1) ∧ (r2 = r2) ∧ (r3 = r3) ∧ (List.length ms = List.length ms) ∧ (∀ (i : Nat),
  i < List.length ms →
    ∀ (j : Nat),
      j < (3 : Nat) →
        rowL mmC ms i j =
          rowL mmC ms i j) ∧ (List.length X = List.length (List.set X k (List.getD l k (0 : Int)))) ∧ (∀ (i : Nat),
  i < List.length X →
    ∀ (j : Nat),
      j < (1 : Nat) →
        (bif Nat.beq i (k + (0 : Nat)) && Nat.ble (0 : Nat) j && Nat.blt j (1 : Nat) then
            List.getD [AV.int IntKind.i64 (List.getD l k (0 : Int))] (j - (0 : Nat))
              AV.junk
          else AV.int IntKind.i64 (List.getD X i (0 : Int))) =
          AV.int IntKind.i64
            (List.getD (List.set X k (List.getD l k (0 : Int))) i (0 : Int))) ∧ (List.length l = List.length l) ∧ (∀ (i : Nat),
  i < List.length l →
    ∀ (j : Nat),
      j < (1 : Nat) →
        AV.int IntKind.i64 (List.getD l i (0 : Int)) =
          AV.int IntKind.i64 (List.getD l i (0 : Int))) ∧ (false = false) ∧ ((0 : Nat) = (0 : Nat)) ∧ (List.length X = List.length (List.set X k (List.getD l k (0 : Int)))) ∧ ((↑(List.length X) : Int) = (↑(List.length (List.set X k (List.getD l k (0 : Int)))) : Int)) ∧ ((↑k : Int) + (1 : Int) = (↑(k + (1 : Nat)) : Int)) ∧ True) (by kernel_rfl)
    ⟨(decide_eq_true (by first | omega | (simp; omega) | (simp; done))),
     (decide_eq_true (by first | omega | (simp; omega) | (simp; done))),
     (by first | omega | rfl | (simp; done) | (simp; omega)),
     (by first | omega | rfl | (simp; done) | (simp; omega)),
     (by first | omega | rfl | (simp; done) | (simp; omega)),
     (in64 (by omega) (by omega)),
     rfl,
     rfl,
     rfl,
     rfl,
     rfl,
     rfl,
     (fun _ _ _ _ => rfl),
     List.length_set.symm,
     set_row,
     rfl,
     (fun _ _ _ _ => rfl),
     rfl,
     rfl,
     List.length_set.symm,
     (by rw [List.length_set]),
     (by first | omega | rfl | (simp; done) | (simp; omega)),
     trivial⟩
theorem o1_out (W r0 r1 r2 r3 : Int) (ms : List Mm) (l X : List Int) (k : Nat) (hk : k < X.length) (hX : X.length < 1000) (hl : ¬ k < l.length) : Vc (vcC Try.prog false (ntOf Try.prog 4) (lpC Try.prog 4 0) (o1 (progL W r0 r1 r2 r3 (memR ms)) l X k) [.b true, .b false] .nrm [(0, 0), (1, 1)] (o1 (progL W r0 r1 r2 r3 (memR ms)) l X (k + 1))) :=
  vc_of (q := (decide ((↑k : Int) < (↑(List.length X) : Int)) = true) ∧ (decide ((↑k : Int) < (↑(List.length l) : Int)) = false) ∧ (inK IntKind.i64 ((↑k : Int) + (1 : Int))) ∧ (W = W) ∧ (r0 = r0) ∧ (r1 = r1) ∧ (r2 = r2) ∧ (r3 = r3) ∧ (List.length ms = List.length ms) ∧ (∀ (i : Nat),
  i < List.length ms →
    ∀ (j : Nat),
      j < (3 : Nat) →
        rowL mmC ms i j =
          rowL mmC ms i j) ∧ (List.length X = List.length X) ∧ (∀ (i : Nat),
  i < List.length X →
    ∀ (j : Nat),
      j < (1 : Nat) →
        AV.int IntKind.i64 (List.getD X i (0 : Int)) =
          AV.int IntKind.i64 (List.getD X i (0 : Int))) ∧ (List.length l = List.length l) ∧ (∀ (i : Nat),
  i < List.length l →
    ∀ (j : Nat),
      j < (1 : Nat) →
        AV.int IntKind.i64 (List.getD l i (0 : Int)) =
          AV.int IntKind.i64 (List.getD l i (0 : Int))) ∧ (false = false) ∧ ((0 : Nat) = (0 : Nat)) ∧ (List.length X = List.length X) ∧ ((↑(List.length X) : Int) = (↑(List.length X) : Int)) ∧ ((↑k : Int) + (1 : Int) = (↑(k + (1 : Nat)) : Int)) ∧ True) (by kernel_rfl)
    ⟨(decide_eq_true (by first | omega | (simp; omega) | (simp; done))),
     (decide_eq_false (by first | omega | (simp; omega) | (simp; done))),
     (in64 (by omega) (by omega)),
     rfl,
     rfl,
     rfl,
     rfl,
     rfl,
     rfl,
     (fun _ _ _ _ => rfl),
     rfl,
     (fun _ _ _ _ => rfl),
     rfl,
     (fun _ _ _ _ => rfl),
     rfl,
     rfl,
     rfl,
     rfl,
     (by first | omega | rfl | (simp; done) | (simp; omega)),
     trivial⟩
theorem o1_end (W r0 r1 r2 r3 : Int) (ms : List Mm) (l X : List Int) : Vc (vcC Try.prog false (ntOf Try.prog 4) (lpC Try.prog 4 0) (o1 (progL W r0 r1 r2 r3 (memR ms)) l X X.length) [.b false] (.ext 0) [(0, 0), (1, 1)] (o1 (progL W r0 r1 r2 r3 (memR ms)) l X X.length)) :=
  vc_of (q := (decide ((↑(List.length X) : Int) < (↑(List.length X) : Int)) = false) ∧ (W = W) ∧ (r0 = r0) ∧ (r1 = r1) ∧ (r2 = r2) ∧ (r3 = r3) ∧ (List.length ms = List.length ms) ∧ (∀ (i : Nat),
  i < List.length ms →
    ∀ (j : Nat),
      j < (3 : Nat) →
        rowL mmC ms i j =
          rowL mmC ms i j) ∧ (List.length X = List.length X) ∧ (∀ (i : Nat),
  i < List.length X →
    ∀ (j : Nat),
      j < (1 : Nat) →
        AV.int IntKind.i64 (List.getD X i (0 : Int)) =
          AV.int IntKind.i64 (List.getD X i (0 : Int))) ∧ (List.length l = List.length l) ∧ (∀ (i : Nat),
  i < List.length l →
    ∀ (j : Nat),
      j < (1 : Nat) →
        AV.int IntKind.i64 (List.getD l i (0 : Int)) =
          AV.int IntKind.i64 (List.getD l i (0 : Int))) ∧ (false = false) ∧ ((0 : Nat) = (0 : Nat)) ∧ (List.length X = List.length X) ∧ ((↑(List.length X) : Int) = (↑(List.length X) : Int)) ∧ ((↑(List.length X) : Int) = (↑(List.length X) : Int)) ∧ True) (by kernel_rfl)
    ⟨(decide_eq_false (by first | omega | (simp; omega) | (simp; done))),
     rfl,
     rfl,
     rfl,
     rfl,
     rfl,
     rfl,
     (fun _ _ _ _ => rfl),
     rfl,
     (fun _ _ _ _ => rfl),
     rfl,
     (fun _ _ _ _ => rfl),
     rfl,
     rfl,
     rfl,
     rfl,
     rfl,
     trivial⟩
theorem o2_step (W r0 r1 r2 r3 : Int) (ms : List Mm) (X : List Int) (s : S7) (A : List Int) (t : ByteArray) (k : Nat) (hk : k < A.length) (hA : A.length < 1000) (hv : 0 ≤ A.getD k 0 ∧ A.getD k 0 ≤ 1000000) : Vc (vcC Try.prog false (ntOf Try.prog 4) (lpC Try.prog 4 1) (o2 (progL W r0 r1 r2 r3 (memR ms)) X s A t k) [.b true] .nrm [(0, 0), (1, 1), (2, 2), (3, 3), (4, 4)] (o2 (progL W r0 r1 r2 r3 (memR ms)) X s (A.set k (A.getD k 0 + 1)) t (k + 1))) :=
  vc_of (q := (decide ((↑k : Int) < (↑(List.length A) : Int)) = true) ∧ ((0 : Int) ≤ (↑k : Int) ∧ (↑k : Int) < (↑(List.length A) : Int)) ∧ (k + (0 : Nat) < List.length A) ∧ (inK IntKind.i64 (List.getD A (k + (0 : Nat)) (0 : Int) + (1 : Int))) ∧ ((0 : Int) ≤ (↑k : Int) ∧ (↑k : Int) < (↑(List.length A) : Int)) ∧ (k + (0 : Nat) < List.length A) ∧ (inK IntKind.i64 ((↑k : Int) + (1 : Int))) ∧ (W = W) ∧ (r0 = r0) ∧ (r1 = r1) ∧ (r2 = r2) ∧ (r3 = r3) ∧ (List.length ms = List.length ms) ∧ (∀ (i : Nat),
  i < List.length ms →
    ∀ (j : Nat),
      j < (3 : Nat) →
        rowL mmC ms i j =
          rowL mmC ms i j) ∧ (List.length X = List.length X) ∧ (∀ (i : Nat),
  i < List.length X →
    ∀ (j : Nat),
      j < (1 : Nat) →
        AV.int IntKind.i64 (List.getD X i (0 : Int)) =
          AV.int IntKind.i64 (List.getD X i (0 : Int))) ∧ (S7.r0 s = S7.r0 s) ∧ (S7.r1 s = S7.r1 s) ∧ (S7.r2 s = S7.r2 s) ∧ (S7.r3 s = S7.r3 s) ∧ ((0 : Nat) = (0 : Nat)) ∧ (List.length A = List.length (List.set A k (List.getD A k (0 : Int) + (1 : Int)))) ∧ ((0 : Int) = (0 : Int)) ∧ (S7.r0 s = S7.r0 s) ∧ (S7.r1 s = S7.r1 s) ∧ (S7.r2 s = S7.r2 s) ∧ (S7.r3 s = S7.r3 s) ∧ (List.length (S7.m s) = List.length (S7.m s)) ∧ (∀ (i : Nat),
  i < List.length (S7.m s) →
    ∀ (j : Nat),
      j < (1 : Nat) →
        AV.int IntKind.i64
            (List.getD (S7.m s) i (0 : Int)) =
          AV.int IntKind.i64
            (List.getD (S7.m s) i (0 : Int))) ∧ ((0 : Int) = (0 : Int)) ∧ (List.length A = List.length (List.set A k (List.getD A k (0 : Int) + (1 : Int)))) ∧ (∀ (i : Nat),
  i < List.length A →
    ∀ (j : Nat),
      j < (1 : Nat) →
        (bif Nat.beq i (k + (0 : Nat)) && Nat.ble (0 : Nat) j && Nat.blt j (1 : Nat) then
            List.getD
              [AV.int IntKind.i64 (List.getD A (k + (0 : Nat)) (0 : Int) + (1 : Int))]
              (j - (0 : Nat)) AV.junk
          else AV.int IntKind.i64 (List.getD A i (0 : Int))) =
          AV.int IntKind.i64
            (List.getD (List.set A k (List.getD A k (0 : Int) + (1 : Int))) i (0 : Int))) ∧ (false = false) ∧ ((0 : Nat) = (0 : Nat)) ∧ (List.length X = List.length X) ∧ (t = t) ∧ ((↑(List.length A) : Int) = (↑(List.length (List.set A k (List.getD A k (0 : Int) + (1 : Int)))) : Int)) ∧ ((↑k : Int) + (1 : Int) = (↑(k + (1 : Nat)) : Int)) ∧ True) (by kernel_rfl)
    ⟨(decide_eq_true (by first | omega | (simp; omega) | (simp; done))),
     (by first | omega | rfl | (simp; done) | (simp; omega)),
     (by first | omega | rfl | (simp; done) | (simp; omega)),
     (show inK .i64 (A.getD k 0 + 1) from in64 (by omega) (by omega)),
     (by first | omega | rfl | (simp; done) | (simp; omega)),
     (by first | omega | rfl | (simp; done) | (simp; omega)),
     (in64 (by omega) (by omega)),
     rfl,
     rfl,
     rfl,
     rfl,
     rfl,
     rfl,
     (fun _ _ _ _ => rfl),
     rfl,
     (fun _ _ _ _ => rfl),
     rfl,
     rfl,
     rfl,
     rfl,
     rfl,
     List.length_set.symm,
     rfl,
     rfl,
     rfl,
     rfl,
     rfl,
     rfl,
     (fun _ _ _ _ => rfl),
     rfl,
     List.length_set.symm,
     set_row,
     rfl,
     rfl,
     rfl,
     rfl,
     (by rw [List.length_set]),
     (by first | omega | rfl | (simp; done) | (simp; omega)),
     trivial⟩
theorem o2_end (W r0 r1 r2 r3 : Int) (ms : List Mm) (X : List Int) (s : S7) (A : List Int) (t : ByteArray) : Vc (vcC Try.prog false (ntOf Try.prog 4) (lpC Try.prog 4 1) (o2 (progL W r0 r1 r2 r3 (memR ms)) X s A t A.length) [.b false] (.ext 2) [(0, 0), (1, 1), (2, 2), (3, 3), (4, 4)] (o2 (progL W r0 r1 r2 r3 (memR ms)) X s A t A.length)) :=
  vc_of (q := (decide ((↑(List.length A) : Int) < (↑(List.length A) : Int)) = false) ∧ (W = W) ∧ (r0 = r0) ∧ (r1 = r1) ∧ (r2 = r2) ∧ (r3 = r3) ∧ (List.length ms = List.length ms) ∧ (∀ (i : Nat),
  i < List.length ms →
    ∀ (j : Nat),
      j < (3 : Nat) →
        rowL mmC ms i j =
          rowL mmC ms i j) ∧ (List.length X = List.length X) ∧ (∀ (i : Nat),
  i < List.length X →
    ∀ (j : Nat),
      j < (1 : Nat) →
        AV.int IntKind.i64 (List.getD X i (0 : Int)) =
          AV.int IntKind.i64 (List.getD X i (0 : Int))) ∧ (S7.r0 s = S7.r0 s) ∧ (S7.r1 s = S7.r1 s) ∧ (S7.r2 s = S7.r2 s) ∧ (S7.r3 s = S7.r3 s) ∧ ((0 : Nat) = (0 : Nat)) ∧ (List.length A = List.length A) ∧ ((0 : Int) = (0 : Int)) ∧ (S7.r0 s = S7.r0 s) ∧ (S7.r1 s = S7.r1 s) ∧ (S7.r2 s = S7.r2 s) ∧ (S7.r3 s = S7.r3 s) ∧ (List.length (S7.m s) = List.length (S7.m s)) ∧ (∀ (i : Nat),
  i < List.length (S7.m s) →
    ∀ (j : Nat),
      j < (1 : Nat) →
        AV.int IntKind.i64
            (List.getD (S7.m s) i (0 : Int)) =
          AV.int IntKind.i64
            (List.getD (S7.m s) i (0 : Int))) ∧ ((0 : Int) = (0 : Int)) ∧ (List.length A = List.length A) ∧ (∀ (i : Nat),
  i < List.length A →
    ∀ (j : Nat),
      j < (1 : Nat) →
        AV.int IntKind.i64 (List.getD A i (0 : Int)) =
          AV.int IntKind.i64 (List.getD A i (0 : Int))) ∧ (false = false) ∧ ((0 : Nat) = (0 : Nat)) ∧ (List.length X = List.length X) ∧ (t = t) ∧ ((↑(List.length A) : Int) = (↑(List.length A) : Int)) ∧ ((↑(List.length A) : Int) = (↑(List.length A) : Int)) ∧ True) (by kernel_rfl)
    ⟨(decide_eq_false (by first | omega | (simp; omega) | (simp; done))),
     rfl,
     rfl,
     rfl,
     rfl,
     rfl,
     rfl,
     (fun _ _ _ _ => rfl),
     rfl,
     (fun _ _ _ _ => rfl),
     rfl,
     rfl,
     rfl,
     rfl,
     rfl,
     rfl,
     rfl,
     rfl,
     rfl,
     rfl,
     rfl,
     rfl,
     (fun _ _ _ _ => rfl),
     rfl,
     rfl,
     (fun _ _ _ _ => rfl),
     rfl,
     rfl,
     rfl,
     rfl,
     rfl,
     rfl,
     trivial⟩
theorem o1_loop (W r0 r1 r2 r3 : Int) (ms : List Mm) (l : List Int) (N : Nat) (hN : N < 1000) : Ok Try.prog (ntOf Try.prog 4) (.loop (lpC Try.prog 4 0)) (o1 (progL W r0 r1 r2 r3 (memR ms)) l (List.replicate N 0) 0).st (.ext 0) (o1 (progL W r0 r1 r2 r3 (memR ms)) l (xK l N N) N).st :=
  Ok.loop (P := Try.prog) (nt := ntOf Try.prog 4) (c := lpC Try.prog 4 0) (F := fun k => o1 (progL W r0 r1 r2 r3 (memR ms)) l (xK l N k) k) (m := N) (x := .ext 0) (J := o1 (progL W r0 r1 r2 r3 (memR ms)) l (xK l N N) N) (fun k hk => by
    have hX := xK_len l N k
    by_cases hl : k < l.length
    · exact Ok.vc (o1_in W r0 r1 r2 r3 ms l _ k (by omega) (by omega) hl)
    · show Ok _ _ _ _ _ (o1 _ l (xK l N (k + 1)) (k + 1)).st
      rw [xK_out l N k (by omega)]
      exact Ok.vc (o1_out W r0 r1 r2 r3 ms l _ k (by omega) (by omega) hl)) (by
    have hX := xK_len l N N
    have := Ok.vc (o1_end W r0 r1 r2 r3 ms l (xK l N N))
    rw [hX] at this
    exact this) (by simp)
theorem o2_loop (W r0 r1 r2 r3 : Int) (ms : List Mm) (X : List Int) (s : S7) (t : ByteArray) (hm : ∀ x ∈ s.m, 0 ≤ x ∧ x < 65536) (hl : s.m.length < 1000) : Ok Try.prog (ntOf Try.prog 4) (.loop (lpC Try.prog 4 1)) (o2 (progL W r0 r1 r2 r3 (memR ms)) X s s.m t 0).st (.ext 2) (o2 (progL W r0 r1 r2 r3 (memR ms)) X s (aK s.m s.m.length) t s.m.length).st :=
  Ok.loop (P := Try.prog) (nt := ntOf Try.prog 4) (c := lpC Try.prog 4 1) (F := fun k => o2 (progL W r0 r1 r2 r3 (memR ms)) X s (aK s.m k) t k) (m := s.m.length) (x := .ext 2) (J := o2 (progL W r0 r1 r2 r3 (memR ms)) X s (aK s.m s.m.length) t s.m.length) (fun k hk => by
    have hA := aK_len s.m k
    have hb := aK_bd s.m hm k k
    exact Ok.vc (o2_step W r0 r1 r2 r3 ms X s _ t k (by omega) (by omega) ⟨hb.1, by omega⟩)) (by
    have hA := aK_len s.m s.m.length
    have := Ok.vc (o2_end W r0 r1 r2 r3 ms X s (aK s.m s.m.length) t)
    rw [hA] at this
    exact this) (by simp)
def finO (W r0 r1 r2 r3 : Int) (ms : List Mm) (l : List Int) : S7 := putK W (places (rg r0 r1 r2 r3) ms) (xK l (places (rg r0 r1 r2 r3) ms).length (places (rg r0 r1 r2 r3) ms).length) (zer7 (sumN ms)) (places (rg r0 r1 r2 r3) ms).length
def xO (r0 r1 r2 r3 : Int) (ms : List Mm) (l : List Int) : List Int := xK l (places (rg r0 r1 r2 r3) ms).length (places (rg r0 r1 r2 r3) ms).length
def cdO (s : S7) : List Int := Cd.putL (stL s.r0 s.r1 s.r2 s.r3 s.m [] 0)
theorem finO_len (W r0 r1 r2 r3 : Int) (ms : List Mm) (l : List Int) : (finO W r0 r1 r2 r3 ms l).m.length = sumN ms := by simp [finO, putK_len, zer7]
theorem finO_ok (W r0 r1 r2 r3 : Int) (ms : List Mm) (l : List Int) : okS (finO W r0 r1 r2 r3 ms l) := putK_ok _ _ _ _ (zer7_ok _) _
theorem xO_len (r0 r1 r2 r3 : Int) (ms : List Mm) (l : List Int) : (xO r0 r1 r2 r3 ms l).length = (places (rg r0 r1 r2 r3) ms).length := xK_len _ _ _
theorem own_vc (W r0 r1 r2 r3 : Int) (ms : List Mm) (m l : List Int) (h64 : ms.length < 4611686018427387904) (hs : sumN ms ≤ 16) (hM : PureC Try.prog 10 [.row 1 m.length (rowI m)] (.agg (progL W r0 r1 r2 r3 (memR ms))) []) : Vc (vcFn Try.prog false 4 [.row 1 m.length (rowI m), .row 1 l.length (rowI l)] [.cl [.row 1 m.length (rowI m)] (.agg (progL W r0 r1 r2 r3 (memR ms))) [], .cl [.agg (progL W r0 r1 r2 r3 (memR ms))] (.own 0 0 3 0 (places (rg r0 r1 r2 r3) ms).length) [plB (places (rg r0 r1 r2 r3) ms)], .lp [(0, 0), (1, 2)] (o1 (progL W r0 r1 r2 r3 (memR ms)) l (List.replicate (places (rg r0 r1 r2 r3) ms).length 0) 0) (.ext 0) (o1 (progL W r0 r1 r2 r3 (memR ms)) l (xO r0 r1 r2 r3 ms l) (places (rg r0 r1 r2 r3) ms).length), .cl [.agg (progL W r0 r1 r2 r3 (memR ms)), .row 1 (xO r0 r1 r2 r3 ms l).length (rowI (xO r0 r1 r2 r3 ms l))] (.tup [.agg (stC (finO W r0 r1 r2 r3 ms l) (.own 0 0 1 0 (finO W r0 r1 r2 r3 ms l).m.length)), .bool true]) [blkI (finO W r0 r1 r2 r3 ms l).m], .cl [.agg (progL W r0 r1 r2 r3 (memR ms)), .row 1 (xO r0 r1 r2 r3 ms l).length (rowI (xO r0 r1 r2 r3 ms l))] (.tup [.agg (stC (finO W r0 r1 r2 r3 ms l) (.row 1 (finO W r0 r1 r2 r3 ms l).m.length (rowI (finO W r0 r1 r2 r3 ms l).m))), .bool true]) [], .cl [.agg (stA (finO W r0 r1 r2 r3 ms l).r0 (finO W r0 r1 r2 r3 ms l).r1 (finO W r0 r1 r2 r3 ms l).r2 (finO W r0 r1 r2 r3 ms l).r3 (finO W r0 r1 r2 r3 ms l).m .nils 0)] (.own 0 0 1 0 (cdO (finO W r0 r1 r2 r3 ms l)).length) [blkB (cdO (finO W r0 r1 r2 r3 ms l))], .by_ (cdO (finO W r0 r1 r2 r3 ms l)), .lp [(0, 0), (1, 1), (2, 3), (3, 4), (4, 2)] (o2 (progL W r0 r1 r2 r3 (memR ms)) (xO r0 r1 r2 r3 ms l) (finO W r0 r1 r2 r3 ms l) (finO W r0 r1 r2 r3 ms l).m (strOfNums (cdO (finO W r0 r1 r2 r3 ms l))) 0) (.ext 2) (o2 (progL W r0 r1 r2 r3 (memR ms)) (xO r0 r1 r2 r3 ms l) (finO W r0 r1 r2 r3 ms l) (aK (finO W r0 r1 r2 r3 ms l).m (finO W r0 r1 r2 r3 ms l).m.length) (strOfNums (cdO (finO W r0 r1 r2 r3 ms l))) (finO W r0 r1 r2 r3 ms l).m.length), .cl [.agg (progL W r0 r1 r2 r3 (memR ms)), .row 1 (xO r0 r1 r2 r3 ms l).length (rowI (xO r0 r1 r2 r3 ms l))] (.tup [.agg (stC (finO W r0 r1 r2 r3 ms l) (.row 1 (finO W r0 r1 r2 r3 ms l).m.length (rowI (finO W r0 r1 r2 r3 ms l).m))), .bool true]) [], .cl [.agg (stA (finO W r0 r1 r2 r3 ms l).r0 (finO W r0 r1 r2 r3 ms l).r1 (finO W r0 r1 r2 r3 ms l).r2 (finO W r0 r1 r2 r3 ms l).r3 (finO W r0 r1 r2 r3 ms l).m .nils 0)] (.own 0 0 1 0 (cdO (finO W r0 r1 r2 r3 ms l)).length) [blkB (cdO (finO W r0 r1 r2 r3 ms l))], .by_ (cdO (finO W r0 r1 r2 r3 ms l)), .b true, .b true, .b true, .b true, .b true, .cl [.agg (stA (finO W r0 r1 r2 r3 ms l).r0 (finO W r0 r1 r2 r3 ms l).r1 (finO W r0 r1 r2 r3 ms l).r2 (finO W r0 r1 r2 r3 ms l).r3 (finO W r0 r1 r2 r3 ms l).m .nils 0)] (.own 0 0 1 0 (cdO (finO W r0 r1 r2 r3 ms l)).length) [blkB (cdO (finO W r0 r1 r2 r3 ms l))], .b true, .by_ (cdO (finO W r0 r1 r2 r3 ms l)), .b true, .b true, .b true, .b true, .b true, .b true, .b true, .cl [.agg (progL W r0 r1 r2 r3 (memR ms)), .agg (stA (finO W r0 r1 r2 r3 ms l).r0 (finO W r0 r1 r2 r3 ms l).r1 (finO W r0 r1 r2 r3 ms l).r2 (finO W r0 r1 r2 r3 ms l).r3 (finO W r0 r1 r2 r3 ms l).m .nils 0), .agg (stA (finO W r0 r1 r2 r3 ms l).r0 (finO W r0 r1 r2 r3 ms l).r1 (finO W r0 r1 r2 r3 ms l).r2 (finO W r0 r1 r2 r3 ms l).r3 (finO W r0 r1 r2 r3 ms l).m .nils 0)] (.bool (lowB r0 r1 r2 r3 ms (finO W r0 r1 r2 r3 ms l).r0 (finO W r0 r1 r2 r3 ms l).r1 (finO W r0 r1 r2 r3 ms l).r2 (finO W r0 r1 r2 r3 ms l).r3 (finO W r0 r1 r2 r3 ms l).m [] 0 (finO W r0 r1 r2 r3 ms l).r0 (finO W r0 r1 r2 r3 ms l).r1 (finO W r0 r1 r2 r3 ms l).r2 (finO W r0 r1 r2 r3 ms l).r3 (finO W r0 r1 r2 r3 ms l).m [] 0)) [], .b true, .b true, .cl [] (.bool true) [], .b true] [] (.bool true) []) :=
  vc_of (q := (List.length m = List.length m) ∧ (∀ (i : Nat),
  i < List.length m →
    ∀ (j : Nat),
      j < (1 : Nat) →
        AV.int IntKind.i64 (List.getD m i (0 : Int)) =
          AV.int IntKind.i64 (List.getD m i (0 : Int))) ∧ (PureC Try.prog 10 [.row 1 m.length (rowI m)] (.agg (progL W r0 r1 r2 r3 (memR ms))) []) ∧ (W = W) ∧ (r0 = r0) ∧ (r1 = r1) ∧ (r2 = r2) ∧ (r3 = r3) ∧ (List.length ms = List.length ms) ∧ (∀ (i : Nat),
  i < List.length ms →
    ∀ (j : Nat),
      j < (3 : Nat) →
        rowL mmC ms i j =
          rowL mmC ms i j) ∧ (PureC Try.prog 11 [.agg (progL W r0 r1 r2 r3 (memR ms))] (.own 0 0 3 0 (places (rg r0 r1 r2 r3) ms).length) [plB (places (rg r0 r1 r2 r3) ms)]) ∧ ((0 : Int) ≤
    (↑(List.length (places (rg r0 r1 r2 r3) ms)) : Int) ∧
  (↑(List.length (places (rg r0 r1 r2 r3) ms)) : Int) ≤
      (↑(List.length (places (rg r0 r1 r2 r3) ms)) : Int) ∧
    (↑(List.length (places (rg r0 r1 r2 r3) ms)) : Int) *
          (↑(8 : Nat) : Int) ≤
        (140737488355328 : Int) ∧
      (↑(List.length (places (rg r0 r1 r2 r3) ms)) : Int) ≤
        (140737488355328 : Int)) ∧ (W = W) ∧ (r0 = r0) ∧ (r1 = r1) ∧ (r2 = r2) ∧ (r3 = r3) ∧ (List.length ms = List.length ms) ∧ (∀ (i : Nat),
  i < List.length ms →
    ∀ (j : Nat),
      j < (3 : Nat) →
        rowL mmC ms i j =
          rowL mmC ms i j) ∧ (List.length (places (rg r0 r1 r2 r3) ms) =
  List.length
    (List.replicate
      (List.length (places (rg r0 r1 r2 r3) ms)) (0 : Int))) ∧ (∀ (i : Nat),
  i < List.length (places (rg r0 r1 r2 r3) ms) →
    ∀ (j : Nat),
      j < (1 : Nat) →
        List.getD [AV.int IntKind.i64 (0 : Int)] j
            AV.junk =
          AV.int IntKind.i64
            (List.getD
              (List.replicate
                (List.length (places (rg r0 r1 r2 r3) ms))
                (0 : Int))
              i (0 : Int))) ∧ (List.length l = List.length l) ∧ (∀ (i : Nat),
  i < List.length l →
    ∀ (j : Nat),
      j < (1 : Nat) →
        AV.int IntKind.i64 (List.getD l i (0 : Int)) =
          AV.int IntKind.i64 (List.getD l i (0 : Int))) ∧ (false = false) ∧ ((0 : Nat) = (0 : Nat)) ∧ (List.length (places (rg r0 r1 r2 r3) ms) =
  List.length
    (List.replicate
      (List.length (places (rg r0 r1 r2 r3) ms)) (0 : Int))) ∧ ((↑(List.length (places (rg r0 r1 r2 r3) ms)) : Int) =
  (↑(List.length
        (List.replicate
          (List.length (places (rg r0 r1 r2 r3) ms))
          (0 : Int))) :
    Int)) ∧ ((0 : Int) = (↑(0 : Nat) : Int)) ∧ (Ok Try.prog (ntOf Try.prog 4) (.loop (lpC Try.prog 4 0)) (o1 (progL W r0 r1 r2 r3 (memR ms)) l (List.replicate (places (rg r0 r1 r2 r3) ms).length 0) 0).st (.ext 0) (o1 (progL W r0 r1 r2 r3 (memR ms)) l (xO r0 r1 r2 r3 ms l) (places (rg r0 r1 r2 r3) ms).length).st) ∧ (W = W) ∧ (r0 = r0) ∧ (r1 = r1) ∧ (r2 = r2) ∧ (r3 = r3) ∧ (List.length ms = List.length ms) ∧ (∀ (i : Nat),
  i < List.length ms →
    ∀ (j : Nat),
      j < (3 : Nat) →
        rowL mmC ms i j =
          rowL mmC ms i j) ∧ (List.length (xO r0 r1 r2 r3 ms l) =
  List.length (xO r0 r1 r2 r3 ms l)) ∧ (∀ (i : Nat),
  i < List.length (xO r0 r1 r2 r3 ms l) →
    ∀ (j : Nat),
      j < (1 : Nat) →
        AV.int IntKind.i64
            (List.getD (xO r0 r1 r2 r3 ms l) (i + (0 : Nat)) (0 : Int)) =
          AV.int IntKind.i64
            (List.getD (xO r0 r1 r2 r3 ms l) i (0 : Int))) ∧ (PureC Try.prog 12 [.agg (progL W r0 r1 r2 r3 (memR ms)), .row 1 (xO r0 r1 r2 r3 ms l).length (rowI (xO r0 r1 r2 r3 ms l))] (.tup [.agg (stC (finO W r0 r1 r2 r3 ms l) (.own 0 0 1 0 (finO W r0 r1 r2 r3 ms l).m.length)), .bool true]) [blkI (finO W r0 r1 r2 r3 ms l).m]) ∧ (W = W) ∧ (r0 = r0) ∧ (r1 = r1) ∧ (r2 = r2) ∧ (r3 = r3) ∧ (List.length ms = List.length ms) ∧ (∀ (i : Nat),
  i < List.length ms →
    ∀ (j : Nat),
      j < (3 : Nat) →
        rowL mmC ms i j =
          rowL mmC ms i j) ∧ (List.length (xO r0 r1 r2 r3 ms l) =
  List.length (xO r0 r1 r2 r3 ms l)) ∧ (∀ (i : Nat),
  i < List.length (xO r0 r1 r2 r3 ms l) →
    ∀ (j : Nat),
      j < (1 : Nat) →
        AV.int IntKind.i64
            (List.getD (xO r0 r1 r2 r3 ms l) (i + (0 : Nat)) (0 : Int)) =
          AV.int IntKind.i64
            (List.getD (xO r0 r1 r2 r3 ms l) i (0 : Int))) ∧ (PureC Try.prog 12 [.agg (progL W r0 r1 r2 r3 (memR ms)), .row 1 (xO r0 r1 r2 r3 ms l).length (rowI (xO r0 r1 r2 r3 ms l))] (.tup [.agg (stC (finO W r0 r1 r2 r3 ms l) (.row 1 (finO W r0 r1 r2 r3 ms l).m.length (rowI (finO W r0 r1 r2 r3 ms l).m))), .bool true]) []) ∧ (S7.r0 (finO W r0 r1 r2 r3 ms l) =
  S7.r0 (finO W r0 r1 r2 r3 ms l)) ∧ (S7.r1 (finO W r0 r1 r2 r3 ms l) =
  S7.r1 (finO W r0 r1 r2 r3 ms l)) ∧ (S7.r2 (finO W r0 r1 r2 r3 ms l) =
  S7.r2 (finO W r0 r1 r2 r3 ms l)) ∧ (S7.r3 (finO W r0 r1 r2 r3 ms l) =
  S7.r3 (finO W r0 r1 r2 r3 ms l)) ∧ (List.length (S7.m (finO W r0 r1 r2 r3 ms l)) =
  List.length (S7.m (finO W r0 r1 r2 r3 ms l))) ∧ (∀ (i : Nat),
  i < List.length (S7.m (finO W r0 r1 r2 r3 ms l)) →
    ∀ (j : Nat),
      j < (1 : Nat) →
        AV.int IntKind.i64
            (List.getD (S7.m (finO W r0 r1 r2 r3 ms l)) i
              (0 : Int)) =
          AV.int IntKind.i64
            (List.getD (S7.m (finO W r0 r1 r2 r3 ms l)) i
              (0 : Int))) ∧ ((0 : Int) = (0 : Int)) ∧ (PureC Try.prog 13 [.agg (stA (finO W r0 r1 r2 r3 ms l).r0 (finO W r0 r1 r2 r3 ms l).r1 (finO W r0 r1 r2 r3 ms l).r2 (finO W r0 r1 r2 r3 ms l).r3 (finO W r0 r1 r2 r3 ms l).m .nils 0)] (.own 0 0 1 0 (cdO (finO W r0 r1 r2 r3 ms l)).length) [blkB (cdO (finO W r0 r1 r2 r3 ms l))]) ∧ (List.length (cdO (finO W r0 r1 r2 r3 ms l)) =
  List.length (cdO (finO W r0 r1 r2 r3 ms l))) ∧ (∀ (i : Nat),
  i < List.length (cdO (finO W r0 r1 r2 r3 ms l)) →
    AV.int IntKind.u8
        (List.getD (cdO (finO W r0 r1 r2 r3 ms l))
          (i + (0 : Nat)) (0 : Int)) =
      AV.int IntKind.u8
        (List.getD (cdO (finO W r0 r1 r2 r3 ms l)) i
          (0 : Int))) ∧ (W = W) ∧ (r0 = r0) ∧ (r1 = r1) ∧ (r2 = r2) ∧ (r3 = r3) ∧ (List.length ms = List.length ms) ∧ (∀ (i : Nat),
  i < List.length ms →
    ∀ (j : Nat),
      j < (3 : Nat) →
        rowL mmC ms i j =
          rowL mmC ms i j) ∧ (List.length (xO r0 r1 r2 r3 ms l) =
  List.length (xO r0 r1 r2 r3 ms l)) ∧ (∀ (i : Nat),
  i < List.length (xO r0 r1 r2 r3 ms l) →
    ∀ (j : Nat),
      j < (1 : Nat) →
        AV.int IntKind.i64
            (List.getD (xO r0 r1 r2 r3 ms l) i (0 : Int)) =
          AV.int IntKind.i64
            (List.getD (xO r0 r1 r2 r3 ms l) i (0 : Int))) ∧ (S7.r0 (finO W r0 r1 r2 r3 ms l) =
  S7.r0 (finO W r0 r1 r2 r3 ms l)) ∧ (S7.r1 (finO W r0 r1 r2 r3 ms l) =
  S7.r1 (finO W r0 r1 r2 r3 ms l)) ∧ (S7.r2 (finO W r0 r1 r2 r3 ms l) =
  S7.r2 (finO W r0 r1 r2 r3 ms l)) ∧ (S7.r3 (finO W r0 r1 r2 r3 ms l) =
  S7.r3 (finO W r0 r1 r2 r3 ms l)) ∧ ((0 : Nat) = (0 : Nat)) ∧ (List.length (S7.m (finO W r0 r1 r2 r3 ms l)) =
  List.length (S7.m (finO W r0 r1 r2 r3 ms l))) ∧ ((0 : Int) = (0 : Int)) ∧ (S7.r0 (finO W r0 r1 r2 r3 ms l) =
  S7.r0 (finO W r0 r1 r2 r3 ms l)) ∧ (S7.r1 (finO W r0 r1 r2 r3 ms l) =
  S7.r1 (finO W r0 r1 r2 r3 ms l)) ∧ (S7.r2 (finO W r0 r1 r2 r3 ms l) =
  S7.r2 (finO W r0 r1 r2 r3 ms l)) ∧ (S7.r3 (finO W r0 r1 r2 r3 ms l) =
  S7.r3 (finO W r0 r1 r2 r3 ms l)) ∧ (List.length (S7.m (finO W r0 r1 r2 r3 ms l)) =
  List.length (S7.m (finO W r0 r1 r2 r3 ms l))) ∧ (∀ (i : Nat),
  i < List.length (S7.m (finO W r0 r1 r2 r3 ms l)) →
    ∀ (j : Nat),
      j < (1 : Nat) →
        AV.int IntKind.i64
            (List.getD (S7.m (finO W r0 r1 r2 r3 ms l)) i
              (0 : Int)) =
          AV.int IntKind.i64
            (List.getD (S7.m (finO W r0 r1 r2 r3 ms l)) i
              (0 : Int))) ∧ ((0 : Int) = (0 : Int)) ∧ (List.length (S7.m (finO W r0 r1 r2 r3 ms l)) =
  List.length (S7.m (finO W r0 r1 r2 r3 ms l))) ∧ (∀ (i : Nat),
  i < List.length (S7.m (finO W r0 r1 r2 r3 ms l)) →
    ∀ (j : Nat),
      j < (1 : Nat) →
        AV.int IntKind.i64
            (List.getD (S7.m (finO W r0 r1 r2 r3 ms l)) i
              (0 : Int)) =
          AV.int IntKind.i64
            (List.getD (S7.m (finO W r0 r1 r2 r3 ms l)) i
              (0 : Int))) ∧ (false = false) ∧ ((0 : Nat) = (0 : Nat)) ∧ (List.length (xO r0 r1 r2 r3 ms l) =
  List.length (xO r0 r1 r2 r3 ms l)) ∧ (Go.strOfNums (cdO (finO W r0 r1 r2 r3 ms l)) =
  Go.strOfNums (cdO (finO W r0 r1 r2 r3 ms l))) ∧ ((↑(List.length (S7.m (finO W r0 r1 r2 r3 ms l))) : Int) =
  (↑(List.length (S7.m (finO W r0 r1 r2 r3 ms l))) : Int)) ∧ ((0 : Int) = (↑(0 : Nat) : Int)) ∧ (Ok Try.prog (ntOf Try.prog 4) (.loop (lpC Try.prog 4 1)) (o2 (progL W r0 r1 r2 r3 (memR ms)) (xO r0 r1 r2 r3 ms l) (finO W r0 r1 r2 r3 ms l) (finO W r0 r1 r2 r3 ms l).m (strOfNums (cdO (finO W r0 r1 r2 r3 ms l))) 0).st (.ext 2) (o2 (progL W r0 r1 r2 r3 (memR ms)) (xO r0 r1 r2 r3 ms l) (finO W r0 r1 r2 r3 ms l) (aK (finO W r0 r1 r2 r3 ms l).m (finO W r0 r1 r2 r3 ms l).m.length) (strOfNums (cdO (finO W r0 r1 r2 r3 ms l))) (finO W r0 r1 r2 r3 ms l).m.length).st) ∧ ((8 : Nat) ≤ (140737488355328 : Nat) ∧ (1 : Nat) ≤ (140737488355328 : Nat)) ∧ (W = W) ∧ (r0 = r0) ∧ (r1 = r1) ∧ (r2 = r2) ∧ (r3 = r3) ∧ (List.length ms = List.length ms) ∧ (∀ (i : Nat),
  i < List.length ms →
    ∀ (j : Nat),
      j < (3 : Nat) →
        rowL mmC ms i j =
          rowL mmC ms i j) ∧ (List.length (xO r0 r1 r2 r3 ms l) =
  List.length (xO r0 r1 r2 r3 ms l)) ∧ (∀ (i : Nat),
  i < List.length (xO r0 r1 r2 r3 ms l) →
    ∀ (j : Nat),
      j < (1 : Nat) →
        AV.int IntKind.i64
            (List.getD (xO r0 r1 r2 r3 ms l) (i + (0 : Nat)) (0 : Int)) =
          AV.int IntKind.i64
            (List.getD (xO r0 r1 r2 r3 ms l) i (0 : Int))) ∧ (PureC Try.prog 12 [.agg (progL W r0 r1 r2 r3 (memR ms)), .row 1 (xO r0 r1 r2 r3 ms l).length (rowI (xO r0 r1 r2 r3 ms l))] (.tup [.agg (stC (finO W r0 r1 r2 r3 ms l) (.row 1 (finO W r0 r1 r2 r3 ms l).m.length (rowI (finO W r0 r1 r2 r3 ms l).m))), .bool true]) []) ∧ (S7.r0 (finO W r0 r1 r2 r3 ms l) =
  S7.r0 (finO W r0 r1 r2 r3 ms l)) ∧ (S7.r1 (finO W r0 r1 r2 r3 ms l) =
  S7.r1 (finO W r0 r1 r2 r3 ms l)) ∧ (S7.r2 (finO W r0 r1 r2 r3 ms l) =
  S7.r2 (finO W r0 r1 r2 r3 ms l)) ∧ (S7.r3 (finO W r0 r1 r2 r3 ms l) =
  S7.r3 (finO W r0 r1 r2 r3 ms l)) ∧ (List.length (S7.m (finO W r0 r1 r2 r3 ms l)) =
  List.length (S7.m (finO W r0 r1 r2 r3 ms l))) ∧ (∀ (i : Nat),
  i < List.length (S7.m (finO W r0 r1 r2 r3 ms l)) →
    ∀ (j : Nat),
      j < (1 : Nat) →
        AV.int IntKind.i64
            (List.getD (S7.m (finO W r0 r1 r2 r3 ms l)) i
              (0 : Int)) =
          AV.int IntKind.i64
            (List.getD (S7.m (finO W r0 r1 r2 r3 ms l)) i
              (0 : Int))) ∧ ((0 : Int) = (0 : Int)) ∧ (PureC Try.prog 13 [.agg (stA (finO W r0 r1 r2 r3 ms l).r0 (finO W r0 r1 r2 r3 ms l).r1 (finO W r0 r1 r2 r3 ms l).r2 (finO W r0 r1 r2 r3 ms l).r3 (finO W r0 r1 r2 r3 ms l).m .nils 0)] (.own 0 0 1 0 (cdO (finO W r0 r1 r2 r3 ms l)).length) [blkB (cdO (finO W r0 r1 r2 r3 ms l))]) ∧ (List.length (cdO (finO W r0 r1 r2 r3 ms l)) =
  List.length (cdO (finO W r0 r1 r2 r3 ms l))) ∧ (∀ (i : Nat),
  i < List.length (cdO (finO W r0 r1 r2 r3 ms l)) →
    AV.int IntKind.u8
        (List.getD (cdO (finO W r0 r1 r2 r3 ms l))
          (i + (0 : Nat)) (0 : Int)) =
      AV.int IntKind.u8
        (List.getD (cdO (finO W r0 r1 r2 r3 ms l)) i
          (0 : Int))) ∧ (true = true) ∧ (true = true) ∧ (true = true) ∧ ((ByteArray.toList
      (Go.strOfNums (cdO (finO W r0 r1 r2 r3 ms l))) ==
    ByteArray.toList
      (Go.strOfNums (cdO (finO W r0 r1 r2 r3 ms l)))) =
  true) ∧ ((ByteArray.toList
      (Go.strOfNums (cdO (finO W r0 r1 r2 r3 ms l))) ==
    ByteArray.toList
      (Go.strOfNums (cdO (finO W r0 r1 r2 r3 ms l)))) =
  true) ∧ (S7.r0 (finO W r0 r1 r2 r3 ms l) =
  S7.r0 (finO W r0 r1 r2 r3 ms l)) ∧ (S7.r1 (finO W r0 r1 r2 r3 ms l) =
  S7.r1 (finO W r0 r1 r2 r3 ms l)) ∧ (S7.r2 (finO W r0 r1 r2 r3 ms l) =
  S7.r2 (finO W r0 r1 r2 r3 ms l)) ∧ (S7.r3 (finO W r0 r1 r2 r3 ms l) =
  S7.r3 (finO W r0 r1 r2 r3 ms l)) ∧ (List.length (S7.m (finO W r0 r1 r2 r3 ms l)) =
  List.length (S7.m (finO W r0 r1 r2 r3 ms l))) ∧ (∀ (i : Nat),
  i < List.length (S7.m (finO W r0 r1 r2 r3 ms l)) →
    ∀ (j : Nat),
      j < (1 : Nat) →
        AV.int IntKind.i64
            (List.getD (S7.m (finO W r0 r1 r2 r3 ms l)) i
              (0 : Int)) =
          AV.int IntKind.i64
            (List.getD (S7.m (finO W r0 r1 r2 r3 ms l)) i
              (0 : Int))) ∧ ((0 : Int) = (0 : Int)) ∧ (PureC Try.prog 13 [.agg (stA (finO W r0 r1 r2 r3 ms l).r0 (finO W r0 r1 r2 r3 ms l).r1 (finO W r0 r1 r2 r3 ms l).r2 (finO W r0 r1 r2 r3 ms l).r3 (finO W r0 r1 r2 r3 ms l).m .nils 0)] (.own 0 0 1 0 (cdO (finO W r0 r1 r2 r3 ms l)).length) [blkB (cdO (finO W r0 r1 r2 r3 ms l))]) ∧ ((ByteArray.toList
      (Go.strOfNums (cdO (finO W r0 r1 r2 r3 ms l))) ==
    ByteArray.toList
      (Go.strOfNums (cdO (finO W r0 r1 r2 r3 ms l)))) =
  true) ∧ (List.length (cdO (finO W r0 r1 r2 r3 ms l)) =
  List.length (cdO (finO W r0 r1 r2 r3 ms l))) ∧ (∀ (i : Nat),
  i < List.length (cdO (finO W r0 r1 r2 r3 ms l)) →
    AV.int IntKind.u8
        (List.getD (cdO (finO W r0 r1 r2 r3 ms l))
          (i + (0 : Nat)) (0 : Int)) =
      AV.int IntKind.u8
        (List.getD (cdO (finO W r0 r1 r2 r3 ms l)) i
          (0 : Int))) ∧ ((ByteArray.toList
      (Go.strOfNums (cdO (finO W r0 r1 r2 r3 ms l))) ==
    ByteArray.toList
      (Go.strOfNums (cdO (finO W r0 r1 r2 r3 ms l)))) =
  true) ∧ ((ByteArray.toList
      (Go.strOfNums (cdO (finO W r0 r1 r2 r3 ms l))) ==
    ByteArray.toList
      (Go.strOfNums (cdO (finO W r0 r1 r2 r3 ms l)))) =
  true) ∧ ((ByteArray.toList
      (Go.strOfNums (cdO (finO W r0 r1 r2 r3 ms l))) ==
    ByteArray.toList
      (Go.strOfNums (cdO (finO W r0 r1 r2 r3 ms l)))) =
  true) ∧ ((ByteArray.toList
      (Go.strOfNums (cdO (finO W r0 r1 r2 r3 ms l))) ==
    ByteArray.toList
      (Go.strOfNums (cdO (finO W r0 r1 r2 r3 ms l)))) =
  true) ∧ ((ByteArray.toList
      (Go.strOfNums (cdO (finO W r0 r1 r2 r3 ms l))) ==
    ByteArray.toList
      (Go.strOfNums (cdO (finO W r0 r1 r2 r3 ms l)))) =
  true) ∧ ((ByteArray.toList
      (Go.strOfNums (cdO (finO W r0 r1 r2 r3 ms l))) ==
    ByteArray.toList
      (Go.strOfNums (cdO (finO W r0 r1 r2 r3 ms l)))) =
  true) ∧ ((ByteArray.toList
      (Go.strOfNums (cdO (finO W r0 r1 r2 r3 ms l))) ==
    ByteArray.toList
      (Go.strOfNums (cdO (finO W r0 r1 r2 r3 ms l)))) =
  true) ∧ (W = W) ∧ (r0 = r0) ∧ (r1 = r1) ∧ (r2 = r2) ∧ (r3 = r3) ∧ (List.length ms = List.length ms) ∧ (∀ (i : Nat),
  i < List.length ms →
    ∀ (j : Nat),
      j < (3 : Nat) →
        rowL mmC ms i j =
          rowL mmC ms i j) ∧ (S7.r0 (finO W r0 r1 r2 r3 ms l) =
  S7.r0 (finO W r0 r1 r2 r3 ms l)) ∧ (S7.r1 (finO W r0 r1 r2 r3 ms l) =
  S7.r1 (finO W r0 r1 r2 r3 ms l)) ∧ (S7.r2 (finO W r0 r1 r2 r3 ms l) =
  S7.r2 (finO W r0 r1 r2 r3 ms l)) ∧ (S7.r3 (finO W r0 r1 r2 r3 ms l) =
  S7.r3 (finO W r0 r1 r2 r3 ms l)) ∧ (List.length (S7.m (finO W r0 r1 r2 r3 ms l)) =
  List.length (S7.m (finO W r0 r1 r2 r3 ms l))) ∧ (∀ (i : Nat),
  i < List.length (S7.m (finO W r0 r1 r2 r3 ms l)) →
    ∀ (j : Nat),
      j < (1 : Nat) →
        AV.int IntKind.i64
            (List.getD (S7.m (finO W r0 r1 r2 r3 ms l)) i
              (0 : Int)) =
          AV.int IntKind.i64
            (List.getD (S7.m (finO W r0 r1 r2 r3 ms l)) i
              (0 : Int))) ∧ ((0 : Int) = (0 : Int)) ∧ (S7.r0 (finO W r0 r1 r2 r3 ms l) =
  S7.r0 (finO W r0 r1 r2 r3 ms l)) ∧ (S7.r1 (finO W r0 r1 r2 r3 ms l) =
  S7.r1 (finO W r0 r1 r2 r3 ms l)) ∧ (S7.r2 (finO W r0 r1 r2 r3 ms l) =
  S7.r2 (finO W r0 r1 r2 r3 ms l)) ∧ (S7.r3 (finO W r0 r1 r2 r3 ms l) =
  S7.r3 (finO W r0 r1 r2 r3 ms l)) ∧ (List.length (S7.m (finO W r0 r1 r2 r3 ms l)) =
  List.length (S7.m (finO W r0 r1 r2 r3 ms l))) ∧ (∀ (i : Nat),
  i < List.length (S7.m (finO W r0 r1 r2 r3 ms l)) →
    ∀ (j : Nat),
      j < (1 : Nat) →
        AV.int IntKind.i64
            (List.getD (S7.m (finO W r0 r1 r2 r3 ms l)) i
              (0 : Int)) =
          AV.int IntKind.i64
            (List.getD (S7.m (finO W r0 r1 r2 r3 ms l)) i
              (0 : Int))) ∧ ((0 : Int) = (0 : Int)) ∧ (PureC Try.prog 14 [.agg (progL W r0 r1 r2 r3 (memR ms)), .agg (stA (finO W r0 r1 r2 r3 ms l).r0 (finO W r0 r1 r2 r3 ms l).r1 (finO W r0 r1 r2 r3 ms l).r2 (finO W r0 r1 r2 r3 ms l).r3 (finO W r0 r1 r2 r3 ms l).m .nils 0), .agg (stA (finO W r0 r1 r2 r3 ms l).r0 (finO W r0 r1 r2 r3 ms l).r1 (finO W r0 r1 r2 r3 ms l).r2 (finO W r0 r1 r2 r3 ms l).r3 (finO W r0 r1 r2 r3 ms l).m .nils 0)] (.bool (lowB r0 r1 r2 r3 ms (finO W r0 r1 r2 r3 ms l).r0 (finO W r0 r1 r2 r3 ms l).r1 (finO W r0 r1 r2 r3 ms l).r2 (finO W r0 r1 r2 r3 ms l).r3 (finO W r0 r1 r2 r3 ms l).m [] 0 (finO W r0 r1 r2 r3 ms l).r0 (finO W r0 r1 r2 r3 ms l).r1 (finO W r0 r1 r2 r3 ms l).r2 (finO W r0 r1 r2 r3 ms l).r3 (finO W r0 r1 r2 r3 ms l).m [] 0)) []) ∧ ((ByteArray.toList
      (Go.strOfNums (cdO (finO W r0 r1 r2 r3 ms l))) ==
    ByteArray.toList
      (Go.strOfNums (cdO (finO W r0 r1 r2 r3 ms l)))) =
  true) ∧ (lowB r0 r1 r2 r3 ms
    (S7.r0 (finO W r0 r1 r2 r3 ms l))
    (S7.r1 (finO W r0 r1 r2 r3 ms l))
    (S7.r2 (finO W r0 r1 r2 r3 ms l))
    (S7.r3 (finO W r0 r1 r2 r3 ms l))
    (S7.m (finO W r0 r1 r2 r3 ms l)) [] (0 : Int)
    (S7.r0 (finO W r0 r1 r2 r3 ms l))
    (S7.r1 (finO W r0 r1 r2 r3 ms l))
    (S7.r2 (finO W r0 r1 r2 r3 ms l))
    (S7.r3 (finO W r0 r1 r2 r3 ms l))
    (S7.m (finO W r0 r1 r2 r3 ms l)) [] (0 : Int) =
  true) ∧ (PureC Try.prog 9 [] (.bool true) []) ∧ (lowB r0 r1 r2 r3 ms
    (S7.r0 (finO W r0 r1 r2 r3 ms l))
    (S7.r1 (finO W r0 r1 r2 r3 ms l))
    (S7.r2 (finO W r0 r1 r2 r3 ms l))
    (S7.r3 (finO W r0 r1 r2 r3 ms l))
    (S7.m (finO W r0 r1 r2 r3 ms l)) [] (0 : Int)
    (S7.r0 (finO W r0 r1 r2 r3 ms l))
    (S7.r1 (finO W r0 r1 r2 r3 ms l))
    (S7.r2 (finO W r0 r1 r2 r3 ms l))
    (S7.r3 (finO W r0 r1 r2 r3 ms l))
    (S7.m (finO W r0 r1 r2 r3 ms l)) [] (0 : Int) =
  true) ∧ (true = true) ∧ True) (by kernel_rfl)
    ⟨rfl,
     (fun _ _ _ _ => rfl),
     hM,
     rfl,
     rfl,
     rfl,
     rfl,
     rfl,
     rfl,
     (fun _ _ _ _ => rfl),
     refPlaces W r0 r1 r2 r3 ms h64 (by omega),
     (by have := places_length (rg r0 r1 r2 r3) ms; omega),
     rfl,
     rfl,
     rfl,
     rfl,
     rfl,
     rfl,
     (fun _ _ _ _ => rfl),
     (List.length_replicate ..).symm,
     (fun i hi j hj => (match j, hj with | 0, _ => rowI_rep rfl i 0 (by simpa using hi))),
     rfl,
     (fun _ _ _ _ => rfl),
     rfl,
     rfl,
     (List.length_replicate ..).symm,
     (by rw [List.length_replicate]),
     (by first | omega | rfl | (simp; done) | (simp; omega)),
     o1_loop W r0 r1 r2 r3 ms l (places (rg r0 r1 r2 r3) ms).length (by have := places_length (rg r0 r1 r2 r3) ms; omega),
     rfl,
     rfl,
     rfl,
     rfl,
     rfl,
     rfl,
     (fun _ _ _ _ => rfl),
     rfl,
     (fun _ _ _ _ => rfl),
     startC W r0 r1 r2 r3 ms (xO r0 r1 r2 r3 ms l) h64 hs (xO_len r0 r1 r2 r3 ms l),
     rfl,
     rfl,
     rfl,
     rfl,
     rfl,
     rfl,
     (fun _ _ _ _ => rfl),
     rfl,
     (fun _ _ _ _ => rfl),
     (startC W r0 r1 r2 r3 ms (xO r0 r1 r2 r3 ms l) h64 hs (xO_len r0 r1 r2 r3 ms l)).frozen2,
     rfl,
     rfl,
     rfl,
     rfl,
     rfl,
     (fun _ _ _ _ => rfl),
     rfl,
     codeC_n (finO W r0 r1 r2 r3 ms l).r0 (finO W r0 r1 r2 r3 ms l).r1 (finO W r0 r1 r2 r3 ms l).r2 (finO W r0 r1 r2 r3 ms l).r3 (finO W r0 r1 r2 r3 ms l).m 0 (by rw [stL_len, finO_len]; simp; omega) (stL_isI (finO_ok W r0 r1 r2 r3 ms l) (by rw [finO_len]; omega)),
     rfl,
     (fun _ _ => rfl),
     rfl,
     rfl,
     rfl,
     rfl,
     rfl,
     rfl,
     (fun _ _ _ _ => rfl),
     rfl,
     (fun _ _ _ _ => rfl),
     rfl,
     rfl,
     rfl,
     rfl,
     rfl,
     rfl,
     rfl,
     rfl,
     rfl,
     rfl,
     rfl,
     rfl,
     (fun _ _ _ _ => rfl),
     rfl,
     rfl,
     (fun _ _ _ _ => rfl),
     rfl,
     rfl,
     rfl,
     rfl,
     rfl,
     (by first | omega | rfl | (simp; done) | (simp; omega)),
     o2_loop W r0 r1 r2 r3 ms (xO r0 r1 r2 r3 ms l) (finO W r0 r1 r2 r3 ms l) (strOfNums (cdO (finO W r0 r1 r2 r3 ms l))) (finO_ok W r0 r1 r2 r3 ms l).2.2.2.2 (by rw [finO_len]; omega),
     (by have := places_length (rg r0 r1 r2 r3) ms; omega),
     rfl,
     rfl,
     rfl,
     rfl,
     rfl,
     rfl,
     (fun _ _ _ _ => rfl),
     rfl,
     (fun _ _ _ _ => rfl),
     (startC W r0 r1 r2 r3 ms (xO r0 r1 r2 r3 ms l) h64 hs (xO_len r0 r1 r2 r3 ms l)).frozen2,
     rfl,
     rfl,
     rfl,
     rfl,
     rfl,
     (fun _ _ _ _ => rfl),
     rfl,
     codeC_n (finO W r0 r1 r2 r3 ms l).r0 (finO W r0 r1 r2 r3 ms l).r1 (finO W r0 r1 r2 r3 ms l).r2 (finO W r0 r1 r2 r3 ms l).r3 (finO W r0 r1 r2 r3 ms l).m 0 (by rw [stL_len, finO_len]; simp; omega) (stL_isI (finO_ok W r0 r1 r2 r3 ms l) (by rw [finO_len]; omega)),
     rfl,
     (fun _ _ => rfl),
     rfl,
     rfl,
     rfl,
     (beq_self_eq_true _),
     (beq_self_eq_true _),
     rfl,
     rfl,
     rfl,
     rfl,
     rfl,
     (fun _ _ _ _ => rfl),
     rfl,
     codeC_n (finO W r0 r1 r2 r3 ms l).r0 (finO W r0 r1 r2 r3 ms l).r1 (finO W r0 r1 r2 r3 ms l).r2 (finO W r0 r1 r2 r3 ms l).r3 (finO W r0 r1 r2 r3 ms l).m 0 (by rw [stL_len, finO_len]; simp; omega) (stL_isI (finO_ok W r0 r1 r2 r3 ms l) (by rw [finO_len]; omega)),
     (beq_self_eq_true _),
     rfl,
     (fun _ _ => rfl),
     (beq_self_eq_true _),
     (beq_self_eq_true _),
     (beq_self_eq_true _),
     (beq_self_eq_true _),
     (beq_self_eq_true _),
     (beq_self_eq_true _),
     (beq_self_eq_true _),
     rfl,
     rfl,
     rfl,
     rfl,
     rfl,
     rfl,
     (fun _ _ _ _ => rfl),
     rfl,
     rfl,
     rfl,
     rfl,
     rfl,
     (fun _ _ _ _ => rfl),
     rfl,
     rfl,
     rfl,
     rfl,
     rfl,
     rfl,
     (fun _ _ _ _ => rfl),
     rfl,
     lowC_nn W r0 r1 r2 r3 ms (finO W r0 r1 r2 r3 ms l).r0 (finO W r0 r1 r2 r3 ms l).r1 (finO W r0 r1 r2 r3 ms l).r2 (finO W r0 r1 r2 r3 ms l).r3 0 (finO W r0 r1 r2 r3 ms l).r0 (finO W r0 r1 r2 r3 ms l).r1 (finO W r0 r1 r2 r3 ms l).r2 (finO W r0 r1 r2 r3 ms l).r3 0 (finO W r0 r1 r2 r3 ms l).m (finO W r0 r1 r2 r3 ms l).m h64 hs (finO_len W r0 r1 r2 r3 ms l) (finO_len W r0 r1 r2 r3 ms l),
     (beq_self_eq_true _),
     (lowB_refl _ _ _ _ _ _ _ _ _ _ _ _),
     awakeC,
     (lowB_refl _ _ _ _ _ _ _ _ _ _ _ _),
     rfl,
     trivial⟩
theorem archOwnC (m l : List Int) : PureC Try.prog 4 [.row 1 m.length (rowI m), .row 1 l.length (rowI l)] (.bool true) [] := by
  obtain ⟨W, r0, r1, r2, r3, ms, _, hs, hl, hM⟩ := makeC m
  exact PureC.vc (own_vc W r0 r1 r2 r3 ms m l (by omega) (by omega) hM)
theorem walk_ArchOwn (A0 : Option Addr) (c0 : Nat) (z0 : List Int) (A1 : Option Addr) (c1 : Nat) (z1 : List Int) (W : World) (hc0 : z0.length ≤ c0) (hm0 : c0 ≤ maxLen) (hr0 : Rd W W.heap.size A0 (z0.map (Value.int .i64))) (hc1 : z1.length ≤ c1) (hm1 : c1 ≤ maxLen) (hr1 : Rd W W.heap.size A1 (z1.map (Value.int .i64))) : Calls Try.prog 4 #[.slice A0 z0.length c0, .slice A1 z1.length c1] W (RetB (.bool true) W) :=
  (archOwnC z0 z1).lawB (R := fun g => g < W.heap.size) (fun _ h => h) rfl (fun j x v hx hv => match j, hx, hv with
    | 0, rfl, rfl => .ofRd hr0 hc0 hm0
    | 1, rfl, rfl => .ofRd hr1 hc1 hm1)
end Go.Proofs.Ytdbnfdcjibgikaa.Px
