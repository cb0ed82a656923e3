/- A state holds what its places were told, and nothing else; two look alike just if they hold the same in all that is public. -/
import Derived.Test.YtdbnfdcjibgikaaA7sb
import Derived.Test.YtdbnfdcjibgikaaA7j
import Derived.Test.YtdbnfdcjibgikaaA7m
set_option linter.unusedVariables false
set_option linter.unusedSimpArgs false
set_option maxRecDepth 100000
namespace Go.Proofs.Ytdbnfdcjibgikaa.Px
open Go.RowKit Go.Proofs.Ytdbnfdcjibgikaa.Rx
theorem rowK_len (W : Int) (l k : List Int) (h : Int) (j n : Nat) : (rowK W l k h j n).length = n := by
  induction n with
  | zero => rfl
  | succ n ih => simp [rowK, ih]
theorem rowK_get (W : Int) (l k : List Int) (h : Int) (j : Nat) : ∀ n i, i < n → (rowK W l k h j n).getD i 0 = Wd.maskV W (valN l k h j i) := by
  intro n
  induction n with
  | zero => intro i h; omega
  | succ n ih =>
    intro i hi
    have hl := rowK_len W l k h j n
    simp only [rowK, List.getD_eq_getElem?_getD]
    by_cases e : i < n
    · rw [List.getElem?_append_left (by omega)]
      have := ih i e
      rw [List.getD_eq_getElem?_getD] at this
      exact this
    · obtain rfl : i = n := by omega
      rw [List.getElem?_append_right (by omega), hl, Nat.sub_self]
      rfl
theorem sameK_iff (pl : List Pl) (x y : List Int) : ∀ n, sameK pl x y n = true ↔ ∀ i, i < n → (pl.getD i default).sec = false → x.getD i 0 = y.getD i 0 := by
  intro n
  induction n with
  | zero => simp [sameK]
  | succ n ih =>
    simp only [sameK, Bool.and_eq_true, ih, Bool.or_eq_true, beq_iff_eq]
    constructor
    · rintro ⟨h1, h2⟩ i hi hs
      by_cases e : i < n
      · exact h1 i e hs
      · obtain rfl : i = n := by omega
        rcases h2 with h2 | h2
        · rw [hs] at h2; cases h2
        · exact h2
    · intro hh
      refine ⟨fun i hi => hh i (by omega), ?_⟩
      cases hs : (pl.getD n default).sec with
      | true => exact .inl rfl
      | false => exact .inr (hh n (by omega) hs)
theorem rows_loop0 (W r0 r1 r2 r3 : Int) (ms : List Mm) (l k : List Int) (h : Int) (pl : List Pl) (hpl : pl.length < 1000) : Ok Try.prog (ntOf Try.prog 6) (.loop (lpC Try.prog 6 1)) (sS (progL W r0 r1 r2 r3 (memR ms)) l k h pl 0 [(34, .int .i64 pl.length), (35, .int .i64 ((0 : Nat) : Int))] none none none (some ([] : List Int)) none none [(4, blkI ([] : List Int))]).st (.ext 2) (sS (progL W r0 r1 r2 r3 (memR ms)) l k h pl 0 [] none none none (some (rowK W l k h 0 pl.length)) none none [(4, blkF (rowK W l k h 0 pl.length))]).st := by
  have hlen := rowK_len W l k h 0 pl.length
  refine Ok.fzIds (rw0_fz W r0 r1 r2 r3 ms l k h pl (rowK W l k h 0 pl.length)) ?_
  refine Ok.loop (P := Try.prog) (nt := ntOf Try.prog 6) (c := lpC Try.prog 6 1) (F := fun i => (sS (progL W r0 r1 r2 r3 (memR ms)) l k h pl 0 [(34, .int .i64 pl.length), (35, .int .i64 ((i : Nat) : Int))] none none none (some (rowK W l k h 0 i)) none none [(4, blkI (rowK W l k h 0 i))])) (m := pl.length) (x := .ext 2) (J := (sS (progL W r0 r1 r2 r3 (memR ms)) l k h pl 0 [(34, .int .i64 pl.length), (35, .int .i64 pl.length)] none none none (some (rowK W l k h 0 pl.length)) none none [(4, blkI (rowK W l k h 0 pl.length))])) (fun i hi => ?_) (Ok.vc (rw0_end W r0 r1 r2 r3 ms l k h pl (rowK W l k h 0 pl.length))) (by simp)
  have hX := rowK_len W l k h 0 i
  show Ok _ _ _ _ _ (sS (progL W r0 r1 r2 r3 (memR ms)) l k h pl 0 [(34, .int .i64 pl.length), (35, .int .i64 ((i + 1 : Nat) : Int))] none none none (some (rowK W l k h 0 i ++ [Wd.maskV W (valN l k h 0 i)])) none none [(4, blkI (rowK W l k h 0 i ++ [Wd.maskV W (valN l k h 0 i)]))]).st
  by_cases h1 : i < l.length
  · by_cases h2 : i < k.length
    · cases h3 : bitJ h 0 i with
      | true =>
        have e : valN l k h 0 i = k.getD i 0 := by unfold valN; rw [if_pos ⟨h2, h3⟩]
        rw [e]; exact Ok.vc (rw0_TTT W r0 r1 r2 r3 ms l k h pl _ i hi hpl (by omega) h1 h2 h3)
      | false =>
        have e : valN l k h 0 i = l.getD i 0 := by unfold valN; rw [if_neg (by rw [h3]; simp)]
        rw [e]; exact Ok.vc (rw0_TTF W r0 r1 r2 r3 ms l k h pl _ i hi hpl (by omega) h1 h2 h3)
    · have e : valN l k h 0 i = l.getD i 0 := by unfold valN; rw [if_neg (fun h => h2 h.1)]
      rw [e]; exact Ok.vc (rw0_TFF W r0 r1 r2 r3 ms l k h pl _ i hi hpl (by omega) h1 h2)
  · have h0 : l.getD i 0 = 0 := by rw [List.getD_eq_getElem?_getD, List.getElem?_eq_none (by omega)]; rfl
    by_cases h2 : i < k.length
    · cases h3 : bitJ h 0 i with
      | true =>
        have e : valN l k h 0 i = k.getD i 0 := by unfold valN; rw [if_pos ⟨h2, h3⟩]
        rw [e]; exact Ok.vc (rw0_FTT W r0 r1 r2 r3 ms l k h pl _ i hi hpl (by omega) h1 h2 h3)
      | false =>
        have e : valN l k h 0 i = 0 := by unfold valN; rw [if_neg (by rw [h3]; simp), h0]
        rw [e]; exact Ok.vc (rw0_FTF W r0 r1 r2 r3 ms l k h pl _ i hi hpl (by omega) h1 h2 h3)
    · have e : valN l k h 0 i = 0 := by unfold valN; rw [if_neg (fun h => h2 h.1), h0]
      rw [e]; exact Ok.vc (rw0_FFF W r0 r1 r2 r3 ms l k h pl _ i hi hpl (by omega) h1 h2)
theorem ck_loop0 (W r0 r1 r2 r3 : Int) (ms : List Mm) (l k : List Int) (h : Int) (pl : List Pl) (s : S7) (X : List Int) (hpl : pl.length < 1000) (hX : X.length = pl.length) (hs : s.m.length < 1000) (ho : ∀ p ∈ pl, plOk s.m.length p) (hv : ∀ i, i < pl.length → at7 s (pl.getD i default) = X.getD i 0) : Ok Try.prog (ntOf Try.prog 6) (.loop (lpC Try.prog 6 2)) (sS (progL W r0 r1 r2 r3 (memR ms)) l k h pl 0 [(16, .bptr 7 0), (18, .int .i64 0), (92, .int .i64 pl.length), (93, .int .i64 ((0 : Nat) : Int))] (some s) none none (some X) none none [(4, blkF X), xBox s]).st (.ext 4) (sS (progL W r0 r1 r2 r3 (memR ms)) l k h pl 0 [(16, .bptr 7 0), (18, .int .i64 0), (92, .int .i64 pl.length), (93, .int .i64 pl.length)] (some s) none none (some X) none none [(4, blkF X), xBox s]).st :=
  Ok.loop (P := Try.prog) (nt := ntOf Try.prog 6) (c := lpC Try.prog 6 2) (F := fun i => (sS (progL W r0 r1 r2 r3 (memR ms)) l k h pl 0 [(16, .bptr 7 0), (18, .int .i64 0), (92, .int .i64 pl.length), (93, .int .i64 ((i : Nat) : Int))] (some s) none none (some X) none none [(4, blkF X), xBox s])) (m := pl.length) (x := .ext 4) (J := (sS (progL W r0 r1 r2 r3 (memR ms)) l k h pl 0 [(16, .bptr 7 0), (18, .int .i64 0), (92, .int .i64 pl.length), (93, .int .i64 pl.length)] (some s) none none (some X) none none [(4, blkF X), xBox s])) (fun i hi => by
    obtain ⟨h1, h2⟩ := ho _ (getD_mem hi)
    have hvi := hv i hi
    unfold at7 at hvi
    cases hr : (pl.getD i default).reg with
    | true =>
      have hn := h1 hr
      rw [if_pos hr] at hvi
      match hq : (pl.getD i default).n, hn with
      | 0, _ => rw [hq] at hvi; exact Ok.vc (ck0_r0 W r0 r1 r2 r3 ms l k h pl s X i hi hpl hX hr hq hvi)
      | 1, _ => rw [hq] at hvi; exact Ok.vc (ck0_r1 W r0 r1 r2 r3 ms l k h pl s X i hi hpl hX hr hq hvi)
      | 2, _ => rw [hq] at hvi; exact Ok.vc (ck0_r2 W r0 r1 r2 r3 ms l k h pl s X i hi hpl hX hr hq hvi)
      | 3, _ => rw [hq] at hvi; exact Ok.vc (ck0_r3 W r0 r1 r2 r3 ms l k h pl s X i hi hpl hX hr hq hvi)
    | false =>
      rw [if_neg (by rw [hr]; simp)] at hvi
      exact Ok.vc (ck0_m W r0 r1 r2 r3 ms l k h pl s X i hi hpl hX hs hr (h2 hr) hvi)) (Ok.vc (ck0_end W r0 r1 r2 r3 ms l k h pl s X)) (by simp)
theorem sm_loop0 (W r0 r1 r2 r3 : Int) (ms : List Mm) (l k : List Int) (h : Int) (pl : List Pl) (s : S7) (X : List Int) (h0 : r0 = 0 → s.r0 = 0) (h1 : r1 = 0 → s.r1 = 0) (h2 : r2 = 0 → s.r2 = 0) (h3 : r3 = 0 → s.r3 = 0) : Ok Try.prog (ntOf Try.prog 6) (.loop (lpC Try.prog 6 3)) (sS (progL W r0 r1 r2 r3 (memR ms)) l k h pl 0 [(16, .bptr 7 0), (18, .int .i64 0), (20, .int .i64 (0 : Nat))] (some s) none none (some X) none none [(4, blkF X), xBox s]).st (.ext 6) (sS (progL W r0 r1 r2 r3 (memR ms)) l k h pl 0 [(16, .bptr 7 0), (18, .int .i64 0), (20, .int .i64 (4 : Nat))] (some s) none none (some X) none none [(4, blkF X), xBox s]).st :=
  Ok.loop (P := Try.prog) (nt := ntOf Try.prog 6) (c := lpC Try.prog 6 3) (F := fun q => (sS (progL W r0 r1 r2 r3 (memR ms)) l k h pl 0 [(16, .bptr 7 0), (18, .int .i64 0), (20, .int .i64 (q : Nat))] (some s) none none (some X) none none [(4, blkF X), xBox s])) (m := 4) (x := .ext 6) (J := (sS (progL W r0 r1 r2 r3 (memR ms)) l k h pl 0 [(16, .bptr 7 0), (18, .int .i64 0), (20, .int .i64 (4 : Nat))] (some s) none none (some X) none none [(4, blkF X), xBox s])) (fun q hq => by
    match q, hq with
    | 0, _ =>
      by_cases e : r0 = 0
      · exact Ok.vc (sm0_u0 W r0 r1 r2 r3 ms l k h pl s X e (h0 e))
      · exact Ok.vc (sm0_t0 W r0 r1 r2 r3 ms l k h pl s X e)
    | 1, _ =>
      by_cases e : r1 = 0
      · exact Ok.vc (sm0_u1 W r0 r1 r2 r3 ms l k h pl s X e (h1 e))
      · exact Ok.vc (sm0_t1 W r0 r1 r2 r3 ms l k h pl s X e)
    | 2, _ =>
      by_cases e : r2 = 0
      · exact Ok.vc (sm0_u2 W r0 r1 r2 r3 ms l k h pl s X e (h2 e))
      · exact Ok.vc (sm0_t2 W r0 r1 r2 r3 ms l k h pl s X e)
    | 3, _ =>
      by_cases e : r3 = 0
      · exact Ok.vc (sm0_u3 W r0 r1 r2 r3 ms l k h pl s X e (h3 e))
      · exact Ok.vc (sm0_t3 W r0 r1 r2 r3 ms l k h pl s X e)) (Ok.vc (sm0_end W r0 r1 r2 r3 ms l k h pl s X)) (by simp)
theorem rows_loop1 (W r0 r1 r2 r3 : Int) (ms : List Mm) (l k : List Int) (h : Int) (pl : List Pl) (F0 : S7) (R0 : List Int) (hpl : pl.length < 1000) : Ok Try.prog (ntOf Try.prog 6) (.loop (lpC Try.prog 6 1)) (sS (progL W r0 r1 r2 r3 (memR ms)) l k h pl 1 [(34, .int .i64 pl.length), (35, .int .i64 ((0 : Nat) : Int))] (some F0) none none (some R0) (some ([] : List Int)) none [(4, blkF R0), (5, blkI ([] : List Int))]).st (.ext 2) (sS (progL W r0 r1 r2 r3 (memR ms)) l k h pl 1 [] (some F0) none none (some R0) (some (rowK W l k h 1 pl.length)) none [(4, blkF R0), (5, blkF (rowK W l k h 1 pl.length))]).st := by
  have hlen := rowK_len W l k h 1 pl.length
  refine Ok.fzIds (rw1_fz W r0 r1 r2 r3 ms l k h pl F0 R0 (rowK W l k h 1 pl.length)) ?_
  refine Ok.loop (P := Try.prog) (nt := ntOf Try.prog 6) (c := lpC Try.prog 6 1) (F := fun i => (sS (progL W r0 r1 r2 r3 (memR ms)) l k h pl 1 [(34, .int .i64 pl.length), (35, .int .i64 ((i : Nat) : Int))] (some F0) none none (some R0) (some (rowK W l k h 1 i)) none [(4, blkF R0), (5, blkI (rowK W l k h 1 i))])) (m := pl.length) (x := .ext 2) (J := (sS (progL W r0 r1 r2 r3 (memR ms)) l k h pl 1 [(34, .int .i64 pl.length), (35, .int .i64 pl.length)] (some F0) none none (some R0) (some (rowK W l k h 1 pl.length)) none [(4, blkF R0), (5, blkI (rowK W l k h 1 pl.length))])) (fun i hi => ?_) (Ok.vc (rw1_end W r0 r1 r2 r3 ms l k h pl F0 R0 (rowK W l k h 1 pl.length))) (by simp)
  have hX := rowK_len W l k h 1 i
  show Ok _ _ _ _ _ (sS (progL W r0 r1 r2 r3 (memR ms)) l k h pl 1 [(34, .int .i64 pl.length), (35, .int .i64 ((i + 1 : Nat) : Int))] (some F0) none none (some R0) (some (rowK W l k h 1 i ++ [Wd.maskV W (valN l k h 1 i)])) none [(4, blkF R0), (5, blkI (rowK W l k h 1 i ++ [Wd.maskV W (valN l k h 1 i)]))]).st
  by_cases h1 : i < l.length
  · by_cases h2 : i < k.length
    · cases h3 : bitJ h 1 i with
      | true =>
        have e : valN l k h 1 i = k.getD i 0 := by unfold valN; rw [if_pos ⟨h2, h3⟩]
        rw [e]; exact Ok.vc (rw1_TTT W r0 r1 r2 r3 ms l k h pl F0 R0 _ i hi hpl (by omega) h1 h2 h3)
      | false =>
        have e : valN l k h 1 i = l.getD i 0 := by unfold valN; rw [if_neg (by rw [h3]; simp)]
        rw [e]; exact Ok.vc (rw1_TTF W r0 r1 r2 r3 ms l k h pl F0 R0 _ i hi hpl (by omega) h1 h2 h3)
    · have e : valN l k h 1 i = l.getD i 0 := by unfold valN; rw [if_neg (fun h => h2 h.1)]
      rw [e]; exact Ok.vc (rw1_TFF W r0 r1 r2 r3 ms l k h pl F0 R0 _ i hi hpl (by omega) h1 h2)
  · have h0 : l.getD i 0 = 0 := by rw [List.getD_eq_getElem?_getD, List.getElem?_eq_none (by omega)]; rfl
    by_cases h2 : i < k.length
    · cases h3 : bitJ h 1 i with
      | true =>
        have e : valN l k h 1 i = k.getD i 0 := by unfold valN; rw [if_pos ⟨h2, h3⟩]
        rw [e]; exact Ok.vc (rw1_FTT W r0 r1 r2 r3 ms l k h pl F0 R0 _ i hi hpl (by omega) h1 h2 h3)
      | false =>
        have e : valN l k h 1 i = 0 := by unfold valN; rw [if_neg (by rw [h3]; simp), h0]
        rw [e]; exact Ok.vc (rw1_FTF W r0 r1 r2 r3 ms l k h pl F0 R0 _ i hi hpl (by omega) h1 h2 h3)
    · have e : valN l k h 1 i = 0 := by unfold valN; rw [if_neg (fun h => h2 h.1), h0]
      rw [e]; exact Ok.vc (rw1_FFF W r0 r1 r2 r3 ms l k h pl F0 R0 _ i hi hpl (by omega) h1 h2)
theorem ck_loop1 (W r0 r1 r2 r3 : Int) (ms : List Mm) (l k : List Int) (h : Int) (pl : List Pl) (F0 : S7) (R0 : List Int) (s : S7) (X : List Int) (hpl : pl.length < 1000) (hX : X.length = pl.length) (hs : s.m.length < 1000) (ho : ∀ p ∈ pl, plOk s.m.length p) (hv : ∀ i, i < pl.length → at7 s (pl.getD i default) = X.getD i 0) : Ok Try.prog (ntOf Try.prog 6) (.loop (lpC Try.prog 6 2)) (sS (progL W r0 r1 r2 r3 (memR ms)) l k h pl 1 [(16, .bptr 7 0), (18, .int .i64 0), (92, .int .i64 pl.length), (93, .int .i64 ((0 : Nat) : Int))] (some F0) (some s) none (some R0) (some X) none [(4, blkF R0), (5, blkF X), xBox s]).st (.ext 4) (sS (progL W r0 r1 r2 r3 (memR ms)) l k h pl 1 [(16, .bptr 7 0), (18, .int .i64 0), (92, .int .i64 pl.length), (93, .int .i64 pl.length)] (some F0) (some s) none (some R0) (some X) none [(4, blkF R0), (5, blkF X), xBox s]).st :=
  Ok.loop (P := Try.prog) (nt := ntOf Try.prog 6) (c := lpC Try.prog 6 2) (F := fun i => (sS (progL W r0 r1 r2 r3 (memR ms)) l k h pl 1 [(16, .bptr 7 0), (18, .int .i64 0), (92, .int .i64 pl.length), (93, .int .i64 ((i : Nat) : Int))] (some F0) (some s) none (some R0) (some X) none [(4, blkF R0), (5, blkF X), xBox s])) (m := pl.length) (x := .ext 4) (J := (sS (progL W r0 r1 r2 r3 (memR ms)) l k h pl 1 [(16, .bptr 7 0), (18, .int .i64 0), (92, .int .i64 pl.length), (93, .int .i64 pl.length)] (some F0) (some s) none (some R0) (some X) none [(4, blkF R0), (5, blkF X), xBox s])) (fun i hi => by
    obtain ⟨h1, h2⟩ := ho _ (getD_mem hi)
    have hvi := hv i hi
    unfold at7 at hvi
    cases hr : (pl.getD i default).reg with
    | true =>
      have hn := h1 hr
      rw [if_pos hr] at hvi
      match hq : (pl.getD i default).n, hn with
      | 0, _ => rw [hq] at hvi; exact Ok.vc (ck1_r0 W r0 r1 r2 r3 ms l k h pl F0 R0 s X i hi hpl hX hr hq hvi)
      | 1, _ => rw [hq] at hvi; exact Ok.vc (ck1_r1 W r0 r1 r2 r3 ms l k h pl F0 R0 s X i hi hpl hX hr hq hvi)
      | 2, _ => rw [hq] at hvi; exact Ok.vc (ck1_r2 W r0 r1 r2 r3 ms l k h pl F0 R0 s X i hi hpl hX hr hq hvi)
      | 3, _ => rw [hq] at hvi; exact Ok.vc (ck1_r3 W r0 r1 r2 r3 ms l k h pl F0 R0 s X i hi hpl hX hr hq hvi)
    | false =>
      rw [if_neg (by rw [hr]; simp)] at hvi
      exact Ok.vc (ck1_m W r0 r1 r2 r3 ms l k h pl F0 R0 s X i hi hpl hX hs hr (h2 hr) hvi)) (Ok.vc (ck1_end W r0 r1 r2 r3 ms l k h pl F0 R0 s X)) (by simp)
theorem sm_loop1 (W r0 r1 r2 r3 : Int) (ms : List Mm) (l k : List Int) (h : Int) (pl : List Pl) (F0 : S7) (R0 : List Int) (s : S7) (X : List Int) (h0 : r0 = 0 → s.r0 = 0) (h1 : r1 = 0 → s.r1 = 0) (h2 : r2 = 0 → s.r2 = 0) (h3 : r3 = 0 → s.r3 = 0) : Ok Try.prog (ntOf Try.prog 6) (.loop (lpC Try.prog 6 3)) (sS (progL W r0 r1 r2 r3 (memR ms)) l k h pl 1 [(16, .bptr 7 0), (18, .int .i64 0), (20, .int .i64 (0 : Nat))] (some F0) (some s) none (some R0) (some X) none [(4, blkF R0), (5, blkF X), xBox s]).st (.ext 6) (sS (progL W r0 r1 r2 r3 (memR ms)) l k h pl 1 [(16, .bptr 7 0), (18, .int .i64 0), (20, .int .i64 (4 : Nat))] (some F0) (some s) none (some R0) (some X) none [(4, blkF R0), (5, blkF X), xBox s]).st :=
  Ok.loop (P := Try.prog) (nt := ntOf Try.prog 6) (c := lpC Try.prog 6 3) (F := fun q => (sS (progL W r0 r1 r2 r3 (memR ms)) l k h pl 1 [(16, .bptr 7 0), (18, .int .i64 0), (20, .int .i64 (q : Nat))] (some F0) (some s) none (some R0) (some X) none [(4, blkF R0), (5, blkF X), xBox s])) (m := 4) (x := .ext 6) (J := (sS (progL W r0 r1 r2 r3 (memR ms)) l k h pl 1 [(16, .bptr 7 0), (18, .int .i64 0), (20, .int .i64 (4 : Nat))] (some F0) (some s) none (some R0) (some X) none [(4, blkF R0), (5, blkF X), xBox s])) (fun q hq => by
    match q, hq with
    | 0, _ =>
      by_cases e : r0 = 0
      · exact Ok.vc (sm1_u0 W r0 r1 r2 r3 ms l k h pl F0 R0 s X e (h0 e))
      · exact Ok.vc (sm1_t0 W r0 r1 r2 r3 ms l k h pl F0 R0 s X e)
    | 1, _ =>
      by_cases e : r1 = 0
      · exact Ok.vc (sm1_u1 W r0 r1 r2 r3 ms l k h pl F0 R0 s X e (h1 e))
      · exact Ok.vc (sm1_t1 W r0 r1 r2 r3 ms l k h pl F0 R0 s X e)
    | 2, _ =>
      by_cases e : r2 = 0
      · exact Ok.vc (sm1_u2 W r0 r1 r2 r3 ms l k h pl F0 R0 s X e (h2 e))
      · exact Ok.vc (sm1_t2 W r0 r1 r2 r3 ms l k h pl F0 R0 s X e)
    | 3, _ =>
      by_cases e : r3 = 0
      · exact Ok.vc (sm1_u3 W r0 r1 r2 r3 ms l k h pl F0 R0 s X e (h3 e))
      · exact Ok.vc (sm1_t3 W r0 r1 r2 r3 ms l k h pl F0 R0 s X e)) (Ok.vc (sm1_end W r0 r1 r2 r3 ms l k h pl F0 R0 s X)) (by simp)
theorem rows_loop2 (W r0 r1 r2 r3 : Int) (ms : List Mm) (l k : List Int) (h : Int) (pl : List Pl) (F0 : S7) (R0 : List Int) (F1 : S7) (R1 : List Int) (hpl : pl.length < 1000) : Ok Try.prog (ntOf Try.prog 6) (.loop (lpC Try.prog 6 1)) (sS (progL W r0 r1 r2 r3 (memR ms)) l k h pl 2 [(34, .int .i64 pl.length), (35, .int .i64 ((0 : Nat) : Int))] (some F0) (some F1) none (some R0) (some R1) (some ([] : List Int)) [(4, blkF R0), (5, blkF R1), (6, blkI ([] : List Int))]).st (.ext 2) (sS (progL W r0 r1 r2 r3 (memR ms)) l k h pl 2 [] (some F0) (some F1) none (some R0) (some R1) (some (rowK W l k h 2 pl.length)) [(4, blkF R0), (5, blkF R1), (6, blkF (rowK W l k h 2 pl.length))]).st := by
  have hlen := rowK_len W l k h 2 pl.length
  refine Ok.fzIds (rw2_fz W r0 r1 r2 r3 ms l k h pl F0 R0 F1 R1 (rowK W l k h 2 pl.length)) ?_
  refine Ok.loop (P := Try.prog) (nt := ntOf Try.prog 6) (c := lpC Try.prog 6 1) (F := fun i => (sS (progL W r0 r1 r2 r3 (memR ms)) l k h pl 2 [(34, .int .i64 pl.length), (35, .int .i64 ((i : Nat) : Int))] (some F0) (some F1) none (some R0) (some R1) (some (rowK W l k h 2 i)) [(4, blkF R0), (5, blkF R1), (6, blkI (rowK W l k h 2 i))])) (m := pl.length) (x := .ext 2) (J := (sS (progL W r0 r1 r2 r3 (memR ms)) l k h pl 2 [(34, .int .i64 pl.length), (35, .int .i64 pl.length)] (some F0) (some F1) none (some R0) (some R1) (some (rowK W l k h 2 pl.length)) [(4, blkF R0), (5, blkF R1), (6, blkI (rowK W l k h 2 pl.length))])) (fun i hi => ?_) (Ok.vc (rw2_end W r0 r1 r2 r3 ms l k h pl F0 R0 F1 R1 (rowK W l k h 2 pl.length))) (by simp)
  have hX := rowK_len W l k h 2 i
  show Ok _ _ _ _ _ (sS (progL W r0 r1 r2 r3 (memR ms)) l k h pl 2 [(34, .int .i64 pl.length), (35, .int .i64 ((i + 1 : Nat) : Int))] (some F0) (some F1) none (some R0) (some R1) (some (rowK W l k h 2 i ++ [Wd.maskV W (valN l k h 2 i)])) [(4, blkF R0), (5, blkF R1), (6, blkI (rowK W l k h 2 i ++ [Wd.maskV W (valN l k h 2 i)]))]).st
  by_cases h1 : i < l.length
  · by_cases h2 : i < k.length
    · cases h3 : bitJ h 2 i with
      | true =>
        have e : valN l k h 2 i = k.getD i 0 := by unfold valN; rw [if_pos ⟨h2, h3⟩]
        rw [e]; exact Ok.vc (rw2_TTT W r0 r1 r2 r3 ms l k h pl F0 R0 F1 R1 _ i hi hpl (by omega) h1 h2 h3)
      | false =>
        have e : valN l k h 2 i = l.getD i 0 := by unfold valN; rw [if_neg (by rw [h3]; simp)]
        rw [e]; exact Ok.vc (rw2_TTF W r0 r1 r2 r3 ms l k h pl F0 R0 F1 R1 _ i hi hpl (by omega) h1 h2 h3)
    · have e : valN l k h 2 i = l.getD i 0 := by unfold valN; rw [if_neg (fun h => h2 h.1)]
      rw [e]; exact Ok.vc (rw2_TFF W r0 r1 r2 r3 ms l k h pl F0 R0 F1 R1 _ i hi hpl (by omega) h1 h2)
  · have h0 : l.getD i 0 = 0 := by rw [List.getD_eq_getElem?_getD, List.getElem?_eq_none (by omega)]; rfl
    by_cases h2 : i < k.length
    · cases h3 : bitJ h 2 i with
      | true =>
        have e : valN l k h 2 i = k.getD i 0 := by unfold valN; rw [if_pos ⟨h2, h3⟩]
        rw [e]; exact Ok.vc (rw2_FTT W r0 r1 r2 r3 ms l k h pl F0 R0 F1 R1 _ i hi hpl (by omega) h1 h2 h3)
      | false =>
        have e : valN l k h 2 i = 0 := by unfold valN; rw [if_neg (by rw [h3]; simp), h0]
        rw [e]; exact Ok.vc (rw2_FTF W r0 r1 r2 r3 ms l k h pl F0 R0 F1 R1 _ i hi hpl (by omega) h1 h2 h3)
    · have e : valN l k h 2 i = 0 := by unfold valN; rw [if_neg (fun h => h2 h.1), h0]
      rw [e]; exact Ok.vc (rw2_FFF W r0 r1 r2 r3 ms l k h pl F0 R0 F1 R1 _ i hi hpl (by omega) h1 h2)
theorem ck_loop2 (W r0 r1 r2 r3 : Int) (ms : List Mm) (l k : List Int) (h : Int) (pl : List Pl) (F0 : S7) (R0 : List Int) (F1 : S7) (R1 : List Int) (s : S7) (X : List Int) (hpl : pl.length < 1000) (hX : X.length = pl.length) (hs : s.m.length < 1000) (ho : ∀ p ∈ pl, plOk s.m.length p) (hv : ∀ i, i < pl.length → at7 s (pl.getD i default) = X.getD i 0) : Ok Try.prog (ntOf Try.prog 6) (.loop (lpC Try.prog 6 2)) (sS (progL W r0 r1 r2 r3 (memR ms)) l k h pl 2 [(16, .bptr 7 0), (18, .int .i64 0), (92, .int .i64 pl.length), (93, .int .i64 ((0 : Nat) : Int))] (some F0) (some F1) (some s) (some R0) (some R1) (some X) [(4, blkF R0), (5, blkF R1), (6, blkF X), xBox s]).st (.ext 4) (sS (progL W r0 r1 r2 r3 (memR ms)) l k h pl 2 [(16, .bptr 7 0), (18, .int .i64 0), (92, .int .i64 pl.length), (93, .int .i64 pl.length)] (some F0) (some F1) (some s) (some R0) (some R1) (some X) [(4, blkF R0), (5, blkF R1), (6, blkF X), xBox s]).st :=
  Ok.loop (P := Try.prog) (nt := ntOf Try.prog 6) (c := lpC Try.prog 6 2) (F := fun i => (sS (progL W r0 r1 r2 r3 (memR ms)) l k h pl 2 [(16, .bptr 7 0), (18, .int .i64 0), (92, .int .i64 pl.length), (93, .int .i64 ((i : Nat) : Int))] (some F0) (some F1) (some s) (some R0) (some R1) (some X) [(4, blkF R0), (5, blkF R1), (6, blkF X), xBox s])) (m := pl.length) (x := .ext 4) (J := (sS (progL W r0 r1 r2 r3 (memR ms)) l k h pl 2 [(16, .bptr 7 0), (18, .int .i64 0), (92, .int .i64 pl.length), (93, .int .i64 pl.length)] (some F0) (some F1) (some s) (some R0) (some R1) (some X) [(4, blkF R0), (5, blkF R1), (6, blkF X), xBox s])) (fun i hi => by
    obtain ⟨h1, h2⟩ := ho _ (getD_mem hi)
    have hvi := hv i hi
    unfold at7 at hvi
    cases hr : (pl.getD i default).reg with
    | true =>
      have hn := h1 hr
      rw [if_pos hr] at hvi
      match hq : (pl.getD i default).n, hn with
      | 0, _ => rw [hq] at hvi; exact Ok.vc (ck2_r0 W r0 r1 r2 r3 ms l k h pl F0 R0 F1 R1 s X i hi hpl hX hr hq hvi)
      | 1, _ => rw [hq] at hvi; exact Ok.vc (ck2_r1 W r0 r1 r2 r3 ms l k h pl F0 R0 F1 R1 s X i hi hpl hX hr hq hvi)
      | 2, _ => rw [hq] at hvi; exact Ok.vc (ck2_r2 W r0 r1 r2 r3 ms l k h pl F0 R0 F1 R1 s X i hi hpl hX hr hq hvi)
      | 3, _ => rw [hq] at hvi; exact Ok.vc (ck2_r3 W r0 r1 r2 r3 ms l k h pl F0 R0 F1 R1 s X i hi hpl hX hr hq hvi)
    | false =>
      rw [if_neg (by rw [hr]; simp)] at hvi
      exact Ok.vc (ck2_m W r0 r1 r2 r3 ms l k h pl F0 R0 F1 R1 s X i hi hpl hX hs hr (h2 hr) hvi)) (Ok.vc (ck2_end W r0 r1 r2 r3 ms l k h pl F0 R0 F1 R1 s X)) (by simp)
theorem sm_loop2 (W r0 r1 r2 r3 : Int) (ms : List Mm) (l k : List Int) (h : Int) (pl : List Pl) (F0 : S7) (R0 : List Int) (F1 : S7) (R1 : List Int) (s : S7) (X : List Int) (h0 : r0 = 0 → s.r0 = 0) (h1 : r1 = 0 → s.r1 = 0) (h2 : r2 = 0 → s.r2 = 0) (h3 : r3 = 0 → s.r3 = 0) : Ok Try.prog (ntOf Try.prog 6) (.loop (lpC Try.prog 6 3)) (sS (progL W r0 r1 r2 r3 (memR ms)) l k h pl 2 [(16, .bptr 7 0), (18, .int .i64 0), (20, .int .i64 (0 : Nat))] (some F0) (some F1) (some s) (some R0) (some R1) (some X) [(4, blkF R0), (5, blkF R1), (6, blkF X), xBox s]).st (.ext 6) (sS (progL W r0 r1 r2 r3 (memR ms)) l k h pl 2 [(16, .bptr 7 0), (18, .int .i64 0), (20, .int .i64 (4 : Nat))] (some F0) (some F1) (some s) (some R0) (some R1) (some X) [(4, blkF R0), (5, blkF R1), (6, blkF X), xBox s]).st :=
  Ok.loop (P := Try.prog) (nt := ntOf Try.prog 6) (c := lpC Try.prog 6 3) (F := fun q => (sS (progL W r0 r1 r2 r3 (memR ms)) l k h pl 2 [(16, .bptr 7 0), (18, .int .i64 0), (20, .int .i64 (q : Nat))] (some F0) (some F1) (some s) (some R0) (some R1) (some X) [(4, blkF R0), (5, blkF R1), (6, blkF X), xBox s])) (m := 4) (x := .ext 6) (J := (sS (progL W r0 r1 r2 r3 (memR ms)) l k h pl 2 [(16, .bptr 7 0), (18, .int .i64 0), (20, .int .i64 (4 : Nat))] (some F0) (some F1) (some s) (some R0) (some R1) (some X) [(4, blkF R0), (5, blkF R1), (6, blkF X), xBox s])) (fun q hq => by
    match q, hq with
    | 0, _ =>
      by_cases e : r0 = 0
      · exact Ok.vc (sm2_u0 W r0 r1 r2 r3 ms l k h pl F0 R0 F1 R1 s X e (h0 e))
      · exact Ok.vc (sm2_t0 W r0 r1 r2 r3 ms l k h pl F0 R0 F1 R1 s X e)
    | 1, _ =>
      by_cases e : r1 = 0
      · exact Ok.vc (sm2_u1 W r0 r1 r2 r3 ms l k h pl F0 R0 F1 R1 s X e (h1 e))
      · exact Ok.vc (sm2_t1 W r0 r1 r2 r3 ms l k h pl F0 R0 F1 R1 s X e)
    | 2, _ =>
      by_cases e : r2 = 0
      · exact Ok.vc (sm2_u2 W r0 r1 r2 r3 ms l k h pl F0 R0 F1 R1 s X e (h2 e))
      · exact Ok.vc (sm2_t2 W r0 r1 r2 r3 ms l k h pl F0 R0 F1 R1 s X e)
    | 3, _ =>
      by_cases e : r3 = 0
      · exact Ok.vc (sm2_u3 W r0 r1 r2 r3 ms l k h pl F0 R0 F1 R1 s X e (h3 e))
      · exact Ok.vc (sm2_t3 W r0 r1 r2 r3 ms l k h pl F0 R0 F1 R1 s X e)) (Ok.vc (sm2_end W r0 r1 r2 r3 ms l k h pl F0 R0 F1 R1 s X)) (by simp)
theorem te_loop00 (W r0 r1 r2 r3 : Int) (ms : List Mm) (pl : List Pl) (F0 F1 F2 : S7) (R0 R1 R2 : List Int) (hpl : pl.length < 1000) (h0 : R0.length = pl.length) (h1 : R1.length = pl.length) (h2 : R2.length = pl.length) : Ok Try.prog (ntOf Try.prog 6) (.loop (lpC Try.prog 6 6)) (sT (progL W r0 r1 r2 r3 (memR ms)) pl 0 0 [(23, .bool true), (201, .int .i64 pl.length), (202, .int .i64 ((0 : Nat) : Int))] F0 F1 F2 R0 R1 R2).st (.ext 12) (sT (progL W r0 r1 r2 r3 (memR ms)) pl 0 0 [(23, .bool (sameK pl R0 R0 pl.length)), (201, .int .i64 pl.length), (202, .int .i64 pl.length)] F0 F1 F2 R0 R1 R2).st :=
  Ok.loop (P := Try.prog) (nt := ntOf Try.prog 6) (c := lpC Try.prog 6 6) (F := fun n => (sT (progL W r0 r1 r2 r3 (memR ms)) pl 0 0 [(23, .bool (sameK pl R0 R0 n)), (201, .int .i64 pl.length), (202, .int .i64 ((n : Nat) : Int))] F0 F1 F2 R0 R1 R2)) (m := pl.length) (x := .ext 12) (J := (sT (progL W r0 r1 r2 r3 (memR ms)) pl 0 0 [(23, .bool (sameK pl R0 R0 pl.length)), (201, .int .i64 pl.length), (202, .int .i64 pl.length)] F0 F1 F2 R0 R1 R2)) (fun n hn => by
    show Ok _ _ _ (sT (progL W r0 r1 r2 r3 (memR ms)) pl 0 0 [(23, .bool (sameK pl R0 R0 n)), (201, .int .i64 pl.length), (202, .int .i64 ((n : Nat) : Int))] F0 F1 F2 R0 R1 R2).st _ (sT (progL W r0 r1 r2 r3 (memR ms)) pl 0 0 [(23, .bool (sameK pl R0 R0 n && ((pl.getD n default).sec || (R0.getD n 0 == R0.getD n 0)))), (201, .int .i64 pl.length), (202, .int .i64 ((n + 1 : Nat) : Int))] F0 F1 F2 R0 R1 R2).st
    cases hb : sameK pl R0 R0 n with
    | false => exact Ok.vc (te00_F W r0 r1 r2 r3 ms pl F0 F1 F2 R0 R1 R2 n hn hpl h0 h1 h2)
    | true =>
      cases hs : (pl.getD n default).sec with
      | true => exact Ok.vc (te00_S W r0 r1 r2 r3 ms pl F0 F1 F2 R0 R1 R2 n hn hpl h0 h1 h2 hs)
      | false => exact Ok.vc (te00_P W r0 r1 r2 r3 ms pl F0 F1 F2 R0 R1 R2 n hn hpl h0 h1 h2 hs)) (Ok.vc (te00_end W r0 r1 r2 r3 ms pl F0 F1 F2 R0 R1 R2 _)) (by simp)
theorem te_loop01 (W r0 r1 r2 r3 : Int) (ms : List Mm) (pl : List Pl) (F0 F1 F2 : S7) (R0 R1 R2 : List Int) (hpl : pl.length < 1000) (h0 : R0.length = pl.length) (h1 : R1.length = pl.length) (h2 : R2.length = pl.length) : Ok Try.prog (ntOf Try.prog 6) (.loop (lpC Try.prog 6 6)) (sT (progL W r0 r1 r2 r3 (memR ms)) pl 0 1 [(23, .bool true), (201, .int .i64 pl.length), (202, .int .i64 ((0 : Nat) : Int))] F0 F1 F2 R0 R1 R2).st (.ext 12) (sT (progL W r0 r1 r2 r3 (memR ms)) pl 0 1 [(23, .bool (sameK pl R0 R1 pl.length)), (201, .int .i64 pl.length), (202, .int .i64 pl.length)] F0 F1 F2 R0 R1 R2).st :=
  Ok.loop (P := Try.prog) (nt := ntOf Try.prog 6) (c := lpC Try.prog 6 6) (F := fun n => (sT (progL W r0 r1 r2 r3 (memR ms)) pl 0 1 [(23, .bool (sameK pl R0 R1 n)), (201, .int .i64 pl.length), (202, .int .i64 ((n : Nat) : Int))] F0 F1 F2 R0 R1 R2)) (m := pl.length) (x := .ext 12) (J := (sT (progL W r0 r1 r2 r3 (memR ms)) pl 0 1 [(23, .bool (sameK pl R0 R1 pl.length)), (201, .int .i64 pl.length), (202, .int .i64 pl.length)] F0 F1 F2 R0 R1 R2)) (fun n hn => by
    show Ok _ _ _ (sT (progL W r0 r1 r2 r3 (memR ms)) pl 0 1 [(23, .bool (sameK pl R0 R1 n)), (201, .int .i64 pl.length), (202, .int .i64 ((n : Nat) : Int))] F0 F1 F2 R0 R1 R2).st _ (sT (progL W r0 r1 r2 r3 (memR ms)) pl 0 1 [(23, .bool (sameK pl R0 R1 n && ((pl.getD n default).sec || (R0.getD n 0 == R1.getD n 0)))), (201, .int .i64 pl.length), (202, .int .i64 ((n + 1 : Nat) : Int))] F0 F1 F2 R0 R1 R2).st
    cases hb : sameK pl R0 R1 n with
    | false => exact Ok.vc (te01_F W r0 r1 r2 r3 ms pl F0 F1 F2 R0 R1 R2 n hn hpl h0 h1 h2)
    | true =>
      cases hs : (pl.getD n default).sec with
      | true => exact Ok.vc (te01_S W r0 r1 r2 r3 ms pl F0 F1 F2 R0 R1 R2 n hn hpl h0 h1 h2 hs)
      | false => exact Ok.vc (te01_P W r0 r1 r2 r3 ms pl F0 F1 F2 R0 R1 R2 n hn hpl h0 h1 h2 hs)) (Ok.vc (te01_end W r0 r1 r2 r3 ms pl F0 F1 F2 R0 R1 R2 _)) (by simp)
theorem te_loop02 (W r0 r1 r2 r3 : Int) (ms : List Mm) (pl : List Pl) (F0 F1 F2 : S7) (R0 R1 R2 : List Int) (hpl : pl.length < 1000) (h0 : R0.length = pl.length) (h1 : R1.length = pl.length) (h2 : R2.length = pl.length) : Ok Try.prog (ntOf Try.prog 6) (.loop (lpC Try.prog 6 6)) (sT (progL W r0 r1 r2 r3 (memR ms)) pl 0 2 [(23, .bool true), (201, .int .i64 pl.length), (202, .int .i64 ((0 : Nat) : Int))] F0 F1 F2 R0 R1 R2).st (.ext 12) (sT (progL W r0 r1 r2 r3 (memR ms)) pl 0 2 [(23, .bool (sameK pl R0 R2 pl.length)), (201, .int .i64 pl.length), (202, .int .i64 pl.length)] F0 F1 F2 R0 R1 R2).st :=
  Ok.loop (P := Try.prog) (nt := ntOf Try.prog 6) (c := lpC Try.prog 6 6) (F := fun n => (sT (progL W r0 r1 r2 r3 (memR ms)) pl 0 2 [(23, .bool (sameK pl R0 R2 n)), (201, .int .i64 pl.length), (202, .int .i64 ((n : Nat) : Int))] F0 F1 F2 R0 R1 R2)) (m := pl.length) (x := .ext 12) (J := (sT (progL W r0 r1 r2 r3 (memR ms)) pl 0 2 [(23, .bool (sameK pl R0 R2 pl.length)), (201, .int .i64 pl.length), (202, .int .i64 pl.length)] F0 F1 F2 R0 R1 R2)) (fun n hn => by
    show Ok _ _ _ (sT (progL W r0 r1 r2 r3 (memR ms)) pl 0 2 [(23, .bool (sameK pl R0 R2 n)), (201, .int .i64 pl.length), (202, .int .i64 ((n : Nat) : Int))] F0 F1 F2 R0 R1 R2).st _ (sT (progL W r0 r1 r2 r3 (memR ms)) pl 0 2 [(23, .bool (sameK pl R0 R2 n && ((pl.getD n default).sec || (R0.getD n 0 == R2.getD n 0)))), (201, .int .i64 pl.length), (202, .int .i64 ((n + 1 : Nat) : Int))] F0 F1 F2 R0 R1 R2).st
    cases hb : sameK pl R0 R2 n with
    | false => exact Ok.vc (te02_F W r0 r1 r2 r3 ms pl F0 F1 F2 R0 R1 R2 n hn hpl h0 h1 h2)
    | true =>
      cases hs : (pl.getD n default).sec with
      | true => exact Ok.vc (te02_S W r0 r1 r2 r3 ms pl F0 F1 F2 R0 R1 R2 n hn hpl h0 h1 h2 hs)
      | false => exact Ok.vc (te02_P W r0 r1 r2 r3 ms pl F0 F1 F2 R0 R1 R2 n hn hpl h0 h1 h2 hs)) (Ok.vc (te02_end W r0 r1 r2 r3 ms pl F0 F1 F2 R0 R1 R2 _)) (by simp)
theorem te_loop10 (W r0 r1 r2 r3 : Int) (ms : List Mm) (pl : List Pl) (F0 F1 F2 : S7) (R0 R1 R2 : List Int) (hpl : pl.length < 1000) (h0 : R0.length = pl.length) (h1 : R1.length = pl.length) (h2 : R2.length = pl.length) : Ok Try.prog (ntOf Try.prog 6) (.loop (lpC Try.prog 6 6)) (sT (progL W r0 r1 r2 r3 (memR ms)) pl 1 0 [(23, .bool true), (201, .int .i64 pl.length), (202, .int .i64 ((0 : Nat) : Int))] F0 F1 F2 R0 R1 R2).st (.ext 12) (sT (progL W r0 r1 r2 r3 (memR ms)) pl 1 0 [(23, .bool (sameK pl R1 R0 pl.length)), (201, .int .i64 pl.length), (202, .int .i64 pl.length)] F0 F1 F2 R0 R1 R2).st :=
  Ok.loop (P := Try.prog) (nt := ntOf Try.prog 6) (c := lpC Try.prog 6 6) (F := fun n => (sT (progL W r0 r1 r2 r3 (memR ms)) pl 1 0 [(23, .bool (sameK pl R1 R0 n)), (201, .int .i64 pl.length), (202, .int .i64 ((n : Nat) : Int))] F0 F1 F2 R0 R1 R2)) (m := pl.length) (x := .ext 12) (J := (sT (progL W r0 r1 r2 r3 (memR ms)) pl 1 0 [(23, .bool (sameK pl R1 R0 pl.length)), (201, .int .i64 pl.length), (202, .int .i64 pl.length)] F0 F1 F2 R0 R1 R2)) (fun n hn => by
    show Ok _ _ _ (sT (progL W r0 r1 r2 r3 (memR ms)) pl 1 0 [(23, .bool (sameK pl R1 R0 n)), (201, .int .i64 pl.length), (202, .int .i64 ((n : Nat) : Int))] F0 F1 F2 R0 R1 R2).st _ (sT (progL W r0 r1 r2 r3 (memR ms)) pl 1 0 [(23, .bool (sameK pl R1 R0 n && ((pl.getD n default).sec || (R1.getD n 0 == R0.getD n 0)))), (201, .int .i64 pl.length), (202, .int .i64 ((n + 1 : Nat) : Int))] F0 F1 F2 R0 R1 R2).st
    cases hb : sameK pl R1 R0 n with
    | false => exact Ok.vc (te10_F W r0 r1 r2 r3 ms pl F0 F1 F2 R0 R1 R2 n hn hpl h0 h1 h2)
    | true =>
      cases hs : (pl.getD n default).sec with
      | true => exact Ok.vc (te10_S W r0 r1 r2 r3 ms pl F0 F1 F2 R0 R1 R2 n hn hpl h0 h1 h2 hs)
      | false => exact Ok.vc (te10_P W r0 r1 r2 r3 ms pl F0 F1 F2 R0 R1 R2 n hn hpl h0 h1 h2 hs)) (Ok.vc (te10_end W r0 r1 r2 r3 ms pl F0 F1 F2 R0 R1 R2 _)) (by simp)
theorem te_loop11 (W r0 r1 r2 r3 : Int) (ms : List Mm) (pl : List Pl) (F0 F1 F2 : S7) (R0 R1 R2 : List Int) (hpl : pl.length < 1000) (h0 : R0.length = pl.length) (h1 : R1.length = pl.length) (h2 : R2.length = pl.length) : Ok Try.prog (ntOf Try.prog 6) (.loop (lpC Try.prog 6 6)) (sT (progL W r0 r1 r2 r3 (memR ms)) pl 1 1 [(23, .bool true), (201, .int .i64 pl.length), (202, .int .i64 ((0 : Nat) : Int))] F0 F1 F2 R0 R1 R2).st (.ext 12) (sT (progL W r0 r1 r2 r3 (memR ms)) pl 1 1 [(23, .bool (sameK pl R1 R1 pl.length)), (201, .int .i64 pl.length), (202, .int .i64 pl.length)] F0 F1 F2 R0 R1 R2).st :=
  Ok.loop (P := Try.prog) (nt := ntOf Try.prog 6) (c := lpC Try.prog 6 6) (F := fun n => (sT (progL W r0 r1 r2 r3 (memR ms)) pl 1 1 [(23, .bool (sameK pl R1 R1 n)), (201, .int .i64 pl.length), (202, .int .i64 ((n : Nat) : Int))] F0 F1 F2 R0 R1 R2)) (m := pl.length) (x := .ext 12) (J := (sT (progL W r0 r1 r2 r3 (memR ms)) pl 1 1 [(23, .bool (sameK pl R1 R1 pl.length)), (201, .int .i64 pl.length), (202, .int .i64 pl.length)] F0 F1 F2 R0 R1 R2)) (fun n hn => by
    show Ok _ _ _ (sT (progL W r0 r1 r2 r3 (memR ms)) pl 1 1 [(23, .bool (sameK pl R1 R1 n)), (201, .int .i64 pl.length), (202, .int .i64 ((n : Nat) : Int))] F0 F1 F2 R0 R1 R2).st _ (sT (progL W r0 r1 r2 r3 (memR ms)) pl 1 1 [(23, .bool (sameK pl R1 R1 n && ((pl.getD n default).sec || (R1.getD n 0 == R1.getD n 0)))), (201, .int .i64 pl.length), (202, .int .i64 ((n + 1 : Nat) : Int))] F0 F1 F2 R0 R1 R2).st
    cases hb : sameK pl R1 R1 n with
    | false => exact Ok.vc (te11_F W r0 r1 r2 r3 ms pl F0 F1 F2 R0 R1 R2 n hn hpl h0 h1 h2)
    | true =>
      cases hs : (pl.getD n default).sec with
      | true => exact Ok.vc (te11_S W r0 r1 r2 r3 ms pl F0 F1 F2 R0 R1 R2 n hn hpl h0 h1 h2 hs)
      | false => exact Ok.vc (te11_P W r0 r1 r2 r3 ms pl F0 F1 F2 R0 R1 R2 n hn hpl h0 h1 h2 hs)) (Ok.vc (te11_end W r0 r1 r2 r3 ms pl F0 F1 F2 R0 R1 R2 _)) (by simp)
theorem te_loop12 (W r0 r1 r2 r3 : Int) (ms : List Mm) (pl : List Pl) (F0 F1 F2 : S7) (R0 R1 R2 : List Int) (hpl : pl.length < 1000) (h0 : R0.length = pl.length) (h1 : R1.length = pl.length) (h2 : R2.length = pl.length) : Ok Try.prog (ntOf Try.prog 6) (.loop (lpC Try.prog 6 6)) (sT (progL W r0 r1 r2 r3 (memR ms)) pl 1 2 [(23, .bool true), (201, .int .i64 pl.length), (202, .int .i64 ((0 : Nat) : Int))] F0 F1 F2 R0 R1 R2).st (.ext 12) (sT (progL W r0 r1 r2 r3 (memR ms)) pl 1 2 [(23, .bool (sameK pl R1 R2 pl.length)), (201, .int .i64 pl.length), (202, .int .i64 pl.length)] F0 F1 F2 R0 R1 R2).st :=
  Ok.loop (P := Try.prog) (nt := ntOf Try.prog 6) (c := lpC Try.prog 6 6) (F := fun n => (sT (progL W r0 r1 r2 r3 (memR ms)) pl 1 2 [(23, .bool (sameK pl R1 R2 n)), (201, .int .i64 pl.length), (202, .int .i64 ((n : Nat) : Int))] F0 F1 F2 R0 R1 R2)) (m := pl.length) (x := .ext 12) (J := (sT (progL W r0 r1 r2 r3 (memR ms)) pl 1 2 [(23, .bool (sameK pl R1 R2 pl.length)), (201, .int .i64 pl.length), (202, .int .i64 pl.length)] F0 F1 F2 R0 R1 R2)) (fun n hn => by
    show Ok _ _ _ (sT (progL W r0 r1 r2 r3 (memR ms)) pl 1 2 [(23, .bool (sameK pl R1 R2 n)), (201, .int .i64 pl.length), (202, .int .i64 ((n : Nat) : Int))] F0 F1 F2 R0 R1 R2).st _ (sT (progL W r0 r1 r2 r3 (memR ms)) pl 1 2 [(23, .bool (sameK pl R1 R2 n && ((pl.getD n default).sec || (R1.getD n 0 == R2.getD n 0)))), (201, .int .i64 pl.length), (202, .int .i64 ((n + 1 : Nat) : Int))] F0 F1 F2 R0 R1 R2).st
    cases hb : sameK pl R1 R2 n with
    | false => exact Ok.vc (te12_F W r0 r1 r2 r3 ms pl F0 F1 F2 R0 R1 R2 n hn hpl h0 h1 h2)
    | true =>
      cases hs : (pl.getD n default).sec with
      | true => exact Ok.vc (te12_S W r0 r1 r2 r3 ms pl F0 F1 F2 R0 R1 R2 n hn hpl h0 h1 h2 hs)
      | false => exact Ok.vc (te12_P W r0 r1 r2 r3 ms pl F0 F1 F2 R0 R1 R2 n hn hpl h0 h1 h2 hs)) (Ok.vc (te12_end W r0 r1 r2 r3 ms pl F0 F1 F2 R0 R1 R2 _)) (by simp)
theorem te_loop20 (W r0 r1 r2 r3 : Int) (ms : List Mm) (pl : List Pl) (F0 F1 F2 : S7) (R0 R1 R2 : List Int) (hpl : pl.length < 1000) (h0 : R0.length = pl.length) (h1 : R1.length = pl.length) (h2 : R2.length = pl.length) : Ok Try.prog (ntOf Try.prog 6) (.loop (lpC Try.prog 6 6)) (sT (progL W r0 r1 r2 r3 (memR ms)) pl 2 0 [(23, .bool true), (201, .int .i64 pl.length), (202, .int .i64 ((0 : Nat) : Int))] F0 F1 F2 R0 R1 R2).st (.ext 12) (sT (progL W r0 r1 r2 r3 (memR ms)) pl 2 0 [(23, .bool (sameK pl R2 R0 pl.length)), (201, .int .i64 pl.length), (202, .int .i64 pl.length)] F0 F1 F2 R0 R1 R2).st :=
  Ok.loop (P := Try.prog) (nt := ntOf Try.prog 6) (c := lpC Try.prog 6 6) (F := fun n => (sT (progL W r0 r1 r2 r3 (memR ms)) pl 2 0 [(23, .bool (sameK pl R2 R0 n)), (201, .int .i64 pl.length), (202, .int .i64 ((n : Nat) : Int))] F0 F1 F2 R0 R1 R2)) (m := pl.length) (x := .ext 12) (J := (sT (progL W r0 r1 r2 r3 (memR ms)) pl 2 0 [(23, .bool (sameK pl R2 R0 pl.length)), (201, .int .i64 pl.length), (202, .int .i64 pl.length)] F0 F1 F2 R0 R1 R2)) (fun n hn => by
    show Ok _ _ _ (sT (progL W r0 r1 r2 r3 (memR ms)) pl 2 0 [(23, .bool (sameK pl R2 R0 n)), (201, .int .i64 pl.length), (202, .int .i64 ((n : Nat) : Int))] F0 F1 F2 R0 R1 R2).st _ (sT (progL W r0 r1 r2 r3 (memR ms)) pl 2 0 [(23, .bool (sameK pl R2 R0 n && ((pl.getD n default).sec || (R2.getD n 0 == R0.getD n 0)))), (201, .int .i64 pl.length), (202, .int .i64 ((n + 1 : Nat) : Int))] F0 F1 F2 R0 R1 R2).st
    cases hb : sameK pl R2 R0 n with
    | false => exact Ok.vc (te20_F W r0 r1 r2 r3 ms pl F0 F1 F2 R0 R1 R2 n hn hpl h0 h1 h2)
    | true =>
      cases hs : (pl.getD n default).sec with
      | true => exact Ok.vc (te20_S W r0 r1 r2 r3 ms pl F0 F1 F2 R0 R1 R2 n hn hpl h0 h1 h2 hs)
      | false => exact Ok.vc (te20_P W r0 r1 r2 r3 ms pl F0 F1 F2 R0 R1 R2 n hn hpl h0 h1 h2 hs)) (Ok.vc (te20_end W r0 r1 r2 r3 ms pl F0 F1 F2 R0 R1 R2 _)) (by simp)
theorem te_loop21 (W r0 r1 r2 r3 : Int) (ms : List Mm) (pl : List Pl) (F0 F1 F2 : S7) (R0 R1 R2 : List Int) (hpl : pl.length < 1000) (h0 : R0.length = pl.length) (h1 : R1.length = pl.length) (h2 : R2.length = pl.length) : Ok Try.prog (ntOf Try.prog 6) (.loop (lpC Try.prog 6 6)) (sT (progL W r0 r1 r2 r3 (memR ms)) pl 2 1 [(23, .bool true), (201, .int .i64 pl.length), (202, .int .i64 ((0 : Nat) : Int))] F0 F1 F2 R0 R1 R2).st (.ext 12) (sT (progL W r0 r1 r2 r3 (memR ms)) pl 2 1 [(23, .bool (sameK pl R2 R1 pl.length)), (201, .int .i64 pl.length), (202, .int .i64 pl.length)] F0 F1 F2 R0 R1 R2).st :=
  Ok.loop (P := Try.prog) (nt := ntOf Try.prog 6) (c := lpC Try.prog 6 6) (F := fun n => (sT (progL W r0 r1 r2 r3 (memR ms)) pl 2 1 [(23, .bool (sameK pl R2 R1 n)), (201, .int .i64 pl.length), (202, .int .i64 ((n : Nat) : Int))] F0 F1 F2 R0 R1 R2)) (m := pl.length) (x := .ext 12) (J := (sT (progL W r0 r1 r2 r3 (memR ms)) pl 2 1 [(23, .bool (sameK pl R2 R1 pl.length)), (201, .int .i64 pl.length), (202, .int .i64 pl.length)] F0 F1 F2 R0 R1 R2)) (fun n hn => by
    show Ok _ _ _ (sT (progL W r0 r1 r2 r3 (memR ms)) pl 2 1 [(23, .bool (sameK pl R2 R1 n)), (201, .int .i64 pl.length), (202, .int .i64 ((n : Nat) : Int))] F0 F1 F2 R0 R1 R2).st _ (sT (progL W r0 r1 r2 r3 (memR ms)) pl 2 1 [(23, .bool (sameK pl R2 R1 n && ((pl.getD n default).sec || (R2.getD n 0 == R1.getD n 0)))), (201, .int .i64 pl.length), (202, .int .i64 ((n + 1 : Nat) : Int))] F0 F1 F2 R0 R1 R2).st
    cases hb : sameK pl R2 R1 n with
    | false => exact Ok.vc (te21_F W r0 r1 r2 r3 ms pl F0 F1 F2 R0 R1 R2 n hn hpl h0 h1 h2)
    | true =>
      cases hs : (pl.getD n default).sec with
      | true => exact Ok.vc (te21_S W r0 r1 r2 r3 ms pl F0 F1 F2 R0 R1 R2 n hn hpl h0 h1 h2 hs)
      | false => exact Ok.vc (te21_P W r0 r1 r2 r3 ms pl F0 F1 F2 R0 R1 R2 n hn hpl h0 h1 h2 hs)) (Ok.vc (te21_end W r0 r1 r2 r3 ms pl F0 F1 F2 R0 R1 R2 _)) (by simp)
theorem te_loop22 (W r0 r1 r2 r3 : Int) (ms : List Mm) (pl : List Pl) (F0 F1 F2 : S7) (R0 R1 R2 : List Int) (hpl : pl.length < 1000) (h0 : R0.length = pl.length) (h1 : R1.length = pl.length) (h2 : R2.length = pl.length) : Ok Try.prog (ntOf Try.prog 6) (.loop (lpC Try.prog 6 6)) (sT (progL W r0 r1 r2 r3 (memR ms)) pl 2 2 [(23, .bool true), (201, .int .i64 pl.length), (202, .int .i64 ((0 : Nat) : Int))] F0 F1 F2 R0 R1 R2).st (.ext 12) (sT (progL W r0 r1 r2 r3 (memR ms)) pl 2 2 [(23, .bool (sameK pl R2 R2 pl.length)), (201, .int .i64 pl.length), (202, .int .i64 pl.length)] F0 F1 F2 R0 R1 R2).st :=
  Ok.loop (P := Try.prog) (nt := ntOf Try.prog 6) (c := lpC Try.prog 6 6) (F := fun n => (sT (progL W r0 r1 r2 r3 (memR ms)) pl 2 2 [(23, .bool (sameK pl R2 R2 n)), (201, .int .i64 pl.length), (202, .int .i64 ((n : Nat) : Int))] F0 F1 F2 R0 R1 R2)) (m := pl.length) (x := .ext 12) (J := (sT (progL W r0 r1 r2 r3 (memR ms)) pl 2 2 [(23, .bool (sameK pl R2 R2 pl.length)), (201, .int .i64 pl.length), (202, .int .i64 pl.length)] F0 F1 F2 R0 R1 R2)) (fun n hn => by
    show Ok _ _ _ (sT (progL W r0 r1 r2 r3 (memR ms)) pl 2 2 [(23, .bool (sameK pl R2 R2 n)), (201, .int .i64 pl.length), (202, .int .i64 ((n : Nat) : Int))] F0 F1 F2 R0 R1 R2).st _ (sT (progL W r0 r1 r2 r3 (memR ms)) pl 2 2 [(23, .bool (sameK pl R2 R2 n && ((pl.getD n default).sec || (R2.getD n 0 == R2.getD n 0)))), (201, .int .i64 pl.length), (202, .int .i64 ((n + 1 : Nat) : Int))] F0 F1 F2 R0 R1 R2).st
    cases hb : sameK pl R2 R2 n with
    | false => exact Ok.vc (te22_F W r0 r1 r2 r3 ms pl F0 F1 F2 R0 R1 R2 n hn hpl h0 h1 h2)
    | true =>
      cases hs : (pl.getD n default).sec with
      | true => exact Ok.vc (te22_S W r0 r1 r2 r3 ms pl F0 F1 F2 R0 R1 R2 n hn hpl h0 h1 h2 hs)
      | false => exact Ok.vc (te22_P W r0 r1 r2 r3 ms pl F0 F1 F2 R0 R1 R2 n hn hpl h0 h1 h2 hs)) (Ok.vc (te22_end W r0 r1 r2 r3 ms pl F0 F1 F2 R0 R1 R2 _)) (by simp)
end Go.Proofs.Ytdbnfdcjibgikaa.Px
