/- Merged: LxTk, LxFirst, LxLn, LxLine. -/
import Derived.Test.YtmghklokbmdenaaDoorMgLn
import Derived.Test.YtmghklokbmdenaaDoorLxShelf
import Derived.Lib.AtoiErrMem
import Derived.Laws.CopyOwn
import Derived.Test.YtmghklokbmdenaaDoorMgSy
import Derived.Deep.RegionHeld3
set_option linter.unusedVariables false
set_option linter.unusedSimpArgs false
namespace Go.Proofs.YtmghklokbmdenaaDoor
section
open Go.RowKit
theorem clone_any (s : ByteArray) (w : World) (hs : s.size ≤ 1000000) : Calls Tryd.prog 66 #[.string s] w (RetB (.string s) w) := by
  go_enter Tryd.func66, Tryd.ntmps66
  go_wp2_with (go_at_call 70; refine (Tryd.stringslite_Clone s _ (by omega)).mono ?_; rintro e w' ⟨rfl, hb⟩)
  go_ret
  exact ⟨rfl, hb⟩
theorem atoi_any (s : ByteArray) (N : Int) (h18 : s.size ≤ 18) (hat : Lib.atoi s.data.toList = some N) (w : World) : Calls Tryd.prog 67 #[.string s] w (RetB (.tuple #[.int .i64 N, .nilIface]) w) := by
  refine (Tryd.strconv_Atoi s N h18 hat w).mono fun e w' h => ?_
  obtain ⟨he, t, hw⟩ := h
  rw [hw]
  exact ⟨he, Lib.bytesWorld_below w 5 t⟩
theorem tok_new (w w1 : World) (B : Nat) (C : Array Value) (e : TypeId) (hb : Below (w.alloc (.cells C e)).heap.size (w.alloc (.cells C e)) w1) (o : Obj) : (w1.alloc o).heap[w.heap.size]? = some (.cells C e (0, 0)) := by
  have h1 : w1.heap[w.heap.size]? = (w.alloc (.cells C e)).heap[w.heap.size]? := hb.block _ (by simp)
  have h2 := hb.size
  rw [heap_alloc_old _ _ (by simp at h2; omega), h1, heap_alloc_new]
set_option maxRecDepth 100000 in
set_option maxHeartbeats 4000000 in
theorem tok_any (kd : Int) (s : ByteArray) (n : Nat) (t : List Int) (N : Int) (w : World) (hn : n ≤ s.size) (hs : s.size ≤ 1000000) (hx : s.extract 0 n = strOfNums t) (ht : t.length ≤ 1000000)
    (hk : (kd = 2 ∧ t.length ≤ 18 ∧ Lib.atoi (strOfNums t).data.toList = some N) ∨ (kd ≠ 2 ∧ N = 0)) :
    Calls Tryd.prog 53 #[.int .i64 kd, .string s, .int .i64 (n : Int)] w (RetB (tokA kd (strOfNums t) N 0) w) := by
  have hss : (strOfNums t).size = t.length := strOfNums_size t
  rcases hk with ⟨rfl, h18, hat⟩ | ⟨h2, rfl⟩
  · have HAT := Lib.hid hat
    clear hat
    go_enter Tryd.func53, Tryd.ntmps53
    go_wp2_with fail
    refine (clone_any _ _ (by omega)).mono ?_
    rintro e w1 ⟨rfl, hb1⟩
    have g6 := tok_at _ _ _ _ hb1
    have hs1 : w.heap.size < w1.heap.size := by have := hb1.size; simp at this; omega
    go_wp2_with fail
    refine (atoi_any (strOfNums t) N (by omega) HAT.out _).mono ?_
    rintro e w2 ⟨rfl, hb2⟩
    have g2 := tok_at _ _ _ _ hb2
    have d2 := cell_of_row _ _ 2 _ _ _ g2
    have f2 := frozen_of_row _ _ 2 _ _ g2
    simp only [List.getElem?_toArray, List.getElem?_cons_succ, List.getElem?_cons_zero] at d2
    have g62 := (tok_old _ _ _ _ hb2 hs1).trans g6
    have hne : w.heap.size ≠ w1.heap.size := by omega
    have g2s := heap_setCell_same w2 _ 2 _ _ (.int .i64 N) g2
    have g6s := (heap_setCell_other w2 ⟨w1.heap.size, 2, none⟩ w.heap.size (.int .i64 N) hne).trans g62
    have hbt : Below w.heap.size w (w2.setCell ⟨w1.heap.size, 2, none⟩ (.int .i64 N)) := by
      have hb3 : Below w.heap.size w w2 := upT (upA (upT (upA (up0 w) _) hb1) _) hb2
      rw [setCell_eq_setRow _ _ _ _ _ _ _ g2]
      exact below_setRow hb3 (by omega) _
    simp only [List.setIfInBounds_toArray, List.set_cons_zero, List.set_cons_succ] at g2s
    clear g2 g62 g6 hb1 hb2
    go_wp2_with (first
      | (refine wp_loadT (o := ⟨some 23, .load 73 (.tmp 7), _, _, _, none⟩) rfl _ rfl w1.heap.size rfl _ _ _ _ _ (0, 0) g2s ?_)
      | (refine wp_storeT (o := ⟨none, .store 73 (.tmp 6) (.tmp 23), _, _, _, none⟩) rfl _ _ rfl w.heap.size _ _ _ _ rfl rfl _ _ _ _ _ g6s rfl rfl rfl rfl ?_))
    (try simp only [Exit.inBlock, Exit.then])
    refine bodyPost_ret (resT rfl _ _ _ _ _ _ _ _ _ rfl (setRow_heap _ _ _ _ _ _ g6s)) rfl ?_
    exact ⟨rfl, below_setRow hbt (Nat.le_refl _) _⟩
  · go_enter Tryd.func53, Tryd.ntmps53
    go_wp2_with fail
    refine (clone_any _ _ (by omega)).mono ?_
    rintro e w1 ⟨rfl, hb1⟩
    have g6 := tok_new w _ w.heap.size _ _ hb1
    go_wp2_with (refine wp_storeT (o := ⟨none, .store 73 (.tmp 6) (.tmp 23), _, _, _, none⟩) rfl _ _ rfl w.heap.size _ _ _ _ rfl rfl _ _ _ _ _ (g6 _) rfl rfl rfl rfl ?_)
    (try simp only [Exit.inBlock, Exit.then])
    refine bodyPost_ret (resT rfl _ _ _ _ _ _ _ _ _ rfl (setRow_heap _ _ _ _ _ _ (g6 _))) rfl ?_
    exact ⟨rfl, below_setRow (upA (upT (upA (up0 w) _) hb1) _) (Nat.le_refl _) _⟩
end
end Go.Proofs.YtmghklokbmdenaaDoor
namespace Go.Proofs.YtmghklokbmdenaaDoor
section
open Go.RowKit
/-- what a line's runes begin with, if that is a sign: its kind, its text, its number -/
def fstOf (c : Int) (r : List Int) : Option Lx.Tk :=
  if Lx.lower c = true then some ⟨1, (c :: r).takeWhile Lx.word, 0, 0⟩
  else if Lx.dig c = true then some ⟨2, Lx.digs (c :: r), Lx.val (Lx.digs (c :: r)), 0⟩
  else if Lx.sgn c = true then some ⟨3, [c], 0, 0⟩
  else none
def fstV : Option Lx.Tk → Value
  | some t => .tuple #[tokA t.kind (strOfNums t.text) t.n 0, .bool true]
  | none => .tuple #[tokA 0 ⟨#[]⟩ 0 0, .bool false]
theorem hd_word (q : List Int) (m : Nat) (hm : q.length ≤ m) : Lx.hd Lx.word m q = (q.takeWhile Lx.word).length := by
  unfold Lx.hd
  rw [List.take_of_length_le hm]
theorem take_run {p : Int → Bool} (hp : ∀ x, p x = true → x < 128) {s : ByteArray} {u : List Int} (hu : ∀ x ∈ u, x < 128) (hpre : u <+: Lx.runes s) : u.length ≤ s.size ∧ s.extract 0 u.length = strOfNums u := by
  obtain ⟨r, hr⟩ := hpre
  rw [← Lx.runesAt_zero] at hr
  have h1 := Lx.ascii_run u s 0 r hr.symm hu (Nat.zero_le _)
  have h2 := Lx.ascii_extract hr.symm hu (Nat.zero_le _)
  rw [Nat.zero_add] at h1 h2
  exact ⟨h1.1, h2⟩
set_option maxRecDepth 100000 in
set_option maxHeartbeats 4000000 in
theorem first_any (s : ByteArray) (c : Int) (r : List Int) (w : World) (hs : s.size ≤ 1000000) (hq : Lx.runes s = c :: r) :
    Calls Tryd.prog 41 #[.string s, .int .i32 c] w (RetB (fstV (fstOf c r)) w) := by
  have hne : (c :: r).length ≤ s.size := by rw [← hq]; exact Lx.runes_len s
  unfold fstOf
  cases h1 : Lx.lower c
  case true =>
    have hc1 := Lx.lower_lt h1
    have hb : 97 ≤ c ∧ c ≤ 122 := by simpa [Lx.lower] using h1
    obtain ⟨k1, k2⟩ := take_run (p := Lx.word) (fun x hx => (Lx.word_lt hx).2) (s := s) (u := (c :: r).takeWhile Lx.word) (fun x hx => (Lx.word_lt (Lx.takeWhile_all x hx)).2) (by rw [hq]; exact List.takeWhile_prefix _)
    have hd1 : Lx.hd Lx.word s.size (Lx.runes s) = ((c :: r).takeWhile Lx.word).length := by rw [hq]; exact hd_word _ _ hne
    simp only [if_true]
    generalize (c :: r).takeWhile Lx.word = t at *
    have K2 := Lib.hid k2; have HD := Lib.hid hd1
    clear k2 hd1 hq hb
    go_enter Tryd.func41, Tryd.ntmps41
    go_wp2_with (go_at_call 52; refine (letter_any _ _).mono ?_; rintro e w' ⟨rfl, rfl⟩; rw [h1])
    refine (head_lod s s.size _ hs hs).mono ?_
    rintro e w1 ⟨rfl, hb1⟩
    rw [HD.out]
    go_wp2_with fail
    refine (tok_any 1 s t.length t 0 _ k1 hs K2.out (by omega) (.inr ⟨by decide, rfl⟩)).mono ?_
    rintro e w2 ⟨rfl, hb2⟩
    have g4 := (hb2.block _ (by have := hb1.size; simp at this; omega)).trans (tok_at _ _ _ _ hb1)
    have hbt : Below w.heap.size w w2 := upT (upT (upA (up0 w) _) hb1) hb2
    clear hb2
    go_wp2_with (refine wp_storeT (o := ⟨none, .store 73 (.tmp 4) (.tmp 14), _, _, _, none⟩) rfl _ _ rfl w.heap.size _ _ _ _ rfl rfl _ _ _ _ _ g4 rfl rfl rfl rfl ?_)
    (try simp only [Exit.inBlock, Exit.then])
    refine bodyPost_ret (resT2 rfl _ _ _ _ _ _ _ _ _ rfl (setRow_heap _ _ _ _ _ _ g4)) rfl ?_
    exact ⟨rfl, below_setRow hbt (Nat.le_refl _) _⟩
  case false =>
    simp only [Bool.false_eq_true, if_false]
    have hd48 : Lx.dig 48 = true := by decide
    cases h2 : Lx.dig c
    case true =>
      have hb : 48 ≤ c ∧ c ≤ 57 := by simpa [Lx.dig] using h2
      simp only [if_true]
      have hdd : ∀ x ∈ Lx.digs (c :: r), Lx.dig x = true := digs_dig h2
      have hpre : Lx.digs (c :: r) <+: Lx.runes s := by
        rw [hq, Lx.digs_cons]
        split
        · exact ⟨r, rfl⟩
        · exact (List.takeWhile_prefix _).trans (List.take_prefix _ _)
      obtain ⟨k1, k2⟩ := take_run (p := Lx.dig) (fun x hx => (Lx.dig_lt hx).2) (s := s) (u := Lx.digs (c :: r)) (fun x hx => (Lx.dig_lt (hdd x hx)).2) hpre
      have h5 := digs_five (c :: r)
      have hpos := Lx.digs_pos (r := r) h2
      have hat : Lib.atoi (strOfNums (Lx.digs (c :: r))).data.toList = some (Lx.val (Lx.digs (c :: r))) := by
        obtain ⟨x, t, e⟩ : ∃ x t, Lx.digs (c :: r) = x :: t := List.exists_cons_of_ne_nil (fun e => by rw [e] at hpos; simp at hpos)
        rw [e] at hdd ⊢
        exact Lx.atoi_val hdd
      by_cases h48 : c = 48
      · subst h48
        have e1 : Lx.digs (48 :: r) = [48] := by rw [Lx.digs_cons, if_pos rfl]
        rw [e1] at k1 k2 hat ⊢
        have K2 := Lib.hid k2; have HAT := Lib.hid hat
        clear k2 hq hat e1 hdd hpre hpos h5 hb
        go_enter Tryd.func41, Tryd.ntmps41
        go_wp2_with (go_at_call 52; refine (letter_any _ _).mono ?_; rintro e w' ⟨rfl, rfl⟩; rw [h1])
        refine (tok_any 2 s 1 [48] (Lx.val [48]) _ k1 hs K2.out (by simp) (.inl ⟨rfl, by simp, HAT.out⟩)).mono ?_
        rintro e w2 ⟨rfl, hb2⟩
        have g4 := tok_at _ _ _ _ hb2
        have hbt : Below w.heap.size w w2 := upT (upA (up0 w) _) hb2
        clear hb2
        go_wp2_with (refine wp_storeT (o := ⟨none, .store 73 (.tmp 4) (.tmp 19), _, _, _, none⟩) rfl _ _ rfl w.heap.size _ _ _ _ rfl rfl _ _ _ _ _ g4 rfl rfl rfl rfl ?_)
        (try simp only [Exit.inBlock, Exit.then])
        refine bodyPost_ret (resT2 rfl _ _ _ _ _ _ _ _ _ rfl (setRow_heap _ _ _ _ _ _ g4)) rfl ?_
        exact ⟨rfl, below_setRow hbt (Nat.le_refl _) _⟩

      · have hn48 : ¬ c = 48 := h48
        have k48 : (c == 48) = false := by simpa using h48
        have hd1 : Lx.hd Lx.dig 5 (Lx.runes s) = (Lx.digs (c :: r)).length := by rw [hq, Lx.digs_cons, if_neg h48]; rfl
        generalize Lx.digs (c :: r) = t at *
        generalize Lx.val t = N at *
        have K2 := Lib.hid k2; have HAT := Lib.hid hat; have HD := Lib.hid hd1
        clear k2 hq hat hd1 hdd hpre hpos hb h48
        go_enter Tryd.func41, Tryd.ntmps41
        go_wp2_with (first
          | (go_at_call 52; refine (letter_any _ _).mono ?_; rintro e w' ⟨rfl, rfl⟩; rw [h1])
          | (go_at_call 56; refine (digit_any _ _).mono ?_; rintro e w' ⟨rfl, rfl⟩; rw [h2]))
        refine (head_dig s 5 _ hs (by omega)).mono ?_
        rintro e w1 ⟨rfl, hb1⟩
        rw [HD.out]
        go_wp2_with fail
        refine (tok_any 2 s t.length t N _ k1 hs K2.out (by omega) (.inl ⟨rfl, by omega, HAT.out⟩)).mono ?_
        rintro e w2 ⟨rfl, hb2⟩
        have g4 := (hb2.block _ (by have := hb1.size; simp at this; omega)).trans (tok_at _ _ _ _ hb1)
        have hbt : Below w.heap.size w w2 := upT (upT (upA (up0 w) _) hb1) hb2
        clear hb2
        go_wp2_with (refine wp_storeT (o := ⟨none, .store 73 (.tmp 4) (.tmp 26), _, _, _, none⟩) rfl _ _ rfl w.heap.size _ _ _ _ rfl rfl _ _ _ _ _ g4 rfl rfl rfl rfl ?_)
        (try simp only [Exit.inBlock, Exit.then])
        refine bodyPost_ret (resT2 rfl _ _ _ _ _ _ _ _ _ rfl (setRow_heap _ _ _ _ _ _ g4)) rfl ?_
        exact ⟨rfl, below_setRow hbt (Nat.le_refl _) _⟩

    case false =>
      simp only [Bool.false_eq_true, if_false]
      have hn48 : ¬ c = 48 := fun e => by rw [e] at h2; cases h2
      have k48 : (c == 48) = false := by simpa using hn48
      cases h3 : Lx.sgn c
      case true =>
        have hc := Lx.sgn_lt h3
        obtain ⟨k1, k2⟩ := take_run (p := Lx.sgn) (fun x hx => (Lx.sgn_lt hx).2) (s := s) (u := [c]) (fun x hx => by simp at hx; subst hx; exact hc.2) (by rw [hq]; exact ⟨r, rfl⟩)
        simp only [if_true]
        have K2 := Lib.hid k2
        clear k2 hq hc
        go_enter Tryd.func41, Tryd.ntmps41
        go_wp2_with (first
          | (go_at_call 52; refine (letter_any _ _).mono ?_; rintro e w' ⟨rfl, rfl⟩; rw [h1])
          | (go_at_call 56; refine (digit_any _ _).mono ?_; rintro e w' ⟨rfl, rfl⟩; rw [h2])
          | (go_at_call 57; refine (single_any _ _).mono ?_; rintro e w' ⟨rfl, rfl⟩; rw [h3]))
        refine (tok_any 3 s 1 [c] 0 _ k1 hs K2.out (by simp) (.inr ⟨by decide, rfl⟩)).mono ?_
        rintro e w2 ⟨rfl, hb2⟩
        have g4 := tok_at _ _ _ _ hb2
        have hbt : Below w.heap.size w w2 := upT (upA (up0 w) _) hb2
        clear hb2
        go_wp2_with (refine wp_storeT (o := ⟨none, .store 73 (.tmp 4) (.tmp 31), _, _, _, none⟩) rfl _ _ rfl w.heap.size _ _ _ _ rfl rfl _ _ _ _ _ g4 rfl rfl rfl rfl ?_)
        (try simp only [Exit.inBlock, Exit.then])
        refine bodyPost_ret (resT2 rfl _ _ _ _ _ _ _ _ _ rfl (setRow_heap _ _ _ _ _ _ g4)) rfl ?_
        exact ⟨rfl, below_setRow hbt (Nat.le_refl _) _⟩

      case false =>
        simp only [Bool.false_eq_true, if_false]
        go_enter Tryd.func41, Tryd.ntmps41
        go_wp2_with (first
          | (go_at_call 52; refine (letter_any _ _).mono ?_; rintro e w' ⟨rfl, rfl⟩; rw [h1])
          | (go_at_call 56; refine (digit_any _ _).mono ?_; rintro e w' ⟨rfl, rfl⟩; rw [h2])
          | (go_at_call 57; refine (single_any _ _).mono ?_; rintro e w' ⟨rfl, rfl⟩; rw [h3]))
        (try simp only [Exit.inBlock, Exit.then])
        refine bodyPost_ret (resT2 rfl _ _ _ _ _ _ _ _ _ rfl (heap_alloc_new _ _)) rfl ?_
        exact ⟨rfl, upA (up0 w) _⟩
end
end Go.Proofs.YtmghklokbmdenaaDoor
namespace Go.Proofs.YtmghklokbmdenaaDoor
section
open Go.RowKit
open Lx in
theorem fst_step {c : Int} {r : List Int} {t : Tk} (h : fstOf c r = some t) : ∃ q, c :: r = t.text ++ q ∧ 0 < t.text.length ∧ (∀ x ∈ t.text, 0 ≤ x ∧ x < 128) ∧ (t.kind = 3 → word c = false) ∧ (t.kind ≠ 3 → word c = true) ∧ ∀ a, lxA a (c :: r) = cons ⟨t.kind, t.text, t.n, a⟩ (nx t.kind (a + t.text.length) q) := by
  unfold fstOf at h
  split at h
  · rename_i h1
    injection h with h
    subst h
    obtain ⟨q, hq⟩ := List.takeWhile_prefix word (l := c :: r)
    have hdr : (c :: r).drop ((c :: r).takeWhile word).length = q := by
      have := List.drop_left (l₁ := (c :: r).takeWhile word) (l₂ := q)
      rwa [hq] at this
    refine ⟨q, hq.symm, name_pos h1, fun x hx => word_lt (takeWhile_all x hx), fun h => by simp at h, fun _ => by simp [word, h1], fun a => ?_⟩
    rw [lxA_name h1, hdr, nx_other (by show (1 : Int) ≠ 2; decide)]
  · rename_i h1
    split at h
    · rename_i h2
      injection h with h
      subst h
      have hpre : digs (c :: r) <+: c :: r := by
        rw [digs_cons]
        split
        · exact ⟨r, rfl⟩
        · exact (List.takeWhile_prefix _).trans (List.take_prefix _ _)
      obtain ⟨q, hq⟩ := hpre
      have hdr : (c :: r).drop (digs (c :: r)).length = q := by
        have := List.drop_left (l₁ := digs (c :: r)) (l₂ := q)
        rwa [hq] at this
      refine ⟨q, hq.symm, digs_pos h2, fun x hx => dig_lt (digs_dig h2 x hx), fun h => by simp at h, fun _ => by simp [word, h2], fun a => ?_⟩
      cases hs : stops q
      · rw [lxA_nums h2 (by rw [hdr]; exact hs)]
        show _ = cons _ (nx 2 _ q)
        rw [nx_cut hs]
        rfl
      · rw [lxA_num h2 (by rw [hdr]; exact hs), hdr, nx_stop hs]
    · rename_i h2
      split at h
      · rename_i h3
        injection h with h
        subst h
        refine ⟨r, rfl, by simp, fun x hx => by simp at hx; subst hx; exact sgn_lt h3, fun _ => by simp [word]; exact ⟨by simpa using h1, by simpa using h2⟩, fun h => absurd rfl h, fun a => ?_⟩
        rw [lxA_sign h3, nx_other (by show (3 : Int) ≠ 2; decide)]
        rfl
      · cases h
open Lx in
theorem fst_none {c : Int} {r : List Int} (h : fstOf c r = none) (h59 : c ≠ 59) (hb : Lx.blank c = false) : word c = false ∧ ∀ a, lxA a (c :: r) = .error a := by
  unfold fstOf at h
  split at h
  · cases h
  · rename_i h1
    split at h
    · cases h
    · rename_i h2
      split at h
      · cases h
      · rename_i h3
        have h1 : lower c = false := by simpa using h1
        have h2 : dig c = false := by simpa using h2
        exact ⟨by simp [word, h1, h2], fun a => lxA_bad h59 hb h1 h2 (by simpa using h3)⟩
end
end Go.Proofs.YtmghklokbmdenaaDoor
namespace Go.Proofs.YtmghklokbmdenaaDoor
section
open Go.RowKit
/-- where a line's reading stands -/
def lnAt (s : ByteArray) (R : Except Nat (List Lx.Tk)) (p e : Nat) (ts : List Lx.Tk) (lk : Int) : Prop :=
  (p < e ∧ e ≤ s.size ∧ (∃ u, Lx.runesAt s p = u ++ Lx.runesAt s e ∧ u.length = e - p ∧ (∀ x ∈ u, 0 ≤ x ∧ x < 128)) ∧ Lx.glue ts (Lx.nx lk e (Lx.runesAt s e)) = R) ∨
  (p = e ∧ Lx.glue ts (Lx.nx lk e (Lx.runesAt s e)) = R) ∨ (e < p ∧ Lx.glue ts (Lx.lxA p (Lx.runesAt s p)) = R)
theorem lnAt.free {s : ByteArray} {R : Except Nat (List Lx.Tk)} {p e : Nat} {ts : List Lx.Tk} {lk : Int} (h : lnAt s R p e ts lk) (hpe : e ≤ p) :
    ∀ c r, Lx.runesAt s p = c :: r → (p = e ∧ lk = 2 ∧ Lx.word c = true ∧ R = .error e) ∨ (¬ (p = e ∧ lk = 2 ∧ Lx.word c = true) ∧ Lx.glue ts (Lx.lxA p (c :: r)) = R) := by
  intro c r hr
  rcases h with ⟨h1, _⟩ | ⟨rfl, h1⟩ | ⟨h0, h1⟩
  · omega
  · rw [hr] at h1
    by_cases hk : lk = 2
    · subst hk
      cases hw : Lx.word c
      · right
        rw [Lx.nx_stop (by simp [Lx.stops, hw])] at h1
        exact ⟨by simp, h1⟩
      · left
        rw [Lx.nx_cut (by simp [Lx.stops, hw])] at h1
        exact ⟨rfl, rfl, rfl, h1.symm⟩
    · right
      rw [Lx.nx_other hk] at h1
      exact ⟨by simp [hk], h1⟩
  · right
    rw [hr] at h1
    exact ⟨by omega, h1⟩
theorem lnAt.end_ {s : ByteArray} {R : Except Nat (List Lx.Tk)} {p e : Nat} {ts : List Lx.Tk} {lk : Int} (h : lnAt s R p e ts lk) (hp : ¬ p < s.size) (hps : p ≤ s.size) : R = .ok ts := by
  rcases h with ⟨h1, h2, _⟩ | ⟨rfl, h1⟩ | ⟨h0, h1⟩
  · omega
  · rw [Lx.runesAt_end hp, Lx.nx_stop rfl, Lx.lxA_nil] at h1
    rw [← h1]; simp [Lx.glue]
  · rw [Lx.runesAt_end hp, Lx.lxA_nil] at h1
    rw [← h1]; simp [Lx.glue]
set_option maxRecDepth 100000 in
set_option maxHeartbeats 16000000 in
theorem line_any (s : ByteArray) (w : World) (hs : s.size ≤ 1000000) :
    Calls Tryd.prog 21 #[.string s] w (LineR (Lx.lxA 0 (Lx.runes s)) w) := by
  obtain ⟨i0, hi0, hz0, hs0, hb0⟩ := info_parts infoTk
  have hnx := @Lib.run_next_any_at Tryd.prog
  have hne := @Lib.run_next_end_at Tryd.prog
  have HNX := Lib.hid hnx; have HNE := Lib.hid hne
  clear hnx hne
  have hstart : lnAt s (Lx.lxA 0 (Lx.runes s)) 0 0 [] 0 := .inr (.inl ⟨rfl, by rw [Lx.glue_nil, Lx.nx_other (by decide), Lx.runesAt_zero]⟩)
  generalize hR : Lx.lxA 0 (Lx.runes s) = R at *
  clear hR
  have HSTART := Lib.hid hstart
  clear hstart
  go_enter Tryd.func21, Tryd.ntmps21
  go_wp2_with fail
  go_loopw [5, 7] (fun v5 v7 wr => ∃ (p e : Nat) (ts : List Lx.Tk) (lk : Int) (lt : ByteArray) (ln la : Int), v7 = .int .i64 (e : Int) ∧
    wr.heap[w.heap.size]? = some (.cells #[.int .i64 lk, .string lt, .int .i64 ln, .int .i64 la] 73 (0, 0)) ∧ wr.heap[w.heap.size + 1]? = some (.stringIter s p) ∧
    wr.ownsRow (w.heap.size + 2) 73 4 v5 ts.length (flat ts) ∧ Below w.heap.size w wr ∧ p ≤ s.size ∧ (ts.length ≤ e ∧ e ≤ s.size) ∧ lnAt s R p e ts lk) (fun _ _ wr => s.size - wr.iterPos (w.heap.size + 1))
  case atStart => exact ⟨0, 0, [], 0, ⟨#[]⟩, 0, 0, rfl, heap_alloc2_old _ _ _, heap_alloc2_new _ _ _, World.ownsRow_nil _ _ _ _, upA (upA (up0 w) _) _, by omega, by simp, HSTART.out⟩
  case round =>
    obtain ⟨p, e, ts, lk, lt, ln, la, rfl, hlast, hit, hown, hbw, hps, ⟨htl, hes⟩, hat⟩ := hrel
    obtain ⟨wo, rfl⟩ : ∃ wo : World, wo = wr := ⟨_, rfl⟩
    have hlt := (Array.getElem?_eq_some_iff.1 hit).1
    have hpos : wo.iterPos (w.heap.size + 1) = p := by simp [World.iterPos, hit]
    by_cases hp : p < s.size
    · have hst := Lx.runesAt_step hp
      have hrun := HNX.out wo (w.heap.size + 1) s p
      have hit2 := Lib.iterAt_heap wo (w.heap.size + 1) s p (p + (Utf8.decode s p).2) hit
      have hb2 := Lib.below_iterAt hbw (Nat.le_succ _) s (p + (Utf8.decode s p).2)
      have hsz := Lib.iterAt_size wo (w.heap.size + 1) s (p + (Utf8.decode s p).2)
      have hown1 := own_keepb hown (w' := wo.iterAt (w.heap.size + 1) s (p + (Utf8.decode s p).2)) (fun k hk => Lib.iterAt_other wo (w.heap.size + 1) k s _ (by omega))
      have hlast1 := (Lib.iterAt_other wo (w.heap.size + 1) w.heap.size s (p + (Utf8.decode s p).2) (by omega)).trans hlast
      have hrun' : ∀ ty, (Instr.next (.pointer (some ⟨w.heap.size + 1, 0, none⟩)) true ty).run Tryd.prog wo = .ok (.tuple #[.bool true, .int .i64 p, .int .i32 ((Utf8.decode s p).1 : Int)]) (wo.iterAt (w.heap.size + 1) s (p + (Utf8.decode s p).2)) := fun ty => hrun ty hit hp
      clear hrun hown hlast hbw hit
      generalize wo.iterAt (w.heap.size + 1) s (p + (Utf8.decode s p).2) = w1 at *
      obtain ⟨p2, hp2⟩ : ∃ p2, p + (Utf8.decode s p).2 = p2 := ⟨_, rfl⟩
      obtain ⟨c, hc⟩ : ∃ c : Int, ((Utf8.decode s p).1 : Int) = c := ⟨_, rfl⟩
      have HP2 := Lib.hid hp2
      have hst' := hst
      rw [hp2, hc] at hst
      rw [hp2] at hit2
      rw [hc] at hrun'
      clear hst' hp2 hc
      have hw1 : w.heap.size + 2 ≤ w1.heap.size := by omega
      have HI := Lib.hid hit2; have HL := Lib.hid hlast1; have HB := Lib.hid hb2; have HO := Lib.hid hown1; have HST := Lib.hid hst; have HAT := Lib.hid hat
      clear hit2 hlast1 hb2 hown1 hst hat hsz
      have hp1 : c < 128 → p2 = p + 1 := fun h => by
        obtain ⟨_, _, _, _, hd⟩ := Lx.ascii_at HST.out h
        rw [← HP2.out, hd]
      have HP1 := Lib.hid hp1
      clear hp1
      have hskip : ∀ e' ts' lk', p2 ≤ s.size → lnAt s R p2 e' ts' lk' → e' = e → ts' = ts → lk' = lk → ∃ (p e : Nat) (ts : List Lx.Tk) (lk : Int) (lt : ByteArray) (ln la : Int), (Value.int .i64 (e' : Int)) = .int .i64 (e : Int) ∧
    w1.heap[w.heap.size]? = some (.cells #[.int .i64 lk, .string lt, .int .i64 ln, .int .i64 la] 73 (0, 0)) ∧ w1.heap[w.heap.size + 1]? = some (.stringIter s p) ∧
    w1.ownsRow (w.heap.size + 2) 73 4 u5 ts.length (flat ts) ∧ Below w.heap.size w w1 ∧ p ≤ s.size ∧ (ts.length ≤ e ∧ e ≤ s.size) ∧ lnAt s R p e ts lk := by
        rintro e' ts' lk' h1 h2 rfl rfl rfl
        exact ⟨p2, e', ts', lk', lt, ln, la, rfl, HL.out, HI.out, HO.out, HB.out, h1, ⟨htl, hes⟩, h2⟩
      have hmeas : s.size - w1.iterPos (w.heap.size + 1) < s.size - wo.iterPos (w.heap.size + 1) := by
        have e1 : w1.iterPos (w.heap.size + 1) = p2 := by simp [World.iterPos, HI.out]
        have := Lx.decode_step s p hp
        have := HP2.out
        rw [e1, hpos]
        omega
      have HSK := Lib.hid hskip; have HME := Lib.hid hmeas
      clear hskip hmeas
      by_cases hpe : p < e
      · have hpe' : (p : Int) < (e : Int) := by omega
        go_wp2_with fail
        go_round
        case measure => exact HME.out
        case rel =>
          rcases HAT.out with ⟨h1, h2, ⟨u, hu1, hu2, hu3⟩, hg⟩ | ⟨h1, _⟩ | ⟨h1, _⟩
          · obtain ⟨x, u', rfl⟩ : ∃ x u', u = x :: u' := List.exists_cons_of_ne_nil (fun e0 => by rw [e0] at hu2; simp at hu2; omega)
            rw [HST.out] at hu1
            injection hu1 with h3 h4
            subst h3
            have hp21 := HP1.out (hu3 c (by simp)).2
            simp only [List.length_cons] at hu2
            refine HSK.out e ts lk (by omega) ?_ rfl rfl rfl
            rcases Nat.lt_or_ge p2 e with h5 | h5
            · exact .inl ⟨h5, h2, ⟨u', h4, by omega, fun y hy => hu3 y (by simp [hy])⟩, hg⟩
            · exact .inr (.inl ⟨by omega, hg⟩)
          · omega
          · omega
      · have hpe' : ¬ (p : Int) < (e : Int) := by omega
        have hfree := HAT.out.free (by omega) c _ HST.out
        cases hbl : Lx.blank c
        case true =>
          have hc128 : c < 128 := by have : c = 32 ∨ c = 9 := by simpa [Lx.blank] using hbl
                                     omega
          have hwf : Lx.word c = false := by
            have : c = 32 ∨ c = 9 := by simpa [Lx.blank] using hbl
            rcases this with rfl | rfl <;> decide
          have HFREE := Lib.hid hfree
          clear hfree
          go_wp2_with (go_at_call 40; refine (blank_any _ _).mono ?_; rintro e w' ⟨rfl, rfl⟩; rw [hbl])
          go_round
          case measure => exact HME.out
          case rel =>
            have hp21 := HP1.out hc128
            refine HSK.out e ts lk (by omega) ?_ rfl rfl rfl
            rcases HFREE.out with ⟨_, _, h3, _⟩ | ⟨_, h3⟩
            · rw [hwf] at h3; cases h3
            · rw [Lx.lxA_blank hbl, ← hp21] at h3
              exact .inr (.inr ⟨by omega, h3⟩)
        case false =>
          by_cases h59 : c = 59
          · have hres : R = .ok ts := by
              rcases hfree with ⟨_, _, h3, _⟩ | ⟨_, h3⟩
              · rw [h59] at h3; cases h3
              · rw [h59, Lx.lxA_semi] at h3
                rw [← h3]; simp [Lx.glue]
            have HRES := Lib.hid hres
            clear hres hfree
            subst h59
            go_wp2_with (go_at_call 40; refine (blank_any _ _).mono ?_; rintro e w' ⟨rfl, rfl⟩; rw [hbl])
            go_ret3
            rw [HRES.out]
            exact ⟨_, rfl, own_lower HO.out (by omega), HB.out⟩
          · have k59 : (c == 59) = false := by simpa using h59
            have hq : Lx.runes (s.extract p s.size) = c :: Lx.runesAt s p2 := by rw [Lx.runes_tail]; exact HST.out
            have hsx : (s.extract p s.size).size ≤ 1000000 := by rw [Lib.tail_size]; omega
            have hf := fun W => first_any (s.extract p s.size) c (Lx.runesAt s p2) W hsx hq
            clear hq hsx
            cases hfo : fstOf c (Lx.runesAt s p2) with
            | none =>
              obtain ⟨hw, hbad⟩ := fst_none hfo h59 hbl
              have hres : R = .error p := by
                rcases hfree with ⟨_, _, h3, _⟩ | ⟨_, h3⟩
                · rw [hw] at h3; cases h3
                · rw [hbad] at h3; exact h3.symm
              have HRES := Lib.hid hres
              rw [hfo] at hf
              simp only [fstV] at hf
              have HF := Lib.hid hf
              clear hres hfree hf hfo hbad
              go_wp2_with (first
                | (go_at_call 40; refine (blank_any _ _).mono ?_; rintro e w' ⟨rfl, rfl⟩; rw [hbl])
                | (go_at_call 41; refine (HF.out _).mono ?_; rintro e w2 ⟨rfl, hb2⟩))
              go_ret3
              rw [HRES.out]
              exact ⟨rfl, HB.out.trans ((upA hb2 _).mono (by omega))⟩
            | some t =>
              obtain ⟨q, hq1, hq2, hq3, hk3, hkn, hlx⟩ := fst_step hfo
              obtain ⟨kd, tx, nn, at0⟩ := t
              simp only at hq1 hq2 hq3 hk3 hkn hlx
              have hc128 : c < 128 := by
                obtain ⟨x, t', rfl⟩ : ∃ x t', tx = x :: t' := List.exists_cons_of_ne_nil (fun e0 => by rw [e0] at hq2; simp at hq2)
                injection hq1 with h1 _
                exact h1 ▸ (hq3 x (by simp)).2
              have hp21 := HP1.out hc128
              have hrun3 := Lx.ascii_run tx s p q (by rw [HST.out, hq1]) (fun x hx => (hq3 x hx).2) hps
              obtain ⟨hr1, hr2, _⟩ := hrun3
              rw [hfo] at hf
              simp only [fstV] at hf
              have HF := Lib.hid hf
              clear hf hfo
              have hss : (strOfNums tx).size = tx.length := strOfNums_size tx
              by_cases hcut : p = e ∧ lk = 2 ∧ kd ≠ 3
              · obtain ⟨rfl, rfl, hk⟩ := hcut
                have hres : R = .error p := by
                  rcases hfree with ⟨_, _, _, h3⟩ | ⟨h3, _⟩
                  · exact h3
                  · exact absurd ⟨rfl, rfl, hkn hk⟩ h3
                have HRES := Lib.hid hres
                clear hres hfree hlx hq1 hq3 hr2
                go_wp2_with (go_at_call 40; refine (blank_any _ _).mono ?_; rintro e w' ⟨rfl, rfl⟩; rw [hbl])
                refine (HF.out _).mono ?_
                rintro e w2 ⟨rfl, hb2⟩
                have hl2 := (hb2.block w.heap.size (by omega)).trans HL.out
                have hlt2 : w.heap.size < w2.heap.size := by have := hb2.size; omega
                have f0 : ∀ o, (w2.alloc o).cell? ⟨w.heap.size, 0, none⟩ = some (.int .i64 2) := fun o => by rw [World.cell?_alloc_lt _ _ _ hlt2, cell_of_row _ _ _ _ _ _ hl2]; rfl
                have f1 : ∀ o, (w2.alloc o).cell? ⟨w.heap.size, 1, none⟩ = some (.string lt) := fun o => by rw [World.cell?_alloc_lt _ _ _ hlt2, cell_of_row _ _ _ _ _ _ hl2]; rfl
                have f2 : ∀ o, (w2.alloc o).cell? ⟨w.heap.size, 2, none⟩ = some (.int .i64 ln) := fun o => by rw [World.cell?_alloc_lt _ _ _ hlt2, cell_of_row _ _ _ _ _ _ hl2]; rfl
                have f3 : ∀ o, (w2.alloc o).cell? ⟨w.heap.size, 3, none⟩ = some (.int .i64 la) := fun o => by rw [World.cell?_alloc_lt _ _ _ hlt2, cell_of_row _ _ _ _ _ _ hl2]; rfl
                clear hl2
                go_wp2_with fail
                refine (cut_any _ _ _ _ _ _ _ _ _).mono ?_
                rintro e w3 ⟨rfl, hb3⟩
                rw [show (decide ((2 : Int) = 2) && decide (kd ≠ 3)) = true by simp [hk]]
                go_wp2_with fail
                go_ret3
                rw [HRES.out]
                exact ⟨rfl, (HB.out.trans ((upA hb2 _).mono (by omega))).trans (hb3.mono (by simp; omega))⟩
              · have hg : Lx.glue ts (Lx.lxA p (c :: Lx.runesAt s p2)) = R := by
                  rcases hfree with ⟨h1, h2, h3, _⟩ | ⟨_, h3⟩
                  · refine absurd ⟨h1, h2, fun h4 => ?_⟩ hcut
                    rw [hk3 h4] at h3; cases h3
                  · exact h3
                have hnew : lnAt s R p2 (p + tx.length) (ts ++ [⟨kd, tx, nn, p⟩]) kd := by
                  rw [hlx p, Lx.glue_cons] at hg
                  rcases Nat.lt_or_ge p2 (p + tx.length) with h5 | h5
                  · refine .inl ⟨h5, hr1, ?_, by rw [hr2]; exact hg⟩
                    obtain ⟨x, t', rfl⟩ : ∃ x t', tx = x :: t' := List.exists_cons_of_ne_nil (fun e0 => by rw [e0] at hq2; simp at hq2)
                    injection hq1 with h1 h2
                    refine ⟨t', by rw [hr2]; exact h2, by simp; omega, fun y hy => hq3 y (by simp [hy])⟩
                  · exact .inr (.inl ⟨by omega, by rw [hr2]; exact hg⟩)
                have HNEW := Lib.hid hnew; have HLEN := Lib.hid hss
                clear hnew hg hlx hq1 hq3 hr2 hfree hk3 hkn
                have hp6 : p ≤ 1000000 := by omega
                have htx : tx.length ≤ 1000000 := by omega
                by_cases hpe2 : p = e
                · subst hpe2
                  have hcv : (decide (lk = 2) && decide (kd ≠ 3)) = false := by
                    rw [Bool.eq_false_iff]
                    intro h
                    rw [Bool.and_eq_true, decide_eq_true_eq, decide_eq_true_eq] at h
                    exact hcut ⟨rfl, h.1, h.2⟩
                  go_wp2_with (go_at_call 40; refine (blank_any _ _).mono ?_; rintro e w' ⟨rfl, rfl⟩; rw [hbl])
                  refine (HF.out _).mono ?_
                  rintro e w2 ⟨rfl, hb2⟩
                  have hl2 := (hb2.block w.heap.size (by omega)).trans HL.out
                  have hlt2 : w.heap.size < w2.heap.size := by have := hb2.size; omega
                  have f0 : ∀ o, (w2.alloc o).cell? ⟨w.heap.size, 0, none⟩ = some (.int .i64 lk) := fun o => by rw [World.cell?_alloc_lt _ _ _ hlt2, cell_of_row _ _ _ _ _ _ hl2]; rfl
                  have f1 : ∀ o, (w2.alloc o).cell? ⟨w.heap.size, 1, none⟩ = some (.string lt) := fun o => by rw [World.cell?_alloc_lt _ _ _ hlt2, cell_of_row _ _ _ _ _ _ hl2]; rfl
                  have f2 : ∀ o, (w2.alloc o).cell? ⟨w.heap.size, 2, none⟩ = some (.int .i64 ln) := fun o => by rw [World.cell?_alloc_lt _ _ _ hlt2, cell_of_row _ _ _ _ _ _ hl2]; rfl
                  have f3 : ∀ o, (w2.alloc o).cell? ⟨w.heap.size, 3, none⟩ = some (.int .i64 la) := fun o => by rw [World.cell?_alloc_lt _ _ _ hlt2, cell_of_row _ _ _ _ _ _ hl2]; rfl
                  go_wp2_with fail
                  refine (cut_any _ _ _ _ _ _ _ _ _).mono ?_
                  rintro e w3 ⟨rfl, hb3⟩
                  rw [hcv]
                  have g3 := tok_at _ _ _ _ hb3
                  have hs3 : w2.heap.size < w3.heap.size := by have := hb3.size; simp at this; omega
                  have d3 := cell_of_row _ _ 3 _ _ _ g3
                  have z3 := frozen_of_row _ _ 3 _ _ g3
                  simp only [List.getElem?_toArray, List.getElem?_cons_succ, List.getElem?_cons_zero] at d3
                  have hW10 := heap_setCell_same w3 _ 3 _ _ (.int .i64 (p : Int)) g3
                  simp only [List.setIfInBounds_toArray, List.set_cons_zero, List.set_cons_succ] at hW10
                  have hw12 : w1.heap.size ≤ w2.heap.size := hb2.size
                  have hbW : Below w1.heap.size w1 (w3.setCell ⟨w2.heap.size, 3, none⟩ (.int .i64 (p : Int))) := by
                    have h := upT (upA hb2 _) hb3
                    rw [setCell_eq_setRow _ _ _ _ _ _ _ g3]
                    exact below_setRow h hw12 _
                  have hWl := (hbW.block w.heap.size (by omega)).trans HL.out
                  have hWi := (hbW.block (w.heap.size + 1) (by omega)).trans HI.out
                  have hWown := own_belowT HO.out hbW
                  have hWb := HB.out.trans (hbW.mono (show w.heap.size ≤ w1.heap.size by omega))
                  have hWs : w2.heap.size < (w3.setCell ⟨w2.heap.size, 3, none⟩ (.int .i64 (p : Int))).heap.size := by simp; omega
                  have hWne : ∀ g, u5.ownBlock = some g → g ≠ w2.heap.size := fun g hg => by have := (HO.out.lt g hg).2; omega
                  clear hl2 f0 f1 f2 f3 g3 hb2 hb3 hbW
                  go_wp2_with (first
                    | (refine wp_loadT (o := ⟨some 51, .load 73 (.tmp 10), _, _, _, none⟩) rfl _ rfl w2.heap.size rfl _ _ _ _ _ (0, 0) hW10 ?_)
                    | (at_builtin; refine wp_appT _ rfl (.tmp 50) (.tmp 52) _ rfl (w.heap.size + 2) 73 i0 _ 40 Tryd.underlying64 hi0 hz0 hs0 hb0 rfl _ _ _ rfl hWown _ ⟨kd, tx, nn, p⟩ rfl _ (by simp) rfl (by omega) (by omega) (by omega) ?_; intro v4 w4 hown4 hb4 hsz4 hk4))
                  have h4b : w4.heap[w.heap.size]? = some (.cells #[.int .i64 lk, .string lt, .int .i64 ln, .int .i64 la] 73 (0, 0)) := (hb4.block _ (by omega)).trans hWl
                  have h4i : w4.heap[w.heap.size + 1]? = some (.stringIter s p2) := (hb4.block _ (by omega)).trans hWi
                  have h4t : w4.heap[w2.heap.size]? = some (.cells #[.int .i64 kd, .string (strOfNums tx), .int .i64 nn, .int .i64 (p : Int)] 73 (0, 0)) := (hk4 _ hWs hWne).trans hW10
                  have h4w : Below w.heap.size w w4 := hWb.trans (hb4.mono (by omega))
                  have c0 := cell_of_row _ _ 0 _ _ _ h4t
                  have c1 := cell_of_row _ _ 1 _ _ _ h4t
                  have c2 := cell_of_row _ _ 2 _ _ _ h4t
                  have c3 := cell_of_row _ _ 3 _ _ _ h4t
                  simp only [List.getElem?_toArray, List.getElem?_cons_succ, List.getElem?_cons_zero] at c0 c1 c2 c3
                  have hne10 : w2.heap.size ≠ w.heap.size := by omega
                  have H4T := Lib.hid h4t; have H4I := Lib.hid h4i; have H4W := Lib.hid h4w; have H4B := Lib.hid h4b; have HOWN4 := Lib.hid hown4
                  clear h4t h4i h4w hown4 hWown hWl hWi hW10 hb4 hk4 hWb hWne
                  refine wp_region_noPanic ?_
                  refine wp_region_held_drew (S := fun w' => w'.cell? ⟨w2.heap.size, 0, none⟩ = some (.int .i64 kd) ∧ w'.cell? ⟨w2.heap.size, 1, none⟩ = some (.string (strOfNums tx)) ∧ w'.cell? ⟨w2.heap.size, 2, none⟩ = some (.int .i64 nn) ∧ w'.cell? ⟨w2.heap.size, 3, none⟩ = some (.int .i64 (p : Int))) (by kernel_rfl) ?_ (fun hHeld => ?_)
                  · exact ⟨c0, c1, c2, c3⟩
                  refine wpAnyH_take (i := 0) (oi := _) (v := ?_) rfl (by kernel_rfl) (by kernel_rfl) (by kernel_rfl) (fun _ _ _ h => h) (Or.inl ⟨by kernel_rfl, ?_⟩) (by assumption) ?_
                  rotate_left
                  · (intro w hSw; (try dsimp only at hSw); go_simp; try (with_reducible rfl))
                  (try simp only [List.getElem_toArray, List.getElem_cons_succ, List.getElem_cons_zero, Act.put, List.setIfInBounds_toArray, List.set_cons_zero, List.set_cons_succ])
                  refine wpAnyH_take (i := 1) (oi := _) (v := ?_) rfl (by kernel_rfl) (by kernel_rfl) (by kernel_rfl) (fun _ _ _ h => h) (Or.inl ⟨by kernel_rfl, ?_⟩) (by assumption) ?_
                  rotate_left
                  · (intro w hSw; (try dsimp only at hSw); go_simp; try (with_reducible rfl))
                  (try simp only [List.getElem_toArray, List.getElem_cons_succ, List.getElem_cons_zero, Act.put, List.setIfInBounds_toArray, List.set_cons_zero, List.set_cons_succ])
                  refine wpAnyH_take (i := 2) (oi := _) (v := ?_) rfl (by kernel_rfl) (by kernel_rfl) (by kernel_rfl) (fun _ _ _ h => h) (Or.inl ⟨by kernel_rfl, ?_⟩) (by assumption) ?_
                  rotate_left
                  · (intro w hSw; (try dsimp only at hSw); go_simp; try (with_reducible rfl))
                  (try simp only [List.getElem_toArray, List.getElem_cons_succ, List.getElem_cons_zero, Act.put, List.setIfInBounds_toArray, List.set_cons_zero, List.set_cons_succ])
                  refine wpAnyH_take (i := 3) (oi := _) (v := ?_) rfl (by kernel_rfl) (by kernel_rfl) (by kernel_rfl) (fun _ _ _ h => h) (Or.inl ⟨by kernel_rfl, ?_⟩) (by assumption) ?_
                  rotate_left
                  · (intro w hSw; (try dsimp only at hSw); go_simp; try (with_reducible rfl))
                  (try simp only [List.getElem_toArray, List.getElem_cons_succ, List.getElem_cons_zero, Act.put, List.setIfInBounds_toArray, List.set_cons_zero, List.set_cons_succ])
                  refine wpAnyH_take (i := 4) (oi := _) (v := ?_) rfl (by kernel_rfl) (by kernel_rfl) (by kernel_rfl) (fun _ _ _ h => h) (Or.inl ⟨by kernel_rfl, ?_⟩) (by assumption) ?_
                  rotate_left
                  · (intro w hSw; (try dsimp only at hSw); go_simp; try (with_reducible rfl))
                  (try simp only [List.getElem_toArray, List.getElem_cons_succ, List.getElem_cons_zero, Act.put, List.setIfInBounds_toArray, List.set_cons_zero, List.set_cons_succ])
                  refine wpAnyH_take (i := 5) (oi := _) (v := ?_) rfl (by kernel_rfl) (by kernel_rfl) (by kernel_rfl) (fun _ _ _ h => h) (Or.inl ⟨by kernel_rfl, ?_⟩) (by assumption) ?_
                  rotate_left
                  · (intro w hSw; (try dsimp only at hSw); go_simp; try (with_reducible rfl))
                  (try simp only [List.getElem_toArray, List.getElem_cons_succ, List.getElem_cons_zero, Act.put, List.setIfInBounds_toArray, List.set_cons_zero, List.set_cons_succ])
                  refine wpAnyH_ready (rs := [6]) (by kernel_rfl) (by simp) ?_
                  refine AllReadyH.cons (o := _) rfl (fun K hK => ?_) AllReadyH.nil
                  refine step_storeT rfl _ _ rfl w.heap.size _ _ _ _ rfl rfl _ _ _ _ _ (show w4.drew.heap[w.heap.size]? = _ from H4B.out) rfl rfl rfl rfl ?_
                  first | refine hK.out _ _ ?_ (fun hHeld => ?_) | (go_wp2_with fail; refine hK.out _ _ ?_ (fun hHeld => ?_))
                  · exact ⟨(cell_setRow_other _ _ _ _ hne10).trans c0, (cell_setRow_other _ _ _ _ hne10).trans c1, (cell_setRow_other _ _ _ _ hne10).trans c2, (cell_setRow_other _ _ _ _ hne10).trans c3⟩
                  clear hK K
                  (try simp only [List.getElem_toArray, List.getElem_cons_succ, List.getElem_cons_zero, Act.put, List.setIfInBounds_toArray, List.set_cons_zero, List.set_cons_succ])
                  refine wpAnyH_take (i := 7) (oi := _) (v := ?_) rfl (by kernel_rfl) (by kernel_rfl) (by kernel_rfl) (fun _ _ _ h => h) (Or.inl ⟨by kernel_rfl, ?_⟩) (by assumption) ?_
                  rotate_left
                  · (intro w hSw; (try dsimp only at hSw); go_simp; try (with_reducible rfl))
                  (try simp only [List.getElem_toArray, List.getElem_cons_succ, List.getElem_cons_zero, Act.put, List.setIfInBounds_toArray, List.set_cons_zero, List.set_cons_succ])
                  refine wpAnyH_done (by kernel_rfl) ?_ _
                  refine NoPanic.normal ?_
                  (try go_simp)
                  go_wp2_with fail
                  go_round
                  case measure =>
                    have e1 : (w4.drew.setRow w.heap.size #[.int .i64 kd, .string (strOfNums tx), .int .i64 nn, .int .i64 (p : Int)]).iterPos (w.heap.size + 1) = p2 := by
                      have : (w4.drew.setRow w.heap.size #[.int .i64 kd, .string (strOfNums tx), .int .i64 nn, .int .i64 (p : Int)]).heap[w.heap.size + 1]? = some (.stringIter s p2) := (setRow_other _ _ _ _ (by omega)).trans H4I.out
                      simp [World.iterPos, this]
                    have := Lx.decode_step s p hp
                    have := HP2.out
                    rw [e1, hpos]
                    omega
                  case rel =>
                    refine ⟨p2, p + tx.length, ts ++ [⟨kd, tx, nn, p⟩], kd, strOfNums tx, nn, p, wrap_nn p tx.length hp6 htx, setRow_heap _ _ _ _ _ _ (show w4.drew.heap[w.heap.size]? = _ from H4B.out), (setRow_other _ _ _ _ (by omega)).trans H4I.out, ?_, below_setRow (upD H4W.out 1) (Nat.le_refl _) _, by omega, ?_, HNEW.out⟩
                    · rw [flat_app, flat_one, List.length_append]
                      exact own_keepb HOWN4.out (fun k hk => setRow_other _ _ _ _ (by omega))
                    · rw [List.length_append, List.length_singleton]; omega
                · have hpe3 : ¬ (p : Int) = (e : Int) := by omega
                  have hpe4 : ((p : Int) == (e : Int)) = false := by simp; omega
                  go_wp2_with (go_at_call 40; refine (blank_any _ _).mono ?_; rintro e w' ⟨rfl, rfl⟩; rw [hbl])
                  refine (HF.out _).mono ?_
                  rintro e' w2 ⟨rfl, hb2⟩
                  have hw12 : w1.heap.size ≤ w2.heap.size := hb2.size
                  have hbW := upA hb2 (.cells #[.int .i64 kd, .string (strOfNums tx), .int .i64 nn, .int .i64 (p : Int)] 73)
                  have hW10 := heap_alloc_new w2 (.cells #[.int .i64 kd, .string (strOfNums tx), .int .i64 nn, .int .i64 (p : Int)] 73)
                  have hWl := (hbW.block w.heap.size (by omega)).trans HL.out
                  have hWi := (hbW.block (w.heap.size + 1) (by omega)).trans HI.out
                  have hWown := own_belowT HO.out hbW
                  have hWb := HB.out.trans (hbW.mono (show w.heap.size ≤ w1.heap.size by omega))
                  have hWs : w2.heap.size < (w2.alloc (.cells #[.int .i64 kd, .string (strOfNums tx), .int .i64 nn, .int .i64 (p : Int)] 73)).heap.size := by simp
                  have hWne : ∀ g, u5.ownBlock = some g → g ≠ w2.heap.size := fun g hg => by have := (HO.out.lt g hg).2; omega
                  clear hb2 hbW
                  go_wp2_with (first
                    | (refine wp_loadT (o := ⟨some 51, .load 73 (.tmp 10), _, _, _, none⟩) rfl _ rfl w2.heap.size rfl _ _ _ _ _ (0, 0) hW10 ?_)
                    | (at_builtin; refine wp_appT _ rfl (.tmp 50) (.tmp 52) _ rfl (w.heap.size + 2) 73 i0 _ 40 Tryd.underlying64 hi0 hz0 hs0 hb0 rfl _ _ _ rfl hWown _ ⟨kd, tx, nn, p⟩ rfl _ (by simp) rfl (by omega) (by omega) (by omega) ?_; intro v4 w4 hown4 hb4 hsz4 hk4))
                  have h4b : w4.heap[w.heap.size]? = some (.cells #[.int .i64 lk, .string lt, .int .i64 ln, .int .i64 la] 73 (0, 0)) := (hb4.block _ (by omega)).trans hWl
                  have h4i : w4.heap[w.heap.size + 1]? = some (.stringIter s p2) := (hb4.block _ (by omega)).trans hWi
                  have h4t : w4.heap[w2.heap.size]? = some (.cells #[.int .i64 kd, .string (strOfNums tx), .int .i64 nn, .int .i64 (p : Int)] 73 (0, 0)) := (hk4 _ hWs hWne).trans hW10
                  have h4w : Below w.heap.size w w4 := hWb.trans (hb4.mono (by omega))
                  have c0 := cell_of_row _ _ 0 _ _ _ h4t
                  have c1 := cell_of_row _ _ 1 _ _ _ h4t
                  have c2 := cell_of_row _ _ 2 _ _ _ h4t
                  have c3 := cell_of_row _ _ 3 _ _ _ h4t
                  simp only [List.getElem?_toArray, List.getElem?_cons_succ, List.getElem?_cons_zero] at c0 c1 c2 c3
                  have hne10 : w2.heap.size ≠ w.heap.size := by omega
                  have H4T := Lib.hid h4t; have H4I := Lib.hid h4i; have H4W := Lib.hid h4w; have H4B := Lib.hid h4b; have HOWN4 := Lib.hid hown4
                  clear h4t h4i h4w hown4 hWown hWl hWi hW10 hb4 hk4 hWb hWne
                  refine wp_region_noPanic ?_
                  refine wp_region_held_drew (S := fun w' => w'.cell? ⟨w2.heap.size, 0, none⟩ = some (.int .i64 kd) ∧ w'.cell? ⟨w2.heap.size, 1, none⟩ = some (.string (strOfNums tx)) ∧ w'.cell? ⟨w2.heap.size, 2, none⟩ = some (.int .i64 nn) ∧ w'.cell? ⟨w2.heap.size, 3, none⟩ = some (.int .i64 (p : Int))) (by kernel_rfl) ?_ (fun hHeld => ?_)
                  · exact ⟨c0, c1, c2, c3⟩
                  refine wpAnyH_take (i := 0) (oi := _) (v := ?_) rfl (by kernel_rfl) (by kernel_rfl) (by kernel_rfl) (fun _ _ _ h => h) (Or.inl ⟨by kernel_rfl, ?_⟩) (by assumption) ?_
                  rotate_left
                  · (intro w hSw; (try dsimp only at hSw); go_simp; try (with_reducible rfl))
                  (try simp only [List.getElem_toArray, List.getElem_cons_succ, List.getElem_cons_zero, Act.put, List.setIfInBounds_toArray, List.set_cons_zero, List.set_cons_succ])
                  refine wpAnyH_take (i := 1) (oi := _) (v := ?_) rfl (by kernel_rfl) (by kernel_rfl) (by kernel_rfl) (fun _ _ _ h => h) (Or.inl ⟨by kernel_rfl, ?_⟩) (by assumption) ?_
                  rotate_left
                  · (intro w hSw; (try dsimp only at hSw); go_simp; try (with_reducible rfl))
                  (try simp only [List.getElem_toArray, List.getElem_cons_succ, List.getElem_cons_zero, Act.put, List.setIfInBounds_toArray, List.set_cons_zero, List.set_cons_succ])
                  refine wpAnyH_take (i := 2) (oi := _) (v := ?_) rfl (by kernel_rfl) (by kernel_rfl) (by kernel_rfl) (fun _ _ _ h => h) (Or.inl ⟨by kernel_rfl, ?_⟩) (by assumption) ?_
                  rotate_left
                  · (intro w hSw; (try dsimp only at hSw); go_simp; try (with_reducible rfl))
                  (try simp only [List.getElem_toArray, List.getElem_cons_succ, List.getElem_cons_zero, Act.put, List.setIfInBounds_toArray, List.set_cons_zero, List.set_cons_succ])
                  refine wpAnyH_take (i := 3) (oi := _) (v := ?_) rfl (by kernel_rfl) (by kernel_rfl) (by kernel_rfl) (fun _ _ _ h => h) (Or.inl ⟨by kernel_rfl, ?_⟩) (by assumption) ?_
                  rotate_left
                  · (intro w hSw; (try dsimp only at hSw); go_simp; try (with_reducible rfl))
                  (try simp only [List.getElem_toArray, List.getElem_cons_succ, List.getElem_cons_zero, Act.put, List.setIfInBounds_toArray, List.set_cons_zero, List.set_cons_succ])
                  refine wpAnyH_take (i := 4) (oi := _) (v := ?_) rfl (by kernel_rfl) (by kernel_rfl) (by kernel_rfl) (fun _ _ _ h => h) (Or.inl ⟨by kernel_rfl, ?_⟩) (by assumption) ?_
                  rotate_left
                  · (intro w hSw; (try dsimp only at hSw); go_simp; try (with_reducible rfl))
                  (try simp only [List.getElem_toArray, List.getElem_cons_succ, List.getElem_cons_zero, Act.put, List.setIfInBounds_toArray, List.set_cons_zero, List.set_cons_succ])
                  refine wpAnyH_take (i := 5) (oi := _) (v := ?_) rfl (by kernel_rfl) (by kernel_rfl) (by kernel_rfl) (fun _ _ _ h => h) (Or.inl ⟨by kernel_rfl, ?_⟩) (by assumption) ?_
                  rotate_left
                  · (intro w hSw; (try dsimp only at hSw); go_simp; try (with_reducible rfl))
                  (try simp only [List.getElem_toArray, List.getElem_cons_succ, List.getElem_cons_zero, Act.put, List.setIfInBounds_toArray, List.set_cons_zero, List.set_cons_succ])
                  refine wpAnyH_ready (rs := [6]) (by kernel_rfl) (by simp) ?_
                  refine AllReadyH.cons (o := _) rfl (fun K hK => ?_) AllReadyH.nil
                  refine step_storeT rfl _ _ rfl w.heap.size _ _ _ _ rfl rfl _ _ _ _ _ (show w4.drew.heap[w.heap.size]? = _ from H4B.out) rfl rfl rfl rfl ?_
                  first | refine hK.out _ _ ?_ (fun hHeld => ?_) | (go_wp2_with fail; refine hK.out _ _ ?_ (fun hHeld => ?_))
                  · exact ⟨(cell_setRow_other _ _ _ _ hne10).trans c0, (cell_setRow_other _ _ _ _ hne10).trans c1, (cell_setRow_other _ _ _ _ hne10).trans c2, (cell_setRow_other _ _ _ _ hne10).trans c3⟩
                  clear hK K
                  (try simp only [List.getElem_toArray, List.getElem_cons_succ, List.getElem_cons_zero, Act.put, List.setIfInBounds_toArray, List.set_cons_zero, List.set_cons_succ])
                  refine wpAnyH_take (i := 7) (oi := _) (v := ?_) rfl (by kernel_rfl) (by kernel_rfl) (by kernel_rfl) (fun _ _ _ h => h) (Or.inl ⟨by kernel_rfl, ?_⟩) (by assumption) ?_
                  rotate_left
                  · (intro w hSw; (try dsimp only at hSw); go_simp; try (with_reducible rfl))
                  (try simp only [List.getElem_toArray, List.getElem_cons_succ, List.getElem_cons_zero, Act.put, List.setIfInBounds_toArray, List.set_cons_zero, List.set_cons_succ])
                  refine wpAnyH_done (by kernel_rfl) ?_ _
                  refine NoPanic.normal ?_
                  (try go_simp)
                  go_wp2_with fail
                  go_round
                  case measure =>
                    have e1 : (w4.drew.setRow w.heap.size #[.int .i64 kd, .string (strOfNums tx), .int .i64 nn, .int .i64 (p : Int)]).iterPos (w.heap.size + 1) = p2 := by
                      have : (w4.drew.setRow w.heap.size #[.int .i64 kd, .string (strOfNums tx), .int .i64 nn, .int .i64 (p : Int)]).heap[w.heap.size + 1]? = some (.stringIter s p2) := (setRow_other _ _ _ _ (by omega)).trans H4I.out
                      simp [World.iterPos, this]
                    have := Lx.decode_step s p hp
                    have := HP2.out
                    rw [e1, hpos]
                    omega
                  case rel =>
                    refine ⟨p2, p + tx.length, ts ++ [⟨kd, tx, nn, p⟩], kd, strOfNums tx, nn, p, wrap_nn p tx.length hp6 htx, setRow_heap _ _ _ _ _ _ (show w4.drew.heap[w.heap.size]? = _ from H4B.out), (setRow_other _ _ _ _ (by omega)).trans H4I.out, ?_, below_setRow (upD H4W.out 1) (Nat.le_refl _) _, by omega, ?_, HNEW.out⟩
                    · rw [flat_app, flat_one, List.length_append]
                      exact own_keepb HOWN4.out (fun k hk => setRow_other _ _ _ _ (by omega))
                    · rw [List.length_append, List.length_singleton]; omega
    · have hres := hat.end_ hp hps
      have HRES := Lib.hid hres
      clear hres
      have hrun : ∀ ty, (Instr.next (.pointer (some ⟨w.heap.size + 1, 0, none⟩)) true ty).run Tryd.prog wo = .ok (.tuple #[.bool false]) wo := fun ty => HNE.out wo (w.heap.size + 1) s p ty hit hp
      have HO := Lib.hid hown
      clear hit hat hlast hown
      go_wp2_with fail
      go_ret3
      rw [HRES.out]
      exact ⟨_, rfl, own_lower HO.out (by omega), hbw⟩
end
end Go.Proofs.YtmghklokbmdenaaDoor
