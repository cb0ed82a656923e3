/- The contract of lexr's first: the sign that a string begins with. -/
import Derived.Test.YtcpbbkpfickfiaaDoorLxTk
import Derived.Test.YtcpbbkpfickfiaaDoorLxNum
set_option linter.unusedVariables false
set_option linter.unusedSimpArgs false
namespace Go.Proofs.YtcpbbkpfickfiaaDoor
open Go.RowKit
/-- what a line's runes begin with, if that is a sign: its kind, its text, its number -/
def fstOf (c : Int) (r : List Int) : Option Lx.Tk :=
  if Lx.lower c = true then some ⟨1, (c :: r).takeWhile Lx.word, 0, 0⟩
  else if Lx.dig c = true then some ⟨2, Lx.digs (c :: r), Lx.val (Lx.digs (c :: r)), 0⟩
  else if Lx.sgn c = true then some ⟨3, [c], 0, 0⟩
  else none
def fstV : Option Lx.Tk → Value
  | some t => .tuple #[tokA t.kind (strOfNums t.text) t.n 0, .bool true]
  | none => .tuple #[tokA 0 ⟨#[]⟩ 0 0, .bool false]
theorem hd_word (q : List Int) (m : Nat) (hm : q.length ≤ m) : Lx.hd Lx.word m q = (q.takeWhile Lx.word).length := by
  unfold Lx.hd
  rw [List.take_of_length_le hm]
theorem take_run {p : Int → Bool} (hp : ∀ x, p x = true → x < 128) {s : ByteArray} {u : List Int} (hu : ∀ x ∈ u, x < 128) (hpre : u <+: Lx.runes s) : u.length ≤ s.size ∧ s.extract 0 u.length = strOfNums u := by
  obtain ⟨r, hr⟩ := hpre
  rw [← Lx.runesAt_zero] at hr
  have h1 := Lx.ascii_run u s 0 r hr.symm hu (Nat.zero_le _)
  have h2 := Lx.ascii_extract hr.symm hu (Nat.zero_le _)
  rw [Nat.zero_add] at h1 h2
  exact ⟨h1.1, h2⟩
set_option maxRecDepth 100000 in
set_option maxHeartbeats 4000000 in
theorem first_any (s : ByteArray) (c : Int) (r : List Int) (w : World) (hs : s.size ≤ 1000000) (hq : Lx.runes s = c :: r) :
    Calls Tryd.prog 29 #[.string s, .int .i32 c] w (RetB (fstV (fstOf c r)) w) := by
  have hne : (c :: r).length ≤ s.size := by rw [← hq]; exact Lx.runes_len s
  unfold fstOf
  cases h1 : Lx.lower c
  case true =>
    have hc1 := Lx.lower_lt h1
    have hb : 97 ≤ c ∧ c ≤ 122 := by simpa [Lx.lower] using h1
    obtain ⟨k1, k2⟩ := take_run (p := Lx.word) (fun x hx => (Lx.word_lt hx).2) (s := s) (u := (c :: r).takeWhile Lx.word) (fun x hx => (Lx.word_lt (Lx.takeWhile_all x hx)).2) (by rw [hq]; exact List.takeWhile_prefix _)
    have hd1 : Lx.hd Lx.word s.size (Lx.runes s) = ((c :: r).takeWhile Lx.word).length := by rw [hq]; exact hd_word _ _ hne
    simp only [if_true]
    generalize (c :: r).takeWhile Lx.word = t at *
    have K2 := Lib.hid k2; have HD := Lib.hid hd1
    clear k2 hd1 hq hb
    go_enter Tryd.func29, Tryd.ntmps29
    go_wp2_with (go_at_call 45; refine (letter_any _ _).mono ?_; rintro e w' ⟨rfl, rfl⟩; rw [h1])
    refine (head_lod s s.size _ hs hs).mono ?_
    rintro e w1 ⟨rfl, hb1⟩
    rw [HD.out]
    go_wp2_with fail
    refine (tok_any 1 s t.length t 0 _ k1 hs K2.out (by omega) (.inr ⟨by decide, rfl⟩)).mono ?_
    rintro e w2 ⟨rfl, hb2⟩
    have g4 := (hb2.block _ (by have := hb1.size; simp at this; omega)).trans (tok_at _ _ _ _ hb1)
    have hbt : Below w.heap.size w w2 := upT (upT (upA (up0 w) _) hb1) hb2
    clear hb2
    go_wp2_with (refine wp_storeT (o := ⟨none, .store 58 (.tmp 4) (.tmp 14), _, _, _, none⟩) rfl _ _ rfl w.heap.size _ _ _ _ rfl rfl _ _ _ _ _ g4 rfl rfl rfl rfl ?_)
    (try simp only [Exit.inBlock, Exit.then])
    refine bodyPost_ret (resT2 rfl _ _ _ _ _ _ _ _ _ rfl (setRow_heap _ _ _ _ _ _ g4)) rfl ?_
    exact ⟨rfl, below_setRow hbt (Nat.le_refl _) _⟩
  case false =>
    simp only [Bool.false_eq_true, if_false]
    have hd48 : Lx.dig 48 = true := by decide
    cases h2 : Lx.dig c
    case true =>
      have hb : 48 ≤ c ∧ c ≤ 57 := by simpa [Lx.dig] using h2
      simp only [if_true]
      have hdd : ∀ x ∈ Lx.digs (c :: r), Lx.dig x = true := digs_dig h2
      have hpre : Lx.digs (c :: r) <+: Lx.runes s := by
        rw [hq, Lx.digs_cons]
        split
        · exact ⟨r, rfl⟩
        · exact (List.takeWhile_prefix _).trans (List.take_prefix _ _)
      obtain ⟨k1, k2⟩ := take_run (p := Lx.dig) (fun x hx => (Lx.dig_lt hx).2) (s := s) (u := Lx.digs (c :: r)) (fun x hx => (Lx.dig_lt (hdd x hx)).2) hpre
      have h5 := digs_five (c :: r)
      have hpos := Lx.digs_pos (r := r) h2
      have hat : Lib.atoi (strOfNums (Lx.digs (c :: r))).data.toList = some (Lx.val (Lx.digs (c :: r))) := by
        obtain ⟨x, t, e⟩ : ∃ x t, Lx.digs (c :: r) = x :: t := List.exists_cons_of_ne_nil (fun e => by rw [e] at hpos; simp at hpos)
        rw [e] at hdd ⊢
        exact Lx.atoi_val hdd
      by_cases h48 : c = 48
      · subst h48
        have e1 : Lx.digs (48 :: r) = [48] := by rw [Lx.digs_cons, if_pos rfl]
        rw [e1] at k1 k2 hat ⊢
        have K2 := Lib.hid k2; have HAT := Lib.hid hat
        clear k2 hq hat e1 hdd hpre hpos h5 hb
        go_enter Tryd.func29, Tryd.ntmps29
        go_wp2_with (go_at_call 45; refine (letter_any _ _).mono ?_; rintro e w' ⟨rfl, rfl⟩; rw [h1])
        refine (tok_any 2 s 1 [48] (Lx.val [48]) _ k1 hs K2.out (by simp) (.inl ⟨rfl, by simp, HAT.out⟩)).mono ?_
        rintro e w2 ⟨rfl, hb2⟩
        have g4 := tok_at _ _ _ _ hb2
        have hbt : Below w.heap.size w w2 := upT (upA (up0 w) _) hb2
        clear hb2
        go_wp2_with (refine wp_storeT (o := ⟨none, .store 58 (.tmp 4) (.tmp 19), _, _, _, none⟩) rfl _ _ rfl w.heap.size _ _ _ _ rfl rfl _ _ _ _ _ g4 rfl rfl rfl rfl ?_)
        (try simp only [Exit.inBlock, Exit.then])
        refine bodyPost_ret (resT2 rfl _ _ _ _ _ _ _ _ _ rfl (setRow_heap _ _ _ _ _ _ g4)) rfl ?_
        exact ⟨rfl, below_setRow hbt (Nat.le_refl _) _⟩

      · have hn48 : ¬ c = 48 := h48
        have k48 : (c == 48) = false := by simpa using h48
        have hd1 : Lx.hd Lx.dig 5 (Lx.runes s) = (Lx.digs (c :: r)).length := by rw [hq, Lx.digs_cons, if_neg h48]; rfl
        generalize Lx.digs (c :: r) = t at *
        generalize Lx.val t = N at *
        have K2 := Lib.hid k2; have HAT := Lib.hid hat; have HD := Lib.hid hd1
        clear k2 hq hat hd1 hdd hpre hpos hb h48
        go_enter Tryd.func29, Tryd.ntmps29
        go_wp2_with (first
          | (go_at_call 45; refine (letter_any _ _).mono ?_; rintro e w' ⟨rfl, rfl⟩; rw [h1])
          | (go_at_call 49; refine (digit_any _ _).mono ?_; rintro e w' ⟨rfl, rfl⟩; rw [h2]))
        refine (head_dig s 5 _ hs (by omega)).mono ?_
        rintro e w1 ⟨rfl, hb1⟩
        rw [HD.out]
        go_wp2_with fail
        refine (tok_any 2 s t.length t N _ k1 hs K2.out (by omega) (.inl ⟨rfl, by omega, HAT.out⟩)).mono ?_
        rintro e w2 ⟨rfl, hb2⟩
        have g4 := (hb2.block _ (by have := hb1.size; simp at this; omega)).trans (tok_at _ _ _ _ hb1)
        have hbt : Below w.heap.size w w2 := upT (upT (upA (up0 w) _) hb1) hb2
        clear hb2
        go_wp2_with (refine wp_storeT (o := ⟨none, .store 58 (.tmp 4) (.tmp 26), _, _, _, none⟩) rfl _ _ rfl w.heap.size _ _ _ _ rfl rfl _ _ _ _ _ g4 rfl rfl rfl rfl ?_)
        (try simp only [Exit.inBlock, Exit.then])
        refine bodyPost_ret (resT2 rfl _ _ _ _ _ _ _ _ _ rfl (setRow_heap _ _ _ _ _ _ g4)) rfl ?_
        exact ⟨rfl, below_setRow hbt (Nat.le_refl _) _⟩

    case false =>
      simp only [Bool.false_eq_true, if_false]
      have hn48 : ¬ c = 48 := fun e => by rw [e] at h2; cases h2
      have k48 : (c == 48) = false := by simpa using hn48
      cases h3 : Lx.sgn c
      case true =>
        have hc := Lx.sgn_lt h3
        obtain ⟨k1, k2⟩ := take_run (p := Lx.sgn) (fun x hx => (Lx.sgn_lt hx).2) (s := s) (u := [c]) (fun x hx => by simp at hx; subst hx; exact hc.2) (by rw [hq]; exact ⟨r, rfl⟩)
        simp only [if_true]
        have K2 := Lib.hid k2
        clear k2 hq hc
        go_enter Tryd.func29, Tryd.ntmps29
        go_wp2_with (first
          | (go_at_call 45; refine (letter_any _ _).mono ?_; rintro e w' ⟨rfl, rfl⟩; rw [h1])
          | (go_at_call 49; refine (digit_any _ _).mono ?_; rintro e w' ⟨rfl, rfl⟩; rw [h2])
          | (go_at_call 50; refine (single_any _ _).mono ?_; rintro e w' ⟨rfl, rfl⟩; rw [h3]))
        refine (tok_any 3 s 1 [c] 0 _ k1 hs K2.out (by simp) (.inr ⟨by decide, rfl⟩)).mono ?_
        rintro e w2 ⟨rfl, hb2⟩
        have g4 := tok_at _ _ _ _ hb2
        have hbt : Below w.heap.size w w2 := upT (upA (up0 w) _) hb2
        clear hb2
        go_wp2_with (refine wp_storeT (o := ⟨none, .store 58 (.tmp 4) (.tmp 31), _, _, _, none⟩) rfl _ _ rfl w.heap.size _ _ _ _ rfl rfl _ _ _ _ _ g4 rfl rfl rfl rfl ?_)
        (try simp only [Exit.inBlock, Exit.then])
        refine bodyPost_ret (resT2 rfl _ _ _ _ _ _ _ _ _ rfl (setRow_heap _ _ _ _ _ _ g4)) rfl ?_
        exact ⟨rfl, below_setRow hbt (Nat.le_refl _) _⟩

      case false =>
        simp only [Bool.false_eq_true, if_false]
        go_enter Tryd.func29, Tryd.ntmps29
        go_wp2_with (first
          | (go_at_call 45; refine (letter_any _ _).mono ?_; rintro e w' ⟨rfl, rfl⟩; rw [h1])
          | (go_at_call 49; refine (digit_any _ _).mono ?_; rintro e w' ⟨rfl, rfl⟩; rw [h2])
          | (go_at_call 50; refine (single_any _ _).mono ?_; rintro e w' ⟨rfl, rfl⟩; rw [h3]))
        (try simp only [Exit.inBlock, Exit.then])
        refine bodyPost_ret (resT2 rfl _ _ _ _ _ _ _ _ _ rfl (heap_alloc_new _ _)) rfl ?_
        exact ⟨rfl, upA (up0 w) _⟩
end Go.Proofs.YtcpbbkpfickfiaaDoor
