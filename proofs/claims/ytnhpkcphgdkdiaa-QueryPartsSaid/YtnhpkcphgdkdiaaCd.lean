/- Parts as bytes, of plain lists: what is written, what is read, and that there is one way only. Nothing of the program. Contracts of math/bits.Len64, codec.first and the document's own wide: how many bytes a number needs. -/
import Derived.Test.YtnhpkcphgdkdiaaRet
import Derived.Test.YtnhpkcphgdkdiaaFo
import Derived.Test.YtnhpkcphgdkdiaaMem
import Derived.Deep.Slices
import Derived.Laws.ShiftsVarLaws
namespace Go.Proofs.Ytnhpkcphgdkdiaa
set_option maxRecDepth 100000

namespace Cd

/-- What is read: the next k bytes as a number; none: it has failed. -/
def rdW (k : Nat) : Option (List UInt8) → Nat × Option (List UInt8)
  | none => (0, none)
  | some l => if k ≤ l.length then (val (l.take k), some (l.drop k)) else (0, none)
def rdN (most : Nat) : Option (List UInt8) → Nat × Option (List UInt8)
  | none => (0, none)
  | some [] => (0, none)
  | some (h :: t) =>
    if h.toNat < 128 then (if h.toNat ≤ most then (h.toNat, some t) else (0, none))
    else if h.toNat - 128 ≤ t.length ∧ 128 ≤ val (t.take (h.toNat - 128)) ∧ wid (val (t.take (h.toNat - 128))) = h.toNat - 128 ∧ val (t.take (h.toNat - 128)) ≤ most
      then (val (t.take (h.toNat - 128)), some (t.drop (h.toNat - 128))) else (0, none)
@[irreducible] def full : Nat := 18446744073709551615
def zig (i : Int) : Nat := if i < 0 then (-2 * i - 1).toNat else (2 * i).toNat
def zag (n : Nat) : Int := if n % 2 = 1 then -((n / 2 : Nat) : Int) - 1 else ((n / 2 : Nat) : Int)
def rdI (s : Option (List UInt8)) : Int × Option (List UInt8) := (zag (rdN full s).1, (rdN full s).2)
def rdF (s : Option (List UInt8)) : Nat × Option (List UInt8) :=
  match (rdW 8 s).2 with
  | none => (0, none)
  | some t => if Fl.fit (rdW 8 s).1 = true then (Fl.wd (rdW 8 s).1, some t) else (0, none)
def rdB (most : Nat) (s : Option (List UInt8)) : List UInt8 × Option (List UInt8) :=
  match (rdN most s).2 with
  | none => ([], none)
  | some t => if (rdN most s).1 ≤ t.length then (t.take (rdN most s).1, some (t.drop (rdN most s).1)) else ([], none)
def rdG : Option (List UInt8) → Bool × Option (List UInt8)
  | none => (false, none)
  | some [] => (false, none)
  | some (h :: t) => if h.toNat ≤ 1 then (h.toNat == 1, some t) else (false, none)

structure Pt where
  kind : Int
  n : Int
  i : Int
  f : Nat
  b : List UInt8
  is : Bool

structure Pt.ok (p : Pt) : Prop where
  n0 : 0 ≤ p.n
  n1 : p.n < 18446744073709551616
  i0 : -9223372036854775808 ≤ p.i
  i1 : p.i < 9223372036854775808
  f1 : p.f < 18446744073709551616

def blank (k : Int) : Pt := ⟨k, 0, 0, 0, [], false⟩
def enc (p : Pt) : List UInt8 :=
  if p.kind = 1 then num p.n.toNat else if p.kind = 2 then num (zig p.i) else if p.kind = 3 then fix (Fl.key p.f).toNat 8
  else if p.kind = 4 then num p.b.length ++ p.b else if p.kind = 5 then [if p.is then 1 else 0] else []
def encs (l : List Pt) : List UInt8 := l.flatMap enc
def own (p : Pt) : Pt :=
  if p.kind = 1 then { blank p.kind with n := p.n } else if p.kind = 2 then { blank p.kind with i := p.i } else if p.kind = 3 then { blank p.kind with f := Fl.canon p.f }
  else if p.kind = 4 then { blank p.kind with b := p.b } else if p.kind = 5 then { blank p.kind with is := p.is } else blank p.kind
def rdP (k : Int) (s : Option (List UInt8)) : Pt × Option (List UInt8) :=
  if k = 1 then ({ blank k with n := (rdN full s).1 }, (rdN full s).2)
  else if k = 2 then ({ blank k with i := (rdI s).1 }, (rdI s).2)
  else if k = 3 then ({ blank k with f := (rdF s).1 }, (rdF s).2)
  else if k = 4 then ({ blank k with b := (rdB 65536 s).1 }, (rdB 65536 s).2)
  else if k = 5 then ({ blank k with is := (rdG s).1 }, (rdG s).2)
  else (blank k, none)
def rdPs : List Int → Option (List UInt8) → List Pt × Option (List UInt8)
  | [], s => ([], s)
  | k :: ks, s => ((rdP k s).1 :: (rdPs ks (rdP k s).2).1, (rdPs ks (rdP k s).2).2)
def sameP (x y : Pt) : Bool := x.kind == y.kind && x.n == y.n && x.i == y.i && Fl.same x.f y.f && decide (x.b = y.b) && x.is == y.is
def sameL : List Pt → List Pt → Bool
  | [], [] => true
  | x :: xs, y :: ys => sameP x y && sameL xs ys
  | _, _ => false

theorem num_read {n most : Nat} (h : n < 18446744073709551616) (hm : n ≤ most) (t : List UInt8) : rdN most (some (num n ++ t)) = (n, some t) := by
  unfold num
  split
  · have e : (byt n 0).toNat = n := by rw [byt_nat]; simp; omega
    simp only [List.cons_append, List.nil_append, rdN, e]
    rw [if_pos (by omega), if_pos hm]
  · have w := wid_pos n
    have e : (UInt8.ofNat (128 + wid n)).toNat = 128 + wid n := by rw [UInt8.toNat_ofNat']; omega
    have e2 : 128 + wid n - 128 = wid n := by omega
    have e3 : (fix n (wid n) ++ t).take (wid n) = fix n (wid n) := by rw [List.take_append_of_le_length (by rw [fix_len]; exact Nat.le_refl _), List.take_of_length_le (by rw [fix_len]; exact Nat.le_refl _)]
    have e4 : (fix n (wid n) ++ t).drop (wid n) = t := by
      have := List.drop_left (l₁ := fix n (wid n)) (l₂ := t)
      rwa [fix_len] at this
    have e5 : val (fix n (wid n)) = n := by rw [val_small (by rw [fix_len]; omega), ev_fix_lt (wid_lt h)]
    simp only [List.cons_append, rdN, e, e2, e3, e4, e5]
    rw [if_neg (by omega), if_pos ⟨by rw [List.length_append, fix_len]; omega, by omega, trivial, hm⟩]
theorem read_num {n most : Nat} {l t : List UInt8} (h : rdN most (some l) = (n, some t)) : l = num n ++ t ∧ n < 18446744073709551616 ∧ n ≤ most := by
  match l, h with
  | [], h => simp [rdN] at h
  | b :: r, h =>
    have hb : b.toNat < 256 := b.toNat_lt
    simp only [rdN] at h
    split at h
    · split at h
      · simp only [Prod.mk.injEq, Option.some.injEq] at h
        obtain ⟨rfl, rfl⟩ := h
        refine ⟨?_, by omega, by assumption⟩
        unfold num
        rw [if_pos (by assumption)]
        simp only [List.cons_append, List.nil_append, List.cons.injEq, and_true]
        unfold byt
        simp
      · simp at h
    · split at h
      · rename_i h1 h2
        simp only [Prod.mk.injEq, Option.some.injEq] at h
        obtain ⟨rfl, rfl⟩ := h
        obtain ⟨g1, g2, g3, g4⟩ := h2
        refine ⟨?_, val_lt _, g4⟩
        have w := wid_pos (val (r.take (b.toNat - 128)))
        have hl : (r.take (b.toNat - 128)).length = b.toNat - 128 := by rw [List.length_take]; omega
        unfold num
        rw [if_neg (by omega), g3, val_small (by omega)]
        have e : fix (ev (r.take (b.toNat - 128))) (b.toNat - 128) = r.take (b.toNat - 128) := by
          have := fix_ev (r.take (b.toNat - 128)); rwa [hl] at this
        rw [e, List.cons_append, List.take_append_drop, show 128 + (b.toNat - 128) = b.toNat by omega]
        simp
      · simp at h
theorem rdN_none (most : Nat) : rdN most none = (0, none) := rfl
theorem rdN_fail {most : Nat} {s : Option (List UInt8)} (h : (rdN most s).2 = none) : (rdN most s).1 = 0 := by
  match s, h with
  | none, _ => rfl
  | some [], _ => rfl
  | some (b :: r), h =>
    simp only [rdN] at h ⊢
    split
    · split
      · rename_i a c; rw [if_pos a, if_pos c] at h; cases h
      · rfl
    · split
      · rename_i a c; rw [if_neg a, if_pos c] at h; cases h
      · rfl
theorem rdN_lt (most : Nat) (s : Option (List UInt8)) : (rdN most s).1 < 18446744073709551616 ∧ (rdN most s).1 ≤ most := by
  cases hs : (rdN most s).2 with
  | none => rw [rdN_fail hs]; omega
  | some t =>
    cases s with
    | none => simp [rdN] at hs
    | some l =>
      have := read_num (n := (rdN most (some l)).1) (t := t) (l := l) (most := most) (by rw [← hs])
      exact ⟨this.2.1, this.2.2⟩

theorem zag_zig {i : Int} : zag (zig i) = i := by
  unfold zag zig
  repeat' split
  all_goals omega
theorem zig_zag (n : Nat) : zig (zag n) = n := by
  unfold zag zig
  repeat' split
  all_goals omega
theorem zig_lt {i : Int} (h0 : -9223372036854775808 ≤ i) (h1 : i < 9223372036854775808) : zig i < 18446744073709551616 := by unfold zig; split <;> omega
theorem zag_bound {n : Nat} (h : n < 18446744073709551616) : -9223372036854775808 ≤ zag n ∧ zag n < 9223372036854775808 := by unfold zag; split <;> omega

theorem rdW_fix {n k : Nat} (hk : k ≤ 8) (h : n < 256 ^ k) (t : List UInt8) : rdW k (some (fix n k ++ t)) = (n, some t) := by
  have e3 : (fix n k ++ t).take k = fix n k := by rw [List.take_append_of_le_length (by rw [fix_len]; exact Nat.le_refl _), List.take_of_length_le (by rw [fix_len]; exact Nat.le_refl _)]
  have e4 : (fix n k ++ t).drop k = t := by
    have := List.drop_left (l₁ := fix n k) (l₂ := t)
    rwa [fix_len] at this
  simp only [rdW]
  rw [if_pos (by rw [List.length_append, fix_len]; omega)]
  simp only [e3, e4]
  rw [val_small (by rw [fix_len]; omega), ev_fix_lt h]
theorem fix_rdW {n k : Nat} {l t : List UInt8} (hk : k ≤ 8) (h : rdW k (some l) = (n, some t)) : l = fix n k ++ t := by
  simp only [rdW] at h
  split at h
  · simp only [Prod.mk.injEq, Option.some.injEq] at h
    obtain ⟨rfl, rfl⟩ := h
    have hl : (l.take k).length = k := by rw [List.length_take]; omega
    have e : fix (ev (l.take k)) k = l.take k := by have := fix_ev (l.take k); rwa [hl] at this
    rw [val_small (by omega), e, List.take_append_drop]
  · simp at h
theorem rdW_none (k : Nat) : rdW k none = (0, none) := rfl
theorem rdW_fail {k : Nat} {s : Option (List UInt8)} (h : (rdW k s).2 = none) : (rdW k s).1 = 0 := by
  cases s with
  | none => rfl
  | some l =>
    simp only [rdW] at h ⊢
    split
    · rename_i a; rw [if_pos a] at h; cases h
    · rfl
theorem rdW_lt (k : Nat) (s : Option (List UInt8)) : (rdW k s).1 < 18446744073709551616 := by
  cases s with
  | none => simp [rdW]
  | some l =>
    simp only [rdW]
    split
    · exact val_lt _
    · simp

theorem key_nat (f : Nat) : (((Fl.key f).toNat : Nat) : Int) = Fl.key f := Int.toNat_of_nonneg (Fl.key_bound f).1
theorem key_pow (f : Nat) : (Fl.key f).toNat < 256 ^ 8 := by
  have h := Fl.key_bound f
  have h3 : (256 : Nat) ^ 8 = 18446744073709551616 := by decide
  omega

theorem rdP_none (k : Int) : (rdP k none).2 = none := by
  unfold rdP
  repeat' split
  all_goals rfl
theorem rdPs_none (ks : List Int) : (rdPs ks none).2 = none := by
  induction ks with
  | nil => rfl
  | cons k ks ih => unfold rdPs; rw [rdP_none]; exact ih
theorem rdP_kind (k : Int) (s : Option (List UInt8)) : (rdP k s).1.kind = k := by
  unfold rdP
  repeat' split
  all_goals rfl

/-- What is written is read as it was. -/
theorem read_enc {p : Pt} (hp : p.ok) (hk : 1 ≤ p.kind ∧ p.kind ≤ 5) (hb : p.b.length ≤ 65536) (t : List UInt8) : rdP p.kind (some (enc p ++ t)) = (own p, some t) := by
  have n0 := hp.n0
  have n1 := hp.n1
  unfold rdP enc own
  by_cases h1 : p.kind = 1
  · simp only [h1, if_true]
    rw [num_read (by omega) (by unfold full; omega)]
    simp [Int.toNat_of_nonneg n0]
  by_cases h2 : p.kind = 2
  · simp only [h2, rdI, if_true, if_false, show (2 : Int) ≠ 1 by omega]
    rw [num_read (zig_lt hp.i0 hp.i1) (by have := zig_lt hp.i0 hp.i1; unfold full; omega)]
    simp [zag_zig]
  by_cases h3 : p.kind = 3
  · simp only [h3, rdF, if_true, if_false, show (3 : Int) ≠ 1 by omega, show (3 : Int) ≠ 2 by omega]
    rw [rdW_fix (by omega) (key_pow p.f)]
    have q := Fl.fit_key hp.f1
    simp only [key_nat, q.1, q.2, if_true]
  by_cases h4 : p.kind = 4
  · simp only [h4, rdB, if_true, if_false, show (4 : Int) ≠ 1 by omega, show (4 : Int) ≠ 2 by omega, show (4 : Int) ≠ 3 by omega]
    rw [List.append_assoc, num_read (by omega) hb]
    simp
  · have h5 : p.kind = 5 := by omega
    simp only [h5, if_true, if_false, show (5 : Int) ≠ 1 by omega, show (5 : Int) ≠ 2 by omega, show (5 : Int) ≠ 3 by omega, show (5 : Int) ≠ 4 by omega]
    cases p.is <;> simp [rdG, blank]

theorem pair_of {α β : Type} {x : α × β} {y : β} (h : x.2 = y) : x = (x.1, y) := by
  obtain ⟨a, b⟩ := x
  subst h
  rfl
theorem okN {k n : Int} (h0 : 0 ≤ n) (h1 : n < 18446744073709551616) : Pt.ok { blank k with n := n } := by constructor <;> dsimp only [blank] <;> omega
theorem okI {k i : Int} (h0 : -9223372036854775808 ≤ i) (h1 : i < 9223372036854775808) : Pt.ok { blank k with i := i } := by constructor <;> dsimp only [blank] <;> omega
theorem okF {k : Int} {f : Nat} (h1 : f < 18446744073709551616) : Pt.ok { blank k with f := f } := by constructor <;> dsimp only [blank] <;> omega
theorem okB {k : Int} {b : List UInt8} : Pt.ok { blank k with b := b } := by constructor <;> dsimp only [blank] <;> omega
theorem okG {k : Int} {g : Bool} : Pt.ok { blank k with is := g } := by constructor <;> dsimp only [blank] <;> omega

theorem enc_readF {l t : List UInt8} (h : (rdF (some l)).2 = some t) : l = fix (Fl.key (rdF (some l)).1).toNat 8 ++ t ∧ (rdF (some l)).1 < 18446744073709551616 := by
  unfold rdF at h ⊢
  split at h
  · simp at h
  · rename_i u hu
    split at h
    · rename_i hf
      simp only [Option.some.injEq] at h
      subst h
      have q := fix_rdW (n := (rdW 8 (some l)).1) (t := u) (l := l) (k := 8) (by omega) (pair_of hu)
      have lt := rdW_lt 8 (some l)
      have kw : Fl.key (Fl.wd (rdW 8 (some l)).1) = ((rdW 8 (some l)).1 : Int) := by simpa using Fl.key_wd hf
      simp only [hf, if_true]
      rw [kw, Int.toNat_natCast]
      exact ⟨q, Fl.wd_lt _ (by omega) (by omega)⟩
    · simp at h
theorem enc_readB {m : Nat} {l t : List UInt8} (h : (rdB m (some l)).2 = some t) : l = num (rdB m (some l)).1.length ++ (rdB m (some l)).1 ++ t ∧ (rdB m (some l)).1.length ≤ m := by
  unfold rdB at h ⊢
  split at h
  · simp at h
  · rename_i u hu
    split at h
    · rename_i hl
      simp only [Option.some.injEq] at h
      subst h
      have q := read_num (n := (rdN m (some l)).1) (t := u) (l := l) (most := m) (pair_of hu)
      simp only [hl, if_true]
      rw [List.length_take, Nat.min_eq_left hl, List.append_assoc, List.take_append_drop]
      exact ⟨q.1, q.2.2⟩
    · simp at h
theorem enc_readG {l t : List UInt8} (h : (rdG (some l)).2 = some t) : l = (if (rdG (some l)).1 = true then 1 else 0) :: t := by
  match l, h with
  | [], h => simp [rdG] at h
  | b :: r, h =>
    simp only [rdG] at h ⊢
    split at h
    · rename_i hb
      simp only [Option.some.injEq] at h
      subst h
      simp only [hb, if_true]
      rcases (show b.toNat = 0 ∨ b.toNat = 1 by omega) with e | e
      · have : b = 0 := UInt8.toNat_inj.1 e
        subst this; rfl
      · have : b = 1 := UInt8.toNat_inj.1 e
        subst this; rfl
    · simp at h

/-- What is read was written so. -/
theorem enc_read {k : Int} {p : Pt} {l t : List UInt8} (h : rdP k (some l) = (p, some t)) : l = enc p ++ t ∧ p.ok ∧ (1 ≤ k ∧ k ≤ 5) ∧ p.b.length ≤ 65536 := by
  unfold rdP at h
  split at h
  · rename_i h1
    simp only [Prod.mk.injEq] at h
    obtain ⟨rfl, h2⟩ := h
    have q := read_num (pair_of h2)
    refine ⟨?_, okN (by omega) (by omega), by omega, by simp [blank]⟩
    unfold enc
    rw [if_pos (by exact h1)]
    exact q.1
  split at h
  · rename_i h0 h1
    simp only [rdI, Prod.mk.injEq] at h
    obtain ⟨rfl, h2⟩ := h
    have q := read_num (pair_of h2)
    have z := zag_bound q.2.1
    refine ⟨?_, okI z.1 z.2, by omega, by simp [blank]⟩
    unfold enc
    rw [if_neg (by exact h0), if_pos (by exact h1)]
    show l = num (zig (zag _)) ++ t
    rw [zig_zag]
    exact q.1
  split at h
  · rename_i h0 h1 h2
    simp only [Prod.mk.injEq] at h
    obtain ⟨rfl, hh⟩ := h
    have q := enc_readF hh
    refine ⟨?_, okF q.2, by omega, by simp [blank]⟩
    unfold enc
    rw [if_neg (by exact h0), if_neg (by exact h1), if_pos (by exact h2)]
    exact q.1
  split at h
  · rename_i h0 h1 h2 h3
    simp only [Prod.mk.injEq] at h
    obtain ⟨rfl, hh⟩ := h
    have q := enc_readB hh
    refine ⟨?_, okB, by omega, q.2⟩
    unfold enc
    rw [if_neg (by exact h0), if_neg (by exact h1), if_neg (by exact h2), if_pos (by exact h3)]
    exact q.1
  split at h
  · rename_i h0 h1 h2 h3 h4
    simp only [Prod.mk.injEq] at h
    obtain ⟨rfl, hh⟩ := h
    have q := enc_readG hh
    refine ⟨?_, okG, by omega, by simp [blank]⟩
    unfold enc
    rw [if_neg (by exact h0), if_neg (by exact h1), if_neg (by exact h2), if_neg (by exact h3), if_pos (by exact h4)]
    exact q
  · simp at h

theorem read_encs {l : List Pt} (hp : ∀ p ∈ l, p.ok ∧ (1 ≤ p.kind ∧ p.kind ≤ 5) ∧ p.b.length ≤ 65536) (t : List UInt8) : rdPs (l.map (·.kind)) (some (encs l ++ t)) = (l.map own, some t) := by
  induction l with
  | nil => rfl
  | cons p l ih =>
    obtain ⟨h1, h2, h3⟩ := hp p (by simp)
    simp only [List.map_cons, rdPs, encs, List.flatMap_cons]
    rw [List.append_assoc, read_enc h1 h2 h3]
    have := ih (fun q hq => hp q (by simp [hq]))
    unfold encs at this
    simp only [this]
theorem encs_read {ks : List Int} {ps : List Pt} {l t : List UInt8} (h : rdPs ks (some l) = (ps, some t)) : l = encs ps ++ t ∧ ∀ p ∈ ps, p.ok ∧ p.b.length ≤ 65536 := by
  induction ks generalizing ps l with
  | nil =>
    simp only [rdPs, Prod.mk.injEq, Option.some.injEq] at h
    obtain ⟨rfl, rfl⟩ := h
    simp [encs]
  | cons k ks ih =>
    simp only [rdPs, Prod.mk.injEq] at h
    obtain ⟨rfl, h2⟩ := h
    cases hs : (rdP k (some l)).2 with
    | none => rw [hs, rdPs_none] at h2; cases h2
    | some u =>
      have q := enc_read (k := k) (p := (rdP k (some l)).1) (l := l) (t := u) (by rw [← hs])
      rw [hs] at h2
      have r := ih (ps := (rdPs ks (some u)).1) (l := u) (by rw [← h2])
      refine ⟨?_, ?_⟩
      · simp only [encs, List.flatMap_cons]
        rw [List.append_assoc]
        have r1 := r.1
        unfold encs at r1
        rw [← r1]
        exact q.1
      · intro p hp
        rw [List.mem_cons] at hp
        rcases hp with rfl | hp
        · exact ⟨q.2.1, q.2.2.2⟩
        · exact r.2 p hp

theorem same_refl (a : Nat) : Fl.same a a = true := by unfold Fl.same; simp
theorem sameP_refl (x : Pt) : sameP x x = true := by unfold sameP; simp [same_refl]
theorem sameL_refl (l : List Pt) : sameL l l = true := by
  induction l with
  | nil => rfl
  | cons x l ih => simp [sameL, sameP_refl, ih]
theorem sameP_enc {x y : Pt} (h : sameP x y = true) : enc x = enc y := by
  unfold sameP at h
  simp only [Bool.and_eq_true, beq_iff_eq, decide_eq_true_eq] at h
  obtain ⟨⟨⟨⟨⟨h1, h2⟩, h3⟩, h4⟩, h5⟩, h6⟩ := h
  unfold Fl.same at h4
  rw [beq_iff_eq] at h4
  unfold enc
  rw [h1, h2, h3, h4, h5, h6]
theorem sameL_enc : ∀ {xs ys : List Pt}, sameL xs ys = true → encs xs = encs ys
  | [], [], _ => rfl
  | x :: xs, y :: ys, h => by
    simp only [sameL, Bool.and_eq_true] at h
    have := sameL_enc h.2
    unfold encs at this ⊢
    rw [List.flatMap_cons, List.flatMap_cons, sameP_enc h.1, this]
  | [], _ :: _, h => by simp [sameL] at h
  | _ :: _, [], h => by simp [sameL] at h
theorem sameL_len : ∀ {xs ys : List Pt}, sameL xs ys = true → xs.length = ys.length
  | [], [], _ => rfl
  | x :: xs, y :: ys, h => by
    simp only [sameL, Bool.and_eq_true] at h
    simp [sameL_len h.2]
  | [], _ :: _, h => by simp [sameL] at h
  | _ :: _, [], h => by simp [sameL] at h

/-- Two lists of bytes that are read as the same parts are the same. -/
theorem once {ks : List Int} {b c : List UInt8} {x y : List Pt} (hx : rdPs ks (some b) = (x, some [])) (hy : rdPs ks (some c) = (y, some [])) : sameL x y = decide (b = c) := by
  have e1 := (encs_read hx).1
  have e2 := (encs_read hy).1
  rw [List.append_nil] at e1 e2
  by_cases h : b = c
  · subst h
    rw [hx] at hy
    simp only [Prod.mk.injEq] at hy
    obtain ⟨rfl, _⟩ := hy
    simp [sameL_refl]
  · cases hs : sameL x y
    · simp [h]
    · exact absurd (by rw [e1, e2]; exact sameL_enc hs) h

theorem rdPs_snoc (ks : List Int) (k : Int) (s : Option (List UInt8)) : rdPs (ks ++ [k]) s = ((rdPs ks s).1 ++ [(rdP k (rdPs ks s).2).1], (rdP k (rdPs ks s).2).2) := by
  induction ks generalizing s with
  | nil => rfl
  | cons q ks ih => simp only [List.cons_append, rdPs, ih]
theorem rdPs_len (ks : List Int) (s : Option (List UInt8)) : (rdPs ks s).1.length = ks.length := by
  induction ks generalizing s with
  | nil => rfl
  | cons q ks ih => simp [rdPs, ih]
/-- Once it has failed it stays so. -/
theorem rdPs_fail {ks js : List Int} {s : Option (List UInt8)} (h : (rdPs ks s).2 = none) : (rdPs (ks ++ js) s).2 = none := by
  induction ks generalizing s with
  | nil =>
    simp only [rdPs] at h
    subst h
    exact rdPs_none _
  | cons q ks ih =>
    simp only [List.cons_append, rdPs] at h ⊢
    exact ih h
/-- The flag, read as a number that is 1 at most. -/
theorem rdG_num (s : Option (List UInt8)) : (((rdN 1 s).1 == 1), (rdN 1 s).2) = rdG s := by
  match s with
  | none => rfl
  | some [] => rfl
  | some (b :: r) =>
    have hb : b.toNat < 256 := b.toNat_lt
    simp only [rdN, rdG]
    by_cases h : b.toNat < 128
    · by_cases h1 : b.toNat ≤ 1
      · simp [h, h1]
      · simp [h, h1]
    · rw [if_neg h, if_neg (by omega), if_neg (by omega)]
      rfl
end Cd

open Go.RowKit


/-- A table of bytes that tells of each byte from 1 on a number from 1 to 8. -/
def tabOk (T : ByteArray) : Bool := (List.range 255).all fun i => decide (1 ≤ (T.data.toList.getD (i + 1) 0).toNat ∧ (T.data.toList.getD (i + 1) 0).toNat ≤ 8)
theorem tab_at {T : ByteArray} (hT : tabOk T = true) {i : Nat} (h : i < T.size) (h1 : 1 ≤ i) (h2 : i < 256) : 1 ≤ (T[i]'h).toNat ∧ (T[i]'h).toNat ≤ 8 := by
  unfold tabOk at hT
  rw [List.all_eq_true] at hT
  have q := of_decide_eq_true (hT (i - 1) (by simp; omega))
  rw [show i - 1 + 1 = i by omega] at q
  have e : T.data.toList.getD i 0 = T[i]'h := by
    rw [List.getD_eq_getElem?_getD, List.getElem?_eq_getElem (by simpa using h)]
    rfl
  rwa [e] at q

def LenOk (n : Int) (w : World) (e : Ending) (w' : World) : Prop := ∃ L : Int, e = .returned (.int .i64 L) ∧ 8 * ((Cd.wid n.toNat : Int) - 1) < L ∧ L ≤ 8 * (Cd.wid n.toNat : Int) ∧ w = w'
theorem len_end {n : Int} {w : World} {T : ByteArray} (hT : tabOk T = true) (x b : Int) (hi : x.toNat < T.size) (h1 : 1 ≤ x) (h2 : x < 256) (hb : 0 ≤ b ∧ b ≤ 56) (hw : 8 * ((Cd.wid n.toNat : Int) - 1) = b) {L : Int}
    (hL : L = wrap64 (b + wrap64 ((T[x.toNat]'hi).toNat : Int))) : LenOk n w (.returned (.int .i64 L)) w := by
  have q := tab_at hT hi (by omega) (by omega)
  generalize (T[x.toNat]'hi).toNat = y at *
  refine ⟨L, rfl, ?_, ?_, rfl⟩
  · subst hL; unfold wrap64; omega
  · subst hL; unfold wrap64; omega

theorem len_end0 {n : Int} {w : World} {T : ByteArray} (hT : tabOk T = true) (x : Int) (hi : x.toNat < T.size) (h1 : 1 ≤ x) (h2 : x < 256) (hw : Cd.wid n.toNat = 1) {L : Int}
    (hL : L = wrap64 (wrap64 ((T[x.toNat]'hi).toNat : Int))) : LenOk n w (.returned (.int .i64 L)) w :=
  len_end hT x 0 hi h1 h2 (by omega) (by omega) (by rw [Int.zero_add]; exact hL)

/-- The byte that a number begins with. -/
def hd (n : Nat) : Nat := if n < 128 then n else 128 + Cd.wid n

end Go.Proofs.Ytnhpkcphgdkdiaa
