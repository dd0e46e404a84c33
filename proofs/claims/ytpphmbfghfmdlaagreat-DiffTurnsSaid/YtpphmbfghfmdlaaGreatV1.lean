/- The law: the row. Every input, no condition. -/
import Derived.Test.YtpphmbfghfmdlaaGreatY1
import Derived.Test.YtpphmbfghfmdlaaGreatY2
import Derived.Test.YtpphmbfghfmdlaaGreatY3
import Derived.Test.YtpphmbfghfmdlaaGreatY4
import Derived.Test.YtpphmbfghfmdlaaGreatY5
import Derived.Test.YtpphmbfghfmdlaaGreatY6
import Derived.Test.YtpphmbfghfmdlaaGreatY7
import Derived.Test.YtpphmbfghfmdlaaGreatY8
import Derived.Test.YtpphmbfghfmdlaaGreatY9
import Derived.Test.YtpphmbfghfmdlaaGreatY10
import Derived.Test.YtpphmbfghfmdlaaGreatY11
import Derived.Test.YtpphmbfghfmdlaaGreatY12
import Derived.Test.YtpphmbfghfmdlaaGreatY13
import Derived.Test.YtpphmbfghfmdlaaGreatY14
import Derived.Test.YtpphmbfghfmdlaaGreatY15
import Derived.Test.YtpphmbfghfmdlaaGreatY16
import Derived.Test.YtpphmbfghfmdlaaGreatY17
import Derived.Test.YtpphmbfghfmdlaaGreatY18
import Derived.Test.YtpphmbfghfmdlaaGreatY19
import Derived.Test.YtpphmbfghfmdlaaGreatY20
import Derived.Test.YtpphmbfghfmdlaaGreatY21
import Derived.Test.YtpphmbfghfmdlaaGreatY22
import Derived.Test.YtpphmbfghfmdlaaGreatY23
import Derived.Test.YtpphmbfghfmdlaaGreatY24
import Derived.Test.YtpphmbfghfmdlaaGreatY25
import Derived.Test.YtpphmbfghfmdlaaGreatY26
import Derived.Test.YtpphmbfghfmdlaaGreatY27
import Derived.Test.YtpphmbfghfmdlaaGreatY28
import Derived.Test.YtpphmbfghfmdlaaGreatY29
import Derived.Test.YtpphmbfghfmdlaaGreatY30
import Derived.Test.YtpphmbfghfmdlaaGreatY31
import Derived.Test.YtpphmbfghfmdlaaGreatY32
import Derived.Test.YtpphmbfghfmdlaaGreatY33
import Derived.Test.YtpphmbfghfmdlaaGreatY34
import Derived.Test.YtpphmbfghfmdlaaGreatY35
import Derived.Test.YtpphmbfghfmdlaaGreatY36
import Derived.Test.YtpphmbfghfmdlaaGreatY37
import Derived.Test.YtpphmbfghfmdlaaGreatY38
import Derived.Test.YtpphmbfghfmdlaaGreatY39
import Derived.Test.YtpphmbfghfmdlaaGreatY40
import Derived.Test.YtpphmbfghfmdlaaGreatY41
import Derived.Test.YtpphmbfghfmdlaaGreatY42
import Derived.Test.YtpphmbfghfmdlaaGreatY43
import Derived.Test.YtpphmbfghfmdlaaGreatY44
import Derived.Test.YtpphmbfghfmdlaaGreatY45
import Derived.Test.YtpphmbfghfmdlaaGreatY46
import Derived.Test.YtpphmbfghfmdlaaGreatY47
import Derived.Test.YtpphmbfghfmdlaaGreatY48
import Derived.Test.YtpphmbfghfmdlaaGreatY49
import Derived.Test.YtpphmbfghfmdlaaGreatY50
import Derived.Test.YtpphmbfghfmdlaaGreatY51
import Derived.Test.YtpphmbfghfmdlaaGreatY52
import Derived.Test.YtpphmbfghfmdlaaGreatY53
import Derived.Shelf.SlSortCmp.Kit1
import Derived.Shelf.SlSortCmp.QuietGrown
import Derived.Sort.WalkA
import Derived.Sort.WalkB2
import Derived.Sort.WalkB12
import Derived.Sort.WalkB3
import Derived.Deep.LoopGhost
import Derived.BigRegion
import Derived.WalkKit
import Derived.Lib.Hide
import Derived.Deep.DeepCutAuto
import Derived.Sort.WalkC4
import Derived.Sort.WalkC
import Derived.Sort.WalkA6
import Derived.Sort.Walk7
import Derived.Shelf.SlSortCmp.Xorshift
import Derived.Shelf.GgSortFunc.LotD
import Derived.Sort.Walk11
import Derived.Sort.Walk13
import Derived.Sort.AssemblyPlain
import Derived.Shelf.Small.Bits
import Derived.Sort.OwnSorted
import Derived.RangeFuncGives
import Derived.Sort.MapsRangeIn
import Derived.Maps.OwnSet
import Derived.Calls
import Derived.Below
import Derived.ProofKit
import Derived.Laws.OwnMore
import Derived.Deep.AppendLies
import Derived.Deep.Draws
import Derived.Laws.Rows
import Derived.Laws.BytesArg
import Derived.OwnWalk
import Derived.OneCell
import Derived.Tactics
import Derived.Laws.Entries
import Derived.Deep.Slices
import Derived.Laws.MakeOwn
import Derived.Laws.ShiftsVarLaws
import Derived.Lib.SliceRun
import Derived.RegionTactic
import Derived.RangeFuncNested
import Derived.RangeFuncBound
import Derived.RangeFuncCalls
import Derived.RangeFuncLeaves
import Derived.RangeFuncBox
import Derived.Shelf.Abstract
import Derived.OwnWalkIn
import Derived.TacticsInMore
import Derived.LoopNIn
import Derived.LoopIn
import Derived.Maps.OwnIn
import Derived.Sort.Lot0
import GoSem.Core.Float
import GoSem.Op.Unary
import Derived.WalkSpells
import Derived.WalkLawsBesides
import Derived.LoopN
import Derived.Sort.KeysCollected
import Derived.Deep.MidRow
import Derived.Deep.WholeRow
import Derived.Maps.RangeWalk
import Derived.Maps.Ext
import Derived.Laws.CopyOwn
import Derived.Great.BuildSlice
import Derived.Shelf.SlSortCmp.KitK
import Derived.StillTailTactics
import Derived.Deep.AppendSrc
import Derived.Deep.RegionLaw
import Derived.Lib.AppendZerosOnto
import Derived.OrdersHeld
import Derived.Deep.RegionHeld
import Derived.Laws.IdiomStrings
import Derived.Laws.BitsAllLaws
import Derived.Lib.QuietBelow
import Derived.Deep.RegionHeld3
import Derived.WideKeyArgs
import Derived.Laws.Cover2
import Derived.WalkSmall
import Derived.Deep.Fields
import Derived.Carry
import Derived.Lib.SmallJoins
namespace Go.Proofs.YtpphmbfghfmdlaaGreat
set_option linter.unusedSimpArgs false
set_option maxRecDepth 100000
section
set_option maxRecDepth 100000
section
open Go.RowKit Go.Shelf Go.Maps Go.Lib Go.Sort
section
variable {w w' : World} {mb n : Nat} {f : Nat → Option Value}
theorem UM.look (h : UM w mb n f) {t e : TypeId} (ht : Tryz.prog.underlying t = some (.map 26 e)) {z : Value} (hz : (zeroValue e).run Tryz.prog w = .ok z w) {k : Nat} (hk : k < 18446744073709551616) :
    (Instr.lookup t (.map (some mb)) (encU k) false).run Tryz.prog w = .ok ((f k).getD z) w := by
  obtain ⟨D, h1, h2, h3⟩ := h.out
  obtain ⟨u, ps, hr, hu⟩ := h1.lookup u64K ht hz (anyV_mk z) (nkeyOf hk)
  have hy := anyV_inv hu
  injection hy with hy _
  rw [UM.at_ h1 h2 h3] at hy
  injection hy with hy
  rw [hr, ← hy]
end
end
end
section
set_option maxRecDepth 100000
section
namespace Cd
/-- Byte k of a number, counted from its lowest. -/
def byt (n k : Nat) : UInt8 := UInt8.ofNat (n / 256 ^ k % 256)
/-- The lowest k bytes of a number, the highest first. -/
def fix (n : Nat) : Nat → List UInt8
  | 0 => []
  | k + 1 => byt n k :: fix n k
/-- Bytes as a number, the highest first. -/
def ev (l : List UInt8) : Nat := l.foldl (fun n b => n * 256 + b.toNat) 0
def val (l : List UInt8) : Nat := ev l % 18446744073709551616
theorem byt_nat (n k : Nat) : (byt n k).toNat = n / 256 ^ k % 256 := by
  unfold byt
  rw [UInt8.toNat_ofNat']
  exact Nat.mod_eq_of_lt (Nat.mod_lt _ (by omega))
theorem fix_len (n k : Nat) : (fix n k).length = k := by
  induction k with
  | zero => rfl
  | succ k ih => simp [fix, ih]
theorem foldl_ev (l : List UInt8) (v : Nat) : l.foldl (fun n b => n * 256 + b.toNat) v = v * 256 ^ l.length + ev l := by
  induction l generalizing v with
  | nil => simp [ev]
  | cons b l ih =>
    unfold ev
    rw [List.foldl_cons, List.foldl_cons, ih, ih (0 * 256 + b.toNat), List.length_cons, Nat.pow_succ]
    simp only [Nat.zero_mul, Nat.zero_add, Nat.add_mul]
    rw [Nat.mul_assoc, Nat.mul_comm 256 (256 ^ l.length)]
    omega
theorem ev_cons (b : UInt8) (l : List UInt8) : ev (b :: l) = b.toNat * 256 ^ l.length + ev l := by
  rw [show ev (b :: l) = l.foldl (fun n b => n * 256 + b.toNat) (0 * 256 + b.toNat) from rfl, foldl_ev]; simp
theorem ev_lt (l : List UInt8) : ev l < 256 ^ l.length := by
  induction l with
  | nil => simp [ev]
  | cons b l ih =>
    rw [ev_cons, List.length_cons, Nat.pow_succ]
    have h : b.toNat < 256 := b.toNat_lt
    have h2 : b.toNat * 256 ^ l.length ≤ 255 * 256 ^ l.length := Nat.mul_le_mul_right _ (by omega)
    omega
theorem val_small {l : List UInt8} (h : l.length ≤ 8) : val l = ev l := by
  have h1 := ev_lt l
  have h2 : 256 ^ l.length ≤ 256 ^ 8 := Nat.pow_le_pow_right (by omega) h
  have h3 : (256 : Nat) ^ 8 = 18446744073709551616 := by decide
  exact Nat.mod_eq_of_lt (by omega)
theorem ev_fix (n k : Nat) : ev (fix n k) = n % 256 ^ k := by
  induction k with
  | zero => simp [fix, ev, Nat.mod_one]
  | succ k ih =>
    rw [fix, ev_cons, ih, fix_len, byt_nat, Nat.pow_succ, Nat.mod_mul, Nat.mul_comm (n / 256 ^ k % 256), Nat.add_comm]
theorem ev_fix_lt {n k : Nat} (h : n < 256 ^ k) : ev (fix n k) = n := by rw [ev_fix, Nat.mod_eq_of_lt h]
end Cd
end
section
open Go.ChangeShapes Go.WideShapes Go.ChangeAt Go.RowKit
section
variable {H : Type} {enc : TypeId × Value → H} {P : Program}
end
end
end
section
open Go.RowKit
set_option maxRecDepth 100000
section
variable {B B' : Nat} {ts ts' : List TypeId} {w w' w'' : World}
end
section
variable {w w' : World} {B B' : Nat} {t : TypeId} {A : Option Addr} {xs : List Value}
end
section
variable {w w' : World} {base : Nat} {e : TypeId} {size : Nat} {v : Value} {n : Nat} {xs : List Value}
end
/-- Behind an append to a row that was made just now. -/
theorem app_below {w w1 : World} {o : Obj} {e : TypeId} {size : Nat} {v : Value} {n : Nat} {xs : List Value} (h : (w.alloc o).ownsRow w.heap.size e size v n xs) (hg : (w.alloc o).grownBy w1 v.ownBlock) : Below w.heap.size w w1 :=
 ((Below.refl _ _).alloc (Nat.le_refl _) o).grown hg (by simp) (fun k q => (h.lt k q).1)
section
variable {P : Program} (w : World)
end
end
section
set_option maxRecDepth 100000
section
open Go.RowKit
section
variable {w : World} {B : Nat} {A : Option Addr}
end
/-- It returned bytes of its own and an error's number, and left all older memory alone. -/
def BErrOk (B : Nat) (er : Int) (l : List UInt8) (w : World) (e : Ending) (w' : World) : Prop :=
  ∃ A n c, e = .returned (.tuple #[.slice A n c, .int .i64 er]) ∧ n = l.length ∧ n ≤ c ∧ w'.ownsRow B 5 1 (.slice A n c) n (bcells l) ∧ Below B w w'
theorem BErrOk.bad {w w' : World} {er : Int} (h : Below w.heap.size w w') : BErrOk w.heap.size er [] w (.returned (.tuple #[.slice none 0 0, .int .i64 er])) w' :=
  ⟨none, 0, 0, rfl, rfl, Nat.le_refl _, World.ownsRow_nil _ _ _ _, h⟩
end
section
open Go.RowKit
section
variable {w w' : World} {B B' : Nat} {tt tb tt' tb' : TypeId} {A : Option Addr} {ms : List MTx}
theorem TL.old (h : TL w B tt tb A ms) : TL w w.heap.size tt' tb' A ms := ⟨h.1.old, fun m hm => ⟨(h.2 m hm).1.old, (h.2 m hm).2⟩⟩
end
end
end
section
set_option maxRecDepth 100000
section
open Go.Sort
namespace Sr
section
variable {α : Type} {lt : α → α → Bool}
section
variable [Inhabited α]
end
section
variable [Inhabited α]
end
/-- Things in order, told once each, stay. -/
theorem canon_str (h : WO lt) {l : List α} (hs : Str lt l) : canon lt l = l := by
  obtain ⟨c1, c2⟩ := canon_spec h l
  exact str_uniq h c1 hs c2
end
end Sr
end
section
namespace Sr
variable {α : Type} {lt : α → α → Bool}
end Sr
end
end
section
set_option maxRecDepth 100000
namespace Fl
theorem nanW_eq : nanW = 9221120237041090561 := rfl
theorem I_eq (b : Nat) : I b = b := rfl
theorem isN_min {b : Nat} (h : two63 ≤ b) (h2 : b < 2 * two63) : isN b = decide (inf < b - two63) := by
  have e : b % two63 = b - two63 := by unfold two63 at *; omega
  unfold isN; rw [e]
theorem isN_nanW : isN nanW = true := by decide +kernel
theorem canon_canon (b : Nat) : canon (canon b) = canon b := by
  cases h : isN b
  · by_cases e : sv b = 0
    · rw [canon_zero h e, canon_zero isN_zero sv_zero]
    · rw [canon_self h e, canon_self h e]
  · rw [canon_nan h, canon_nan isN_nanW]
theorem key_bound (b : Nat) : 0 ≤ key b ∧ key b < 18446744073709551616 := by
  cases h : isN b
  · have := sv_bound h; have := inf_eq; have := two63_eq
    by_cases hs : 0 ≤ sv b
    · rw [key_ge h hs]; omega
    · rw [key_neg h (by omega)]; omega
  · rw [key_nan h]; omega
/-- The place of a word among all that are canonical; how many are between two; the word at a place; the one in the middle. -/
def pl (b : Nat) : Int := if isN b = true then -(inf : Int) - 1 else sv b
theorem pl_nan {b : Nat} (h : isN b = true) : pl b = -(inf : Int) - 1 := by unfold pl; rw [if_pos h]
theorem pl_num {b : Nat} (h : isN b = false) : pl b = sv b := by unfold pl; rw [if_neg (by simp [h])]
theorem pl_bound (b : Nat) : -(inf : Int) - 1 ≤ pl b ∧ pl b ≤ inf := by
  cases h : isN b
  · rw [pl_num h]; have := sv_bound h; omega
  · rw [pl_nan h]; omega
/-- The key is a rising function of the place. -/
def kp (p : Int) : Int := if p = -(inf : Int) - 1 then 0 else if p < 0 then two63 - 1 + p else two63 + p
theorem key_pl (b : Nat) : key b = kp (pl b) := by
  cases h : isN b
  · have := sv_bound h
    rw [pl_num h]; unfold kp; rw [if_neg (by omega)]
    by_cases hs : 0 ≤ sv b
    · rw [key_ge h hs, if_neg (by omega)]
    · rw [key_neg h (by omega), if_pos (by omega)]
  · rw [key_nan h, pl_nan h]; unfold kp; rw [if_pos rfl]
theorem kp_lt {p q : Int} (hp : -(inf : Int) - 1 ≤ p) (hq : -(inf : Int) - 1 ≤ q) : kp p < kp q ↔ p < q := by
  have := inf_eq; have := two63_eq
  unfold kp
  by_cases a1 : p = -(inf : Int) - 1 <;> by_cases a2 : p < 0 <;> by_cases b1 : q = -(inf : Int) - 1 <;> by_cases b2 : q < 0 <;> simp only [a1, a2, b1, b2, if_true, if_false] <;> omega
theorem key_lt (a b : Nat) : key a < key b ↔ pl a < pl b := by
  rw [key_pl, key_pl]; exact kp_lt (pl_bound a).1 (pl_bound b).1
theorem lt_true {a b : Nat} : lt a b = true ↔ pl a < pl b := by unfold lt; rw [decide_eq_true_iff, key_lt]
theorem lt_false {a b : Nat} : lt a b = false ↔ pl b ≤ pl a := by unfold lt; rw [decide_eq_false_iff_not, key_lt]; omega
end Fl
end
section
set_option maxRecDepth 100000
section
open Go.RowKit
namespace Fl
end Fl
end
section
open Go.RowKit
namespace Fl
/-- The word that a key would have; whether it has that key; the float of a key. -/
def cand (k : Int) : Int := if k < 9223372036854775808 then 18446744073709551615 - k else k - 9223372036854775808
def fit (k : Int) : Bool := key (W (cand k)) == k
def wd (k : Int) : Nat := if fit k = true then canon (W (cand k)) else 0
theorem fit_yes {k : Int} (h : fit k = true) : wd k = canon (W (cand k)) := by unfold wd; rw [if_pos h]
theorem fit_iff (k : Int) (h0 : 0 ≤ k) (h1 : k < 18446744073709551616) :
    fit k = true ↔ k = 0 ∨ (9223372036854775808 ≤ k ∧ k ≤ 9223372036854775808 + inf) ∨ (9223372036854775807 - inf ≤ k ∧ k < 9223372036854775807) := by
  have e1 := inf_eq; have e2 := two63_eq; have e3 := nanW_eq
  unfold fit cand
  by_cases a : k < 9223372036854775808
  · rw [if_pos a]
    generalize hc : W (18446744073709551615 - k) = c
    have hc2 : (c : Int) = 18446744073709551615 - k := by rw [← hc]; unfold W; omega
    have hl : two63 ≤ c := by omega
    have hl2 : c < 2 * two63 := by omega
    have hs := sv_min hl hl2
    cases hn : isN c
    · have := sv_bound hn
      by_cases z : k = 9223372036854775807
      · rw [key_ge hn (by omega), beq_iff_eq]; omega
      · rw [key_neg hn (by omega), beq_iff_eq]; omega
    · rw [isN_min hl hl2] at hn
      have hn' := of_decide_eq_true hn
      rw [key_nan (by rw [isN_min hl hl2, hn]), beq_iff_eq]; omega
  · rw [if_neg a]
    generalize hc : W (k - 9223372036854775808) = c
    have hc2 : (c : Int) = k - 9223372036854775808 := by rw [← hc]; unfold W; omega
    have hl : c < two63 := by omega
    have hs := sv_pos hl
    cases hn : isN c
    · have := sv_bound hn
      rw [key_ge hn (by omega), beq_iff_eq]; omega
    · rw [isN_pos hl] at hn
      have hn' := of_decide_eq_true hn
      rw [key_nan (by rw [isN_pos hl, hn]), beq_iff_eq]; omega
end Fl
open Go.ChangeShapes Go.WideShapes Go.ChangeAt Go.RowKit
namespace Fl
theorem fit_key {a : Nat} (ha : a < 18446744073709551616) : fit (key a) = true ∧ wd (key a) = canon a := by
  have e1 := inf_eq
  have e2 := two63_eq
  cases n : isN a
  · have bd := sv_bound n
    by_cases s : 0 ≤ sv a
    · have hk := key_ge n s
      have hf : fit (key a) = true := (fit_iff _ (key_bound a).1 (key_bound a).2).2 (by omega)
      refine ⟨hf, ?_⟩
      have hc := canon_ge ha n s
      have hw : W (cand (key a)) = canon a := by
        unfold cand; rw [if_neg (by omega)]; unfold W; unfold I at hc; omega
      rw [fit_yes hf, hw, canon_canon]
    · have hk := key_neg n (by omega)
      have hf : fit (key a) = true := (fit_iff _ (key_bound a).1 (key_bound a).2).2 (by omega)
      refine ⟨hf, ?_⟩
      have hc := canon_neg ha n (by omega)
      have hw : W (cand (key a)) = canon a := by
        unfold cand; rw [if_pos (by omega)]; unfold W; unfold I at hc; omega
      rw [fit_yes hf, hw, canon_canon]
  · rw [key_nan n, canon_nan n]
    have hf : fit 0 = true := by decide +kernel
    exact ⟨hf, by rw [fit_yes hf]; decide +kernel⟩
end Fl
end
end
section
set_option maxRecDepth 100000
namespace Cd
/-- What is read: the next k bytes as a number; none: it has failed. -/
def rdW (k : Nat) : Option (List UInt8) → Nat × Option (List UInt8)
  | none => (0, none)
  | some l => if k ≤ l.length then (val (l.take k), some (l.drop k)) else (0, none)
def rdN (most : Nat) : Option (List UInt8) → Nat × Option (List UInt8)
  | none => (0, none)
  | some [] => (0, none)
  | some (h :: t) =>
    if h.toNat < 128 then (if h.toNat ≤ most then (h.toNat, some t) else (0, none))
    else if h.toNat - 128 ≤ t.length ∧ 128 ≤ val (t.take (h.toNat - 128)) ∧ wid (val (t.take (h.toNat - 128))) = h.toNat - 128 ∧ val (t.take (h.toNat - 128)) ≤ most
      then (val (t.take (h.toNat - 128)), some (t.drop (h.toNat - 128))) else (0, none)
@[irreducible] def full : Nat := 18446744073709551615
def rdF (s : Option (List UInt8)) : Nat × Option (List UInt8) :=
  match (rdW 8 s).2 with
  | none => (0, none)
  | some t => if Fl.fit (rdW 8 s).1 = true then (Fl.wd (rdW 8 s).1, some t) else (0, none)
def rdB (most : Nat) (s : Option (List UInt8)) : List UInt8 × Option (List UInt8) :=
  match (rdN most s).2 with
  | none => ([], none)
  | some t => if (rdN most s).1 ≤ t.length then (t.take (rdN most s).1, some (t.drop (rdN most s).1)) else ([], none)
def rdG : Option (List UInt8) → Bool × Option (List UInt8)
  | none => (false, none)
  | some [] => (false, none)
  | some (h :: t) => if h.toNat ≤ 1 then (h.toNat == 1, some t) else (false, none)
theorem rdW_fix {n k : Nat} (hk : k ≤ 8) (h : n < 256 ^ k) (t : List UInt8) : rdW k (some (fix n k ++ t)) = (n, some t) := by
  have e3 : (fix n k ++ t).take k = fix n k := by rw [List.take_append_of_le_length (by rw [fix_len]; exact Nat.le_refl _), List.take_of_length_le (by rw [fix_len]; exact Nat.le_refl _)]
  have e4 : (fix n k ++ t).drop k = t := by
    have := List.drop_left (l₁ := fix n k) (l₂ := t)
    rwa [fix_len] at this
  simp only [rdW]
  rw [if_pos (by rw [List.length_append, fix_len]; omega)]
  simp only [e3, e4]
  rw [val_small (by rw [fix_len]; omega), ev_fix_lt h]
theorem key_nat (f : Nat) : (((Fl.key f).toNat : Nat) : Int) = Fl.key f := Int.toNat_of_nonneg (Fl.key_bound f).1
theorem key_pow (f : Nat) : (Fl.key f).toNat < 256 ^ 8 := by
  have h := Fl.key_bound f
  have h3 : (256 : Nat) ^ 8 = 18446744073709551616 := by decide
  omega
end Cd
open Go.RowKit
end
section
open Go.RowKit
set_option maxRecDepth 100000
section
variable {α : Type} {f : α → List Value} {size : Nat}
theorem cel_range {l : List α} (hf : ∀ x ∈ l, (f x).length = size) {k : Nat} {x : α} (h : l[k]? = some x) : ∀ (j : Nat) (v : Value), (f x)[j]? = some v → (l.flatMap f)[k * size + j]? = some v := by
 intro j v hv
 have hx := hf x (List.mem_of_getElem? h)
 have hj : j < size := by rw [← hx]; exact (List.getElem?_eq_some_iff.1 hv).1
 rw [cel_at hf h hj, hv]
end
section
variable {w : World}
variable {base : Nat} {e : TypeId} {size n c g : Nat} {xs : List Value}
end
section
variable {P : Program} {w : World} {t k e : TypeId} {b n : Nat} {D : DataW Value}
end
section
variable {P : Program} {w w' : World} {ops : Array Oper} {rest : List Oper} {o : Oper} {a : Act} {K : Act → World → Prop} {Q : Exit → Act → World → Prop} {E : Prop}
end
end
section
set_option maxRecDepth 100000
section
open Go.RowKit Go.Lib
namespace T9
end T9
theorem str_at {l : List UInt8} {s : ByteArray} (hs : s = str l) : s.size = l.length ∧ ∀ (n : Nat) (h : n < s.size), ((s[n]'h).toNat : Int) = ((l[n]!).toNat : Int) := by
  subst hs
  refine ⟨rfl, fun n h => ?_⟩
  have h' : n < l.length := h
  rw [getElem!_pos l n h']
  rfl
theorem all_take {p : UInt8 → Bool} {l : List UInt8} {i : Nat} (hi : i < l.length) : (l.take (i + 1)).all p = ((l.take i).all p && p l[i]!) := by
  rw [List.take_succ_eq_append_getElem hi, List.all_append, getElem!_pos l i hi]
  simp
theorem titleChar_c (c : UInt8) (w : World) : Calls Tryz.prog 95 #[.int .u8 (c.toNat : Int)] w fun e w' => e = .returned (.bool (T9.tc c)) ∧ w = w' := by
  have hc := c.toNat_lt
  go_enter Tryz.func95, Tryz.ntmps95
  go_wp2
  all_goals
    go_ret
    exact ⟨ret_bool (by unfold T9.tc; rw [Bool.eq_iff_iff]; simp; try omega), rfl⟩
theorem tagChar_c (c : UInt8) (w : World) : Calls Tryz.prog 96 #[.int .u8 (c.toNat : Int)] w fun e w' => e = .returned (.bool (T9.gc c)) ∧ w = w' := by
  have hc := c.toNat_lt
  go_enter Tryz.func96, Tryz.ntmps96
  go_wp2
  all_goals
    go_ret
    exact ⟨ret_bool (by unfold T9.gc; rw [Bool.eq_iff_iff]; simp; try omega), rfl⟩
set_option maxHeartbeats 400000 in
theorem isText_c {f : Nat} {p : UInt8 → Bool} (hf : ∀ (c : UInt8) (w : World), Calls Tryz.prog f #[.int .u8 (c.toNat : Int)] w fun e w' => e = .returned (.bool (p c)) ∧ w = w')
    (eg : ∀ args w, (callFunc f args).run Tryz.prog w = .ok (.enter f args) w) (l : List UInt8) (hl : l.length ≤ 1000000) (k : Nat) (w : World) :
    Calls Tryz.prog 94 #[.string (str l), .int .i64 (k : Int), .func (.func f) #[] #[]] w fun e w' => e = .returned (.bool (decide (1 ≤ l.length ∧ l.length ≤ k) && l.all p)) ∧ w = w' := by
  obtain ⟨s, hs⟩ : ∃ s, s = str l := ⟨_, rfl⟩
  obtain ⟨sz, hb⟩ := str_at hs
  rw [← hs]
  clear hs
  have SZ := Lib.hid sz
  by_cases h0 : 1 ≤ l.length ∧ l.length ≤ k
  · have k1 : ¬ s.size = 0 := by omega
    have k2 : (s.size : Int) ≤ (k : Int) := by omega
    have k3 : ¬ ((k : Int) < (s.size : Int)) := by omega
    have H0 := Lib.hid h0
    have sm : s.size ≤ 1000000 := by omega
    clear sz h0 hl
    go_enter Tryz.func94, Tryz.ntmps94
    go_wp2
    go_loopw [19] (fun s19 wr => ∃ i : Nat, s19 = .int .i64 i ∧ i ≤ s.size ∧ Hid ((l.take i).all p = true) ∧ w = wr) (fun s19 _ => s.size - (intOf s19).toNat)
    case atStart => exact ⟨0, rfl, Nat.zero_le _, Lib.hid (by simp), rfl⟩
    case round =>
      obtain ⟨i, rfl, hi, ha, rfl⟩ := hrel
      by_cases hlt : i < s.size
      · have hltz : (i : Int) < (s.size : Int) := by omega
        have hit := Lib.hid (all_take (p := p) (l := l) (i := i) (by have := SZ.out; omega))
        have ba := hb i hlt
        obtain ⟨x, hx⟩ : ∃ x, x = l[i]! := ⟨_, rfl⟩
        rw [← hx] at hit ba
        clear hx
        have hc := hf x
        cases hp : p x with
        | true =>
          rw [hp] at hc
          have HP := Lib.hid hp
          clear hp hb hf
          go_wp2_with fail
          refine (hc _).mono ?_
          rintro e w' ⟨rfl, rfl⟩
          go_wp2
          go_roundw
          case rel => exact ⟨i + 1, by go_num, by omega, Lib.hid (by rw [hit.out, ha.out, HP.out]; rfl), by simp⟩
          case measure => simp [intOf]; omega
        | false =>
          rw [hp] at hc
          have HP := Lib.hid hp
          clear hp hb hf
          go_wp2_with fail
          refine (hc _).mono ?_
          rintro e w' ⟨rfl, rfl⟩
          go_wp2
          go_ret
          refine ⟨ret_bool ?_, rfl⟩
          have : l.all p = false := by
            rw [← List.take_append_drop (i + 1) l, List.all_append, hit.out, HP.out]
            simp
          rw [this]
          simp
      · obtain rfl : i = s.size := by omega
        have hltz : ¬ ((s.size : Int) < (s.size : Int)) := by omega
        go_wp2
        go_ret
        refine ⟨ret_bool ?_, rfl⟩
        have h1 := ha.out
        rw [SZ.out, List.take_length] at h1
        rw [h1]
        simp [H0.out]
  · have H0 := Lib.hid h0
    have R : (decide (1 ≤ l.length ∧ l.length ≤ k) && l.all p) = false := by simp [h0]
    rw [R]
    by_cases h1 : s.size = 0
    · have k1 : ((s.size : Int) == 0) = true := by simp [h1]
      clear sz h0 hl R h1
      go_enter Tryz.func94, Tryz.ntmps94
      go_wp2
      go_ret
      exact ⟨rfl, rfl⟩
    · have k1 : ((s.size : Int) == 0) = false := by simp [h1]
      have k2 : ((k : Int) < (s.size : Int)) := by omega
      clear sz h0 hl R
      go_enter Tryz.func94, Tryz.ntmps94
      go_wp2
      go_ret
      exact ⟨rfl, rfl⟩
theorem title_c (l : List UInt8) (hl : l.length ≤ 1000000) (w : World) : Calls Tryz.prog 37 #[.string (str l)] w fun e w' => e = .returned (.bool (T9.title l)) ∧ w = w' := by
  have T : Calls Tryz.prog 94 #[.string (str l), .int .i64 ((60 : Nat) : Int), .func (.func 95) #[] #[]] w fun e w' => e = .returned (.bool (T9.title l)) ∧ w = w' := isText_c titleChar_c (by intro args w; rfl) l hl 60 w
  obtain ⟨b, hb⟩ : ∃ b, b = T9.title l := ⟨_, rfl⟩
  rw [← hb] at T ⊢
  go_enter Tryz.func37, Tryz.ntmps37
  go_wp2_with (go_at_call 94; refine T.mono ?_; rintro e w' ⟨rfl, rfl⟩)
  go_ret
  exact ⟨ret_bool hb.symm, rfl⟩
theorem tag_c (l : List UInt8) (hl : l.length ≤ 1000000) (w : World) : Calls Tryz.prog 38 #[.string (str l)] w fun e w' => e = .returned (.bool (T9.tag l)) ∧ w = w' := by
  have T : Calls Tryz.prog 94 #[.string (str l), .int .i64 ((16 : Nat) : Int), .func (.func 96) #[] #[]] w fun e w' => e = .returned (.bool (T9.tag l)) ∧ w = w' := isText_c tagChar_c (by intro args w; rfl) l hl 16 w
  obtain ⟨b, hb⟩ : ∃ b, b = T9.tag l := ⟨_, rfl⟩
  rw [← hb] at T ⊢
  go_enter Tryz.func38, Tryz.ntmps38
  go_wp2_with (go_at_call 94; refine T.mono ?_; rintro e w' ⟨rfl, rfl⟩)
  go_ret
  exact ⟨ret_bool hb.symm, rfl⟩
end
section
open Go.RowKit Go.Lib
namespace T9
def isC (b : Nat) : Bool := Fl.I b == Fl.I (Fl.canon b)
/-- Tags that rise behind a text, each of which may be. -/
def tagsUp : List UInt8 → List (List UInt8) → Bool
  | _, [] => true
  | a, t :: l => tag t && ltS a t && tagsUp t l
def fieldsE (t : Tk) : Int :=
  if title t.title = false then 94 else if (Fl.isN t.rank || !isC t.rank) = true then 100 else if isC t.est = false then 90 else if 4 < t.tags.length then 95 else if tagsUp [] t.tags = true then 0 else 94
def listsE (ahead : Nat) : List Li → Int
  | [] => 0
  | l :: r => if l.id ≤ ahead then 91 else if title l.name = false then 94 else listsE l.id r
def tasksE (ls : List Li) (ahead : Nat) : List Tk → Int
  | [] => 0
  | t :: r => if t.id ≤ ahead then 93 else if (ls.any fun l => l.id == t.list) = false then 91 else if fieldsE t ≠ 0 then fieldsE t else tasksE ls t.id r
def rightE (s : St) : Int :=
  if 20 < s.lists.length ∨ 60 < s.tasks.length then 95 else if listsE 0 s.lists ≠ 0 then listsE 0 s.lists else tasksE s.lists 0 s.tasks
end T9
theorem le_yes {a x : List UInt8} (h : T9.ltS a x = false) : Op.bytesLess x a = true ∨ Op.bytesLess x a = false ∧ (x == a) = true := by
  have h : ¬ a < x := by simpa [T9.ltS] using h
  rcases List.le_iff_lt_or_eq.1 (List.not_lt.1 h) with r | r
  · exact .inl (less_yes r)
  · subst r
    exact .inr ⟨less_no (List.lt_irrefl _), by simp⟩
theorem le_no {a x : List UInt8} (h : T9.ltS a x = true) : Op.bytesLess x a = false ∧ (x == a) = false := by
  have h : a < x := by simpa [T9.ltS] using h
  refine ⟨less_no fun q => List.lt_irrefl _ (List.lt_trans q h), ?_⟩
  rw [beq_eq_false_iff_ne]
  rintro rfl
  exact List.lt_irrefl _ h
theorem taskIsCanon_c (b : Nat) (w : World) :
    Calls Tryz.prog 156 #[.float .f64 b] w fun e w' => e = .returned (.bool (T9.isC b)) ∧ w = w' := by
  go_enter Tryz.func156, Tryz.ntmps156
  go_wp2_with (first | (go_at_call 93; refine (float64bits_c _ _).mono ?_; rintro e w' ⟨rfl, rfl⟩) | (go_at_call 74; refine (canon_c _ _).mono ?_; rintro e w' ⟨rfl, rfl⟩))
  go_ret
  exact ⟨rfl, rfl⟩
set_option maxHeartbeats 1000000 in
theorem rightFields_c {m : MTk} {w : World} (hm : m.fine w) (hs : m.t.short) :
    Calls Tryz.prog 107 #[.agg (encK m).toArray] w fun e w' => e = .returned (.int .i64 (T9.fieldsE m.t)) ∧ Below w.heap.size w w' := by
  obtain ⟨tk, A, c⟩ := m
  have hm : (⟨tk, A, c⟩ : MTk).fine w := hm
  have hs : tk.short := hs
  show Calls Tryz.prog 107 #[.agg (encK ⟨tk, A, c⟩).toArray] w fun e w' => e = .returned (.int .i64 (T9.fieldsE tk)) ∧ Below w.heap.size w w'
  have HM := Lib.hid hm
  have HS := Lib.hid hs
  obtain ⟨w1, hw1⟩ : ∃ u, w.alloc (.cells #[.int .u64 (tk.id : Int), .int .u64 (tk.list : Int), .string (str tk.title), .bool tk.done, .float .f64 tk.rank, .float .f64 tk.est, .slice A tk.tags.length c] 56) = u := ⟨_, rfl⟩
  have pb : w1.heap[w.heap.size]? = some (.cells #[.int .u64 (tk.id : Int), .int .u64 (tk.list : Int), .string (str tk.title), .bool tk.done, .float .f64 tk.rank, .float .f64 tk.est, .slice A tk.tags.length c] 56 (0, 0)) := by rw [← hw1]; exact heap_alloc_new w _
  have B1 : Hid (Below w.heap.size w w1) := Lib.hid (by rw [← hw1]; exact (Below.refl _ w).alloc (Nat.le_refl _) _)
  have GL1 : Hid (GL w1 A tk.tags) := Lib.hid (hm.gl.stay B1.out)
  obtain ⟨p0, p1, p2, p3, p4, p5, p6⟩ := seven_cells pb
  have TC := title_c tk.title hs.1
  clear hm hs pb
  cases hT : T9.title tk.title with
  | false =>
    rw [hT] at TC
    have R : Hid (T9.fieldsE tk = 94) := Lib.hid (by unfold T9.fieldsE; rw [if_pos hT])
    clear hT
    unfold encK
    go_enter Tryz.func107, Tryz.ntmps107
    go_wp2_with (go_at_call 37; refine (TC _).mono ?_; rintro e w' ⟨rfl, rfl⟩)
    go_ret
    exact ⟨ret_i64 R.out.symm, B1.out⟩
  | true =>
    rw [hT] at TC
    have HT := Lib.hid hT
    clear hT
    cases hN : Fl.isN tk.rank with
    | true =>
      have R : Hid (T9.fieldsE tk = 100) := Lib.hid (by unfold T9.fieldsE; rw [if_neg (by rw [HT.out]; simp), if_pos (by rw [hN]; rfl)])
      unfold encK
      go_enter Tryz.func107, Tryz.ntmps107
      go_wp2_with (first | (go_at_call 37; refine (TC _).mono ?_; rintro e w' ⟨rfl, rfl⟩) | (go_at_call 39; refine (class_c _ _).mono ?_; rintro e w' ⟨rfl, rfl⟩) | (go_at_call 156; refine (taskIsCanon_c _ _).mono ?_; rintro e w' ⟨rfl, rfl⟩))
      go_ret
      exact ⟨ret_i64 R.out.symm, B1.out⟩
    | false =>
      cases hR : T9.isC tk.rank with
      | false =>
        have R : Hid (T9.fieldsE tk = 100) := Lib.hid (by unfold T9.fieldsE; rw [if_neg (by rw [HT.out]; simp), if_pos (by rw [hN, hR]; rfl)])
        unfold encK
        go_enter Tryz.func107, Tryz.ntmps107
        go_wp2_with (first | (go_at_call 37; refine (TC _).mono ?_; rintro e w' ⟨rfl, rfl⟩) | (go_at_call 39; refine (class_c _ _).mono ?_; rintro e w' ⟨rfl, rfl⟩) | (go_at_call 156; refine (taskIsCanon_c _ _).mono ?_; rintro e w' ⟨rfl, rfl⟩))
        go_ret
        exact ⟨ret_i64 R.out.symm, B1.out⟩
      | true =>
        have HNR : Hid ((Fl.isN tk.rank || !T9.isC tk.rank) = false) := Lib.hid (by rw [hN, hR]; rfl)
        cases hE : T9.isC tk.est with
        | false =>
          have R : Hid (T9.fieldsE tk = 90) := Lib.hid (by unfold T9.fieldsE; rw [if_neg (by rw [HT.out]; simp), if_neg (by rw [HNR.out]; simp), if_pos hE])
          unfold encK
          go_enter Tryz.func107, Tryz.ntmps107
          go_wp2_with (first | (go_at_call 37; refine (TC _).mono ?_; rintro e w' ⟨rfl, rfl⟩) | (go_at_call 39; refine (class_c _ _).mono ?_; rintro e w' ⟨rfl, rfl⟩) | (go_at_call 156; refine (taskIsCanon_c _ _).mono ?_; rintro e w' ⟨rfl, rfl⟩))
          go_ret
          exact ⟨ret_i64 R.out.symm, B1.out⟩
        | true =>
          have HE : Hid (T9.isC tk.est = true) := Lib.hid hE
          by_cases hL : 4 < tk.tags.length
          · have R : Hid (T9.fieldsE tk = 95) := Lib.hid (by unfold T9.fieldsE; rw [if_neg (by rw [HT.out]; simp), if_neg (by rw [HNR.out]; simp), if_neg (by rw [HE.out]; simp), if_pos hL])
            have hLz : (4 : Int) < (tk.tags.length : Int) := by omega
            unfold encK
            go_enter Tryz.func107, Tryz.ntmps107
            go_wp2_with (first | (go_at_call 37; refine (TC _).mono ?_; rintro e w' ⟨rfl, rfl⟩) | (go_at_call 39; refine (class_c _ _).mono ?_; rintro e w' ⟨rfl, rfl⟩) | (go_at_call 156; refine (taskIsCanon_c _ _).mono ?_; rintro e w' ⟨rfl, rfl⟩))
            go_ret
            exact ⟨ret_i64 R.out.symm, B1.out⟩
          · have R : Hid (T9.fieldsE tk = if T9.tagsUp [] tk.tags = true then 0 else 94) := Lib.hid (by unfold T9.fieldsE; rw [if_neg (by rw [HT.out]; simp), if_neg (by rw [HNR.out]; simp), if_neg (by rw [HE.out]; simp), if_neg hL])
            have hLz : ¬ ((4 : Int) < (tk.tags.length : Int)) := by omega
            obtain ⟨n, hn⟩ : ∃ n, n = tk.tags.length := ⟨_, rfl⟩
            have HNL := Lib.hid hn
            rw [← hn] at hw1 p6 hLz
            have hsm : n ≤ 4 := by omega
            unfold encK
            rw [← hn]
            clear hL hn
            go_enter Tryz.func107, Tryz.ntmps107
            go_wp2_with (first | (go_at_call 37; refine (TC _).mono ?_; rintro e w' ⟨rfl, rfl⟩) | (go_at_call 39; refine (class_c _ _).mono ?_; rintro e w' ⟨rfl, rfl⟩) | (go_at_call 156; refine (taskIsCanon_c _ _).mono ?_; rintro e w' ⟨rfl, rfl⟩))
            go_loopw [3, 35] (fun s3 s35 wr => ∃ (i : Nat) (a : List UInt8), s35 = .int .i64 i ∧ s3 = .string (str a) ∧ i ≤ n ∧ Hid (T9.tagsUp [] tk.tags = T9.tagsUp a (tk.tags.drop i)) ∧ w1 = wr) (fun _ s35 _ => n - (intOf s35).toNat)
            case atStart => exact ⟨0, [], rfl, rfl, Nat.zero_le _, Lib.hid rfl, rfl⟩
            case round =>
              obtain ⟨i, a, rfl, rfl, hi, hU, rfl⟩ := hrel
              by_cases hlt : i < n
              · have hltz : (i : Int) < (n : Int) := by omega
                obtain ⟨ad, x, hA, hx, hc⟩ := GL1.out.at_ (k := i) (by have := HNL.out; omega)
                subst hA
                have HX := Lib.hid (HS.out.2.1 x (List.mem_of_getElem? hx))
                have U2 : Hid (T9.tagsUp [] tk.tags = (T9.tag x && T9.ltS a x && T9.tagsUp x (tk.tags.drop (i + 1)))) := Lib.hid (by
                  obtain ⟨q1, q2⟩ := List.getElem?_eq_some_iff.1 hx
                  rw [hU.out, List.drop_eq_getElem_cons q1, q2]
                  rfl)
                have TG := tag_c x HX.out
                cases hg : T9.tag x with
                | false =>
                  rw [hg] at TG
                  have R2 : Hid (T9.fieldsE tk = 94) := Lib.hid (by rw [R.out, U2.out, hg]; rfl)
                  go_wp2_with (go_at_call 38; refine (TG _).mono ?_; rintro e w' ⟨rfl, rfl⟩)
                  go_ret
                  exact ⟨ret_i64 R2.out.symm, B1.out⟩
                | true =>
                  rw [hg] at TG
                  cases hl : T9.ltS a x with
                  | false =>
                    have R2 : Hid (T9.fieldsE tk = 94) := Lib.hid (by rw [R.out, U2.out, hg, hl]; rfl)
                    rcases le_yes hl with b1 | ⟨b1, b2⟩
                    all_goals
                      clear hg hl
                      go_wp2_with (go_at_call 38; refine (TG _).mono ?_; rintro e w' ⟨rfl, rfl⟩)
                      go_ret
                      exact ⟨ret_i64 R2.out.symm, B1.out⟩
                  | true =>
                    obtain ⟨b1, b2⟩ := le_no hl
                    have R2 := Lib.hid (show T9.tagsUp [] tk.tags = T9.tagsUp x (tk.tags.drop (i + 1)) by rw [U2.out, hg, hl]; rfl)
                    clear hg hl
                    go_wp2_with (go_at_call 38; refine (TG _).mono ?_; rintro e w' ⟨rfl, rfl⟩)
                    go_roundw
                    case rel => exact ⟨i + 1, x, by go_num, rfl, by omega, R2, by simp⟩
                    case measure => simp [intOf]; omega
              · obtain rfl : i = n := by omega
                have hltz : ¬ ((i : Int) < (i : Int)) := by omega
                go_wp2
                go_ret
                refine ⟨ret_i64 ?_, B1.out⟩
                rw [R.out, hU.out, HNL.out, List.drop_length]
                rfl
end
section
open Go.RowKit Go.Lib
theorem tks_drop {ms : List MTk} {i : Nat} {m : MTk} (h : ms[i]? = some m) : (tks ms).drop i = m.t :: (tks ms).drop (i + 1) := by
  obtain ⟨q1, q2⟩ := List.getElem?_eq_some_iff.1 h
  have e := List.drop_eq_getElem_cons q1
  rw [q2] at e
  unfold tks
  rw [← List.map_drop, e, List.map_cons, List.map_drop]
theorem drop_at {α : Type} {ls : List α} {i : Nat} {l : α} (h : ls[i]? = some l) : ls.drop i = l :: ls.drop (i + 1) := by
  obtain ⟨q1, q2⟩ := List.getElem?_eq_some_iff.1 h
  rw [List.drop_eq_getElem_cons q1, q2]
theorem any_take {α : Type} {ls : List α} {p : α → Bool} {i : Nat} {l : α} (h : ls[i]? = some l) : (ls.take (i + 1)).any p = ((ls.take i).any p || p l) := by
  obtain ⟨q1, q2⟩ := List.getElem?_eq_some_iff.1 h
  rw [List.take_succ_eq_append_getElem q1, q2]
  simp
theorem any_hit {α : Type} {ls : List α} {p : α → Bool} {i : Nat} {l : α} (h : ls[i]? = some l) (hp : p l = true) : ls.any p = true := List.any_eq_true.2 ⟨l, List.mem_of_getElem? h, hp⟩
theorem listsE_step {l : T9.Li} {a : Nat} {r : List T9.Li} (h : ¬ l.id ≤ a) (k : T9.title l.name = true) : T9.listsE a (l :: r) = T9.listsE l.id r := by
  show (if l.id ≤ a then 91 else if T9.title l.name = false then 94 else T9.listsE l.id r) = _
  rw [if_neg h, if_neg (by rw [k]; simp)]
set_option maxHeartbeats 2000000 in
theorem rightTasks_c {A A2 : Option Addr} {n1 n2 c c2 : Nat} {ls : List T9.Li} {ms : List MTk} {w : World} (hl : LL w A ls) (hk : KL w A2 ms) (e1 : n1 = ls.length) (e2 : n2 = ms.length) (hs : (⟨ls, tks ms⟩ : T9.St).short) (hb : n1 ≤ c ∧ n2 ≤ c2) :
    Calls Tryz.prog 52 #[.agg #[.slice A n1 c, .slice A2 n2 c2]] w fun e w' => e = .returned (.int .i64 (T9.tasksE ls 0 (tks ms))) ∧ Below w.heap.size w w' := by
  have E1 := Lib.hid e1
  have E2 := Lib.hid e2
  have HS := Lib.hid hs
  obtain ⟨w1, hw1⟩ : ∃ u, w.alloc (.cells #[.slice A n1 c, .slice A2 n2 c2] 25) = u := ⟨_, rfl⟩
  obtain ⟨pb, b1, z1⟩ := new_two hw1
  have PB := Lib.hid pb
  have B1 := Lib.hid b1
  have HL := Lib.hid (hl.stay b1)
  have HK := Lib.hid (hk.stay b1)
  have Z1 := Lib.hid z1
  have sm1 : n1 ≤ 1000000 := by have := hs.2.2.1; simp at this; omega
  have sm2 : n2 ≤ 1000000 := by have := hs.2.2.2; rw [tks_len] at this; omega
  obtain ⟨p0, p1⟩ := two_cells pb
  clear hl hk e1 e2 hs pb b1 z1
  go_enter Tryz.func52, Tryz.ntmps52
  go_wp2
  go_step3
  go_wp2
  go_step3
  go_wp2
  go_loopw [3, 12] (fun s3 s12 wr => ∃ (a i : Nat), s3 = .int .u64 a ∧ s12 = .int .i64 i ∧ i ≤ n2 ∧ Hid (T9.tasksE ls 0 (tks ms) = T9.tasksE ls a ((tks ms).drop i)) ∧ Aside (Below w1.heap.size w1 wr)) (fun _ s12 _ => n2 - (intOf s12).toNat)
  case atStart => exact ⟨0, 0, rfl, rfl, Nat.zero_le _, Lib.hid rfl, Below.refl _ _⟩
  case round =>
    obtain ⟨wo, hwo⟩ : ∃ u, u = wr := ⟨_, rfl⟩
    subst hwo
    obtain ⟨a, i, rfl, rfl, hi, hU, hB⟩ := hrel
    have BR := Lib.hid hB.out
    clear hB
    by_cases hlt : i < n2
    · have hltz : (i : Int) < (n2 : Int) := by omega
      obtain ⟨ad, ⟨tk, A3, c3⟩, hA, hx, hf, r0, r1, r2, r3, r4, r5, r6⟩ := (HK.out.stay BR.out).at_ (k := i) (by have := E2.out; omega)
      subst hA
      have FI := Lib.hid hf
      have SH : Hid tk.short := Lib.hid (HS.out.2.1 tk (List.mem_map.2 ⟨_, List.mem_of_getElem? hx, rfl⟩))
      have U2 : Hid (T9.tasksE ls 0 (tks ms) = T9.tasksE ls a (tk :: (tks ms).drop (i + 1))) := Lib.hid (by rw [hU.out, tks_drop hx])
      dsimp only at r0 r1 r2 r3 r4 r5 r6
      obtain ⟨w2, hw2⟩ : ∃ u, wo.alloc (.cells #[.int .u64 (tk.id : Int), .int .u64 (tk.list : Int), .string (str tk.title), .bool tk.done, .float .f64 tk.rank, .float .f64 tk.est, .slice A3 tk.tags.length c3] 56) = u := ⟨_, rfl⟩
      obtain ⟨tb, b2, z2⟩ := new_seven hw2
      have TB := Lib.hid tb
      have B2 : Hid (Below w1.heap.size w1 w2) := Lib.hid (BR.out.trans (b2.mono BR.out.size))
      have B2' := Lib.hid b2
      have Z2 := Lib.hid z2
      have pb2 := (B2.out.block w.heap.size (by have := Z1.out; omega)).trans PB.out
      obtain ⟨t0, t1, t2, t3, t4, t5, t6⟩ := seven_cells tb
      obtain ⟨u0, u1⟩ := two_cells pb2
      clear hf hx tb b2 z2 pb2
      by_cases hid : tk.id ≤ a
      · have hz : (tk.id : Int) ≤ (a : Int) := by omega
        have R : Hid (T9.tasksE ls 0 (tks ms) = 93) := Lib.hid (by rw [U2.out]; unfold T9.tasksE; rw [if_pos hid])
        go_wp2
        rw [Exit.noGoto_ret]
        go_ret
        exact ⟨ret_i64 R.out.symm, B1.out.trans (B2.out.mono B1.out.size)⟩
      · have hz : ¬ ((tk.id : Int) ≤ (a : Int)) := by omega
        have NI := Lib.hid hid
        clear hid
        go_wp2
        go_loopw [25] (fun s25 wi => ∃ j : Nat, s25 = .int .i64 j ∧ j ≤ n1 ∧ Hid ((ls.take j).any (fun l => l.id == tk.list) = false) ∧ Aside (Below w2.heap.size w2 wi)) (fun s25 _ => n1 - (intOf s25).toNat)
        case atStart => exact ⟨0, rfl, Nat.zero_le _, Lib.hid (by simp), Below.refl _ _⟩
        case round =>
          obtain ⟨j, rfl, hj, hV, hC⟩ := hrel
          have CR := Lib.hid hC.out
          clear hC
          by_cases hlj : j < n1
          · have hljz : (j : Int) < (n1 : Int) := by omega
            obtain ⟨ad1, l, hA1, hx1, q0, q1⟩ := (HL.out.stay (B2.out.trans (CR.out.mono B2.out.size))).at_ (k := j) (by have := E1.out; omega)
            subst hA1
            have X1 := Lib.hid hx1
            obtain ⟨w3, hw3⟩ : ∃ u, wr.alloc (.cells #[.int .u64 (l.id : Int), .string (str l.name)] 51) = u := ⟨_, rfl⟩
            obtain ⟨lb, b3, z3⟩ := new_two hw3
            have B3 : Hid (Below w2.heap.size w2 w3) := Lib.hid (CR.out.trans (b3.mono CR.out.size))
            have tb3 := (B3.out.block wo.heap.size (by have := Z2.out; omega)).trans TB.out
            obtain ⟨t0, t1, t2, t3, t4, t5, t6⟩ := seven_cells tb3
            obtain ⟨l0, l1⟩ := two_cells lb
            clear hx1 lb b3 z3 tb3
            by_cases he : l.id = tk.list
            · have hez : ((l.id : Int) == (tk.list : Int)) = true := by rw [he]; simp
              have hez2 : ((l.id : Int) != (tk.list : Int)) = false := by rw [he]; simp
              have AN : Hid (¬ (ls.any fun l => l.id == tk.list) = false) := Lib.hid (by rw [any_hit X1.out (by simp [he])]; simp)
              have BF := Lib.hid (B2.out.trans (B3.out.mono B2.out.size))
              have RF : Hid (Calls Tryz.prog 107 #[.agg #[.int .u64 (tk.id : Int), .int .u64 (tk.list : Int), .string (str tk.title), .bool tk.done, .float .f64 tk.rank, .float .f64 tk.est, .slice A3 tk.tags.length c3]] w3 fun e w' => e = .returned (.int .i64 (T9.fieldsE tk)) ∧ Below w3.heap.size w3 w') := Lib.hid (rightFields_c (m := ⟨tk, A3, c3⟩) (FI.out.stay (B2'.out.trans (B3.out.mono B2'.out.size))) SH.out)
              clear he
              by_cases hf : T9.fieldsE tk = 0
              · have U3 : Hid (T9.tasksE ls 0 (tks ms) = T9.tasksE ls tk.id ((tks ms).drop (i + 1))) := Lib.hid (by rw [U2.out]; unfold T9.tasksE; rw [if_neg NI.out, if_neg AN.out, if_neg (by simp [hf])]; cases (tks ms).drop (i + 1) <;> rfl)
                rw [hf] at RF
                clear hf
                go_wp2_with fail
                refine RF.out.mono ?_
                rintro e w4 ⟨rfl, h4⟩
                have H4 := Lib.hid h4
                clear h4
                go_wp2
                go_roundw
                case rel => exact ⟨tk.id, i + 1, rfl, by go_num, by omega, U3, (BF.out.trans (H4.out.mono BF.out.size))⟩
                case measure => simp [intOf]; omega
              · have R : Hid (T9.tasksE ls 0 (tks ms) = T9.fieldsE tk) := Lib.hid (by rw [U2.out]; unfold T9.tasksE; rw [if_neg NI.out, if_neg AN.out, if_pos hf])
                have hfz : (T9.fieldsE tk == 0) = false := by simp [hf]
                have hfz2 : (T9.fieldsE tk != 0) = true := by simp [hf]
                go_wp2_with fail
                refine RF.out.mono ?_
                rintro e w4 ⟨rfl, h4⟩
                have H4 := Lib.hid h4
                clear h4
                go_wp2
                rw [Exit.noGoto_ret]
                go_ret
                exact ⟨ret_i64 R.out.symm, B1.out.trans ((BF.out.trans (H4.out.mono BF.out.size)).mono B1.out.size)⟩
            · have hez : ((l.id : Int) == (tk.list : Int)) = false := by simp; omega
              have hez2 : ((l.id : Int) != (tk.list : Int)) = true := by simp; omega
              have AN : Hid ((ls.take (j + 1)).any (fun l => l.id == tk.list) = false) := Lib.hid (by rw [any_take X1.out, hV.out]; simp [he])
              clear he
              go_wp2
              go_roundw
              case rel => exact ⟨j + 1, by go_num, by omega, AN, B3.out⟩
              case measure => simp [intOf]; omega
          · obtain rfl : j = n1 := by omega
            have hljz : ¬ ((j : Int) < (j : Int)) := by omega
            have R : Hid (T9.tasksE ls 0 (tks ms) = 91) := Lib.hid (by
              have := hV.out
              rw [E1.out, List.take_length] at this
              rw [U2.out]; unfold T9.tasksE; rw [if_neg NI.out, if_pos this])
            have BF := Lib.hid (B2.out.trans (CR.out.mono B2.out.size))
            go_wp2
            try rw [Exit.noGoto_ret]
            go_ret
            exact ⟨ret_i64 R.out.symm, B1.out.trans (BF.out.mono B1.out.size)⟩
    · obtain rfl : i = n2 := by omega
      have hltz : ¬ ((i : Int) < (i : Int)) := by omega
      have R : Hid (T9.tasksE ls 0 (tks ms) = 0) := Lib.hid (by rw [hU.out, E2.out, ← tks_len ms, List.drop_length]; rfl)
      go_wp2
      try rw [Exit.noGoto_ret]
      go_ret
      exact ⟨ret_i64 R.out.symm, B1.out.trans (BR.out.mono B1.out.size)⟩
set_option maxHeartbeats 2000000 in
theorem right_c {A A2 : Option Addr} {n1 n2 c c2 : Nat} {ls : List T9.Li} {ms : List MTk} {w : World} (hl : LL w A ls) (hk : KL w A2 ms) (e1 : n1 = ls.length) (e2 : n2 = ms.length) (hs : (⟨ls, tks ms⟩ : T9.St).short) (hb : n1 ≤ c ∧ n2 ≤ c2) :
    Calls Tryz.prog 20 #[.agg #[.slice A n1 c, .slice A2 n2 c2]] w fun e w' => e = .returned (.int .i64 (T9.rightE ⟨ls, tks ms⟩)) ∧ Below w.heap.size w w' := by
  have E1 := Lib.hid e1
  have E2 := Lib.hid e2
  have HS := Lib.hid hs
  obtain ⟨w1, hw1⟩ : ∃ u, w.alloc (.cells #[.slice A n1 c, .slice A2 n2 c2] 25) = u := ⟨_, rfl⟩
  obtain ⟨pb, b1, z1⟩ := new_two hw1
  have PB := Lib.hid pb
  have B1 := Lib.hid b1
  have HL := Lib.hid (hl.stay b1)
  have HK := Lib.hid (hk.stay b1)
  have Z1 := Lib.hid z1
  have sm1 : n1 ≤ 1000000 := by have := hs.2.2.1; simp at this; omega
  have sm2 : n2 ≤ 1000000 := by have := hs.2.2.2; rw [tks_len] at this; omega
  obtain ⟨p0, p1⟩ := two_cells pb
  have ET : Hid ((tks ms).length = n2) := Lib.hid (by rw [tks_len]; exact e2.symm)
  have HBC := Lib.hid hb
  clear hl hk e1 e2 hs pb b1 z1 hb
  by_cases hm1 : 20 < n1
  · have hmz : (20 : Int) < (n1 : Int) := by omega
    have R : Hid (T9.rightE ⟨ls, tks ms⟩ = 95) := Lib.hid (by unfold T9.rightE; rw [if_pos (.inl (by rw [← E1.out]; exact hm1))])
    go_enter Tryz.func20, Tryz.ntmps20
    go_wp2
    go_ret
    exact ⟨ret_i64 R.out.symm, B1.out⟩
  have hmz : ¬ ((20 : Int) < (n1 : Int)) := by omega
  by_cases hm2 : 60 < n2
  · have hmz2 : (60 : Int) < (n2 : Int) := by omega
    have R : Hid (T9.rightE ⟨ls, tks ms⟩ = 95) := Lib.hid (by unfold T9.rightE; rw [if_pos (.inr (by rw [ET.out]; exact hm2))])
    go_enter Tryz.func20, Tryz.ntmps20
    go_wp2
    go_ret
    exact ⟨ret_i64 R.out.symm, B1.out⟩
  have hmz2 : ¬ ((60 : Int) < (n2 : Int)) := by omega
  have R : Hid (T9.rightE ⟨ls, tks ms⟩ = if T9.listsE 0 ls ≠ 0 then T9.listsE 0 ls else T9.tasksE ls 0 (tks ms)) := Lib.hid (by unfold T9.rightE; rw [if_neg (by rw [ET.out, ← E1.out]; omega)])
  clear hm1 hm2
  go_enter Tryz.func20, Tryz.ntmps20
  go_wp2
  go_loopw [3, 19] (fun s3 s19 wr => ∃ (a i : Nat), s3 = .int .u64 a ∧ s19 = .int .i64 i ∧ i ≤ n1 ∧ Hid (T9.listsE 0 ls = T9.listsE a (ls.drop i)) ∧ Aside (Below w1.heap.size w1 wr)) (fun _ s19 _ => n1 - (intOf s19).toNat)
  case atStart => exact ⟨0, 0, rfl, rfl, Nat.zero_le _, Lib.hid rfl, Below.refl _ _⟩
  case round =>
    obtain ⟨a, i, rfl, rfl, hi, hU, hB⟩ := hrel
    have BR := Lib.hid hB.out
    clear hB
    have pbr := (BR.out.block w.heap.size (by have := Z1.out; omega)).trans PB.out
    by_cases hlt : i < n1
    · have hltz : (i : Int) < (n1 : Int) := by omega
      obtain ⟨ad, l, hA, hx, q0, q1⟩ := (HL.out.stay BR.out).at_ (k := i) (by have := E1.out; omega)
      subst hA
      have SH : Hid (l.name.length ≤ 1000000) := Lib.hid (HS.out.1 l (List.mem_of_getElem? hx))
      have U2 : Hid (T9.listsE 0 ls = T9.listsE a (l :: ls.drop (i + 1))) := Lib.hid (by rw [hU.out, drop_at hx])
      obtain ⟨w2, hw2⟩ : ∃ u, wr.alloc (.cells #[.int .u64 (l.id : Int), .string (str l.name)] 51) = u := ⟨_, rfl⟩
      obtain ⟨lb, b2, z2⟩ := new_two hw2
      have B2 : Hid (Below w1.heap.size w1 w2) := Lib.hid (BR.out.trans (b2.mono BR.out.size))
      obtain ⟨l0, l1⟩ := two_cells lb
      clear hx lb b2 z2 pbr
      by_cases hid : l.id ≤ a
      · have hz : (l.id : Int) ≤ (a : Int) := by omega
        have R2 : Hid (T9.rightE ⟨ls, tks ms⟩ = 91) := Lib.hid (by
          have : T9.listsE 0 ls = 91 := by rw [U2.out]; unfold T9.listsE; rw [if_pos hid]
          rw [R.out, this]; rfl)
        go_wp2
        go_ret
        exact ⟨ret_i64 R2.out.symm, B1.out.trans (B2.out.mono B1.out.size)⟩
      · have hz : ¬ ((l.id : Int) ≤ (a : Int)) := by omega
        have NI := Lib.hid hid
        have TC := title_c l.name SH.out
        clear hid
        cases hT : T9.title l.name with
        | false =>
          rw [hT] at TC
          have R2 : Hid (T9.rightE ⟨ls, tks ms⟩ = 94) := Lib.hid (by
            have : T9.listsE 0 ls = 94 := by rw [U2.out]; unfold T9.listsE; rw [if_neg NI.out, if_pos hT]
            rw [R.out, this]; rfl)
          clear hT
          go_wp2_with (go_at_call 37; refine (TC _).mono ?_; rintro e w' ⟨rfl, rfl⟩)
          go_ret
          exact ⟨ret_i64 R2.out.symm, B1.out.trans (B2.out.mono B1.out.size)⟩
        | true =>
          rw [hT] at TC
          have U3 : Hid (T9.listsE 0 ls = T9.listsE l.id (ls.drop (i + 1))) := Lib.hid (U2.out.trans (listsE_step NI.out hT))
          clear hT
          go_wp2_with (go_at_call 37; refine (TC _).mono ?_; rintro e w' ⟨rfl, rfl⟩)
          go_roundw
          case rel => exact ⟨l.id, i + 1, rfl, by go_num, by omega, U3, B2.out⟩
          case measure => simp [intOf]; omega
    · obtain rfl : i = n1 := by omega
      have hltz : ¬ ((i : Int) < (i : Int)) := by omega
      have R2 : Hid (T9.rightE ⟨ls, tks ms⟩ = T9.tasksE ls 0 (tks ms)) := Lib.hid (by
        have : T9.listsE 0 ls = 0 := by rw [hU.out, E1.out, List.drop_length]; rfl
        rw [R.out, this]; rfl)
      have RT := Lib.hid (rightTasks_c (HL.out.stay BR.out) (HK.out.stay BR.out) E1.out E2.out HS.out HBC.out)
      obtain ⟨r0, r1⟩ := two_cells pbr
      clear pbr
      go_wp2_with fail
      refine RT.out.mono ?_
      rintro e w4 ⟨rfl, h4⟩
      have H4 := Lib.hid h4
      clear h4
      go_wp2
      go_ret
      exact ⟨ret_i64 R2.out.symm, B1.out.trans ((BR.out.trans (H4.out.mono BR.out.size)).mono B1.out.size)⟩
end
end
section
set_option maxRecDepth 100000
section
section
open Go.RowKit
section
variable {P : Program} (w : World)
end
end
section
open Go.RowKit
section
variable {F G : Nat → Prop} {B B' : Nat} {w w' w'' : World}
theorem But.mono (h : But F B w w') (hB : B' ≤ B) (hF : ∀ k, F k → G k) : But G B' w w' := ⟨h.os, h.tape, h.output, h.size, fun k hk hf => h.block k (by omega) (fun q => hf (hF k q))⟩
end
theorem InF.mono {F G : Nat → Prop} {A : Option Addr} (h : InF F A) (hF : ∀ k, F k → G k) : InF G A := fun ad e => hF _ (h ad e)
end
section
variable {P : Program} (w : World)
end
end
section
section
variable {P : Program} {ops : Array Oper} {Q : Exit → Act → World → Prop} {md : Region.Mode} {S : World → Prop} {st : Nat}
end
end
end
section
set_option maxRecDepth 100000
section
open Go.RowKit
section
variable {B : Nat} {w w' : World} {p : Nat} {l : List UInt8}
end
end
section
open Go.RowKit
section
variable {w w' : World} {B B' : Nat} {tp tb tp' tb' : TypeId} {A : Option Addr} {ms : List MPt}
theorem PL.old (h : PL w B tp tb A ms) : PL w w.heap.size tp' tb' A ms := ⟨h.1.old, fun m hm => ⟨(h.2 m hm).1.old, (h.2 m hm).2⟩⟩
end
end
section
open Go.RowKit
end
end
section
set_option maxRecDepth 100000
section
section
namespace T9
/-- So many things, one behind the other. -/
def many {α : Type} (f : Option (List UInt8) → α × Option (List UInt8)) : Nat → Option (List UInt8) → List α × Option (List UInt8)
 | 0, s => ([], s)
 | n + 1, s => ((f s).1 :: (many f n (f s).2).1, (many f n (f s).2).2)
def rdLi (s : Option (List UInt8)) : Li × Option (List UInt8) :=
 (⟨(Cd.rdN Cd.full s).1, (Cd.rdB 60 (Cd.rdN Cd.full s).2).1⟩, (Cd.rdB 60 (Cd.rdN Cd.full s).2).2)
def s1 (s : Option (List UInt8)) := (Cd.rdN Cd.full s).2
def s2 (s : Option (List UInt8)) := (Cd.rdN Cd.full (s1 s)).2
def s3 (s : Option (List UInt8)) := (Cd.rdB 60 (s2 s)).2
def s4 (s : Option (List UInt8)) := (Cd.rdG (s3 s)).2
def s5 (s : Option (List UInt8)) := (Cd.rdF (s4 s)).2
def s6 (s : Option (List UInt8)) := (Cd.rdF (s5 s)).2
def s7 (s : Option (List UInt8)) := (Cd.rdN 60 (s6 s)).2
def tagsN (s : Option (List UInt8)) := (Cd.rdN 60 (s6 s)).1
/-- A task that is read. -/
def rdTk (s : Option (List UInt8)) : Tk × Option (List UInt8) :=
 (⟨(Cd.rdN Cd.full s).1, (Cd.rdN Cd.full (s1 s)).1, (Cd.rdB 60 (s2 s)).1, (Cd.rdG (s3 s)).1, (Cd.rdF (s4 s)).1, (Cd.rdF (s5 s)).1, (many (Cd.rdB 60) (tagsN s) (s7 s)).1⟩, (many (Cd.rdB 60) (tagsN s) (s7 s)).2)
/-- What is read of a state, and what is left. -/
def rdSt (s : Option (List UInt8)) : St × Option (List UInt8) :=
 let a := Cd.rdN 60 s
 let ls := many rdLi a.1 a.2
 let b := Cd.rdN 60 ls.2
 let ts := many rdTk b.1 b.2
 (⟨ls.1, ts.1⟩, ts.2)
/-- The state that bytes are. -/
def of (b : List UInt8) : St × Int := if (rdSt (some b)).2 = some [] ∧ rightE (rdSt (some b)).1 = 0 then ((rdSt (some b)).1, 0) else (⟨[], []⟩, 90)
theorem rdF_key {a : Nat} (h : a < 18446744073709551616) (t : List UInt8) : Cd.rdF (some (Cd.fix (Fl.key a).toNat 8 ++ t)) = (Fl.canon a, some t) := by
 have q := Fl.fit_key h
 unfold Cd.rdF
 rw [Cd.rdW_fix (by omega) (Cd.key_pow a)]
 simp only [Cd.key_nat, q.1, q.2, if_true]
end T9
end
section
namespace T9
theorem same_key {a b : Nat} (h : Fl.same a b = true) : Fl.key a = Fl.key b := by
 unfold Fl.same at h
 simpa using h
end T9
end
end
section
open Go.RowKit Go.Lib
end
section
open Go.RowKit Go.Lib
end
section
open Go.RowKit Go.Lib Go.Sort
section
variable {P : Program} {ops : Array Oper} {Q : Exit → Act → World → Prop} {md : Region.Mode} {S S' : World → Prop}
end
end
end
section
set_option maxRecDepth 100000
set_option linter.unusedSimpArgs false
section
open Go.RowKit Go.Lib Go.Shelf Go.Maps
/-- The one laid over the other one. -/
def overN (f2 f1 : Nat → Option Value) (k : Nat) : Option Value := if (f2 k).isSome then f2 k else f1 k
def partN (f2 f1 : Nat → Option Value) (left : Lit → Bool) (k : Nat) : Option Value := if (f2 k).isSome && !left (nkey k) then f2 k else f1 k
theorem part_start {D : DataW Value} {f2 f1 : Nat → Option Value} (h : ∀ k, Maps.has D (nkey k) = (f2 k).isSome) : partN f2 f1 (Maps.has D) = f1 := by
  funext k
  unfold partN
  rw [h k]
  cases (f2 k).isSome <;> simp
theorem part_end {f2 f1 : Nat → Option Value} {left : Lit → Bool} (h : ∀ kl, left kl = false) : partN f2 f1 left = overN f2 f1 := by
  funext k
  unfold partN overN
  rw [h]
  simp
theorem part_step {f2 f1 : Nat → Option Value} {left : Lit → Bool} {x : Nat} {v : Value} (h : f2 x = some v) : partN f2 f1 (fun z => left z && !z.sameKey (nkey x)) = fun j => if j = x then some v else partN f2 f1 left j := by
  funext j
  unfold partN
  by_cases e : j = x
  · subst e
    simp [h, WideAt.sameKey_self (nkey_lit j)]
  · have q : (nkey j).sameKey (nkey x) = false := Maps.sameKey_ne (fun q => e (nkey_inj.1 q))
    simp [e, q]
theorem Bt.grown2 {g : Nat} {v u u' : World} (h : Bt g v u) (hg : u.grownBy u' (some g)) : Bt g v u' :=
  ⟨hg.os.trans h.os, hg.tape.trans h.tape, hg.output.trans h.output, Nat.le_trans h.size hg.size, fun k hk hn => (hg.block k (Nat.lt_of_lt_of_le hk h.size) (fun e => by injection e with e; exact hn e)).trans (h.block k hk hn)⟩
set_option maxRecDepth 100000 in
set_option maxHeartbeats 4000000 in
theorem cpyL_c {w : World} {m1 m2 n1 n2 : Nat} {f1 f2 : Nat → Option Value} (h1 : UM w m1 n1 f1) (h2 : UM w m2 n2 f2) (hne : m1 ≠ m2) (hv : ∀ k v, f2 k = some v → ∃ l, v = vL l) (hn : n1 + n2 ≤ 1000000) :
    Calls Tryz.prog 108 #[.map (some m1), .map (some m2)] w fun e w' => e = .returned (.tuple #[]) ∧ UM w' m1 (n1 + n2) (overN f2 f1) ∧ Bt m1 w w' := by
  obtain ⟨D, own, hhas, hval⟩ := h2.out
  have sz := own.size_le
  have H1 := Lib.hid h1
  have HV := Lib.hid hv
  have HH := Lib.hid hhas
  have HW := Lib.hid hval
  have L1 := Lib.hid h1.lt
  have L2 := Lib.hid own.lt
  clear h1 h2 hv hhas hval
  go_enter Tryz.func108, Tryz.ntmps108
  go_wp2_with (first | (at_range; refine wpList_range_own _ rfl _ 129 rfl 26 _ u64K Tryz.underlying129 anyV m2 n2 D rfl own ?_; intro w0 hrg0 hg0 hs0) | fail)
  go_frame
  go_loopw [] (fun wr => ∃ (left : Lit → Bool) (cnt m : Nat), wr.ranges Tryz.prog 26 anyV m2 w.heap.size n2 D left cnt ∧ m + cnt ≤ n1 + n2 ∧ Hid (UM wr m1 m (partN f2 f1 left)) ∧ Hid (Bt m1 w wr))
    (fun wr => wr.rangeLeft m2 w.heap.size)
  case atStart => exact ⟨_, _, n1, hrg0, by omega, Lib.hid (by rw [part_start HH.out]; exact H1.out.kept hg0 (by simp)), Lib.hid ((Bt.refl _ _).grown hg0 (fun k e => by cases e))⟩
  case round =>
    obtain ⟨left, cnt, m, hrg, hm, HU, BT⟩ := hrel
    go_wp2_with (first | (at_next; refine wpList_next_ranges _ rfl _ rfl 26 u64K anyV encU id (fun key kl hk => by obtain ⟨x, hx, _⟩ := nkey_of hk; exact ⟨x, hx⟩) (fun v _ _ => ⟨v, rfl⟩) m2 w.heap.size n2 D _ _ rfl hrg ?_ ?_) | fail)
    · intro _ hl0
      go_wp2
      go_end0
      exact ⟨rfl, by rw [← part_end hl0]; exact HU.out.up (by omega), BT.out⟩
    · intro x c kl yd yp w2 cnt2 hkey hlk hv hat hrg2 hlt hg2 hs2 hen
      obtain ⟨x', ex, rfl, hx64⟩ := nkey_of hkey
      obtain rfl : x = x' := by unfold encU at ex; injection ex with _ ex; omega
      have hf : f2 x = some c := by
        have q := HH.out x
        rw [has_true_of_atKey hat] at q
        obtain ⟨v, hv2⟩ := Option.isSome_iff_exists.1 q.symm
        have r := (HW.out x v hv2 (.held v)).symm.trans (hat _)
        have y := anyV_inv hv
        injection y with y _
        rw [y] at r
        injection r with r
        rw [hv2, r]
      obtain ⟨l, rfl⟩ := HV.out x c hf
      have HFx := Lib.hid hf
      have U2 := Lib.hid (HU.out.kept hg2 (fun q => by injection q with q; have := L1.out; omega))
      have BT2 := Lib.hid (BT.out.grown hg2 (fun k e => by cases e; exact Nat.le_refl _))
      obtain ⟨w3, hw3⟩ : ∃ u, w2.alloc (.cells #[.int .u64 (l.id : Int), .string (str l.name)] 51) = u := ⟨_, rfl⟩
      obtain ⟨lb, b3, z3⟩ := new_two hw3
      have hrg3 := hrg2.alloc (.cells #[.int .u64 (l.id : Int), .string (str l.name)] 51)
      rw [hw3] at hrg3
      have U3 := Lib.hid (U2.out.below b3 U2.out.lt)
      have BT3 := Lib.hid (BT2.out.stay b3)
      obtain ⟨w4, hput, hU4, hg4⟩ := U3.out.put Tryz.underlying129 (by unfold maxLen; omega) hx64 (vL l)
      have hrg4 := hrg3.kept hg4 (fun q => by injection q with q; exact hne q.symm) (fun q => by injection q with q; have := L1.out; omega)
      obtain ⟨l0, l1⟩ := two_cells lb
      have U4 := Lib.hid hU4
      have G4 := Lib.hid hg4
      have PS := Lib.hid (part_step (f1 := f1) (left := left) hf)
      clear hat hkey hf hs2 lb b3 hU4 hg4 hrg3 hv
      unfold vL encL at hen hput
      unfold encU at hen hput
      go_wp2_with fail
      go_roundw
      case rel => exact ⟨_, cnt2, m + 1, hrg4, by omega, Lib.hid (by rw [PS.out]; exact U4.out), Lib.hid (BT3.out.grown2 G4.out)⟩
      case measure => rw [hrg4.left_eq, hrg.left_eq]; exact hlt
set_option maxRecDepth 100000 in
set_option maxHeartbeats 4000000 in
theorem cpyK_c {w : World} {m1 m2 n1 n2 : Nat} {f1 f2 : Nat → Option Value} (h1 : UM w m1 n1 f1) (h2 : UM w m2 n2 f2) (hne : m1 ≠ m2) (hv : ∀ k v, f2 k = some v → ∃ l, v = vK l) (hn : n1 + n2 ≤ 1000000) :
    Calls Tryz.prog 109 #[.map (some m1), .map (some m2)] w fun e w' => e = .returned (.tuple #[]) ∧ UM w' m1 (n1 + n2) (overN f2 f1) ∧ Bt m1 w w' := by
  obtain ⟨D, own, hhas, hval⟩ := h2.out
  have sz := own.size_le
  have H1 := Lib.hid h1
  have HV := Lib.hid hv
  have HH := Lib.hid hhas
  have HW := Lib.hid hval
  have L1 := Lib.hid h1.lt
  have L2 := Lib.hid own.lt
  clear h1 h2 hv hhas hval
  go_enter Tryz.func109, Tryz.ntmps109
  go_wp2_with (first | (at_range; refine wpList_range_own _ rfl _ 132 rfl 26 _ u64K Tryz.underlying132 anyV m2 n2 D rfl own ?_; intro w0 hrg0 hg0 hs0) | fail)
  go_frame
  go_loopw [] (fun wr => ∃ (left : Lit → Bool) (cnt m : Nat), wr.ranges Tryz.prog 26 anyV m2 w.heap.size n2 D left cnt ∧ m + cnt ≤ n1 + n2 ∧ Hid (UM wr m1 m (partN f2 f1 left)) ∧ Hid (Bt m1 w wr))
    (fun wr => wr.rangeLeft m2 w.heap.size)
  case atStart => exact ⟨_, _, n1, hrg0, by omega, Lib.hid (by rw [part_start HH.out]; exact H1.out.kept hg0 (by simp)), Lib.hid ((Bt.refl _ _).grown hg0 (fun k e => by cases e))⟩
  case round =>
    obtain ⟨left, cnt, m, hrg, hm, HU, BT⟩ := hrel
    go_wp2_with (first | (at_next; refine wpList_next_ranges _ rfl _ rfl 26 u64K anyV encU id (fun key kl hk => by obtain ⟨x, hx, _⟩ := nkey_of hk; exact ⟨x, hx⟩) (fun v _ _ => ⟨v, rfl⟩) m2 w.heap.size n2 D _ _ rfl hrg ?_ ?_) | fail)
    · intro _ hl0
      go_wp2
      go_end0
      exact ⟨rfl, by rw [← part_end hl0]; exact HU.out.up (by omega), BT.out⟩
    · intro x c kl yd yp w2 cnt2 hkey hlk hv hat hrg2 hlt hg2 hs2 hen
      obtain ⟨x', ex, rfl, hx64⟩ := nkey_of hkey
      obtain rfl : x = x' := by unfold encU at ex; injection ex with _ ex; omega
      have hf : f2 x = some c := by
        have q := HH.out x
        rw [has_true_of_atKey hat] at q
        obtain ⟨v, hv2⟩ := Option.isSome_iff_exists.1 q.symm
        have r := (HW.out x v hv2 (.held v)).symm.trans (hat _)
        have y := anyV_inv hv
        injection y with y _
        rw [y] at r
        injection r with r
        rw [hv2, r]
      obtain ⟨⟨tk, A4, c4⟩, rfl⟩ := HV.out x c hf
      have HFx := Lib.hid hf
      have U2 := Lib.hid (HU.out.kept hg2 (fun q => by injection q with q; have := L1.out; omega))
      have BT2 := Lib.hid (BT.out.grown hg2 (fun k e => by cases e; exact Nat.le_refl _))
      obtain ⟨w3, hw3⟩ : ∃ u, w2.alloc (.cells #[.int .u64 (tk.id : Int), .int .u64 (tk.list : Int), .string (str tk.title), .bool tk.done, .float .f64 tk.rank, .float .f64 tk.est, .slice A4 tk.tags.length c4] 56) = u := ⟨_, rfl⟩
      obtain ⟨lb, b3, z3⟩ := new_seven hw3
      have hrg3 := hrg2.alloc (.cells #[.int .u64 (tk.id : Int), .int .u64 (tk.list : Int), .string (str tk.title), .bool tk.done, .float .f64 tk.rank, .float .f64 tk.est, .slice A4 tk.tags.length c4] 56)
      rw [hw3] at hrg3
      have U3 := Lib.hid (U2.out.below b3 U2.out.lt)
      have BT3 := Lib.hid (BT2.out.stay b3)
      obtain ⟨w4, hput, hU4, hg4⟩ := U3.out.put Tryz.underlying132 (by unfold maxLen; omega) hx64 (vK (⟨tk, A4, c4⟩ : MTk))
      have hrg4 := hrg3.kept hg4 (fun q => by injection q with q; exact hne q.symm) (fun q => by injection q with q; have := L1.out; omega)
      obtain ⟨l0, l1, l2, l3, l4, l5, l6⟩ := seven_cells lb
      have U4 := Lib.hid hU4
      have G4 := Lib.hid hg4
      have PS := Lib.hid (part_step (f1 := f1) (left := left) hf)
      clear hat hkey hf hs2 lb b3 hU4 hg4 hrg3 hv
      unfold vK encK at hen hput
      unfold encU at hen hput
      go_wp2_with fail
      go_roundw
      case rel => exact ⟨_, cnt2, m + 1, hrg4, by omega, Lib.hid (by rw [PS.out]; exact U4.out), Lib.hid (BT3.out.grown2 G4.out)⟩
      case measure => rw [hrg4.left_eq, hrg.left_eq]; exact hlt
end
end
section
set_option maxRecDepth 100000
set_option linter.unusedSimpArgs false
section
open Go.RowKit Go.Lib Go.Shelf
/-- What is left of a list. -/
def minN {α : Type} (g : α → Nat) (ls : List α) (gs : List Nat) (k : Nat) : Option α := if k ∈ gs then none else firstN g ls k
/-- What stands at a number behind all. -/
def resN {α : Type} (g : α → Nat) (ls : List α) (gs : List Nat) (ps : List α) (k : Nat) : Option α := if (firstN g ps k).isSome then firstN g ps k else minN g ls gs k
theorem first_id {α : Type} {g : α → Nat} {ls : List α} {k : Nat} {x : α} (h : firstN g ls k = some x) : g x = k := by
  unfold firstN at h
  have := List.find?_some h
  simpa using this
theorem res_id {α : Type} {g : α → Nat} {ls : List α} {gs : List Nat} {ps : List α} {k : Nat} {x : α} (h : resN g ls gs ps k = some x) : g x = k := by
  unfold resN minN at h
  split at h
  · exact first_id h
  · split at h
    · cases h
    · exact first_id h
theorem min_zero {α : Type} {g : α → Nat} {ls : List α} {v : α → Value} : (fun k => (minN g ls [] k).map v) = fun k => (firstN g ls k).map v := by
  funext k
  simp [minN]
theorem min_step {α : Type} {g : α → Nat} {ls : List α} {v : α → Value} {gs : List Nat} {i n : Nat} (h : gs[i]? = some n) : (fun k => (minN g ls (gs.take (i + 1)) k).map v) = fun j => if j = n then none else (minN g ls (gs.take i) j).map v := by
  funext k
  rw [take_nxt h]
  unfold minN
  by_cases e : k = n
  · subst e; simp
  · simp [e]
theorem over_res {α : Type} {g : α → Nat} {ls : List α} {gs : List Nat} {ps : List α} {v : α → Value} : overN (fun k => (firstN g ps k).map v) (fun k => (minN g ls gs k).map v) = fun k => (resN g ls gs ps k).map v := by
  funext k
  unfold overN resN
  show (if ((firstN g ps k).map v).isSome = true then (firstN g ps k).map v else (minN g ls gs k).map v) = (if (firstN g ps k).isSome = true then firstN g ps k else minN g ls gs k).map v
  cases firstN g ps k <;> rfl
theorem res_mem {α : Type} {g : α → Nat} {ls : List α} {gs : List Nat} {ps : List α} {k : Nat} {x : α} (h : resN g ls gs ps k = some x) : x ∈ ls ∨ x ∈ ps := by
  unfold resN minN at h
  split at h
  · exact .inr (List.mem_of_find?_eq_some h)
  · split at h
    · cases h
    · exact .inl (List.mem_of_find?_eq_some h)
theorem len_sub : ∀ {ss L : List Nat}, ss.Nodup → (∀ x ∈ ss, x ∈ L) → ss.length ≤ L.length
  | [], _, _, _ => Nat.zero_le _
  | x :: t, L, hn, hs => by
    have hx := hs x List.mem_cons_self
    have q := len_sub (ss := t) (L := L.erase x) (List.nodup_cons.1 hn).2 (fun y hy => (List.mem_erase_of_ne (fun e => (List.nodup_cons.1 hn).1 (by rw [← e]; exact hy))).2 (hs y (List.mem_cons_of_mem _ hy)))
    rw [List.length_erase_of_mem hx] at q
    have := List.length_pos_of_mem hx
    simp only [List.length_cons]
    omega
theorem ris_len {α : Type} {g : α → Nat} {ls : List α} {gs : List Nat} {ps : List α} {v : α → Value} {ss : List Nat} (h : RisN (fun k => (resN g ls gs ps k).map v) ss) : ss.length ≤ ls.length + ps.length := by
  have q := len_sub (ss := ss) (L := (ls ++ ps).map g) (h.1.imp (fun {a b} r => by omega)) (fun x hx => by
    have r : ((resN g ls gs ps x).map v).isSome = true := (h.2 x).1 hx
    cases e : resN g ls gs ps x with
    | none => rw [e] at r; cases r
    | some y => exact List.mem_map.2 ⟨y, List.mem_append.2 (res_mem e), res_id e⟩)
  rwa [List.length_map, List.length_append] at q
/-- What turned tells. -/
structure Told {α : Type} (g : α → Nat) (f : Nat → Option α) (rs : List α) : Prop where
  srt : rs.Pairwise (fun x y => g x < g y)
  fst : ∀ k, firstN g rs k = f k
theorem told_of {α : Type} {g : α → Nat} {f : Nat → Option α} {v : α → Value} (hf : ∀ k x, f k = some x → g x = k) {ss : List Nat} {rs : List α} (h : RisN (fun k => (f k).map v) ss) (e : ss.map f = rs.map some) : Told g f rs := by
  have e2 : rs.map g = ss := by
    apply List.ext_getElem?
    intro i
    have q := congrArg (·[i]?) e
    simp only [List.getElem?_map] at q ⊢
    cases h1 : ss[i]? with
    | none =>
      rw [h1] at q
      cases h2 : rs[i]? with
      | none => rfl
      | some x => rw [h2] at q; cases q
    | some k =>
      rw [h1] at q
      cases h2 : rs[i]? with
      | none => rw [h2] at q; simp at q
      | some x => rw [h2] at q; simp at q; simp [hf k x q]
  have hs : rs.Pairwise (fun x y => g x < g y) := by
    have := h.1
    rw [← e2] at this
    rw [List.pairwise_map] at this
    exact this
  refine ⟨hs, fun k => ?_⟩
  cases hk : firstN g rs k with
  | none =>
    cases q : f k with
    | none => rfl
    | some x =>
      have : k ∈ ss := (h.2 k).2 (by show ((f k).map v).isSome = true; rw [q]; rfl)
      rw [← e2] at this
      obtain ⟨y, hy, e3⟩ := List.mem_map.1 this
      have := first_some.2 ⟨y, hy, e3⟩
      rw [hk] at this
      cases this
  | some x =>
    have hx : x ∈ rs := List.mem_of_find?_eq_some hk
    obtain ⟨i, hi, e3⟩ := List.getElem_of_mem hx
    have q := congrArg (·[i]?) e
    simp only [List.getElem?_map, List.getElem?_eq_getElem hi, e3] at q
    cases h1 : ss[i]? with
    | none => rw [h1] at q; simp at q
    | some k2 =>
      rw [h1] at q
      simp at q
      have := hf k2 x q
      rw [first_id hk] at this
      rw [this, q]
set_option maxRecDepth 100000 in
set_option maxHeartbeats 8000000 in
theorem trnL_c {A1 A2 A3 : Option Addr} {n1 c1 n2 c2 n3 c3 : Nat} {ls ps : List T9.Li} {gs : List Nat} {w : World} (hl : LL w A1 ls) (hg : Lies w 0 26 A2 (gs.map encU)) (hp : LL w A3 ps) (e1 : n1 = ls.length) (e2 : n2 = gs.length) (e3 : n3 = ps.length) (s1 : n1 ≤ 1000) (s2 : n2 ≤ 1000) (s3 : n3 ≤ 1000)
    (il : ∀ l ∈ ls, idL l < 18446744073709551616) (ip : ∀ l ∈ ps, idL l < 18446744073709551616) (hd : gs.Nodup) (ht : ∀ n ∈ gs, ∃ y, firstN idL ls n = some y) :
    Calls Tryz.prog 53 #[.slice A1 n1 c1, .slice A2 n2 c2, .slice A3 n3 c3, .func (.func 46) #[] #[]] w fun e w' => ∃ A c rs, e = .returned (.tuple #[.slice A rs.length c, .bool true]) ∧ Told idL (resN idL ls gs ps) rs ∧ Lies w' 0 51 A (lcells rs) ∧ rs.length ≤ c ∧ Below w.heap.size w w' := by
  have CB := Lib.hid (byL_c (c := c1) hl e1 (by omega) il)
  have CP := Lib.hid (fun (v : World) (hv : Below w.heap.size w v) => byL_c (c := c3) (hp.stay hv) e3 (by omega) ip)
  have HG := Lib.hid hg
  have E2 := Lib.hid e2
  have IL := Lib.hid il
  have IP := Lib.hid ip
  have E1 := Lib.hid e1
  have E3 := Lib.hid e3
  have HD := Lib.hid hd
  have HT := Lib.hid ht
  clear hl hg hp e1 e2 e3 il ip hd ht
  go_enter Tryz.func53, Tryz.ntmps53
  go_wp2_with (go_at_call 100; refine CB.out.mono ?_; rintro e w1 ⟨mb, rfl, hmb, hU, hb1⟩; have U1 := Lib.hid hU; have B1 := Lib.hid hb1; have MB := Lib.hid hmb; clear hU hb1 hmb)
  go_loopw [23] (fun s23 wr => ∃ i : Nat, s23 = .int .i64 i ∧ i ≤ n2 ∧ Hid (UM wr mb n1 (fun k => (minN idL ls (gs.take i) k).map vL)) ∧ Hid (Below w.heap.size w wr)) (fun s23 _ => n2 - (intOf s23).toNat)
  case atStart => exact ⟨0, rfl, Nat.zero_le _, Lib.hid (by rw [List.take_zero, min_zero]; exact U1.out), B1⟩
  case round =>
    obtain ⟨i, rfl, hin, HU, BR⟩ := hrel
    by_cases hlt : i < n2
    · have hltz : (i : Int) < (n2 : Int) := by omega
      obtain ⟨n, hn⟩ : ∃ n, gs[i]? = some n := ⟨_, List.getElem?_eq_getElem (by have := E2.out; omega)⟩
      obtain ⟨y, hy⟩ := HT.out n (List.mem_of_getElem? hn)
      have ID : Hid (n < 18446744073709551616) := Lib.hid (by have := IL.out _ (List.mem_of_find?_eq_some hy); rwa [first_id hy] at this)
      have MS := Lib.hid (min_step (g := idL) (ls := ls) (v := vL) hn)
      have NI : n ∉ gs.take i := fun q => by
        obtain ⟨q1, q2⟩ := List.getElem?_eq_some_iff.1 hn
        obtain ⟨j, hj, e⟩ := List.getElem_of_mem q
        rw [List.length_take] at hj
        rw [List.getElem_take] at e
        have := (List.pairwise_iff_getElem.1 HD.out) j i (by omega) q1 (by omega)
        exact this (e.trans q2.symm)
      obtain ⟨ad, eA, ca⟩ := (HG.out.below (Nat.zero_le _) (show Below w.heap.size w wr from BR.out)).at_ (k := i) (by have := E2.out; simp; omega)
      subst eA
      have ca2 : wr.cell? (ad.add i) = some (.int .u64 (n : Int)) := by
        obtain ⟨q1, q2⟩ := List.getElem?_eq_some_iff.1 hn
        rw [ca]
        simp [q2, encU]
      have hlk : (Instr.lookup 129 (.map (some mb)) (.int .u64 (n : Int)) true).run Tryz.prog wr = .ok (.tuple #[.agg #[.int .u64 (y.id : Int), .string (str y.name)], .bool true]) wr := by
        have q : (Instr.lookup 129 (.map (some mb)) (.int .u64 (n : Int)) true).run Tryz.prog wr = .ok (.tuple #[((minN idL ls (gs.take i) n).map vL).getD (.agg #[.int .u64 0, .string ⟨#[]⟩]), .bool ((minN idL ls (gs.take i) n).map vL).isSome]) wr := HU.out.look_ok Tryz.underlying129 (zrL wr) ID.out
        have r : minN idL ls (gs.take i) n = some y := by unfold minN; rw [if_neg NI]; exact hy
        rw [r] at q
        exact q
      obtain ⟨w2, hw2⟩ : ∃ u, wr.alloc (.cells #[.int .u64 (y.id : Int), .string (str y.name)] 51) = u := ⟨_, rfl⟩
      obtain ⟨lb, b2, z2⟩ := new_two hw2
      have U2 := Lib.hid (HU.out.below b2 HU.out.lt)
      have B2 := Lib.hid b2
      have k0 : 0 ≤ (i : Int) := by omega
      clear hn hy NI lb b2 ca
      go_wp2_with (at_delete; obtain ⟨w9, hdel, hU9, hg9⟩ := U2.out.del Tryz.underlying129 ID.out 0; refine wpList_delete_run rfl _ _ 129 26 rfl _ _ rfl rfl hdel ?_; have U9 := Lib.hid hU9; have G9 := Lib.hid hg9; clear hdel hU9 hg9)
      go_roundw
      case rel =>
        have BB := BR.out.trans (B2.out.mono BR.out.size)
        exact ⟨i + 1, by go_num, by omega, Lib.hid (by rw [MS.out]; exact U9.out), Lib.hid (BB.grown G9.out BB.size (fun j e => by cases e; exact MB.out))⟩
      case measure => simp [intOf]; omega
    · obtain rfl : i = n2 := by omega
      have hltz : ¬ ((i : Int) < (i : Int)) := by omega
      have U2 := HU.out
      rw [E2.out, List.take_length] at U2
      have HU2 := Lib.hid U2
      have CP2 := Lib.hid (CP.out wr BR.out)
      clear U2
      go_upto_region 13 with (first
        | (go_at_call 100; refine CP2.out.mono ?_; rintro e w3 ⟨m3, rfl, hm3, hU3, hb3⟩; have ZL3 : Hid (mb < m3) := Lib.hid (by have := HU2.out.lt; omega); have CC := Lib.hid (cpyL_c (HU2.out.below hb3 HU2.out.lt) hU3 (by have := ZL3.out; omega) (fun k v hk => by obtain ⟨x, _, e⟩ := Option.map_eq_some_iff.1 hk; exact ⟨x, e.symm⟩) (by omega)); have B3 : Hid (Below w.heap.size w w3) := Lib.hid (BR.out.trans (hb3.mono BR.out.size)); clear hU3 hb3 hm3)
        | (go_at_call 108; refine CC.out.mono ?_; rintro e w4 ⟨rfl, hU4, hT4⟩; rw [over_res] at hU4; have U4 := Lib.hid hU4; have B4 : Hid (Below w.heap.size w w4) := Lib.hid (B3.out.trans (hT4.below MB.out B3.out.size)); have CR := Lib.hid (riseL_c hU4 (by omega)); clear hU4 hT4)
        | (go_at_call 101; refine CR.out.mono ?_; rintro e w5 ⟨A5, c5, ss, rfl, hS5, hrow5, hb5⟩; have U5 := Lib.hid (U4.out.below hb5 U4.out.lt); have B5 : Hid (Below w.heap.size w w5) := Lib.hid (B4.out.trans (hb5.mono B4.out.size)); have S5 := Lib.hid hS5; have L5 := Lib.hid (lies_own (B := 0) hrow5); have hc5 := own_room3 hrow5; clear hS5 hrow5 hb5))
      have LEN : ss.length ≤ 2000 := by have := ris_len S5.out; have := E1.out; have := E3.out; omega
      have HC5 := Lib.hid hc5
      clear hc5
      go_loopw [15, 46] (fun s15 s46 wr => ∃ (i : Nat) (R : Option Addr) (c : Nat) (rs : List T9.Li), s46 = .int .i64 i ∧ i ≤ ss.length ∧ s15 = .slice R i c ∧ Hid (rs.length = i ∧ (ss.take i).map (resN idL ls gs ps) = rs.map some) ∧ Hid (wr.ownsRow w5.heap.size 51 2 (.slice R i c) i (lcells rs)) ∧ Hid (Below w5.heap.size w5 wr)) (fun _ s46 _ => ss.length - (intOf s46).toNat)
      case atStart => exact ⟨0, none, 0, [], rfl, Nat.zero_le _, rfl, Lib.hid ⟨rfl, rfl⟩, Lib.hid (World.ownsRow_nil _ _ _ _), Lib.hid (Below.refl _ _)⟩
      case round =>
        obtain ⟨i, R, c, rs, rfl, hin, rfl, HI, OW, BR5⟩ := hrel
        by_cases hlt2 : i < ss.length
        · have hltz2 : (i : Int) < (ss.length : Int) := by omega
          obtain ⟨n, hn⟩ : ∃ n, ss[i]? = some n := ⟨_, List.getElem?_eq_getElem hlt2⟩
          have hso : ((resN idL ls gs ps n).map vL).isSome = true := (S5.out.2 n).1 (List.mem_of_getElem? hn)
          obtain ⟨y, hy⟩ : ∃ y, resN idL ls gs ps n = some y := by
            cases e : resN idL ls gs ps n with
            | none => rw [e] at hso; cases hso
            | some y => exact ⟨y, rfl⟩
          have ID : Hid (n < 18446744073709551616) := Lib.hid (by
            have q := res_id hy
            rcases res_mem hy with m | m
            · have := IL.out _ m; rwa [q] at this
            · have := IP.out _ m; rwa [q] at this)
          obtain ⟨ad, eA, ca⟩ := (L5.out.tch (Tch.of_below (B := 0) BR5.out (Nat.zero_le _) []) (by simp)).at_ (k := i) (by simpa using hlt2)
          subst eA
          have ca2 : wr.cell? (ad.add i) = some (.int .u64 (n : Int)) := by
            obtain ⟨q1, q2⟩ := List.getElem?_eq_some_iff.1 hn
            rw [ca]
            simp [q2, encU]
          have UR := Lib.hid (U5.out.below BR5.out U5.out.lt)
          have hlk : (Instr.lookup 129 (.map (some mb)) (.int .u64 (n : Int)) false).run Tryz.prog wr = .ok (.agg #[.int .u64 (y.id : Int), .string (str y.name)]) wr := by
            have q : (Instr.lookup 129 (.map (some mb)) (.int .u64 (n : Int)) false).run Tryz.prog wr = .ok (((resN idL ls gs ps n).map vL).getD (.agg #[.int .u64 0, .string ⟨#[]⟩])) wr := UR.out.look Tryz.underlying129 (zrL wr) ID.out
            rw [hy] at q
            exact q
          have NXT : Hid ((ss.take (i + 1)).map (resN idL ls gs ps) = (rs ++ [y]).map some) := Lib.hid (by rw [take_nxt hn, List.map_append, HI.out.2, List.map_append, List.map_cons, List.map_nil, hy]; rfl)
          have hbs := fun (u : World) => buildSlL9 y u
          have OWE := Lib.hid (OW.out.alloc (.cells #[.int .u64 (y.id : Int), .string (str y.name)] 51))
          have LE : Hid (Lies (wr.alloc (.cells #[.int .u64 (y.id : Int), .string (str y.name)] 51)) 0 51 (some ⟨wr.heap.size, 0, none⟩) (encL y)) := Lib.hid (Lies.of_blk (heap_alloc_new wr _))
          have zz := BR5.out.size
          have k0 : 0 ≤ (i : Int) := by omega
          obtain ⟨ti0, thi, tz0, tz1, tz2⟩ := info_parts Tryz.infoLi9
          clear hn hso hy ca
          go_wp2_with (at_builtin; refine wpList_app _ rfl _ _ 22 rfl w5.heap.size 51 ti0 _ 2 24 Tryz.underlying22 thi tz0 tz1 tz2 rfl (by decide) _ i (lcells rs) rfl OWE.out 0 _ 1 1 (encL y) 51 rfl rfl LE.out (encL_one _) (by unfold maxLen; omega) (by omega) (by simp; omega) ?_)
          intro v6 w6 hown6 hgrow6 hor6
          obtain ⟨A6, k6, rfl⟩ := own_slice hown6
          have B6 : Hid (Below w5.heap.size w5 w6) := Lib.hid ((BR5.out.alloc BR5.out.size _).grown hgrow6 (by simp; omega) (fun j e => (own_row OWE.out j e).1))
          have HO6 := Lib.hid hown6
          clear hown6 hgrow6 hor6 hbs
          go_wp2
          go_roundw
          case rel => exact ⟨i + 1, A6, k6, rs ++ [y], by go_num, by omega, rfl, Lib.hid ⟨by rw [List.length_append, HI.out.1]; rfl, NXT.out⟩, Lib.hid (by rw [lcells_snoc]; exact HO6.out), B6⟩
          case measure => simp [intOf]; omega
        · obtain rfl : i = ss.length := by omega
          have hltz2 : ¬ ((ss.length : Int) < (ss.length : Int)) := by omega
          go_wp2
          first | go_ret2 | go_ret
          have e0 := HI.out
          rw [List.take_length] at e0
          have ow := OW.out
          rw [← e0.1] at ow
          exact ⟨R, c, rs, by rw [e0.1]; rfl, told_of (f := resN idL ls gs ps) (v := vL) (fun k x h => res_id h) S5.out e0.2, lies_own (B := 0) ow, own_room3 ow, B5.out.trans (BR5.out.mono B5.out.size)⟩
set_option maxRecDepth 100000 in
set_option maxHeartbeats 8000000 in
theorem trnK_c {A1 A2 A3 : Option Addr} {n1 c1 n2 c2 n3 c3 : Nat} {ls ps : List MTk} {gs : List Nat} {w : World} (hl : KL w A1 ls) (hg : Lies w 0 26 A2 (gs.map encU)) (hp : KL w A3 ps) (e1 : n1 = ls.length) (e2 : n2 = gs.length) (e3 : n3 = ps.length) (s1 : n1 ≤ 1000) (s2 : n2 ≤ 1000) (s3 : n3 ≤ 1000)
    (il : ∀ l ∈ ls, idK l < 18446744073709551616) (ip : ∀ l ∈ ps, idK l < 18446744073709551616) (hd : gs.Nodup) (ht : ∀ n ∈ gs, ∃ y, firstN idK ls n = some y) :
    Calls Tryz.prog 54 #[.slice A1 n1 c1, .slice A2 n2 c2, .slice A3 n3 c3, .func (.func 49) #[] #[]] w fun e w' => ∃ A c rs, e = .returned (.tuple #[.slice A rs.length c, .bool true]) ∧ Told idK (resN idK ls gs ps) rs ∧ Lies w' 0 56 A (tkcells rs) ∧ rs.length ≤ c ∧ Below w.heap.size w w' := by
  have CB := Lib.hid (byK_c (c := c1) hl e1 (by omega) il)
  have CP := Lib.hid (fun (v : World) (hv : Below w.heap.size w v) => byK_c (c := c3) (hp.stay hv) e3 (by omega) ip)
  have HG := Lib.hid hg
  have E2 := Lib.hid e2
  have IL := Lib.hid il
  have IP := Lib.hid ip
  have E1 := Lib.hid e1
  have E3 := Lib.hid e3
  have HD := Lib.hid hd
  have HT := Lib.hid ht
  clear hl hg hp e1 e2 e3 il ip hd ht
  go_enter Tryz.func54, Tryz.ntmps54
  go_wp2_with (go_at_call 102; refine CB.out.mono ?_; rintro e w1 ⟨mb, rfl, hmb, hU, hb1⟩; have U1 := Lib.hid hU; have B1 := Lib.hid hb1; have MB := Lib.hid hmb; clear hU hb1 hmb)
  go_loopw [23] (fun s23 wr => ∃ i : Nat, s23 = .int .i64 i ∧ i ≤ n2 ∧ Hid (UM wr mb n1 (fun k => (minN idK ls (gs.take i) k).map vK)) ∧ Hid (Below w.heap.size w wr)) (fun s23 _ => n2 - (intOf s23).toNat)
  case atStart => exact ⟨0, rfl, Nat.zero_le _, Lib.hid (by rw [List.take_zero, min_zero]; exact U1.out), B1⟩
  case round =>
    obtain ⟨i, rfl, hin, HU, BR⟩ := hrel
    by_cases hlt : i < n2
    · have hltz : (i : Int) < (n2 : Int) := by omega
      obtain ⟨n, hn⟩ : ∃ n, gs[i]? = some n := ⟨_, List.getElem?_eq_getElem (by have := E2.out; omega)⟩
      obtain ⟨⟨yt, yA, yc⟩, hy⟩ := HT.out n (List.mem_of_getElem? hn)
      have ID : Hid (n < 18446744073709551616) := Lib.hid (by have := IL.out _ (List.mem_of_find?_eq_some hy); rwa [first_id hy] at this)
      have MS := Lib.hid (min_step (g := idK) (ls := ls) (v := vK) hn)
      have NI : n ∉ gs.take i := fun q => by
        obtain ⟨q1, q2⟩ := List.getElem?_eq_some_iff.1 hn
        obtain ⟨j, hj, e⟩ := List.getElem_of_mem q
        rw [List.length_take] at hj
        rw [List.getElem_take] at e
        have := (List.pairwise_iff_getElem.1 HD.out) j i (by omega) q1 (by omega)
        exact this (e.trans q2.symm)
      obtain ⟨ad, eA, ca⟩ := (HG.out.below (Nat.zero_le _) (show Below w.heap.size w wr from BR.out)).at_ (k := i) (by have := E2.out; simp; omega)
      subst eA
      have ca2 : wr.cell? (ad.add i) = some (.int .u64 (n : Int)) := by
        obtain ⟨q1, q2⟩ := List.getElem?_eq_some_iff.1 hn
        rw [ca]
        simp [q2, encU]
      have hlk : (Instr.lookup 132 (.map (some mb)) (.int .u64 (n : Int)) true).run Tryz.prog wr = .ok (.tuple #[.agg #[.int .u64 (yt.id : Int), .int .u64 (yt.list : Int), .string (str yt.title), .bool yt.done, .float .f64 yt.rank, .float .f64 yt.est, .slice yA yt.tags.length yc], .bool true]) wr := by
        have q : (Instr.lookup 132 (.map (some mb)) (.int .u64 (n : Int)) true).run Tryz.prog wr = .ok (.tuple #[((minN idK ls (gs.take i) n).map vK).getD (.agg #[.int .u64 0, .int .u64 0, .string ⟨#[]⟩, .bool false, .float .f64 0, .float .f64 0, .slice none 0 0]), .bool ((minN idK ls (gs.take i) n).map vK).isSome]) wr := HU.out.look_ok Tryz.underlying132 (zrK wr) ID.out
        have r : minN idK ls (gs.take i) n = some (⟨yt, yA, yc⟩ : MTk) := by unfold minN; rw [if_neg NI]; exact hy
        rw [r] at q
        exact q
      obtain ⟨w2, hw2⟩ : ∃ u, wr.alloc (.cells #[.int .u64 (yt.id : Int), .int .u64 (yt.list : Int), .string (str yt.title), .bool yt.done, .float .f64 yt.rank, .float .f64 yt.est, .slice yA yt.tags.length yc] 56) = u := ⟨_, rfl⟩
      obtain ⟨lb, b2, z2⟩ := new_seven hw2
      have U2 := Lib.hid (HU.out.below b2 HU.out.lt)
      have B2 := Lib.hid b2
      have k0 : 0 ≤ (i : Int) := by omega
      clear hn hy NI lb b2 ca
      go_wp2_with (at_delete; obtain ⟨w9, hdel, hU9, hg9⟩ := U2.out.del Tryz.underlying132 ID.out 0; refine wpList_delete_run rfl _ _ 132 26 rfl _ _ rfl rfl hdel ?_; have U9 := Lib.hid hU9; have G9 := Lib.hid hg9; clear hdel hU9 hg9)
      go_roundw
      case rel =>
        have BB := BR.out.trans (B2.out.mono BR.out.size)
        exact ⟨i + 1, by go_num, by omega, Lib.hid (by rw [MS.out]; exact U9.out), Lib.hid (BB.grown G9.out BB.size (fun j e => by cases e; exact MB.out))⟩
      case measure => simp [intOf]; omega
    · obtain rfl : i = n2 := by omega
      have hltz : ¬ ((i : Int) < (i : Int)) := by omega
      have U2 := HU.out
      rw [E2.out, List.take_length] at U2
      have HU2 := Lib.hid U2
      have CP2 := Lib.hid (CP.out wr BR.out)
      clear U2
      go_upto_region 13 with (first
        | (go_at_call 102; refine CP2.out.mono ?_; rintro e w3 ⟨m3, rfl, hm3, hU3, hb3⟩; have ZL3 : Hid (mb < m3) := Lib.hid (by have := HU2.out.lt; omega); have CC := Lib.hid (cpyK_c (HU2.out.below hb3 HU2.out.lt) hU3 (by have := ZL3.out; omega) (fun k v hk => by obtain ⟨x, _, e⟩ := Option.map_eq_some_iff.1 hk; exact ⟨x, e.symm⟩) (by omega)); have B3 : Hid (Below w.heap.size w w3) := Lib.hid (BR.out.trans (hb3.mono BR.out.size)); clear hU3 hb3 hm3)
        | (go_at_call 109; refine CC.out.mono ?_; rintro e w4 ⟨rfl, hU4, hT4⟩; rw [over_res] at hU4; have U4 := Lib.hid hU4; have B4 : Hid (Below w.heap.size w w4) := Lib.hid (B3.out.trans (hT4.below MB.out B3.out.size)); have CR := Lib.hid (riseK_c hU4 (by omega)); clear hU4 hT4)
        | (go_at_call 103; refine CR.out.mono ?_; rintro e w5 ⟨A5, c5, ss, rfl, hS5, hrow5, hb5⟩; have U5 := Lib.hid (U4.out.below hb5 U4.out.lt); have B5 : Hid (Below w.heap.size w w5) := Lib.hid (B4.out.trans (hb5.mono B4.out.size)); have S5 := Lib.hid hS5; have L5 := Lib.hid (lies_own (B := 0) hrow5); have hc5 := own_room3 hrow5; clear hS5 hrow5 hb5))
      have LEN : ss.length ≤ 2000 := by have := ris_len S5.out; have := E1.out; have := E3.out; omega
      have HC5 := Lib.hid hc5
      clear hc5
      go_loopw [15, 46] (fun s15 s46 wr => ∃ (i : Nat) (R : Option Addr) (c : Nat) (rs : List MTk), s46 = .int .i64 i ∧ i ≤ ss.length ∧ s15 = .slice R i c ∧ Hid (rs.length = i ∧ (ss.take i).map (resN idK ls gs ps) = rs.map some) ∧ Hid (wr.ownsRow w5.heap.size 56 7 (.slice R i c) i (tkcells rs)) ∧ Hid (Below w5.heap.size w5 wr)) (fun _ s46 _ => ss.length - (intOf s46).toNat)
      case atStart => exact ⟨0, none, 0, [], rfl, Nat.zero_le _, rfl, Lib.hid ⟨rfl, rfl⟩, Lib.hid (World.ownsRow_nil _ _ _ _), Lib.hid (Below.refl _ _)⟩
      case round =>
        obtain ⟨i, R, c, rs, rfl, hin, rfl, HI, OW, BR5⟩ := hrel
        by_cases hlt2 : i < ss.length
        · have hltz2 : (i : Int) < (ss.length : Int) := by omega
          obtain ⟨n, hn⟩ : ∃ n, ss[i]? = some n := ⟨_, List.getElem?_eq_getElem hlt2⟩
          have hso : ((resN idK ls gs ps n).map vK).isSome = true := (S5.out.2 n).1 (List.mem_of_getElem? hn)
          obtain ⟨⟨yt, yA, yc⟩, hy⟩ : ∃ y, resN idK ls gs ps n = some y := by
            cases e : resN idK ls gs ps n with
            | none => rw [e] at hso; cases hso
            | some y => exact ⟨y, rfl⟩
          have ID : Hid (n < 18446744073709551616) := Lib.hid (by
            have q := res_id hy
            rcases res_mem hy with m | m
            · have := IL.out _ m; rwa [q] at this
            · have := IP.out _ m; rwa [q] at this)
          obtain ⟨ad, eA, ca⟩ := (L5.out.tch (Tch.of_below (B := 0) BR5.out (Nat.zero_le _) []) (by simp)).at_ (k := i) (by simpa using hlt2)
          subst eA
          have ca2 : wr.cell? (ad.add i) = some (.int .u64 (n : Int)) := by
            obtain ⟨q1, q2⟩ := List.getElem?_eq_some_iff.1 hn
            rw [ca]
            simp [q2, encU]
          have UR := Lib.hid (U5.out.below BR5.out U5.out.lt)
          have hlk : (Instr.lookup 132 (.map (some mb)) (.int .u64 (n : Int)) false).run Tryz.prog wr = .ok (.agg #[.int .u64 (yt.id : Int), .int .u64 (yt.list : Int), .string (str yt.title), .bool yt.done, .float .f64 yt.rank, .float .f64 yt.est, .slice yA yt.tags.length yc]) wr := by
            have q : (Instr.lookup 132 (.map (some mb)) (.int .u64 (n : Int)) false).run Tryz.prog wr = .ok (((resN idK ls gs ps n).map vK).getD (.agg #[.int .u64 0, .int .u64 0, .string ⟨#[]⟩, .bool false, .float .f64 0, .float .f64 0, .slice none 0 0])) wr := UR.out.look Tryz.underlying132 (zrK wr) ID.out
            rw [hy] at q
            exact q
          have NXT : Hid ((ss.take (i + 1)).map (resN idK ls gs ps) = (rs ++ [(⟨yt, yA, yc⟩ : MTk)]).map some) := Lib.hid (by rw [take_nxt hn, List.map_append, HI.out.2, List.map_append, List.map_cons, List.map_nil, hy]; rfl)
          have hbs := fun (u : World) => buildSlK9 ⟨yt, yA, yc⟩ u
          unfold encK at hbs
          dsimp only at hbs
          have OWE := Lib.hid (OW.out.alloc (.cells #[.int .u64 (yt.id : Int), .int .u64 (yt.list : Int), .string (str yt.title), .bool yt.done, .float .f64 yt.rank, .float .f64 yt.est, .slice yA yt.tags.length yc] 56))
          have LE : Hid (Lies (wr.alloc (.cells #[.int .u64 (yt.id : Int), .int .u64 (yt.list : Int), .string (str yt.title), .bool yt.done, .float .f64 yt.rank, .float .f64 yt.est, .slice yA yt.tags.length yc] 56)) 0 56 (some ⟨wr.heap.size, 0, none⟩) (encK (⟨yt, yA, yc⟩ : MTk))) := Lib.hid (Lies.of_blk (heap_alloc_new wr _))
          have zz := BR5.out.size
          have k0 : 0 ≤ (i : Int) := by omega
          obtain ⟨ti0, thi, tz0, tz1, tz2⟩ := info_parts Tryz.infoTk9
          clear hn hso hy ca
          go_wp2_with (at_builtin; refine wpList_app _ rfl _ _ 23 rfl w5.heap.size 56 ti0 _ 7 80 Tryz.underlying23 thi tz0 tz1 tz2 rfl (by decide) _ i (tkcells rs) rfl OWE.out 0 _ 1 1 (encK (⟨yt, yA, yc⟩ : MTk)) 56 rfl rfl LE.out (encK_one _) (by unfold maxLen; omega) (by omega) (by simp; omega) ?_)
          intro v6 w6 hown6 hgrow6 hor6
          obtain ⟨A6, k6, rfl⟩ := own_slice hown6
          have B6 : Hid (Below w5.heap.size w5 w6) := Lib.hid ((BR5.out.alloc BR5.out.size _).grown hgrow6 (by simp; omega) (fun j e => (own_row OWE.out j e).1))
          have HO6 := Lib.hid hown6
          clear hown6 hgrow6 hor6 hbs
          go_wp2
          go_roundw
          case rel => exact ⟨i + 1, A6, k6, rs ++ [(⟨yt, yA, yc⟩ : MTk)], by go_num, by omega, rfl, Lib.hid ⟨by rw [List.length_append, HI.out.1]; rfl, NXT.out⟩, Lib.hid (by rw [tkcells_snoc]; exact HO6.out), B6⟩
          case measure => simp [intOf]; omega
        · obtain rfl : i = ss.length := by omega
          have hltz2 : ¬ ((ss.length : Int) < (ss.length : Int)) := by omega
          go_wp2
          first | go_ret2 | go_ret
          have e0 := HI.out
          rw [List.take_length] at e0
          have ow := OW.out
          rw [← e0.1] at ow
          exact ⟨R, c, rs, by rw [e0.1]; rfl, told_of (f := resN idK ls gs ps) (v := vK) (fun k x h => res_id h) S5.out e0.2, lies_own (B := 0) ow, own_room3 ow, B5.out.trans (BR5.out.mono B5.out.size)⟩
end
end
section
set_option maxRecDepth 100000
namespace Sr
section
variable {α : Type} {lt : α → α → Bool}
theorem stb_perm [DecidableEq α] (h : WO lt) {l r : List α} (s : Stb lt l r) : r.Perm l := by
  rw [List.perm_iff_count]
  intro a
  have e := congrArg (List.count a) (s a)
  rw [List.count_filter (eqv_self h a), List.count_filter (eqv_self h a)] at e
  exact e
/-- In order, and no two of them alike: strictly. -/
theorem srt_str {r : List α} (hs : Srt lt r) (hd : r.Pairwise fun a b => eqv lt a b = false) : Str lt r := by
  unfold Str Srt at *
  refine (hs.and hd).imp fun {a b} hk => ?_
  obtain ⟨h, k⟩ := hk
  unfold eqv at k
  rw [h] at k
  simpa using k
theorem perm_uniq (h : WO lt) : ∀ {l r : List α}, Str lt l → Str lt r → l.Perm r → l = r
  | [], r, _, _, p => (List.nil_perm.1 p).symm
  | x :: l, [], _, _, p => absurd (List.perm_nil.1 p) (by simp)
  | x :: l, y :: r, hl, hr, p => by
    have hl' := List.pairwise_cons.1 hl
    have hr' := List.pairwise_cons.1 hr
    have hx : x ∈ y :: r := p.mem_iff.1 List.mem_cons_self
    have hy : y ∈ x :: l := p.mem_iff.2 List.mem_cons_self
    have e : x = y := by
      rcases List.mem_cons.1 hx with q | q
      · exact q
      · rcases List.mem_cons.1 hy with q2 | q2
        · exact q2.symm
        · have a := hr'.1 x q
          have b := hl'.1 y q2
          rw [h.asym a] at b
          cases b
    subst e
    rw [perm_uniq h hl'.2 hr'.2 (List.Perm.cons_inv p)]
end
end Sr
namespace Fl
end Fl
namespace T9
def ltR (a b : Tk) : Bool := Fl.lt a.rank b.rank || (!Fl.lt b.rank a.rank && decide (a.id < b.id))
theorem ltR_iff {a b : Tk} : ltR a b = true ↔ Fl.pl a.rank < Fl.pl b.rank ∨ (Fl.pl a.rank = Fl.pl b.rank ∧ a.id < b.id) := by
  unfold ltR
  rw [Bool.or_eq_true, Bool.and_eq_true, Fl.lt_true, Bool.not_eq_true', Fl.lt_false, decide_eq_true_iff]
  omega
theorem ltR_not {a b : Tk} : ltR a b = false ↔ Fl.pl b.rank < Fl.pl a.rank ∨ (Fl.pl a.rank = Fl.pl b.rank ∧ b.id ≤ a.id) := by
  rw [← Bool.not_eq_true, ltR_iff]
  omega
theorem woR : Sr.WO ltR := ⟨fun a => by rw [ltR_not]; exact .inr ⟨rfl, Nat.le_refl _⟩, fun a b c h k => by rw [ltR_iff] at *; omega, fun a b c h => by rw [ltR_iff, ltR_iff] at *; omega⟩
theorem eqvR {a b : Tk} (h : a.id ≠ b.id) : Sr.eqv ltR a b = false := by
  cases e : Sr.eqv ltR a b with
  | false => rfl
  | true =>
    unfold Sr.eqv at e
    rw [Bool.and_eq_true, Bool.not_eq_true', Bool.not_eq_true', ltR_not, ltR_not] at e
    omega
/-- The tasks of a list. -/
def inList (ts : List Tk) (list : Nat) : List Tk := ts.filter fun t => t.list == list
/-- r: the tasks of the list in order. -/
def Ordd (ts : List Tk) (list : Nat) (r : List Tk) : Prop := Sr.Srt ltR r ∧ Sr.Stb ltR (inList ts list) r
theorem Ordd.perm {ts r : List Tk} {list : Nat} (h : Ordd ts list r) : r.Perm (inList ts list) := Sr.stb_perm woR h.2
/-- Ids unlike. -/
def Uni (ts : List Tk) : Prop := ts.Pairwise fun a b => a.id ≠ b.id
theorem Uni.filter {ts : List Tk} (h : Uni ts) (p : Tk → Bool) : Uni (ts.filter p) := List.Pairwise.filter p h
theorem Uni.perm {l r : List Tk} (h : Uni l) (p : r.Perm l) : Uni r := (p.pairwise_iff (fun q => Ne.symm q)).2 h
theorem Uni.str {r : List Tk} (h : Uni r) (hs : Sr.Srt ltR r) : Sr.Str ltR r := Sr.srt_str hs (h.imp fun q => eqvR q)
theorem Ordd.str {ts r : List Tk} {list : Nat} (h : Ordd ts list r) (u : Uni ts) : Sr.Str ltR r := ((u.filter _).perm h.perm).str h.1
theorem Ordd.is {ts r x : List Tk} {list : Nat} (h : Ordd ts list r) (u : Uni ts) (hx : Sr.Str ltR x) (p : x.Perm (inList ts list)) : r = x := Sr.perm_uniq woR (h.str u) hx (h.perm.trans p.symm)
end T9
end
section
set_option maxRecDepth 100000
namespace T9
/-- Ids that rise behind a number. -/
theorem tasksE_up {ls : List Li} : ∀ {ts : List Tk} {a : Nat}, tasksE ls a ts = 0 → (∀ t ∈ ts, a < t.id ∧ fieldsE t = 0 ∧ (ls.any fun l => l.id == t.list) = true) ∧ ts.Pairwise (fun x y => x.id < y.id)
  | [], a, _ => ⟨by simp, List.Pairwise.nil⟩
  | t :: r, a, h => by
    unfold tasksE at h
    by_cases h1 : t.id ≤ a
    · rw [if_pos h1] at h; cases h
    rw [if_neg h1] at h
    by_cases h2 : (ls.any fun l => l.id == t.list) = false
    · rw [if_pos h2] at h; cases h
    rw [if_neg h2] at h
    by_cases h3 : fieldsE t ≠ 0
    · rw [if_pos h3] at h; exact absurd h h3
    rw [if_neg h3] at h
    obtain ⟨q1, q2⟩ := tasksE_up h
    have h2' : (ls.any fun l => l.id == t.list) = true := by simpa using h2
    refine ⟨fun x hx => ?_, List.pairwise_cons.2 ⟨fun x hx => (q1 x hx).1, q2⟩⟩
    rcases List.mem_cons.1 hx with rfl | hx
    · exact ⟨by omega, by simpa using h3, h2'⟩
    · have := q1 x hx
      exact ⟨by omega, this.2⟩
theorem listsE_up : ∀ {ls : List Li} {a : Nat}, listsE a ls = 0 → (∀ l ∈ ls, a < l.id) ∧ ls.Pairwise (fun x y => x.id < y.id)
  | [], a, _ => ⟨by simp, List.Pairwise.nil⟩
  | l :: r, a, h => by
    unfold listsE at h
    by_cases h1 : l.id ≤ a
    · rw [if_pos h1] at h; cases h
    rw [if_neg h1] at h
    by_cases h2 : title l.name = false
    · rw [if_pos h2] at h; cases h
    rw [if_neg h2] at h
    obtain ⟨q1, q2⟩ := listsE_up h
    refine ⟨fun x hx => ?_, List.pairwise_cons.2 ⟨q1, q2⟩⟩
    rcases List.mem_cons.1 hx with rfl | hx
    · omega
    · have := q1 x hx
      omega
theorem rightE_parts {s : St} (h : rightE s = 0) : s.lists.length ≤ 20 ∧ s.tasks.length ≤ 60 ∧ listsE 0 s.lists = 0 ∧ tasksE s.lists 0 s.tasks = 0 := by
  unfold rightE at h
  by_cases h1 : 20 < s.lists.length ∨ 60 < s.tasks.length
  · rw [if_pos h1] at h; cases h
  rw [if_neg h1] at h
  by_cases h2 : listsE 0 s.lists ≠ 0
  · rw [if_pos h2] at h; exact absurd h h2
  rw [if_neg h2] at h
  exact ⟨by omega, by omega, by simpa using h2, h⟩
theorem tagsUp_str : ∀ {l : List (List UInt8)} {a : List UInt8}, tagsUp a l = true → (∀ x ∈ l, ltS a x = true) ∧ Sr.Str ltS l
  | [], a, _ => ⟨by simp, List.Pairwise.nil⟩
  | t :: l, a, h => by
    unfold tagsUp at h
    rw [Bool.and_eq_true, Bool.and_eq_true] at h
    obtain ⟨q1, q2⟩ := tagsUp_str h.2
    refine ⟨fun x hx => ?_, List.pairwise_cons.2 ⟨q1, q2⟩⟩
    rcases List.mem_cons.1 hx with rfl | hx
    · exact h.1.2
    · exact woS.tr _ _ _ h.1.2 (q1 x hx)
theorem isC_canon {b : Nat} (h : isC b = true) : Fl.canon b = b := by
  unfold isC at h
  rw [beq_iff_eq, Fl.I_eq, Fl.I_eq] at h
  omega
theorem fieldsE_parts10 {t : Tk} (h : fieldsE t = 0) : title t.title = true ∧ Fl.isN t.rank = false ∧ isC t.rank = true ∧ isC t.est = true ∧ t.tags.length ≤ 4 ∧ tagsUp [] t.tags = true := by
  unfold fieldsE at h
  by_cases h1 : title t.title = false
  · rw [if_pos h1] at h; cases h
  rw [if_neg h1] at h
  by_cases h2 : (Fl.isN t.rank || !isC t.rank) = true
  · rw [if_pos h2] at h; cases h
  rw [if_neg h2] at h
  by_cases h3 : isC t.est = false
  · rw [if_pos h3] at h; cases h
  rw [if_neg h3] at h
  by_cases h4 : 4 < t.tags.length
  · rw [if_pos h4] at h; cases h
  rw [if_neg h4] at h
  by_cases h5 : tagsUp [] t.tags = true
  · rw [Bool.not_eq_true, Bool.or_eq_false_iff, Bool.not_eq_false'] at h2
    exact ⟨by simpa using h1, h2.1, h2.2, by simpa using h3, by omega, h5⟩
  · rw [if_neg h5] at h; cases h
theorem norm_right {t : Tk} (h : fieldsE t = 0) : norm t = t := by
  obtain ⟨_, _, h3, h4, _, h6⟩ := fieldsE_parts10 h
  unfold norm
  rw [isC_canon h3, isC_canon h4, Sr.canon_str woS (tagsUp_str h6).2]
theorem str_ltK {ts : List Tk} (h : ts.Pairwise (fun x y => x.id < y.id)) : Sr.Str ltK ts := h.imp fun q => decide_eq_true q
theorem str_ltL {ls : List Li} (h : ls.Pairwise (fun x y => x.id < y.id)) : Sr.Str ltL ls := h.imp fun q => decide_eq_true q
theorem canon_right {s : St} (h : rightE s = 0) : canon s = s := by
  obtain ⟨_, _, h3, h4⟩ := rightE_parts h
  have t := tasksE_up h4
  show (⟨Sr.canon ltL s.lists, (Sr.canon ltK s.tasks).map norm⟩ : St) = s
  rw [Sr.canon_str woL (str_ltL (listsE_up h3).2), Sr.canon_str woK (str_ltK t.2)]
  have e : s.tasks.map norm = s.tasks := by
    conv => rhs; rw [← List.map_id s.tasks]
    exact List.map_congr_left fun x hx => norm_right (t.1 x hx).2.1
  rw [e]
end T9
end
section
open Go.Shelf Go.RowKit Go.Lib Go.Sort
set_option maxRecDepth 100000
/-- A copy of texts. -/
def CloneS10Ok (ts : List (List UInt8)) (w : World) (e : Ending) (w' : World) : Prop := ∃ A2 c2, e = .returned (.slice A2 ts.length c2) ∧ Lies w' 0 9 A2 (gcells ts) ∧ ts.length ≤ c2 ∧ Below w.heap.size w w'
set_option maxHeartbeats 1000000 in
theorem cloneS10_c {A : Option Addr} {n c : Nat} {ts : List (List UInt8)} {w : World} (h : GL w A ts) (hn : n = ts.length) (hs : n ≤ 1000000000) : Calls Tryz.prog 111 #[.slice A n c] w (CloneS10Ok ts w) := by
  obtain ⟨i0, hi, hz0, hz1, hz2⟩ := info_parts Tryz.infoStr9
  have q := fun (w : World) a n c n' c' => Lib.run_eql_slice_nil (P := Tryz.prog) w 54 9 a n c n' c' Tryz.underlying54
  have HL := Lib.hid h
  have HN := Lib.hid hn
  clear h hn
  rcases A with _ | ad
  · have h0 : n = 0 := by
      rcases Nat.eq_zero_or_pos n with q | q
      · exact q
      · obtain ⟨ad, _, e, _⟩ := HL.out.at_ (k := 0) (by have := HN.out; omega)
        cases e
    subst h0
    have e : ts = [] := List.length_eq_zero_iff.1 HN.out.symm
    subst e
    go_enter Tryz.func111, Tryz.ntmps111
    go_wp2
    go_ret
    exact ⟨_, 0, rfl, Lies.nil, Nat.le_refl _, Below.refl _ _⟩
  · have ho : (w.alloc (.cells #[] 9)).ownsRow w.heap.size 9 1 (.slice (some ⟨w.heap.size, 0, none⟩) 0 0) 0 [] := World.ownsRow_made w #[] 0 (Nat.le_refl _) (by unfold maxLen; omega) rfl
    have HO := Lib.hid ho
    clear ho
    go_enter Tryz.func111, Tryz.ntmps111
    go_wp2_with (at_builtin; refine wpList_app _ rfl _ _ 54 rfl w.heap.size 9 i0 _ 1 16 Tryz.underlying54 hi hz0 hz1 hz2 rfl (by decide) _ 0 [] rfl HO.out (w.alloc (.cells #[] 9)).heap.size _ n c (gcells ts) 0 rfl (by rw [gcells_len, HN.out]; omega) (Lies.stay HL.out ((Below.refl _ _).alloc (Nat.le_refl _) _)) (gcells_one _) (by unfold maxLen; omega) (by omega) (by simp) ?_)
    intro v' w1 hown' hgrow _
    obtain ⟨A2, k2, rfl⟩ := own_slice hown'
    have T1 := app_below HO.out hgrow
    have ho2 : w1.ownsRow w.heap.size 9 1 (.slice A2 n k2) n (gcells ts) := by simpa using hown'
    have HO2 := Lib.hid ho2
    have HT := Lib.hid T1
    clear hown' ho2 T1 hgrow
    go_wp2
    go_ret
    refine ⟨A2, k2, by rw [← HN.out]; simp, lies_own HO2.out, by rw [← HN.out]; exact (own_room HO2.out).2, HT.out⟩
end
section
set_option maxRecDepth 100000
set_option linter.unusedSimpArgs false
section
open Go.RowKit Go.Lib Go.Shelf
set_option maxHeartbeats 1000000 in
theorem cloneK12_c {A : Option Addr} {n c : Nat} {ms : List MTk} {w : World} (h : KL w A ms) (hn : n = ms.length) (hs : n ≤ 1000000) :
    Calls Tryz.prog 110 #[.slice A n c] w fun e w' => ∃ A2 c2, e = .returned (.slice A2 n c2) ∧ w'.ownsRow w.heap.size 56 7 (.slice A2 n c2) n (tkcells ms) ∧ Below w.heap.size w w' := by
  obtain ⟨i0, hi, hz0, hz1, hz2⟩ := info_parts Tryz.infoTk9
  have q := fun (w : World) a n c n' c' => Lib.run_eql_slice_nil (P := Tryz.prog) w 23 56 a n c n' c' Tryz.underlying23
  have HL := Lib.hid h
  have HN := Lib.hid hn
  clear h hn
  rcases A with _ | ad
  · have h0 : n = 0 := by
      rcases Nat.eq_zero_or_pos n with q | q
      · exact q
      · obtain ⟨ad, m, e, _⟩ := HL.out.at_ (k := 0) (by have := HN.out; omega)
        cases e
    subst h0
    have e : ms = [] := List.length_eq_zero_iff.1 HN.out.symm
    subst e
    go_enter Tryz.func110, Tryz.ntmps110
    go_wp2
    go_ret
    exact ⟨_, 0, rfl, World.ownsRow_nil _ _ _ _, Below.refl _ _⟩
  · have ho : (w.alloc (.cells #[] 56)).ownsRow w.heap.size 56 7 (.slice (some ⟨w.heap.size, 0, none⟩) 0 0) 0 [] := World.ownsRow_made w #[] 0 (Nat.le_refl _) (by unfold maxLen; omega) rfl
    have HO := Lib.hid ho
    clear ho
    go_enter Tryz.func110, Tryz.ntmps110
    go_wp2_with (at_builtin; refine wpList_app _ rfl _ _ 23 rfl w.heap.size 56 i0 _ 7 80 Tryz.underlying23 hi hz0 hz1 hz2 rfl (by decide) _ 0 [] rfl HO.out (w.alloc (.cells #[] 56)).heap.size _ n c (tkcells ms) 0 rfl (by rw [tkcells_len, HN.out]) (Lies.stay HL.out.1 ((Below.refl _ _).alloc (Nat.le_refl _) _)) (tkcells_one _) (by unfold maxLen; omega) (by omega) (by simp) ?_)
    intro v' w1 hown' hgrow _
    obtain ⟨A2, k2, rfl⟩ := own_slice hown'
    have T1 := app_below HO.out hgrow
    have ho2 : w1.ownsRow w.heap.size 56 7 (.slice A2 n k2) n (tkcells ms) := by simpa using hown'
    have HO2 := Lib.hid ho2
    have HT := Lib.hid T1
    clear hown' ho2 T1 hgrow
    go_wp2
    go_ret
    refine ⟨A2, k2, by simp, HO2.out, HT.out⟩
theorem own_tags {w : World} {B g n c k : Nat} {ms : List MTk} {mk : MTk} {A : Option Addr} {c' : Nat} (h : w.ownsRow B 56 7 (.slice (some ⟨g, 0, none⟩) n c) n (tkcells ms)) (hn : ms.length = n) (hm : ms[k]? = some mk) (hk : k < n) :
    (w.setCell ⟨g, k * 7 + 6, none⟩ (.slice A mk.t.tags.length c')).ownsRow B 56 7 (.slice (some ⟨g, 0, none⟩) n c) n (tkcells (ms.set k ⟨mk.t, A, c'⟩)) := by
  rw [← tkcells_put hm (by decide : 6 < 7) (v := .slice A mk.t.tags.length c') rfl]
  exact own_setCells (vs := [.slice A mk.t.tags.length c']) h (by rw [tkcells_len, hn]; simp; omega)
theorem own_blk12 {w : World} {B g n c : Nat} {xs : List Value} {t : TypeId} {size : Nat} (h : w.ownsRow B t size (.slice (some ⟨g, 0, none⟩) n c) n xs) : ∃ cur, w.heap[g]? = some (.cells cur t (0, 0)) := by
  rcases h.2 with ⟨q, _⟩ | ⟨g2, cap, cur, hv, _, hgb, _⟩
  · cases q
  · injection hv with hv _ _
    injection hv with hv
    injection hv with hv _ _
    subst hv
    exact ⟨cur, hgb⟩
theorem tks_set12 {qs : List MTk} {i : Nat} {m m' : MTk} (h : qs[i]? = some m) (e : m'.t = m.t) : tks (qs.set i m') = tks qs := by
  unfold tks
  apply List.ext_getElem?
  intro j
  rw [List.getElem?_map, List.getElem?_map, List.getElem?_set]
  by_cases q : i = j
  · subst q
    rw [h]
    obtain ⟨q1, _⟩ := List.getElem?_eq_some_iff.1 h
    simp [q1, e]
  · simp [q]
/-- Tasks of a call's own. -/
def OwnOk (ts : List T9.Tk) (w : World) (e : Ending) (w' : World) : Prop := ∃ A c qs, e = .returned (.slice A qs.length c) ∧ tks qs = ts ∧ Lies w' 0 56 A (tkcells qs) ∧ (∀ q ∈ qs, Lies w' 0 9 q.A (gcells q.t.tags) ∧ q.t.tags.length ≤ q.c) ∧ qs.length ≤ c ∧ Below w.heap.size w w'
set_option maxRecDepth 100000 in
set_option maxHeartbeats 4000000 in
theorem own12_c {A : Option Addr} {n c : Nat} {ms : List MTk} {w : World} (h : KL w A ms) (hn : n = ms.length) (hs : n ≤ 1000) (hg : ∀ m ∈ ms, m.t.tags.length ≤ 1000) : Calls Tryz.prog 55 #[.slice A n c] w (OwnOk (tks ms) w) := by
  have CC := Lib.hid (cloneK12_c (c := c) h hn (by omega))
  have HK := Lib.hid h
  have HN := Lib.hid hn
  have HG := Lib.hid hg
  clear h hn hg
  go_enter Tryz.func55, Tryz.ntmps55
  go_wp2_with (go_at_call 110; refine CC.out.mono ?_; rintro e w1 ⟨A2, c2, rfl, ho1, hb1⟩; have O1 := Lib.hid ho1; have B1 := Lib.hid hb1; clear ho1 hb1)
  go_loopw [9] (fun s9 wr => ∃ (i : Nat) (qs : List MTk), s9 = .int .i64 i ∧ i ≤ n ∧ Hid (qs.length = n ∧ tks qs = tks ms ∧ qs.drop i = ms.drop i ∧ ∀ j q, j < i → qs[j]? = some q → Lies wr 0 9 q.A (gcells q.t.tags) ∧ q.t.tags.length ≤ q.c) ∧ Hid (wr.ownsRow w.heap.size 56 7 (.slice A2 n c2) n (tkcells qs)) ∧ Hid (Below w.heap.size w wr)) (fun s9 _ => n - (intOf s9).toNat)
  case atStart => exact ⟨0, ms, rfl, Nat.zero_le _, Lib.hid ⟨HN.out.symm, rfl, rfl, fun j q hj => absurd hj (Nat.not_lt_zero _)⟩, O1, B1⟩
  case round =>
    obtain ⟨i, qs, rfl, hin, HQ, OR, BR⟩ := hrel
    by_cases hlt : i < n
    · have hltz : (i : Int) < (n : Int) := by omega
      obtain ⟨g, hA, hgB⟩ := own_at_any OR.out (by omega)
      subst hA
      obtain ⟨⟨tk, A4, c4⟩, hm⟩ : ∃ m, qs[i]? = some m := ⟨_, List.getElem?_eq_getElem (by have := HQ.out.1; omega)⟩
      have hm2 : ms[i]? = some ⟨tk, A4, c4⟩ := by
        have e := congrArg (·[0]?) HQ.out.2.2.1
        simp only [List.getElem?_drop, Nat.add_zero] at e
        rw [← e]; exact hm
      have HM := Lib.hid hm
      have FI : Hid ((⟨tk, A4, c4⟩ : MTk).fine w) := Lib.hid (HK.out.2 _ (List.mem_of_getElem? hm2))
      have TG : Hid (tk.tags.length ≤ 1000) := Lib.hid (HG.out _ (List.mem_of_getElem? hm2))
      have oc := fun (j : Nat) (v : Value) (hj : (encK ⟨tk, A4, c4⟩)[j]? = some v) => own_cellAt OR.out (cel_range (fun x _ => encK_len x) hm j v hj)
      have r0 : wr.cell? ⟨g, i * 7, none⟩ = some (.int .u64 (tk.id : Int)) := by simpa using oc 0 _ rfl
      have r1 := oc 1 _ rfl
      have r2 := oc 2 _ rfl
      have r3 := oc 3 _ rfl
      have r4 := oc 4 _ rfl
      have r5 := oc 5 _ rfl
      have r6 := oc 6 _ rfl
      obtain ⟨w2, hw2⟩ : ∃ u, wr.alloc (.cells #[.int .u64 (tk.id : Int), .int .u64 (tk.list : Int), .string (str tk.title), .bool tk.done, .float .f64 tk.rank, .float .f64 tk.est, .slice A4 tk.tags.length c4] 56) = u := ⟨_, rfl⟩
      obtain ⟨lb, b2, z2⟩ := new_seven hw2
      have B2 := Lib.hid b2
      have CT := Lib.hid (cloneS10_c (n := tk.tags.length) (c := c4) (FI.out.stay (BR.out.trans (b2.mono BR.out.size))).1 rfl (by have := TG.out; omega))
      obtain ⟨l0, l1, l2, l3, l4, l5, l6⟩ := seven_cells lb
      have k0 : 0 ≤ (i : Int) := by omega
      clear oc hm hm2 lb b2
      go_wp2_with (go_at_call 111; refine CT.out.mono ?_; rintro e w3 ⟨A5, c5, rfl, h5, hc5, hb3⟩; have B3 := Lib.hid hb3; have H5 := Lib.hid h5; have C5 := Lib.hid hc5; have O3 := Lib.hid (own_below (own_below OR.out B2.out) hb3); obtain ⟨cur3, hg3⟩ := own_blk12 O3.out; have fz := blk_free hg3 (i * 7 + 6); have r6' := own_cellAt O3.out (cel_range (fun x _ => encK_len x) HM.out 6 _ rfl); have GB3 := Lib.hid hg3; clear h5 hc5 hb3 hg3)
      obtain ⟨w4, hw4⟩ : ∃ u, w3.setCell ⟨g, i * 7 + 6, none⟩ (.slice A5 tk.tags.length c5) = u := ⟨_, rfl⟩
      try rw [hw4]
      have T4 : Tch w.heap.size [56] w3 w4 := by rw [← hw4]; exact (Tch.refl _ _ _).setCell (p := ⟨g, i * 7 + 6, none⟩) GB3.out (by simp) hgB _
      have O4 : Hid (w4.ownsRow w.heap.size 56 7 (.slice (some ⟨g, 0, none⟩) n c2) n (tkcells (qs.set i ⟨tk, A5, c5⟩))) := Lib.hid (by rw [← hw4]; exact own_tags O3.out HQ.out.1 HM.out hlt)
      have T4' := Lib.hid T4
      clear T4 hw4 fz r6'
      go_roundw
      case rel =>
        have BB := BR.out.trans ((B2.out.trans (B3.out.mono B2.out.size)).mono BR.out.size)
        refine ⟨i + 1, qs.set i ⟨tk, A5, c5⟩, by go_num, by omega, Lib.hid ⟨by rw [List.length_set]; exact HQ.out.1, (tks_set12 (m' := ⟨tk, A5, c5⟩) HM.out rfl).trans HQ.out.2.1, ?_, ?_⟩, O4, Lib.hid (BB.trans (T4'.out.below))⟩
        · rw [List.drop_set_of_lt (by omega), ← List.drop_drop, ← List.drop_drop, HQ.out.2.2.1]
        · intro j q hj hq
          by_cases e : j = i
          · subst e
            rw [List.getElem?_set_self (by have := HQ.out.1; omega)] at hq
            injection hq with hq
            subst hq
            exact ⟨H5.out.tch (T4'.out.mono (Nat.zero_le _)) (by decide), C5.out⟩
          · rw [List.getElem?_set_ne (fun z => e z.symm)] at hq
            obtain ⟨q1, q2⟩ := HQ.out.2.2.2 j q (by omega) hq
            exact ⟨(q1.tch (Tch.of_below (B := 0) (B2.out.trans (B3.out.mono B2.out.size)) (Nat.zero_le _) []) (by simp)).tch (T4'.out.mono (Nat.zero_le _)) (by decide), q2⟩
      case measure => simp [intOf]; omega
    · obtain rfl : i = n := by omega
      have hltz : ¬ ((i : Int) < (i : Int)) := by omega
      go_wp2
      go_ret
      refine ⟨A2, c2, qs, by rw [HQ.out.1]; rfl, HQ.out.2.1, lies_own (B := 0) OR.out, fun q hq => ?_, by rw [HQ.out.1]; exact own_room3 OR.out, BR.out⟩
      obtain ⟨j, hj, e⟩ := List.getElem_of_mem hq
      exact HQ.out.2.2.2 j q (by have := HQ.out.1; omega) (by rw [List.getElem?_eq_getElem hj, e])
end
end
section
set_option maxRecDepth 100000
set_option linter.unusedSimpArgs false
section
open Go.RowKit Go.Lib Go.Shelf
theorem res_map {α β : Type} (f : α → β) {g : α → Nat} {g' : β → Nat} (hg : ∀ x, g x = g' (f x)) (ls : List α) (gs : List Nat) (ps : List α) (k : Nat) : resN g' (ls.map f) gs (ps.map f) k = (resN g ls gs ps k).map f := by
  unfold resN minN
  rw [first_map f hg, first_map f hg]
  cases firstN g ps k with
  | none => simp only [Option.map_none, Option.isSome_none, Bool.false_eq_true, if_false]; by_cases e : k ∈ gs <;> simp [e]
  | some x => simp
theorem told_map {ms ps rs : List MTk} {gs : List Nat} (h : Told idK (resN idK ms gs ps) rs) : Told T9.Tk.id (resN T9.Tk.id (tks ms) gs (tks ps)) (tks rs) := by
  refine ⟨List.pairwise_map.2 h.srt, fun k => ?_⟩
  have q1 := first_map MTk.t (g := idK) (g' := T9.Tk.id) (fun _ => rfl) rs k
  have q2 := res_map MTk.t (g := idK) (g' := T9.Tk.id) (fun _ => rfl) ms gs ps k
  exact q1.trans ((congrArg (Option.map MTk.t) (h.fst k)).trans q2.symm)
theorem bl12e (A A2 : Option Addr) (n c n2 c2 : Nat) (w : World) : (Instr.build 25 #[(0, .slice A n c), (1, .slice A2 n2 c2)]).run Tryz.prog w = .ok (.agg #[.slice A n c, .slice A2 n2 c2]) w := run_build w 25 _ _ (by kernel_rfl)
theorem first_self12 {α : Type} {g : α → Nat} {ls : List α} (h : ls.Pairwise (fun x y => g x < g y)) {m : α} (hm : m ∈ ls) : firstN g ls (g m) = some m := by
  obtain ⟨i, hi, e⟩ := List.getElem_of_mem hm
  have hx : ls[i]? = some m := by rw [List.getElem?_eq_getElem hi, e]
  exact find_hit (first_prior h i m hx) hx (by simp)
/-- What Apply hands back. -/
def ApOk (s : T9.St) (p : PDt) (w : World) (e : Ending) (w' : World) : Prop := ∃ m : MSt, e = .returned (.tuple #[m.val, .int .i64 0]) ∧ TS m w' ∧ Told idL (resN idL s.lists p.gl p.ls) m.ls ∧ Told T9.Tk.id (resN T9.Tk.id s.tasks p.gk (tks p.ms)) (tks m.ms) ∧ Below w.heap.size w w'
set_option maxRecDepth 100000 in
set_option maxHeartbeats 8000000 in
theorem apply12_c {a : MSt} {p : PDt} {w : World} (ha : SM a w) (la : a.st.light) (oa : a.st.ok) (hp : TPd p w) (b1 : p.ls.length ≤ 1000) (b2 : p.ms.length ≤ 1000) (b3 : p.gl.length ≤ 1000) (b4 : p.gk.length ≤ 1000) (bt : ∀ m ∈ p.ms, m.t.tags.length ≤ 1000)
    (il : ∀ l ∈ p.ls, l.id < 18446744073709551616) (ik : ∀ m ∈ p.ms, m.t.id < 18446744073709551616) (dl : p.gl.Nodup) (dk : p.gk.Nodup) (tl : ∀ n ∈ p.gl, ∃ y, firstN idL (T9.canon a.st).lists n = some y) (tk : ∀ n ∈ p.gk, ∃ y, firstN T9.Tk.id (T9.canon a.st).tasks n = some y)
    (hR : ∀ ls ts, Told idL (resN idL (T9.canon a.st).lists p.gl p.ls) ls → Told T9.Tk.id (resN T9.Tk.id (T9.canon a.st).tasks p.gk (tks p.ms)) ts → T9.rightE ⟨ls, ts⟩ = 0 ∧ (⟨ls, ts⟩ : T9.St).short) :
    Calls Tryz.prog 21 #[a.val, .agg p.cells] w (ApOk (T9.canon a.st) p w) := by
  obtain ⟨pls, A, c, pms, A2, c2, pgl, A3, c3, pgk, A4, c4⟩ := p
  dsimp only at b1 b2 b3 b4 bt il ik dl dk tl tk hR
  obtain ⟨n1, h1⟩ : ∃ n, pls.length = n := ⟨_, rfl⟩
  obtain ⟨n2, h2⟩ : ∃ n, pms.length = n := ⟨_, rfl⟩
  obtain ⟨n3, h3⟩ : ∃ n, pgl.length = n := ⟨_, rfl⟩
  obtain ⟨n4, h4⟩ : ∃ n, pgk.length = n := ⟨_, rfl⟩
  unfold PDt.cells
  dsimp only
  rw [h1, h2, h3, h4]
  obtain ⟨w1, hw1⟩ : ∃ u, w.alloc (.cells #[.slice a.A a.ls.length a.c, .slice a.A2 a.ms.length a.c2] 25) = u := ⟨_, rfl⟩
  obtain ⟨pa, e1, z1⟩ := new_two hw1
  obtain ⟨w2, hw2⟩ : ∃ u, w1.alloc (.cells #[.slice A n1 c, .slice A2 n2 c2, .slice A3 n3 c3, .slice A4 n4 c4] 44) = u := ⟨_, rfl⟩
  have e2 : Below w1.heap.size w1 w2 := by rw [← hw2]; exact (Below.refl _ _).alloc (Nat.le_refl _) _
  have pb : w2.heap[w1.heap.size]? = some (.cells #[.slice A n1 c, .slice A2 n2 c2, .slice A3 n3 c3, .slice A4 n4 c4] 44 (0, 0)) := by rw [← hw2]; exact World.alloc_heap_new w1 _
  have z2 : w2.heap.size = w1.heap.size + 1 := by rw [← hw2]; simp
  obtain ⟨w3, hw3⟩ : ∃ u, w2.alloc (.cells #[.slice none 0 0, .slice none 0 0] 25) = u := ⟨_, rfl⟩
  obtain ⟨pc, e3, z3⟩ := new_two hw3
  have y2 : w2.heap.size = w.heap.size + 2 := by omega
  have y3 : w3.heap.size = w.heap.size + 3 := by omega
  clear z2 z3
  rw [z1] at pb
  rw [y2] at pc
  have B3 : Hid (Below w.heap.size w w3) := Lib.hid ((e1.trans (e2.mono (by omega))).trans (e3.mono (by omega)))
  have ga := (e3.block w.heap.size (by omega)).trans ((e2.block w.heap.size (by omega)).trans pa)
  have PA := Lib.hid ga
  have PP := Lib.hid ((e3.block (w.heap.size + 1) (by omega)).trans pb)
  have PC := Lib.hid pc
  have Y3 := Lib.hid y3
  have CA := Lib.hid (canonTS_c (ha.stay B3.out) la)
  unfold MSt.val at CA
  have TP3 := Lib.hid (hp.stay B3.out)
  have LA := Lib.hid (c12_light la)
  have OA := Lib.hid (c12_ok oa)
  have BT := Lib.hid bt
  have IL := Lib.hid il
  have IK := Lib.hid ik
  have DL := Lib.hid dl
  have DK := Lib.hid dk
  have TL := Lib.hid tl
  have TK := Lib.hid tk
  have HR := Lib.hid hR
  have H1 := Lib.hid h1
  have H2 := Lib.hid h2
  have H3 := Lib.hid h3
  have H4 := Lib.hid h4
  rw [h1] at b1
  rw [h2] at b2
  rw [h3] at b3
  rw [h4] at b4
  obtain ⟨x0, x1⟩ := two_cells ga
  clear ha la oa hp bt il ik dl dk tl tk hR pa pb pc e1 e2 e3 ga h1 h2 h3 h4
  show Calls Tryz.prog 21 #[.agg #[.slice a.A a.ls.length a.c, .slice a.A2 a.ms.length a.c2], .agg #[.slice A n1 c, .slice A2 n2 c2, .slice A3 n3 c3, .slice A4 n4 c4]] w _
  go_enter Tryz.func21, Tryz.ntmps21
  go_upto_region 2 with (go_at_call 30; refine CA.out.mono ?_; rintro e w4 ⟨sa, rfl, hta, hsa, hba⟩; have TA := Lib.hid hta; have QA := Lib.hid hsa; have ga4 := blk_keep PA.out hba; have f0 := blk_free ga4 0; have f1 := blk_free ga4 1; have GA4 := Lib.hid ga4; have PP4 := Lib.hid (blk_keep PP.out hba); have PC4 := Lib.hid (blk_keep PC.out hba); have TP4 := Lib.hid (TP3.out.stay hba); have B4 : Hid (Below w.heap.size w w4) := Lib.hid (B3.out.trans (hba.mono B3.out.size)); obtain ⟨q0, q1⟩ := two_cells ga4; clear hta hsa hba ga4 x0 x1)
  obtain ⟨w5, hw5⟩ : ∃ u, (w4.setCell ⟨w.heap.size, 0, none⟩ (.slice sa.A sa.ls.length sa.c)).setCell ⟨w.heap.size, 1, none⟩ (.slice sa.A2 sa.ms.length sa.c2) = u := ⟨_, rfl⟩
  try rw [hw5]
  obtain ⟨t5, ga5, k5, be5⟩ := st_set GA4.out hw5
  have GA5 := Lib.hid ga5
  have PP5 := Lib.hid ((k5 (w.heap.size + 1) (by omega)).trans PP4.out)
  have PC5 := Lib.hid ((k5 (w.heap.size + 2) (by omega)).trans PC4.out)
  have TA5 := Lib.hid (TA.out.tch t5 (by decide) (by decide) (by decide))
  have TP5 := Lib.hid (TP4.out.tch t5 (by decide) (by decide) (by decide) (by decide))
  have B5 : Hid (Below w.heap.size w w5) := Lib.hid (B4.out.trans (be5 _ (Nat.le_refl _)))
  have EA1 : sa.ls = (T9.canon a.st).lists := congrArg T9.St.lists QA.out
  have EA2 : tks sa.ms = (T9.canon a.st).tasks := congrArg T9.St.tasks QA.out
  have NA1 : sa.ls.length ≤ 25 := by rw [EA1]; exact LA.out.nl
  have NA2 : sa.ms.length ≤ 70 := by rw [← tks_len, EA2]; exact LA.out.nt
  have CT := Lib.hid (trnL_c (c1 := sa.c) (c2 := c3) (c3 := c) TA5.out.sm.l TP5.out.g TP5.out.l.old rfl H3.out.symm H1.out.symm (by omega) b3 b1 (fun l hl => OA.out.1 l (by rw [← EA1]; exact hl)) IL.out DL.out (fun n hn => by rw [EA1]; exact TL.out n hn))
  have E1 := Lib.hid EA1
  have E2 := Lib.hid EA2
  have OK2 : Hid (∀ m ∈ sa.ms, idK m < 18446744073709551616) := Lib.hid (fun m hm => (OA.out.2 m.t (by rw [← EA2]; exact List.mem_map.2 ⟨m, hm, rfl⟩)).1)
  have TK2 : Hid (∀ n ∈ pgk, ∃ y, firstN idK sa.ms n = some y) := Lib.hid (fun n hn => by
    obtain ⟨y, hy⟩ := TK.out n hn
    rw [← EA2] at hy
    have q := (first_map MTk.t (g := idK) (g' := T9.Tk.id) (fun _ => rfl) sa.ms n).symm.trans hy
    obtain ⟨x, hx, _⟩ := Option.map_eq_some_iff.1 q
    exact ⟨x, hx⟩)
  obtain ⟨x0, x1⟩ := two_cells GA5.out
  obtain ⟨y0, y1, y2, y3⟩ := four12 PP5.out
  clear t5 ga5 k5 be5 f0 f1 q0 q1 hw5 EA1 EA2 GA4 PP4 PC4 TA TP4 B4 PA PP PC TP3
  go_upto_region 3 with (go_at_call 53; refine CT.out.mono ?_; rintro e w6 ⟨R1, rc1, rl, rfl, ht6, hl6, hc6, hb6⟩; have T6 := Lib.hid ht6; have L6 := Lib.hid hl6; have C6 := Lib.hid hc6; have HB6 := Lib.hid hb6; clear ht6 hl6 hc6 hb6)
  have GA := Lib.hid (blk_keep GA5.out HB6.out)
  have GP := Lib.hid (blk_keep PP5.out HB6.out)
  have PC6 := Lib.hid (blk_keep PC5.out HB6.out)
  have TA6 := Lib.hid (TA5.out.stay HB6.out)
  have TP6 := Lib.hid (TP5.out.stay HB6.out)
  have B6 : Hid (Below w.heap.size w w6) := Lib.hid (B5.out.trans (HB6.out.mono B5.out.size))
  have ZC : Hid (w.heap.size + 2 < w6.heap.size) := Lib.hid (lt_of_block PC6.out)
  have CO := Lib.hid (own12_c (c := c2) (⟨TP6.out.k.old, fun m hm => ⟨(TP6.out.t m hm).1.old, (TP6.out.t m hm).2⟩⟩ : KL w6.drew A2 pms) H2.out.symm b2 BT.out)
  clear x0 x1 y0 y1 y2 y3 CT GA5 PP5 PC5 TA5 TP5 B5
  refine wp_region_held_drew (S := fun u => Below w6.heap.size w6 u) (by kernel_rfl) ((Below.refl w6.heap.size w6).drew) (fun S0 => ?_)
  refine wpAnyH_take (i := 0) (v := ?_) rfl (by kernel_rfl) (by kernel_rfl) (by kernel_rfl) (fun _ _ _ h => h) (Or.inl ⟨by rfl, ?_⟩) S0 ?_
  rotate_left
  · intro u hu
    skip
    go_simp
    try rfl
  try simp only [Act.put, List.setIfInBounds_toArray, List.set_cons_zero, List.set_cons_succ, List.getElem_toArray, List.getElem_cons_zero, List.getElem_cons_succ]
  refine wpAnyH_take (i := 1) (v := ?_) rfl (by kernel_rfl) (by kernel_rfl) (by kernel_rfl) (fun _ _ _ h => h) (Or.inl ⟨by rfl, ?_⟩) S0 ?_
  rotate_left
  · intro u hu
    obtain ⟨y0, y1⟩ := two_cells (blk_keep GA.out hu)
    go_simp
    try rfl
  try simp only [Act.put, List.setIfInBounds_toArray, List.set_cons_zero, List.set_cons_succ, List.getElem_toArray, List.getElem_cons_zero, List.getElem_cons_succ]
  refine wpAnyH_take (i := 2) (v := ?_) rfl (by kernel_rfl) (by kernel_rfl) (by kernel_rfl) (fun _ _ _ h => h) (Or.inl ⟨by rfl, ?_⟩) S0 ?_
  rotate_left
  · intro u hu
    skip
    go_simp
    try rfl
  try simp only [Act.put, List.setIfInBounds_toArray, List.set_cons_zero, List.set_cons_succ, List.getElem_toArray, List.getElem_cons_zero, List.getElem_cons_succ]
  refine wpAnyH_take (i := 3) (v := ?_) rfl (by kernel_rfl) (by kernel_rfl) (by kernel_rfl) (fun _ _ _ h => h) (Or.inl ⟨by rfl, ?_⟩) S0 ?_
  rotate_left
  · intro u hu
    obtain ⟨y0, y1, y2, y3⟩ := four12 (blk_keep GP.out hu)
    go_simp
    try rfl
  try simp only [Act.put, List.setIfInBounds_toArray, List.set_cons_zero, List.set_cons_succ, List.getElem_toArray, List.getElem_cons_zero, List.getElem_cons_succ]
  refine wpAnyH_take (i := 4) (v := ?_) rfl (by kernel_rfl) (by kernel_rfl) (by kernel_rfl) (fun _ _ _ h => h) (Or.inl ⟨by rfl, ?_⟩) S0 ?_
  rotate_left
  · intro u hu
    skip
    go_simp
    try rfl
  try simp only [Act.put, List.setIfInBounds_toArray, List.set_cons_zero, List.set_cons_succ, List.getElem_toArray, List.getElem_cons_zero, List.getElem_cons_succ]
  refine wpAnyH_take (i := 5) (v := ?_) rfl (by kernel_rfl) (by kernel_rfl) (by kernel_rfl) (fun _ _ _ h => h) (Or.inl ⟨by rfl, ?_⟩) S0 ?_
  rotate_left
  · intro u hu
    obtain ⟨y0, y1, y2, y3⟩ := four12 (blk_keep GP.out hu)
    go_simp
    try rfl
  try simp only [Act.put, List.setIfInBounds_toArray, List.set_cons_zero, List.set_cons_succ, List.getElem_toArray, List.getElem_cons_zero, List.getElem_cons_succ]
  refine anyH_one9 (i := 6) (by kernel_rfl) rfl (fun K hK => ?_)
  go_simp
  refine CO.out.mono ?_
  rintro e w7 ⟨O1, oc, qs, rfl, hq7, hl7, ht7, hc7, hb7⟩
  have S1 : Below w6.heap.size w6 w7 := S0.trans (hb7.mono S0.size)
  have K7 : KL w7 O1 qs := ⟨hl7.old, fun m hm => ⟨(ht7 m hm).1.old, (ht7 m hm).2⟩⟩
  have NQ : qs.length = n2 := by rw [← tks_len, hq7, tks_len]; exact H2.out
  have CT := Lib.hid (trnK_c (c1 := sa.c2) (c2 := c4) (c3 := oc) (TA6.out.sm.stay S1).k (TP6.out.stay S1).h K7 rfl H4.out.symm rfl (by omega) b4 (by rw [NQ]; exact b2) OK2.out (fun m hm => by
    have q : m.t ∈ tks pms := by rw [← hq7]; exact List.mem_map.2 ⟨m, hm, rfl⟩
    obtain ⟨m', r1, r2⟩ := List.mem_map.1 q
    show m.t.id < _
    rw [← r2]
    exact IK.out m' r1) DK.out TK2.out)
  have HQ7 := Lib.hid hq7
  have TQ7 := Lib.hid ht7
  clear hq7 hl7 ht7 hc7 hb7 K7 NQ
  refine hK _ _ S1 ?_
  clear hK K S0
  have S0 := S1
  clear S1
  try simp only [Act.put, List.setIfInBounds_toArray, List.set_cons_zero, List.set_cons_succ, List.getElem_toArray, List.getElem_cons_zero, List.getElem_cons_succ]
  refine anyH_one9 (i := 7) (by kernel_rfl) rfl (fun K hK => ?_)
  go_simp
  refine CT.out.mono ?_
  rintro e w8 ⟨R2, rc2, rk, rfl, ht8, hl8, hc8, hb8⟩
  have S1 : Below w6.heap.size w6 w8 := S0.trans (hb8.mono S0.size)
  have T8 := Lib.hid ht8
  have L8 := Lib.hid hl8
  have C8 := Lib.hid hc8
  have TQ8 := Lib.hid (fun m hm => (show Lies w8 0 9 m.A (gcells m.t.tags) ∧ m.t.tags.length ≤ m.c from ⟨(TQ7.out m hm).1.tch (Tch.of_below (B := 0) hb8 (Nat.zero_le _) []) (by simp), (TQ7.out m hm).2⟩))
  clear ht8 hl8 hc8 hb8
  refine hK _ _ S1 ?_
  clear hK K S0
  have S0 := S1
  clear S1
  try simp only [Act.put, List.setIfInBounds_toArray, List.set_cons_zero, List.set_cons_succ, List.getElem_toArray, List.getElem_cons_zero, List.getElem_cons_succ]
  refine wpAnyH_take (i := 8) (v := ?_) rfl (by kernel_rfl) (by kernel_rfl) (by kernel_rfl) (fun _ _ _ h => h) (Or.inl ⟨by rfl, ?_⟩) S0 ?_
  rotate_left
  · intro u hu
    skip
    go_simp
    try rfl
  try simp only [Act.put, List.setIfInBounds_toArray, List.set_cons_zero, List.set_cons_succ, List.getElem_toArray, List.getElem_cons_zero, List.getElem_cons_succ]
  refine wpAnyH_take (i := 9) (v := ?_) rfl (by kernel_rfl) (by kernel_rfl) (by kernel_rfl) (fun _ _ _ h => h) (Or.inl ⟨by rfl, ?_⟩) S0 ?_
  rotate_left
  · intro u hu
    skip
    go_simp
    try rfl
  try simp only [Act.put, List.setIfInBounds_toArray, List.set_cons_zero, List.set_cons_succ, List.getElem_toArray, List.getElem_cons_zero, List.getElem_cons_succ]
  refine wpAnyH_take (i := 10) (v := ?_) rfl (by kernel_rfl) (by kernel_rfl) (by kernel_rfl) (fun _ _ _ h => h) (Or.inl ⟨by rfl, ?_⟩) S0 ?_
  rotate_left
  · intro u hu
    skip
    go_simp
    try rfl
  try simp only [Act.put, List.setIfInBounds_toArray, List.set_cons_zero, List.set_cons_succ, List.getElem_toArray, List.getElem_cons_zero, List.getElem_cons_succ]
  refine wpAnyH_take (i := 11) (v := ?_) rfl (by kernel_rfl) (by kernel_rfl) (by kernel_rfl) (fun _ _ _ h => h) (Or.inl ⟨by rfl, ?_⟩) S0 ?_
  rotate_left
  · intro u hu
    skip
    go_simp
    try rfl
  try simp only [Act.put, List.setIfInBounds_toArray, List.set_cons_zero, List.set_cons_succ, List.getElem_toArray, List.getElem_cons_zero, List.getElem_cons_succ]
  refine wpAnyH_take (i := 12) (v := ?_) rfl (by kernel_rfl) (by kernel_rfl) (by kernel_rfl) (fun _ _ _ h => h) (Or.inl ⟨by rfl, ?_⟩) S0 ?_
  rotate_left
  · intro u hu
    skip
    go_simp
    try rfl
  try simp only [Act.put, List.setIfInBounds_toArray, List.set_cons_zero, List.set_cons_succ, List.getElem_toArray, List.getElem_cons_zero, List.getElem_cons_succ]
  refine wpAnyH_done (by kernel_rfl) ?_ _
  have S8 := Lib.hid S0
  have TT := told_map T8.out
  rw [E2.out] at TT
  have T6' := T6.out
  rw [E1.out] at T6'
  rw [HQ7.out] at TT
  obtain ⟨RE, RS⟩ := HR.out rl (tks rk) T6' TT
  have TT8 := Lib.hid TT
  have TT6 := Lib.hid T6'
  obtain ⟨nl, hnl⟩ : ∃ n, rl.length = n := ⟨_, rfl⟩
  obtain ⟨nk, hnk⟩ : ∃ n, rk.length = n := ⟨_, rfl⟩
  have LL8 : LL w8 R1 rl := (L6.out.tch (Tch.of_below (B := 0) S8.out (Nat.zero_le _) []) (by simp)).old
  have KK8 : KL w8 R2 rk := ⟨L8.out.old, fun m hm => by
    have q := (T8.out.fst (idK m)).symm.trans (first_self12 T8.out.srt hm)
    rcases res_mem q with r | r
    · exact (TA6.out.sm.k.2 m r).stay S8.out
    · exact ⟨(TQ8.out m r).1.old, (TQ8.out m r).2⟩⟩
  have BW8 : Hid (Below w.heap.size w w8) := Lib.hid (B6.out.trans (S8.out.mono B6.out.size))
  have PC8 := Lib.hid (blk_keep PC6.out S8.out)
  try rw [hnl]
  try rw [hnk]
  have C6' : nl ≤ rc1 := by rw [← hnl]; exact C6.out
  have C8' : nk ≤ rc2 := by rw [← hnk]; exact C8.out
  obtain ⟨w9, hw9⟩ : ∃ u, w8.alloc (.cells #[.slice R1 nl rc1, .slice R2 nk rc2] 25) = u := ⟨_, rfl⟩
  obtain ⟨p9, b9, z9⟩ := new_two hw9
  have CR := Lib.hid (right_c (c := rc1) (c2 := rc2) (LL8.stay b9) (KK8.stay b9) hnl.symm hnk.symm RS ⟨C6', C8'⟩)
  rw [RE] at CR
  have HL8 := Lib.hid LL8
  have HK8 := Lib.hid KK8
  have HN1 := Lib.hid hnl
  have HN2 := Lib.hid hnk
  have P9 := Lib.hid p9
  have B9 := Lib.hid b9
  obtain ⟨s0, s1⟩ := two_cells p9
  have bl := bl12e
  clear TT T6' RE RS LL8 KK8 hnl hnk p9 b9
  go_upto_region 10 with (go_at_call 20; refine CR.out.mono ?_; rintro e wb ⟨rfl, hbb⟩; have BB := Lib.hid hbb; have pcb := blk_keep (blk_keep PC8.out B9.out) hbb; have PCB := Lib.hid pcb; obtain ⟨m0, m1⟩ := two_cells (blk_keep P9.out hbb); obtain ⟨v0, v1⟩ := two_cells pcb; have f0 := blk_free pcb 0; have f1 := blk_free pcb 1; clear hbb pcb s0 s1)
  obtain ⟨wz, hwz⟩ : ∃ u, (wb.setCell ⟨w.heap.size + 2, 0, none⟩ (.slice R1 nl rc1)).setCell ⟨w.heap.size + 2, 1, none⟩ (.slice R2 nk rc2) = u := ⟨_, rfl⟩
  obtain ⟨tz, gz, _, ez⟩ := st_set PCB.out hwz
  obtain ⟨u0, u1⟩ := two_cells gz
  have DB : Hid (Below w8.heap.size w8 wb) := Lib.hid (B9.out.trans (BB.out.mono B9.out.size))
  have TZ := Lib.hid tz
  have EZ := Lib.hid (ez w.heap.size (by omega))
  clear tz gz ez
  go_wp2
  try rw [hwz]
  refine bodyPost_ret (v := .tuple #[.agg #[.slice R1 nl rc1, .slice R2 nk rc2], .int .i64 0]) (by simp [results, Tryz.results21, go_sem, u0, u1]) rfl ?_
  have lift : ∀ {t : TypeId} {A : Option Addr} {xs : List Value}, Lies w8 0 t A xs → t ∉ [25] → Lies wz 0 t A xs := fun h ht => (h.tch (Tch.of_below (B := 0) DB.out (Nat.zero_le _) []) (by simp)).tch TZ.out ht
  refine ⟨⟨rl, R1, rc1, rk, R2, rc2⟩, by rw [← HN1.out, ← HN2.out]; rfl, ⟨lift (L6.out.tch (Tch.of_below (B := 0) S8.out (Nat.zero_le _) []) (by simp)) (by decide), lift L8.out (by decide), fun m hm => ?_, C6.out, C8.out⟩, TT6.out, TT8.out, (BW8.out.trans (DB.out.mono BW8.out.size)).trans EZ.out⟩
  have q := (T8.out.fst (idK m)).symm.trans (first_self12 T8.out.srt hm)
  rcases res_mem q with r | r
  · exact ⟨lift ((TA6.out.t m r).1.tch (Tch.of_below (B := 0) S8.out (Nat.zero_le _) []) (by simp)) (by decide), (TA6.out.t m r).2⟩
  · exact ⟨lift (TQ8.out m r).1 (by decide), (TQ8.out m r).2⟩
end
end
section
set_option maxRecDepth 100000
set_option linter.unusedSimpArgs false
section
theorem first_in {α : Type} {g : α → Nat} {ls : List α} (h : ls.Pairwise (fun x y => g x < g y)) {k : Nat} {x : α} (hx : x ∈ ls) (e : g x = k) : firstN g ls k = some x := by
  rw [← e]; exact first_self12 h hx
theorem first_none12 {α : Type} {g : α → Nat} {ls : List α} {k : Nat} (h : firstN g ls k = none) {x : α} (hx : x ∈ ls) : g x ≠ k := fun e => by
  have := first_some.2 ⟨x, hx, e⟩
  rw [h] at this
  cases this
/-- What is told of the two makes the other one of the one. -/
theorem turn_eq {α : Type} {g : α → Nat} {sm : α → α → Bool} {os ns : List α} (h2 : ns.Pairwise (fun x y => g x < g y)) (hs : ∀ x ∈ os, ∀ y ∈ ns, sm x y = true → x = y) (k : Nat) : resN g os (gone g os ns) (news g sm os ns) k = firstN g ns k := by
  unfold resN minN
  cases e : firstN g (news g sm os ns) k with
  | some x =>
    have hx : x ∈ news g sm os ns := List.mem_of_find?_eq_some e
    simp only [Option.isSome_some, if_true]
    exact (first_in h2 (news_mem hx) (first_id e)).symm
  | none =>
    simp only [Option.isSome_none, Bool.false_eq_true, if_false]
    by_cases q : k ∈ gone g os ns
    · rw [if_pos q]
      unfold gone at q
      obtain ⟨x, hx, rfl⟩ := List.mem_map.1 q
      have := (List.mem_filter.1 hx).2
      rw [Option.isNone_iff_eq_none] at this
      exact this.symm
    · rw [if_neg q]
      cases f : firstN g ns k with
      | none =>
        cases f2 : firstN g os k with
        | none => rfl
        | some x =>
          refine absurd ?_ q
          unfold gone
          exact List.mem_map.2 ⟨x, List.mem_filter.2 ⟨List.mem_of_find?_eq_some f2, by rw [first_id f2, f]; rfl⟩, first_id f2⟩
      | some y =>
        have hy : y ∈ ns := List.mem_of_find?_eq_some f
        have hn : y ∉ news g sm os ns := fun m => first_none12 e m (first_id f)
        unfold news at hn
        rw [List.mem_filter] at hn
        have hk := first_id f
        rw [hk] at hn
        cases f2 : firstN g os k with
        | none => rw [f2] at hn; exact absurd ⟨hy, rfl⟩ hn
        | some x =>
          rw [f2] at hn
          cases s : sm x y with
          | false => exact absurd ⟨hy, by simp [s]⟩ hn
          | true => rw [hs x (List.mem_of_find?_eq_some f2) y hy s]
/-- Two lists in order with the same elements at all numbers are one. -/
theorem told_eq {α : Type} {g : α → Nat} {rs ns : List α} (h1 : rs.Pairwise (fun x y => g x < g y)) (h2 : ns.Pairwise (fun x y => g x < g y)) (h : ∀ k, firstN g rs k = firstN g ns k) : rs = ns := by
  have nd : ∀ {l : List α}, l.Pairwise (fun x y => g x < g y) → l.Nodup := fun {l} q => q.imp (fun {a b} r e => by rw [e] at r; omega)
  refine List.Perm.eq_of_pairwise (le := fun a b => g a < g b) (fun a b _ _ r1 r2 => by omega) h1 h2 ((List.perm_ext_iff_of_nodup (nd h1) (nd h2)).2 fun x => ?_)
  constructor
  · intro hx
    have := first_self12 h1 hx
    rw [h] at this
    exact List.mem_of_find?_eq_some this
  · intro hx
    have := first_self12 h2 hx
    rw [← h] at this
    exact List.mem_of_find?_eq_some this
theorem told_turn {α : Type} {g : α → Nat} {sm : α → α → Bool} {os ns rs : List α} (h2 : ns.Pairwise (fun x y => g x < g y)) (hs : ∀ x ∈ os, ∀ y ∈ ns, sm x y = true → x = y) (h : Told g (resN g os (gone g os ns) (news g sm os ns)) rs) : rs = ns :=
  told_eq h.srt h2 fun k => (h.fst k).trans (turn_eq h2 hs k)
theorem gone_there {α : Type} {g : α → Nat} {os ns : List α} {n : Nat} (h : n ∈ gone g os ns) : ∃ y, firstN g os n = some y := by
  unfold gone at h
  obtain ⟨x, hx, rfl⟩ := List.mem_map.1 h
  exact Option.isSome_iff_exists.1 (first_some.2 ⟨x, (List.mem_filter.1 hx).1, rfl⟩)
theorem gone_nodup {α : Type} {g : α → Nat} {os ns : List α} (h : os.Pairwise (fun x y => g x < g y)) : (gone g os ns).Nodup := by
  have hp : (gone g os ns).Pairwise (· < ·) := by
    unfold gone
    rw [List.pairwise_map]
    exact h.filter _
  exact hp.imp (fun {a b} r => by omega)
theorem news_self {α : Type} {g : α → Nat} {sm : α → α → Bool} {os : List α} (h : os.Pairwise (fun x y => g x < g y)) (hr : ∀ x, sm x x = true) : news g sm os os = [] := by
  unfold news
  rw [List.filter_eq_nil_iff]
  intro x hx
  rw [first_self12 h hx]
  simp [hr]
theorem gone_self {α : Type} {g : α → Nat} {os : List α} : gone g os os = [] := by
  unfold gone
  rw [List.map_eq_nil_iff, List.filter_eq_nil_iff]
  intro x hx
  have := (first_some (g := g) (ls := os) (k := g x)).2 ⟨x, hx, rfl⟩
  rw [Option.isNone_iff_eq_none]
  intro e
  rw [e] at this
  cases this
end
end
section
set_option maxRecDepth 100000
set_option linter.unusedSimpArgs false
section
theorem canon_same12 {a b : Nat} (ha : a < 18446744073709551616) (hb : b < 18446744073709551616) (h : Fl.same a b = true) : Fl.canon a = Fl.canon b := by
  have e := T9.same_key h
  have p := T9.rdF_key ha []
  rw [e] at p
  exact congrArg Prod.fst (p.symm.trans (T9.rdF_key hb []))
/-- A task as it stands in a state that is its own Canon. -/
theorem canon_float12 {s : T9.St} (h : T9.canon s = s) {t : T9.Tk} (ht : t ∈ s.tasks) : Fl.canon t.rank = t.rank ∧ Fl.canon t.est = t.est := by
  rw [← h] at ht
  obtain ⟨u, _, rfl⟩ := List.mem_map.1 ht
  exact ⟨Fl.canon_canon _, Fl.canon_canon _⟩
theorem same1_eq12 {x y : T9.Tk} (ox : x.ok) (oy : y.ok) (cx : Fl.canon x.rank = x.rank ∧ Fl.canon x.est = x.est) (cy : Fl.canon y.rank = y.rank ∧ Fl.canon y.est = y.est) (h : T9.same1 x y = true) : x = y := by
  unfold T9.same1 at h
  simp only [Bool.and_eq_true, beq_iff_eq, decide_eq_true_eq] at h
  obtain ⟨⟨⟨⟨⟨⟨h1, h2⟩, h3⟩, h4⟩, h5⟩, h6⟩, h7⟩ := h
  have r := canon_same12 ox.2.2.1 oy.2.2.1 h5
  have e := canon_same12 ox.2.2.2 oy.2.2.2 h6
  rw [cx.1, cy.1] at r
  rw [cx.2, cy.2] at e
  cases x
  cases y
  simp_all
theorem lists_srt12 {s : T9.St} (h : T9.canon s = s) : s.lists.Pairwise (fun x y => idL x < idL y) := by
  have := c12_lists s
  rwa [h] at this
theorem tasks_srt12 {s : T9.St} (h : T9.canon s = s) : s.tasks.Pairwise (fun x y => x.id < y.id) := by
  have := c12_tasks s
  rwa [h] at this
/-- What comes of a by what Of tells of a and b, is b. -/
theorem turns12 {a b : T9.St} (ca : T9.canon a = a) (cb : T9.canon b = b) (oa : a.ok) (ob : b.ok) {ls : List T9.Li} {ts : List T9.Tk} (h1 : Told idL (resN idL a.lists (goneL a b) (newL a b)) ls) (h2 : Told T9.Tk.id (resN T9.Tk.id a.tasks (goneK a b) (newK a b)) ts) : (⟨ls, ts⟩ : T9.St) = b := by
  have e1 : ls = b.lists := told_turn (lists_srt12 cb) (fun x _ y _ h => of_decide_eq_true h) h1
  have e2 : ts = b.tasks := told_turn (tasks_srt12 cb) (fun x hx y hy h => same1_eq12 (oa.2 x hx) (ob.2 y hy) (canon_float12 ca hx) (canon_float12 cb hy) h) h2
  rw [e1, e2]
/-- Of a state and itself nothing is told. -/
theorem self12 {a : T9.St} (ca : T9.canon a = a) : newL a a = [] ∧ newK a a = [] ∧ goneL a a = [] ∧ goneK a a = [] :=
  ⟨news_self (lists_srt12 ca) (fun _ => decide_eq_true rfl), news_self (tasks_srt12 ca) T9.same1_refl, gone_self, gone_self⟩
end
end
section
set_option maxRecDepth 100000
set_option linter.unusedSimpArgs false
section
open Go.RowKit Go.Lib Go.Shelf
theorem ofApply_c {a b : MSt} {v : World} (ha : SM a v) (la : a.st.light) (lb : b.st.light) (oa : a.st.ok) (ob : b.st.ok) (ra : T9.rightE a.st = 0) (rb : T9.rightE b.st = 0) {p : PDt} (hp : TPd p v)
    (p1 : p.ls = newL (T9.canon a.st) (T9.canon b.st)) (p2 : tks p.ms = newK (T9.canon a.st) (T9.canon b.st)) (p3 : p.gl = goneL (T9.canon a.st) (T9.canon b.st)) (p4 : p.gk = goneK (T9.canon a.st) (T9.canon b.st)) :
    Calls Tryz.prog 21 #[a.val, .agg p.cells] v fun e w' => ∃ m : MSt, e = .returned (.tuple #[m.val, .int .i64 0]) ∧ TS m w' ∧ m.st = b.st ∧ Below v.heap.size v w' := by
  have ca := T9.canon_right ra
  have cb := T9.canon_right rb
  rw [ca, cb] at p1 p2 p3 p4
  have q1 : ∀ m ∈ p.ms, m.t ∈ b.st.tasks := fun m hm => by
    have q : m.t ∈ tks p.ms := List.mem_map.2 ⟨m, hm, rfl⟩
    rw [p2] at q
    exact news_mem q
  have m1 : p.ls.length ≤ 25 := by rw [p1]; exact Nat.le_trans news_len lb.nl
  have m2 : p.ms.length ≤ 70 := by rw [← tks_len, p2]; exact Nat.le_trans news_len lb.nt
  have m3 : p.gl.length ≤ 25 := by rw [p3]; exact Nat.le_trans gone_len la.nl
  have m4 : p.gk.length ≤ 70 := by rw [p4]; exact Nat.le_trans gone_len la.nt
  have T := fun (ls : List T9.Li) (ts : List T9.Tk) (h1 : Told idL (resN idL a.st.lists p.gl p.ls) ls) (h2 : Told T9.Tk.id (resN T9.Tk.id a.st.tasks p.gk (tks p.ms)) ts) => turns12 (ls := ls) (ts := ts) ca cb oa ob (by rw [p1, p3] at h1; exact h1) (by rw [p2, p4] at h2; exact h2)
  refine (apply12_c ha la oa hp (by omega) (by omega) (by omega) (by omega) (fun m hm => by have := lb.few m.t (q1 m hm); omega) (fun l hl => by rw [p1] at hl; exact ob.1 l (news_mem hl)) (fun m hm => (ob.2 m.t (q1 m hm)).1) (by rw [p3]; exact gone_nodup (lists_srt12 ca)) (by rw [p4]; exact gone_nodup (tasks_srt12 ca)) (fun n hn => by rw [p3] at hn; rw [ca]; exact gone_there hn) (fun n hn => by rw [p4] at hn; rw [ca]; exact gone_there hn) (fun ls ts h1 h2 => by
    rw [ca] at h1 h2
    rw [T ls ts h1 h2]
    exact ⟨rb, lb.short⟩)).mono ?_
  rintro e w' ⟨m, rfl, hm, h1, h2, hb⟩
  rw [ca] at h1 h2
  exact ⟨m, rfl, hm, T m.ls (tks m.ms) h1 h2, hb⟩
theorem size0_12 {a : MSt} {p : PDt} {w : World} (ra : T9.rightE a.st = 0) (p1 : p.ls = newL (T9.canon a.st) (T9.canon a.st)) (p2 : tks p.ms = newK (T9.canon a.st) (T9.canon a.st)) (p3 : p.gl = goneL (T9.canon a.st) (T9.canon a.st)) (p4 : p.gk = goneK (T9.canon a.st) (T9.canon a.st)) :
    Calls Tryz.prog 19 #[.agg p.cells] w fun e w' => e = .returned (.int .i64 0) ∧ Below w.heap.size w w' := by
  have ca := T9.canon_right ra
  obtain ⟨s1, s2, s3, s4⟩ := self12 ca
  rw [ca] at p1 p2 p3 p4
  rw [s1] at p1
  rw [s2] at p2
  rw [s3] at p3
  rw [s4] at p4
  have l2 : p.ms.length = 0 := by rw [← tks_len, p2]; rfl
  have q := size12_c (p := p) (w := w) (by rw [p1]; simp) (by omega) (by rw [p3]; simp) (by rw [p4]; simp)
  have e : p.size = 0 := by unfold PDt.size; rw [p1, p3, p4, l2]; rfl
  rw [e] at q
  exact q
set_option maxRecDepth 100000 in
set_option maxHeartbeats 8000000 in
theorem diffTurns_c {a b : MSt} {w : World} (ha : SM a w) (oa : a.st.ok) (fa : a.far) (hb : SM b w) (ob : b.st.ok) (fb : b.far) :
    Calls Tryz.prog 5 #[a.val, b.val] w fun e w' => e = .returned (.bool true) ∧ Below w.heap.size w w' := by
  obtain ⟨w0, hw0⟩ : ∃ u, w.alloc (.cells #[.slice a.A a.ls.length a.c, .slice a.A2 a.ms.length a.c2] 25) = u := ⟨_, rfl⟩
  obtain ⟨pb0, b0, z0⟩ := new_two hw0
  obtain ⟨w1, hw1⟩ : ∃ u, w0.alloc (.cells #[.slice b.A b.ls.length b.c, .slice b.A2 b.ms.length b.c2] 25) = u := ⟨_, rfl⟩
  obtain ⟨pb1, b1, z1⟩ := new_two hw1
  rw [z0] at pb1
  have B1 : Hid (Below w.heap.size w w1) := Lib.hid (b0.trans (b1.mono (by omega)))
  have GA1 := Lib.hid (blk_keep pb0 b1)
  have GB1 := Lib.hid pb1
  have SA1 := Lib.hid (ha.stay B1.out)
  have SB1 := Lib.hid (hb.stay B1.out)
  have OA := Lib.hid oa
  have OB := Lib.hid ob
  have FA := Lib.hid fa
  have FB := Lib.hid fb
  have AW := Lib.hid (awake12_c w1)
  unfold MSt.val
  clear ha oa fa hb ob fb pb0 b0 pb1 b1
  go_enter Tryz.func5, Tryz.ntmps5
  go_wp2_with fail
  refine AW.out.mono ?_
  rintro e w2 ⟨rfl, h2⟩
  have GA2 := Lib.hid (blk_keep GA1.out h2)
  have GB2 := Lib.hid (blk_keep GB1.out h2)
  have SA2 := Lib.hid (SA1.out.stay h2)
  have SB2 := Lib.hid (SB1.out.stay h2)
  have B2 := Lib.hid (B1.out.trans (h2.mono B1.out.size))
  clear h2 GA1 GB1 SA1 SB1 AW
  obtain ⟨x0, x1⟩ := two_cells GA2.out
  have LS := Lib.hid (light9_c (c := a.c) (c2 := a.c2) SA2.out.l SA2.out.k rfl rfl FA.out)
  go_wp2_with fail
  refine LS.out.mono ?_
  rintro e w3 ⟨ba, rfl, hba, h3⟩
  have GA3 := Lib.hid (blk_keep GA2.out h3)
  have GB3 := Lib.hid (blk_keep GB2.out h3)
  have SA3 := Lib.hid (SA2.out.stay h3)
  have SB3 := Lib.hid (SB2.out.stay h3)
  have B3 := Lib.hid (B2.out.trans (h3.mono B2.out.size))
  clear h3 x0 x1 GA2 GB2 SA2 SB2 LS
  cases ba with
  | false =>
    clear hba
    go_wp2_with fail
    go_ret
    exact ⟨rfl, B3.out⟩
  | true =>
  have LTA := Lib.hid (hba rfl)
  clear hba
  obtain ⟨x0, x1⟩ := two_cells GB3.out
  have LS := Lib.hid (light9_c (c := b.c) (c2 := b.c2) SB3.out.l SB3.out.k rfl rfl FB.out)
  go_wp2_with fail
  refine LS.out.mono ?_
  rintro e w4 ⟨bb, rfl, hbb, h4⟩
  have GA4 := Lib.hid (blk_keep GA3.out h4)
  have GB4 := Lib.hid (blk_keep GB3.out h4)
  have SA4 := Lib.hid (SA3.out.stay h4)
  have SB4 := Lib.hid (SB3.out.stay h4)
  have B4 := Lib.hid (B3.out.trans (h4.mono B3.out.size))
  clear h4 x0 x1 GA3 GB3 SA3 SB3 LS
  cases bb with
  | false =>
    clear hbb
    go_wp2_with fail
    go_ret
    exact ⟨rfl, B4.out⟩
  | true =>
    have LTB := Lib.hid (hbb rfl)
    clear hbb
    obtain ⟨x0, x1⟩ := two_cells GA4.out
    obtain ⟨y0, y1⟩ := two_cells GB4.out
    obtain ⟨ra, hra⟩ : ∃ r, T9.rightE a.st = r := ⟨_, rfl⟩
    have RA := Lib.hid hra
    have CRA : Hid (Calls Tryz.prog 20 #[.agg #[.slice a.A a.ls.length a.c, .slice a.A2 a.ms.length a.c2]] w4 fun e w' => e = .returned (.int .i64 ra) ∧ Below w4.heap.size w4 w') := Lib.hid (by rw [← RA.out]; exact right_c SA4.out.l SA4.out.k rfl rfl LTA.out.short ⟨SA4.out.lc, SA4.out.kc⟩)
    clear hra
    go_wp2_with fail
    refine CRA.out.mono ?_
    rintro e w4p ⟨rfl, h4⟩
    have GA4p := Lib.hid (blk_keep GA4.out h4)
    have GB4p := Lib.hid (blk_keep GB4.out h4)
    have SA4p := Lib.hid (SA4.out.stay h4)
    have SB4p := Lib.hid (SB4.out.stay h4)
    have B4p := Lib.hid (B4.out.trans (h4.mono B4.out.size))
    clear h4 x0 x1 y0 y1
    by_cases za : ra = 0
    rotate_left
    · have hez : (ra != 0) = true := by simp [za]
      go_wp2_with fail
      go_ret
      exact ⟨rfl, B4p.out⟩
    subst za
    have h00 : ((0 : Int) != 0) = false := by decide
    obtain ⟨x0, x1⟩ := two_cells GA4p.out
    obtain ⟨y0, y1⟩ := two_cells GB4p.out
    obtain ⟨rb, hrb⟩ : ∃ r, T9.rightE b.st = r := ⟨_, rfl⟩
    have RB := Lib.hid hrb
    have CRB : Hid (Calls Tryz.prog 20 #[.agg #[.slice b.A b.ls.length b.c, .slice b.A2 b.ms.length b.c2]] w4p fun e w' => e = .returned (.int .i64 rb) ∧ Below w4p.heap.size w4p w') := Lib.hid (by rw [← RB.out]; exact right_c SB4p.out.l SB4p.out.k rfl rfl LTB.out.short ⟨SB4p.out.lc, SB4p.out.kc⟩)
    clear hrb
    go_wp2_with fail
    refine CRB.out.mono ?_
    rintro e w4q ⟨rfl, h4⟩
    have GA4q := Lib.hid (blk_keep GA4p.out h4)
    have GB4q := Lib.hid (blk_keep GB4p.out h4)
    have SA4q := Lib.hid (SA4p.out.stay h4)
    have SB4q := Lib.hid (SB4p.out.stay h4)
    have B4q := Lib.hid (B4p.out.trans (h4.mono B4p.out.size))
    clear h4 x0 x1 y0 y1
    by_cases zb : rb = 0
    rotate_left
    · have hez : (rb != 0) = true := by simp [zb]
      go_wp2_with fail
      go_ret
      exact ⟨rfl, B4q.out⟩
    subst zb
    have h00 : ((0 : Int) != 0) = false := by decide
    obtain ⟨x0, x1⟩ := two_cells GA4q.out
    obtain ⟨y0, y1⟩ := two_cells GB4q.out
    clear h00
    have CO := Lib.hid (fun (v : World) (hv : Below w4q.heap.size w4q v) => of12_c (SA4q.out.stay hv) (SB4q.out.stay hv) LTA.out LTB.out OA.out OB.out)
    unfold MSt.val at CO
    clear x0 x1 y0 y1
    go_upto_region 5 with fail
    go_cut [5, 6] (fun s5 s6 wr => ∃ (g : Nat) (m : MSt), s5 = .pointer (some ⟨g, 0, none⟩) ∧ s6 = .int .i64 0 ∧ Hid (wr.heap[g]? = some (.cells #[.slice m.A m.ls.length m.c, .slice m.A2 m.ms.length m.c2] 25 (0, 0)) ∧ TS m wr ∧ m.st = b.st ∧ w4q.heap.size ≤ g ∧ Below w4q.heap.size w4q wr))
    case first =>
      refine wp_region_held_drew (S := fun u => Below w4q.heap.size w4q u) (by kernel_rfl) ((Below.refl w4q.heap.size w4q).drew) (fun S0 => ?_)
      refine wpAnyH_take (i := 0) (v := ?_) rfl (by kernel_rfl) (by kernel_rfl) (by kernel_rfl) (fun _ _ _ h => h) (Or.inl ⟨by rfl, ?_⟩) S0 ?_
      rotate_left
      · intro u hu
        obtain ⟨y0, y1⟩ := two_cells (blk_keep GA4q.out hu)
        go_simp
        try rfl
      try simp only [Act.put, List.setIfInBounds_toArray, List.set_cons_zero, List.set_cons_succ, List.getElem_toArray, List.getElem_cons_zero, List.getElem_cons_succ]
      refine wpAnyH_take (i := 1) (v := ?_) rfl (by kernel_rfl) (by kernel_rfl) (by kernel_rfl) (fun _ _ _ h => h) (Or.inl ⟨by rfl, ?_⟩) S0 ?_
      rotate_left
      · intro u hu
        obtain ⟨y0, y1⟩ := two_cells (blk_keep GA4q.out hu)
        go_simp
        try rfl
      try simp only [Act.put, List.setIfInBounds_toArray, List.set_cons_zero, List.set_cons_succ, List.getElem_toArray, List.getElem_cons_zero, List.getElem_cons_succ]
      refine wpAnyH_take (i := 2) (v := ?_) rfl (by kernel_rfl) (by kernel_rfl) (by kernel_rfl) (fun _ _ _ h => h) (Or.inl ⟨by rfl, ?_⟩) S0 ?_
      rotate_left
      · intro u hu
        obtain ⟨y0, y1⟩ := two_cells (blk_keep GB4q.out hu)
        go_simp
        try rfl
      try simp only [Act.put, List.setIfInBounds_toArray, List.set_cons_zero, List.set_cons_succ, List.getElem_toArray, List.getElem_cons_zero, List.getElem_cons_succ]
      refine wpAnyH_ready (rs := [3, 8]) (by kernel_rfl) (by simp) (AllReadyH.cons rfl (fun K hK => ?_) (AllReadyH.cons rfl (fun K hK => ?_) AllReadyH.nil))
      · skip
        go_simp
        refine (CO.out _ S0).mono ?_
        rintro e va ⟨p, rfl, hp, p1, p2, p3, p4, hv⟩
        have S1 := S0.trans (hv.mono S0.size)
        have CP := Lib.hid (fun (u : World) (hu : Below va.heap.size va u) => ofApply_c (v := u) ((SA4q.out.stay S1).stay hu) LTA.out LTB.out OA.out OB.out RA.out RB.out (hp.stay hu) p1 p2 p3 p4)
        unfold MSt.val at CP
        have VA := Lib.hid (Below.refl va.heap.size va)
        clear hp p1 p2 p3 p4 hv
        refine hK.out _ _ S1 (fun _ => ?_)
        clear hK K S0
        have S0 := S1
        clear S1
        try simp only [Act.put, List.setIfInBounds_toArray, List.set_cons_zero, List.set_cons_succ, List.getElem_toArray, List.getElem_cons_zero, List.getElem_cons_succ]
        refine wpAnyH_ready (rs := [4, 8]) (by kernel_rfl) (by simp) (AllReadyH.cons rfl (fun K hK => ?_) (AllReadyH.cons rfl (fun K hK => ?_) AllReadyH.nil))
        · skip
          go_simp
          refine (CP.out _ VA.out).mono ?_
          rintro e vb ⟨m, rfl, hm, hst, hv⟩
          have S1 := S0.trans (hv.mono S0.size)
          have HM := Lib.hid hm
          have ST := Lib.hid hst
          clear hm hst hv
          refine hK.out _ _ S1 (fun _ => ?_)
          clear hK K S0
          have S0 := S1
          clear S1
          try simp only [Act.put, List.setIfInBounds_toArray, List.set_cons_zero, List.set_cons_succ, List.getElem_toArray, List.getElem_cons_zero, List.getElem_cons_succ]
          refine wpAnyH_take (i := 5) (v := ?_) rfl (by kernel_rfl) (by kernel_rfl) (by kernel_rfl) (fun _ _ _ h => h) (Or.inl ⟨by rfl, ?_⟩) S0 ?_
          rotate_left
          · intro u hu
            skip
            go_simp
            try rfl
          try simp only [Act.put, List.setIfInBounds_toArray, List.set_cons_zero, List.set_cons_succ, List.getElem_toArray, List.getElem_cons_zero, List.getElem_cons_succ]
          refine wpAnyH_take (i := 6) (v := ?_) rfl (by kernel_rfl) (by kernel_rfl) (by kernel_rfl) (fun _ _ _ h => h) (Or.inl ⟨by rfl, ?_⟩) S0 ?_
          rotate_left
          · intro u hu
            skip
            go_simp
            try rfl
          try simp only [Act.put, List.setIfInBounds_toArray, List.set_cons_zero, List.set_cons_succ, List.getElem_toArray, List.getElem_cons_zero, List.getElem_cons_succ]
          refine wpAnyH_take (i := 7) (v := ?_) rfl (by kernel_rfl) (by kernel_rfl) (by kernel_rfl) (fun _ _ _ h => h) (Or.inl ⟨by rfl, ?_⟩) S0 ?_
          rotate_left
          · intro u hu
            skip
            go_simp
            try rfl
          try simp only [Act.put, List.setIfInBounds_toArray, List.set_cons_zero, List.set_cons_succ, List.getElem_toArray, List.getElem_cons_zero, List.getElem_cons_succ]
          refine anyH_one9 (i := 8) (by kernel_rfl) rfl (fun K hK => ?_)
          go_simp
          obtain ⟨vg, hvg⟩ : ∃ u, (vb).alloc (.cells #[.slice none 0 0, .slice none 0 0] 25) = u := ⟨_, rfl⟩
          obtain ⟨gb, bg, zg⟩ := new_two hvg
          try rw [hvg]
          have S1 := S0.trans (bg.mono S0.size)
          have GX := Lib.hid gb
          have GW : Hid (w4q.heap.size ≤ (vb).heap.size) := Lib.hid S0.size
          have HM := Lib.hid (HM.out.stay bg)
          clear gb bg zg
          refine hK _ _ S1 ?_
          clear hK K S0
          have S0 := S1
          clear S1
          try simp only [Act.put, List.setIfInBounds_toArray, List.set_cons_zero, List.set_cons_succ, List.getElem_toArray, List.getElem_cons_zero, List.getElem_cons_succ]
          refine anyH_one9 (i := 9) (by kernel_rfl) rfl (fun K hK => ?_)
          have gq := GX.out
          obtain ⟨g0, g1⟩ := two_cells gq
          have gf0 := blk_free gq 0
          have gf1 := blk_free gq 1
          go_simp
          obtain ⟨vz, hvz⟩ : ∃ u, ((vg).setCell ⟨(vb).heap.size, 0, none⟩ (.slice m.A m.ls.length m.c)).setCell ⟨(vb).heap.size, 1, none⟩ (.slice m.A2 m.ms.length m.c2) = u := ⟨_, rfl⟩
          try rw [hvz]
          obtain ⟨tz, gz, _, ez⟩ := st_set gq hvz
          have S1 : Below w4q.heap.size w4q vz := S0.trans (ez _ GW.out)
          have HMZ := Lib.hid (HM.out.tch tz (by decide) (by decide) (by decide))
          have GZ := Lib.hid gz
          clear gq g0 g1 gf0 gf1 tz gz ez hvz
          refine hK _ _ S1 ?_
          clear hK K S0
          have S0 := S1
          clear S1
          try simp only [Act.put, List.setIfInBounds_toArray, List.set_cons_zero, List.set_cons_succ, List.getElem_toArray, List.getElem_cons_zero, List.getElem_cons_succ]
          refine wpAnyH_take (i := 10) (v := ?_) rfl (by kernel_rfl) (by kernel_rfl) (by kernel_rfl) (fun _ _ _ h => h) (Or.inl ⟨by rfl, ?_⟩) S0 ?_
          rotate_left
          · intro u hu
            skip
            go_simp
            try rfl
          try simp only [Act.put, List.setIfInBounds_toArray, List.set_cons_zero, List.set_cons_succ, List.getElem_toArray, List.getElem_cons_zero, List.getElem_cons_succ]
          refine wpAnyH_done (by kernel_rfl) ?_ _
          go_wp2
          go_meet
          case rel => exact ⟨_, m, rfl, rfl, Lib.hid ⟨GZ.out, HMZ.out, ST.out, GW.out, S0⟩⟩
        · skip
          go_simp
          obtain ⟨vg, hvg⟩ : ∃ u, (va).alloc (.cells #[.slice none 0 0, .slice none 0 0] 25) = u := ⟨_, rfl⟩
          obtain ⟨gb, bg, zg⟩ := new_two hvg
          try rw [hvg]
          have S1 := S0.trans (bg.mono S0.size)
          have GX := Lib.hid gb
          have GW : Hid (w4q.heap.size ≤ (va).heap.size) := Lib.hid S0.size
          have VA := Lib.hid bg
          clear gb bg zg
          refine hK.out _ _ S1 (fun _ => ?_)
          clear hK K S0
          have S0 := S1
          clear S1
          try simp only [Act.put, List.setIfInBounds_toArray, List.set_cons_zero, List.set_cons_succ, List.getElem_toArray, List.getElem_cons_zero, List.getElem_cons_succ]
          refine anyH_one9 (i := 4) (by kernel_rfl) rfl (fun K hK => ?_)
          go_simp
          refine (CP.out _ VA.out).mono ?_
          rintro e vb ⟨m, rfl, hm, hst, hv⟩
          have S1 := S0.trans (hv.mono S0.size)
          have HM := Lib.hid hm
          have ST := Lib.hid hst
          have GX := Lib.hid (blk_keep GX.out hv)
          clear hm hst hv
          refine hK _ _ S1 ?_
          clear hK K S0
          have S0 := S1
          clear S1
          try simp only [Act.put, List.setIfInBounds_toArray, List.set_cons_zero, List.set_cons_succ, List.getElem_toArray, List.getElem_cons_zero, List.getElem_cons_succ]
          refine wpAnyH_take (i := 5) (v := ?_) rfl (by kernel_rfl) (by kernel_rfl) (by kernel_rfl) (fun _ _ _ h => h) (Or.inl ⟨by rfl, ?_⟩) S0 ?_
          rotate_left
          · intro u hu
            skip
            go_simp
            try rfl
          try simp only [Act.put, List.setIfInBounds_toArray, List.set_cons_zero, List.set_cons_succ, List.getElem_toArray, List.getElem_cons_zero, List.getElem_cons_succ]
          refine wpAnyH_take (i := 6) (v := ?_) rfl (by kernel_rfl) (by kernel_rfl) (by kernel_rfl) (fun _ _ _ h => h) (Or.inl ⟨by rfl, ?_⟩) S0 ?_
          rotate_left
          · intro u hu
            skip
            go_simp
            try rfl
          try simp only [Act.put, List.setIfInBounds_toArray, List.set_cons_zero, List.set_cons_succ, List.getElem_toArray, List.getElem_cons_zero, List.getElem_cons_succ]
          refine wpAnyH_take (i := 7) (v := ?_) rfl (by kernel_rfl) (by kernel_rfl) (by kernel_rfl) (fun _ _ _ h => h) (Or.inl ⟨by rfl, ?_⟩) S0 ?_
          rotate_left
          · intro u hu
            skip
            go_simp
            try rfl
          try simp only [Act.put, List.setIfInBounds_toArray, List.set_cons_zero, List.set_cons_succ, List.getElem_toArray, List.getElem_cons_zero, List.getElem_cons_succ]
          refine anyH_one9 (i := 9) (by kernel_rfl) rfl (fun K hK => ?_)
          have gq := GX.out
          obtain ⟨g0, g1⟩ := two_cells gq
          have gf0 := blk_free gq 0
          have gf1 := blk_free gq 1
          go_simp
          obtain ⟨vz, hvz⟩ : ∃ u, ((vb).setCell ⟨(va).heap.size, 0, none⟩ (.slice m.A m.ls.length m.c)).setCell ⟨(va).heap.size, 1, none⟩ (.slice m.A2 m.ms.length m.c2) = u := ⟨_, rfl⟩
          try rw [hvz]
          obtain ⟨tz, gz, _, ez⟩ := st_set gq hvz
          have S1 : Below w4q.heap.size w4q vz := S0.trans (ez _ GW.out)
          have HMZ := Lib.hid (HM.out.tch tz (by decide) (by decide) (by decide))
          have GZ := Lib.hid gz
          clear gq g0 g1 gf0 gf1 tz gz ez hvz
          refine hK _ _ S1 ?_
          clear hK K S0
          have S0 := S1
          clear S1
          try simp only [Act.put, List.setIfInBounds_toArray, List.set_cons_zero, List.set_cons_succ, List.getElem_toArray, List.getElem_cons_zero, List.getElem_cons_succ]
          refine wpAnyH_take (i := 10) (v := ?_) rfl (by kernel_rfl) (by kernel_rfl) (by kernel_rfl) (fun _ _ _ h => h) (Or.inl ⟨by rfl, ?_⟩) S0 ?_
          rotate_left
          · intro u hu
            skip
            go_simp
            try rfl
          try simp only [Act.put, List.setIfInBounds_toArray, List.set_cons_zero, List.set_cons_succ, List.getElem_toArray, List.getElem_cons_zero, List.getElem_cons_succ]
          refine wpAnyH_done (by kernel_rfl) ?_ _
          go_wp2
          go_meet
          case rel => exact ⟨_, m, rfl, rfl, Lib.hid ⟨GZ.out, HMZ.out, ST.out, GW.out, S0⟩⟩
      · skip
        go_simp
        obtain ⟨vg0, hvg⟩ : ∃ u, w4q.alloc (.cells #[.slice none 0 0, .slice none 0 0] 25) = u := ⟨_, rfl⟩
        obtain ⟨gb0, bg0, zg⟩ := new_two hvg
        try rw [hvg]
        obtain ⟨vg, hvg2⟩ : ∃ u, vg0.drew = u := ⟨_, rfl⟩
        try rw [hvg2]
        have gb : vg.heap[w4q.heap.size]? = some (.cells #[.slice none 0 0, .slice none 0 0] 25 (0, 0)) := by rw [← hvg2]; exact gb0
        have bg : Below w4q.heap.size w4q vg := by rw [← hvg2]; exact bg0.drew
        have S1 := bg
        have GX := Lib.hid gb
        have GW : Hid (w4q.heap.size ≤ w4q.heap.size) := Lib.hid (Nat.le_refl _)
        clear gb bg zg gb0 bg0
        refine hK.out _ _ S1 (fun _ => ?_)
        clear hK K S0
        have S0 := S1
        clear S1
        try simp only [Act.put, List.setIfInBounds_toArray, List.set_cons_zero, List.set_cons_succ, List.getElem_toArray, List.getElem_cons_zero, List.getElem_cons_succ]
        refine anyH_one9 (i := 3) (by kernel_rfl) rfl (fun K hK => ?_)
        go_simp
        refine (CO.out _ S0).mono ?_
        rintro e va ⟨p, rfl, hp, p1, p2, p3, p4, hv⟩
        have S1 := S0.trans (hv.mono S0.size)
        have CP := Lib.hid (fun (u : World) (hu : Below va.heap.size va u) => ofApply_c (v := u) ((SA4q.out.stay S1).stay hu) LTA.out LTB.out OA.out OB.out RA.out RB.out (hp.stay hu) p1 p2 p3 p4)
        unfold MSt.val at CP
        have VA := Lib.hid (Below.refl va.heap.size va)
        have GX := Lib.hid (blk_keep GX.out hv)
        clear hp p1 p2 p3 p4 hv
        refine hK _ _ S1 ?_
        clear hK K S0
        have S0 := S1
        clear S1
        try simp only [Act.put, List.setIfInBounds_toArray, List.set_cons_zero, List.set_cons_succ, List.getElem_toArray, List.getElem_cons_zero, List.getElem_cons_succ]
        refine anyH_one9 (i := 4) (by kernel_rfl) rfl (fun K hK => ?_)
        go_simp
        refine (CP.out _ VA.out).mono ?_
        rintro e vb ⟨m, rfl, hm, hst, hv⟩
        have S1 := S0.trans (hv.mono S0.size)
        have HM := Lib.hid hm
        have ST := Lib.hid hst
        have GX := Lib.hid (blk_keep GX.out hv)
        clear hm hst hv
        refine hK _ _ S1 ?_
        clear hK K S0
        have S0 := S1
        clear S1
        try simp only [Act.put, List.setIfInBounds_toArray, List.set_cons_zero, List.set_cons_succ, List.getElem_toArray, List.getElem_cons_zero, List.getElem_cons_succ]
        refine wpAnyH_take (i := 5) (v := ?_) rfl (by kernel_rfl) (by kernel_rfl) (by kernel_rfl) (fun _ _ _ h => h) (Or.inl ⟨by rfl, ?_⟩) S0 ?_
        rotate_left
        · intro u hu
          skip
          go_simp
          try rfl
        try simp only [Act.put, List.setIfInBounds_toArray, List.set_cons_zero, List.set_cons_succ, List.getElem_toArray, List.getElem_cons_zero, List.getElem_cons_succ]
        refine wpAnyH_take (i := 6) (v := ?_) rfl (by kernel_rfl) (by kernel_rfl) (by kernel_rfl) (fun _ _ _ h => h) (Or.inl ⟨by rfl, ?_⟩) S0 ?_
        rotate_left
        · intro u hu
          skip
          go_simp
          try rfl
        try simp only [Act.put, List.setIfInBounds_toArray, List.set_cons_zero, List.set_cons_succ, List.getElem_toArray, List.getElem_cons_zero, List.getElem_cons_succ]
        refine wpAnyH_take (i := 7) (v := ?_) rfl (by kernel_rfl) (by kernel_rfl) (by kernel_rfl) (fun _ _ _ h => h) (Or.inl ⟨by rfl, ?_⟩) S0 ?_
        rotate_left
        · intro u hu
          skip
          go_simp
          try rfl
        try simp only [Act.put, List.setIfInBounds_toArray, List.set_cons_zero, List.set_cons_succ, List.getElem_toArray, List.getElem_cons_zero, List.getElem_cons_succ]
        refine anyH_one9 (i := 9) (by kernel_rfl) rfl (fun K hK => ?_)
        have gq := GX.out
        obtain ⟨g0, g1⟩ := two_cells gq
        have gf0 := blk_free gq 0
        have gf1 := blk_free gq 1
        go_simp
        obtain ⟨vz, hvz⟩ : ∃ u, ((vb).setCell ⟨(w4q).heap.size, 0, none⟩ (.slice m.A m.ls.length m.c)).setCell ⟨(w4q).heap.size, 1, none⟩ (.slice m.A2 m.ms.length m.c2) = u := ⟨_, rfl⟩
        try rw [hvz]
        obtain ⟨tz, gz, _, ez⟩ := st_set gq hvz
        have S1 : Below w4q.heap.size w4q vz := S0.trans (ez _ GW.out)
        have HMZ := Lib.hid (HM.out.tch tz (by decide) (by decide) (by decide))
        have GZ := Lib.hid gz
        clear gq g0 g1 gf0 gf1 tz gz ez hvz
        refine hK _ _ S1 ?_
        clear hK K S0
        have S0 := S1
        clear S1
        try simp only [Act.put, List.setIfInBounds_toArray, List.set_cons_zero, List.set_cons_succ, List.getElem_toArray, List.getElem_cons_zero, List.getElem_cons_succ]
        refine wpAnyH_take (i := 10) (v := ?_) rfl (by kernel_rfl) (by kernel_rfl) (by kernel_rfl) (fun _ _ _ h => h) (Or.inl ⟨by rfl, ?_⟩) S0 ?_
        rotate_left
        · intro u hu
          skip
          go_simp
          try rfl
        try simp only [Act.put, List.setIfInBounds_toArray, List.set_cons_zero, List.set_cons_succ, List.getElem_toArray, List.getElem_cons_zero, List.getElem_cons_succ]
        refine wpAnyH_done (by kernel_rfl) ?_ _
        go_wp2
        go_meet
        case rel => exact ⟨_, m, rfl, rfl, Lib.hid ⟨GZ.out, HMZ.out, ST.out, GW.out, S0⟩⟩
    case rest =>
      obtain ⟨g, m, rfl, rfl, HH⟩ := hcut
      have MS := Lib.hid HH.out.2.1.sm
      have SA6 := Lib.hid (SA4q.out.stay HH.out.2.2.2.2)
      have SB6 := Lib.hid (SB4q.out.stay HH.out.2.2.2.2)
      have GA6 := Lib.hid (blk_keep GA4q.out HH.out.2.2.2.2)
      have GB6 := Lib.hid (blk_keep GB4q.out HH.out.2.2.2.2)
      have GM := Lib.hid HH.out.1
      have B6 := Lib.hid (B4q.out.trans (HH.out.2.2.2.2.mono B4q.out.size))
      have CS := Lib.hid (refSameSt_c MS.out SB6.out (by rw [HH.out.2.2.1]; exact LTB.out.short) LTB.out.short (by rw [HH.out.2.2.1]; exact OB.out) OB.out)
      rw [HH.out.2.2.1, T9.same_refl] at CS
      have CF := Lib.hid (fun (v : World) (hv : Below wc.heap.size wc v) => of12_c (SA6.out.stay hv) (SA6.out.stay hv) LTA.out LTA.out OA.out OA.out)
      unfold MSt.val at CS CF
      obtain ⟨g0, g1⟩ := two_cells GM.out
      obtain ⟨x0, x1⟩ := two_cells GA6.out
      obtain ⟨y0, y1⟩ := two_cells GB6.out
      go_wp2_with (first
        | (go_at_call 14; refine CS.out.mono ?_; rintro e w7 ⟨rfl, h7⟩; have H7 := Lib.hid h7; obtain ⟨x0, x1⟩ := two_cells (blk_keep GA6.out h7); clear h7)
        | (go_at_call 16; refine (CF.out _ H7.out).mono ?_; rintro e w8 ⟨p, rfl, hp, p1, p2, p3, p4, h8⟩; have H8 := Lib.hid h8; have CZ := Lib.hid (size0_12 (w := w8) RA.out p1 p2 p3 p4); clear h8 hp p1 p2 p3 p4)
        | (go_at_call 19; refine CZ.out.mono ?_; rintro e w9 ⟨rfl, h9⟩))
      go_ret
      exact ⟨rfl, B6.out.trans (((H7.out.trans (H8.out.mono H7.out.size)).trans (h9.mono (Nat.le_trans H7.out.size H8.out.size))).mono B6.out.size)⟩
end
end
section
open Go.ChangeShapes Go.WideShapes Go.ChangeAt Go.RowKit
set_option maxRecDepth 100000
set_option maxRecDepth 100000 in
theorem diffTurns_lifted (os : Os) (started : os.Started) (H : Type) (enc : TypeId × Value → H) :
    ReturnsInHanded {} Tryz.checked os 5 .any (Rows.diffTurnsSpec.pre6 enc Tryz.prog Tryz.f5 Rows.diffTurnsRow.domain false) (Rows.diffTurnsSpec.post enc Tryz.prog Tryz.f5 false true false false) := by
  refine returnsInHanded_of_change (C := Tryz.checked) Tryz.own2 started (by kernel_rfl) Tryz.func5
    (ChangeSpec.witness6 (enc := enc) (C := Tryz.checked) false ⟨#[], #[.agg #[.slice none 0 0, .slice none 0 0], .agg #[.slice none 0 0, .slice none 0 0]], []⟩ 8 (by kernel_rfl) (by kernel_rfl) (by kernel_rfl) (by kernel_rfl)) ?_
  intro W base args ds gs before hval0 hW hcnd _
  have hval : ∀ (j : Nat) t v, Tryz.f5.params[j]? = some t → args[j]? = some v → Value.okWide Tryz.prog W .any base t v := hval0
  have hW' := hW
  obtain ⟨p, q, hA0, hV, rfl, hfz, hnd⟩ := hW
  have hA : DataW.TrodAll enc Tryz.prog W 0 (fun _ => true) true Tryz.f5.params.toList args.toList ds p := hA0
  rw [Tryz.params5] at hA hval
  obtain ⟨v0, v1, d0, d1, p0, p1, rfl, rfl, hps, h0, h1⟩ := trodAll_two hA
  obtain ⟨m0, e0, hs0, ho0, hf0⟩ := open_state9 (hval 0 25 v0 rfl rfl) h0
  subst e0
  obtain ⟨m1, e1, hs1, ho1, hf1⟩ := open_state9 (hval 1 25 v1 rfl rfl) h1
  subst e1
  refine (diffTurns_c hs0 ho0 hf0 hs1 ho1 hf1).mono fun e W' ⟨he, hw⟩ => ?_
  subst he
  refine ⟨_, rfl, post_law (tb := 4) Tryz.laidOut2 ?_ rfl (by kernel_rfl) Tryz.underlying4 hW' hw ?_ ?_ ?_⟩
  · intro t ht
    rw [Tryz.params5] at ht
    simp at ht
    rcases ht with rfl | rfl
    all_goals exact ⟨by kernel_rfl, of_decide_eq_true (by kernel_rfl)⟩
  all_goals
    obtain ⟨rfl, rfl⟩ := trodVars_none hV
    rfl
theorem diffTurns_holds : Rows.DiffTurnsSaid :=
  OpenClaim.holds_of_wide 5 Tryz.f5 rfl rfl rfl rfl rfl rfl rfl ⟨rfl, rfl, rfl, rfl, rfl⟩ rfl rfl rfl rfl rfl (by kernel_rfl) Tryz.func5 (by kernel_rfl)
    (of_decide_eq_true (by kernel_rfl)) (by unfold Func.isWrapper; first | (rw [if_pos (by decide +kernel)]; kernel_rfl) | (rw [if_neg (by decide +kernel)]; exact ⟨rfl, rfl⟩))
    (fun os started H enc _ => diffTurns_lifted os started H enc)
end
end Go.Proofs.YtpphmbfghfmdlaaGreat
