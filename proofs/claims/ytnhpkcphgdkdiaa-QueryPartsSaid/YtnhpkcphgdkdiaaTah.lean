/- Stage 9: what bytes are, in plain words; there and back. Stage 9: right states there and back; unlike ones have unlike bytes. Stage 9: the code's readTask (written by wip/gen9rt.py). Stage 9: the code's Of (written by wip/gen9of.py). Stage 9: the walk of TaskBack (written by wip/gen9bk.py behind wip/XTak.head). -/
import Derived.Test.YtnhpkcphgdkdiaaTaa
import Derived.Test.YtnhpkcphgdkdiaaMm
import Derived.Test.YtnhpkcphgdkdiaaAp
import Derived.StillTailTactics
import Derived.Deep.RegionHeld3
namespace Go.Proofs.Ytnhpkcphgdkdiaa
set_option maxRecDepth 100000

section
section
namespace T9
/-- So many things, one behind the other. -/
def many {α : Type} (f : Option (List UInt8) → α × Option (List UInt8)) : Nat → Option (List UInt8) → List α × Option (List UInt8)
 | 0, s => ([], s)
 | n + 1, s => ((f s).1 :: (many f n (f s).2).1, (many f n (f s).2).2)
theorem many_snoc {α : Type} (f : Option (List UInt8) → α × Option (List UInt8)) : ∀ (n : Nat) (s : Option (List UInt8)), many f (n + 1) s = ((many f n s).1 ++ [(f (many f n s).2).1], (f (many f n s).2).2)
 | 0, s => rfl
 | n + 1, s => by
  show ((f s).1 :: (many f (n + 1) (f s).2).1, (many f (n + 1) (f s).2).2) = _
  rw [many_snoc f n (f s).2]
  rfl
theorem many_len {α : Type} (f : Option (List UInt8) → α × Option (List UInt8)) : ∀ (n : Nat) (s : Option (List UInt8)), (many f n s).1.length = n
 | 0, _ => rfl
 | n + 1, s => by show ((many f n (f s).2).1.length + 1) = _; rw [many_len f n]
theorem many_read {α : Type} {f : Option (List UInt8) → α × Option (List UInt8)} {enc : α → List UInt8} {g : α → α} : ∀ {l : List α}, (∀ x ∈ l, ∀ t, f (some (enc x ++ t)) = (g x, some t)) → ∀ t, many f l.length (some (l.flatMap enc ++ t)) = (l.map g, some t)
 | [], _, t => rfl
 | x :: l, h, t => by
  rw [List.flatMap_cons, List.append_assoc, List.length_cons]
  unfold many
  rw [h x (List.mem_cons_self ..), many_read (fun y hy => h y (List.mem_cons_of_mem _ hy)) t]
  rfl
def rdLi (s : Option (List UInt8)) : Li × Option (List UInt8) :=
 (⟨(Cd.rdN Cd.full s).1, (Cd.rdB 60 (Cd.rdN Cd.full s).2).1⟩, (Cd.rdB 60 (Cd.rdN Cd.full s).2).2)
def s1 (s : Option (List UInt8)) := (Cd.rdN Cd.full s).2
def s2 (s : Option (List UInt8)) := (Cd.rdN Cd.full (s1 s)).2
def s3 (s : Option (List UInt8)) := (Cd.rdB 60 (s2 s)).2
def s4 (s : Option (List UInt8)) := (Cd.rdG (s3 s)).2
def s5 (s : Option (List UInt8)) := (Cd.rdF (s4 s)).2
def s6 (s : Option (List UInt8)) := (Cd.rdF (s5 s)).2
def s7 (s : Option (List UInt8)) := (Cd.rdN 60 (s6 s)).2
def tagsN (s : Option (List UInt8)) := (Cd.rdN 60 (s6 s)).1
/-- A task that is read. -/
def rdTk (s : Option (List UInt8)) : Tk × Option (List UInt8) :=
 (⟨(Cd.rdN Cd.full s).1, (Cd.rdN Cd.full (s1 s)).1, (Cd.rdB 60 (s2 s)).1, (Cd.rdG (s3 s)).1, (Cd.rdF (s4 s)).1, (Cd.rdF (s5 s)).1, (many (Cd.rdB 60) (tagsN s) (s7 s)).1⟩, (many (Cd.rdB 60) (tagsN s) (s7 s)).2)
/-- What is read of a state, and what is left. -/
def rdSt (s : Option (List UInt8)) : St × Option (List UInt8) :=
 let a := Cd.rdN 60 s
 let ls := many rdLi a.1 a.2
 let b := Cd.rdN 60 ls.2
 let ts := many rdTk b.1 b.2
 (⟨ls.1, ts.1⟩, ts.2)
/-- The state that bytes are. -/
def of (b : List UInt8) : St × Int := if (rdSt (some b)).2 = some [] ∧ rightE (rdSt (some b)).1 = 0 then ((rdSt (some b)).1, 0) else (⟨[], []⟩, 90)

theorem rdF_key {a : Nat} (h : a < 18446744073709551616) (t : List UInt8) : Cd.rdF (some (Cd.fix (Fl.key a).toNat 8 ++ t)) = (Fl.canon a, some t) := by
 have q := Fl.fit_key h
 unfold Cd.rdF
 rw [Cd.rdW_fix (by omega) (Cd.key_pow a)]
 simp only [Cd.key_nat, q.1, q.2, if_true]
theorem rdLi_enc {l : Li} (h : l.ok) (hn : l.name.length ≤ 60) (t : List UInt8) : rdLi (some (encLi l ++ t)) = (l, some t) := by
 have e : Cd.rdN Cd.full (some (encLi l ++ t)) = (l.id, some (St.wb l.name ++ t)) := by
  unfold encLi
  rw [List.append_assoc]
  exact Cd.num_read h (by have : l.id < 18446744073709551616 := h; unfold Cd.full; omega) _
 unfold rdLi
 rw [e, St.rdB_wb _ _ hn (by omega)]
theorem rdTk_enc {k : Tk} (h : k.ok) (hn : k.title.length ≤ 60) (hf : k.tags.length ≤ 60) (ht : ∀ x ∈ k.tags, x.length ≤ 60) (t : List UInt8) : rdTk (some (encTk k ++ t)) = ({ k with rank := Fl.canon k.rank, est := Fl.canon k.est }, some t) := by
 obtain ⟨h1, h2, h3, h4⟩ := h
 have e1 : Cd.rdN Cd.full (some (encTk k ++ t)) = (k.id, some (Cd.num k.list ++ (St.wb k.title ++ (St.fl k.done ++ (Cd.fix (Fl.key k.rank).toNat 8 ++ (Cd.fix (Fl.key k.est).toNat 8 ++ (Cd.num k.tags.length ++ (k.tags.flatMap St.wb ++ t)))))))) := by
  unfold encTk
  simp only [List.append_assoc]
  exact Cd.num_read h1 (by unfold Cd.full; omega) _
 have f1 : s1 (some (encTk k ++ t)) = some (Cd.num k.list ++ (St.wb k.title ++ (St.fl k.done ++ (Cd.fix (Fl.key k.rank).toNat 8 ++ (Cd.fix (Fl.key k.est).toNat 8 ++ (Cd.num k.tags.length ++ (k.tags.flatMap St.wb ++ t))))))) := by unfold s1; rw [e1]
 have e2 := Cd.num_read h2 (most := Cd.full) (by unfold Cd.full; omega) (St.wb k.title ++ (St.fl k.done ++ (Cd.fix (Fl.key k.rank).toNat 8 ++ (Cd.fix (Fl.key k.est).toNat 8 ++ (Cd.num k.tags.length ++ (k.tags.flatMap St.wb ++ t))))))
 have f2 : s2 (some (encTk k ++ t)) = some (St.wb k.title ++ (St.fl k.done ++ (Cd.fix (Fl.key k.rank).toNat 8 ++ (Cd.fix (Fl.key k.est).toNat 8 ++ (Cd.num k.tags.length ++ (k.tags.flatMap St.wb ++ t)))))) := by unfold s2; rw [f1, e2]
 have e3 := St.rdB_wb (m := 60) k.title (St.fl k.done ++ (Cd.fix (Fl.key k.rank).toNat 8 ++ (Cd.fix (Fl.key k.est).toNat 8 ++ (Cd.num k.tags.length ++ (k.tags.flatMap St.wb ++ t))))) hn (by omega)
 have f3 : s3 (some (encTk k ++ t)) = some (St.fl k.done ++ (Cd.fix (Fl.key k.rank).toNat 8 ++ (Cd.fix (Fl.key k.est).toNat 8 ++ (Cd.num k.tags.length ++ (k.tags.flatMap St.wb ++ t))))) := by unfold s3; rw [f2, e3]
 have e4 := St.rdG_fl k.done (Cd.fix (Fl.key k.rank).toNat 8 ++ (Cd.fix (Fl.key k.est).toNat 8 ++ (Cd.num k.tags.length ++ (k.tags.flatMap St.wb ++ t))))
 have f4 : s4 (some (encTk k ++ t)) = some (Cd.fix (Fl.key k.rank).toNat 8 ++ (Cd.fix (Fl.key k.est).toNat 8 ++ (Cd.num k.tags.length ++ (k.tags.flatMap St.wb ++ t)))) := by unfold s4; rw [f3, e4]
 have e5 := rdF_key h3 (Cd.fix (Fl.key k.est).toNat 8 ++ (Cd.num k.tags.length ++ (k.tags.flatMap St.wb ++ t)))
 have f5 : s5 (some (encTk k ++ t)) = some (Cd.fix (Fl.key k.est).toNat 8 ++ (Cd.num k.tags.length ++ (k.tags.flatMap St.wb ++ t))) := by unfold s5; rw [f4, e5]
 have e6 := rdF_key h4 (Cd.num k.tags.length ++ (k.tags.flatMap St.wb ++ t))
 have f6 : s6 (some (encTk k ++ t)) = some (Cd.num k.tags.length ++ (k.tags.flatMap St.wb ++ t)) := by unfold s6; rw [f5, e6]
 have e7 := Cd.num_read (n := k.tags.length) (most := 60) (by omega) hf (k.tags.flatMap St.wb ++ t)
 have f7 : s7 (some (encTk k ++ t)) = some (k.tags.flatMap St.wb ++ t) := by unfold s7; rw [f6, e7]
 have fn : tagsN (some (encTk k ++ t)) = k.tags.length := by unfold tagsN; rw [f6, e7]
 have e8 := many_read (f := Cd.rdB 60) (enc := St.wb) (g := fun x => x) (l := k.tags) (fun x hx t => St.rdB_wb x t (ht x hx) (by have := ht x hx; omega)) t
 unfold rdTk
 rw [e1, f1, e2, f2, e3, f3, e4, f4, e5, f5, e6, f7, fn, e8]
 simp
/-- A state that is read of what was written of it. -/
theorem rdSt_bts {s : St} (h : s.ok) (hl : s.lists.length ≤ 60) (ht : s.tasks.length ≤ 60) (hn : ∀ l ∈ s.lists, l.name.length ≤ 60) (hk : ∀ t ∈ s.tasks, t.title.length ≤ 60 ∧ t.tags.length ≤ 60 ∧ ∀ x ∈ t.tags, x.length ≤ 60) :
  rdSt (some (bts s)) = (⟨s.lists, s.tasks.map fun t => { t with rank := Fl.canon t.rank, est := Fl.canon t.est }⟩, some []) := by
 have e1 : Cd.rdN 60 (some (bts s)) = (s.lists.length, some (s.lists.flatMap encLi ++ (Cd.num s.tasks.length ++ (s.tasks.flatMap encTk ++ [])))) := by
  unfold bts
  rw [List.append_nil]
  simp only [List.append_assoc]
  exact Cd.num_read (by omega) hl _
 have e2 := many_read (f := rdLi) (enc := encLi) (g := fun x => x) (l := s.lists) (fun x hx t => rdLi_enc (h.1 x hx) (hn x hx) t) (Cd.num s.tasks.length ++ (s.tasks.flatMap encTk ++ []))
 have e3 := Cd.num_read (n := s.tasks.length) (most := 60) (by omega) ht (s.tasks.flatMap encTk ++ [])
 have e4 := many_read (f := rdTk) (enc := encTk) (g := fun t => { t with rank := Fl.canon t.rank, est := Fl.canon t.est }) (l := s.tasks) (fun x hx t => rdTk_enc (h.2 x hx) (hk x hx).1 (hk x hx).2.1 (hk x hx).2.2 t) []
 unfold rdSt
 rw [e1]
 dsimp only
 rw [e2]
 dsimp only
 rw [e3]
 dsimp only
 rw [e4]
 simp
end T9
end

section
namespace T9
theorem listsE_all : ∀ {ls : List Li} {a : Nat}, listsE a ls = 0 → ∀ l ∈ ls, title l.name = true
 | [], _, _, _, hm => by cases hm
 | x :: ls, a, h, l, hm => by
  unfold listsE at h
  by_cases h1 : x.id ≤ a
  ·rw [if_pos h1] at h; omega
  rw [if_neg h1] at h
  by_cases h2 : title x.name = false
  ·rw [if_pos h2] at h; omega
  rw [if_neg h2] at h
  rcases List.mem_cons.1 hm with rfl | q
  ·simpa using h2
  ·exact listsE_all h l q
theorem tasksE_all {ls : List Li} : ∀ {ts : List Tk} {a : Nat}, tasksE ls a ts = 0 → ∀ t ∈ ts, fieldsE t = 0
 | [], _, _, _, hm => by cases hm
 | x :: ts, a, h, t, hm => by
  unfold tasksE at h
  by_cases h1 : x.id ≤ a
  ·rw [if_pos h1] at h; omega
  rw [if_neg h1] at h
  by_cases h2 : (ls.any fun l => l.id == x.list) = false
  ·rw [if_pos h2] at h; omega
  rw [if_neg h2] at h
  by_cases h3 : fieldsE x ≠ 0
  ·rw [if_pos h3] at h; exact absurd h h3
  rw [if_neg h3] at h
  rcases List.mem_cons.1 hm with rfl | q
  ·exact Decidable.not_not.1 h3
  ·exact tasksE_all h t q
theorem tagsUp_all : ∀ {ts : List (List UInt8)} {a : List UInt8}, tagsUp a ts = true → ∀ t ∈ ts, tag t = true
 | [], _, _, _, hm => by cases hm
 | x :: ts, a, h, t, hm => by
  unfold tagsUp at h
  simp only [Bool.and_eq_true] at h
  rcases List.mem_cons.1 hm with rfl | q
  ·exact h.1.1
  ·exact tagsUp_all h.2 t q
theorem title_le {l : List UInt8} (h : title l = true) : l.length ≤ 60 := by
 unfold title at h
 simp only [Bool.and_eq_true, decide_eq_true_eq] at h
 exact h.1.2
theorem tag_le {l : List UInt8} (h : tag l = true) : l.length ≤ 16 := by
 unfold tag at h
 simp only [Bool.and_eq_true, decide_eq_true_eq] at h
 exact h.1.2
theorem isC_eq {b : Nat} (h : isC b = true) : Fl.canon b = b := by
 unfold isC Fl.I at h
 simp only [beq_iff_eq] at h
 omega
theorem fieldsE_parts {t : Tk} (h : fieldsE t = 0) : t.title.length ≤ 60 ∧ isC t.rank = true ∧ isC t.est = true ∧ t.tags.length ≤ 4 ∧ tagsUp [] t.tags = true := by
 unfold fieldsE at h
 by_cases h1 : title t.title = false
 ·rw [if_pos h1] at h; omega
 rw [if_neg h1] at h
 by_cases h2 : (Fl.isN t.rank || !isC t.rank) = true
 ·rw [if_pos h2] at h; omega
 rw [if_neg h2] at h
 by_cases h3 : isC t.est = false
 ·rw [if_pos h3] at h; omega
 rw [if_neg h3] at h
 by_cases h4 : 4 < t.tags.length
 ·rw [if_pos h4] at h; omega
 rw [if_neg h4] at h
 by_cases h5 : tagsUp [] t.tags = true
 ·exact ⟨title_le (by simpa using h1), by simp at h2; exact h2.2, by simpa using h3, by omega, h5⟩
 ·rw [if_neg h5] at h; omega
theorem right_parts {s : St} (h : rightE s = 0) : s.lists.length ≤ 20 ∧ s.tasks.length ≤ 60 ∧ (∀ l ∈ s.lists, l.name.length ≤ 60) ∧ ∀ t ∈ s.tasks, fieldsE t = 0 := by
 unfold rightE at h
 by_cases h1 : 20 < s.lists.length ∨ 60 < s.tasks.length
 ·rw [if_pos h1] at h; omega
 rw [if_neg h1] at h
 by_cases h2 : listsE 0 s.lists ≠ 0
 ·rw [if_pos h2] at h; exact absurd h h2
 rw [if_neg h2] at h
 exact ⟨by omega, by omega, fun l hl => title_le (listsE_all (Decidable.not_not.1 h2) l hl), tasksE_all h⟩
/-- A right state is told again of its bytes. -/
theorem back {s : St} (h : s.ok) (hr : rightE s = 0) : rdSt (some (bts s)) = (s, some []) := by
 obtain ⟨h1, h2, h3, h4⟩ := right_parts hr
 rw [rdSt_bts h (by omega) h2 h3 (fun t ht => by
  obtain ⟨q1, _, _, q4, q5⟩ := fieldsE_parts (h4 t ht)
  exact ⟨q1, by omega, fun x hx => by have := tag_le (tagsUp_all q5 x hx); omega⟩)]
 have e : (s.tasks.map fun t => { t with rank := Fl.canon t.rank, est := Fl.canon t.est }) = s.tasks := by
  conv => rhs; rw [← List.map_id s.tasks]
  refine List.map_congr_left fun t ht => ?_
  obtain ⟨_, q2, q3, _, _⟩ := fieldsE_parts (h4 t ht)
  show Tk.mk t.id t.list t.title t.done (Fl.canon t.rank) (Fl.canon t.est) t.tags = t
  rw [isC_eq q2, isC_eq q3]
 rw [e]
theorem of_back {s : St} (h : s.ok) (hr : rightE s = 0) : of (bts s) = (s, 0) := by
 unfold of
 rw [back h hr, if_pos ⟨rfl, hr⟩]
theorem same_key {a b : Nat} (h : Fl.same a b = true) : Fl.key a = Fl.key b := by
 unfold Fl.same at h
 simpa using h
theorem encTk_same {a b : Tk} (h : same1 a b = true) : encTk a = encTk b := by
 unfold same1 at h
 simp only [Bool.and_eq_true, beq_iff_eq, decide_eq_true_eq] at h
 obtain ⟨⟨⟨⟨⟨⟨h1, h2⟩, h3⟩, h4⟩, h5⟩, h6⟩, h7⟩ := h
 unfold encTk
 rw [h1, h2, h3, h4, same_key h5, same_key h6, h7]
theorem sameT_enc : ∀ {l m : List Tk}, sameT l m = true → l.flatMap encTk = m.flatMap encTk
 | [], [], _ => rfl
 | a :: l, b :: m, h => by
  simp only [sameT, Bool.and_eq_true] at h
  rw [List.flatMap_cons, List.flatMap_cons, encTk_same h.1, sameT_enc h.2]
 | [], _ :: _, h => by simp [sameT] at h
 | _ :: _, [], h => by simp [sameT] at h
theorem bts_same {s o : St} (h : same s o = true) : bts s = bts o := by
 unfold same at h
 simp only [Bool.and_eq_true, decide_eq_true_eq] at h
 unfold bts
 rw [h.1, sameT_len h.2, sameT_enc h.2]
/-- Unlike right states have unlike bytes. -/
theorem bts_iff {s o : St} (hs : s.ok) (ho : o.ok) (rs : rightE s = 0) (ro : rightE o = 0) : decide (bts s = bts o) = same s o := by
 by_cases h : bts s = bts o
 ·have e := of_back hs rs
  rw [h, of_back ho ro] at e
  injection e with e
  rw [decide_eq_true h, e, T9.same_refl]
 ·rw [decide_eq_false h]
  cases q : same s o with
  | false => rfl
  | true => exact absurd (bts_same q) h
end T9
end
end

section
open Go.RowKit Go.Lib

@[go_sem] theorem buildK9n (n : Int) (w : World) : (Instr.build 32 #[(0, .int .u64 n)]).run Try.prog w = .ok (.agg #[.int .u64 n, .int .u64 0, .string ⟨#[]⟩, .bool false, .float .f64 0, .float .f64 0, .slice none 0 0]) w := run_build w 32 _ _ (by kernel_rfl)
theorem full_nat9 : (18446744073709551615 : Int).toNat = Cd.full := by unfold Cd.full; rfl
theorem Tch.zero {B : Nat} {ts : List TypeId} {w w' : World} (h : Tch B ts w w') : Tch 0 ts w w' := ⟨h.below.mono (Nat.zero_le _), h.typed⟩
theorem shr_full (s : Option (List UInt8)) : St.Shr s (Cd.rdN Cd.full s).2 := St.shr_N _ s
theorem shr_many9 : ∀ (n : Nat) (s : Option (List UInt8)), St.Shr s (T9.many (Cd.rdB 60) n s).2
 | 0, _ => fun t ht => ⟨t, ht, Nat.le_refl _⟩
 | n + 1, s => (St.shr_B 60 s).trans (shr_many9 n _)
theorem shr_F9 (s : Option (List UInt8)) : St.Shr s (Cd.rdF s).2 := fun t ht => by
 unfold Cd.rdF at ht
 cases q : (Cd.rdW 8 s).2 with
 | none => rw [q] at ht; simp at ht
 | some u =>
  rw [q] at ht
  dsimp only at ht
  split at ht
  ·injection ht with ht
   subst ht
   cases s with
   | none => simp [Cd.rdW] at q
   | some l =>
    by_cases h8 : 8 ≤ l.length
    ·simp only [Cd.rdW, if_pos h8, Option.some.injEq] at q
     exact ⟨l, rfl, by rw [← q, List.length_drop]; omega⟩
    ·simp [Cd.rdW, if_neg h8] at q
  ·cases ht

end

section
open Go.RowKit Go.Lib

@[go_sem] theorem buildL9n (n : Int) (w : World) : (Instr.build 49 #[(0, .int .u64 n)]).run Try.prog w = .ok (.agg #[.int .u64 n, .string ⟨#[]⟩]) w := run_build w 49 _ _ (by kernel_rfl)
theorem buildSlL9 (l : T9.Li) (w : World) : (Instr.buildSlice 22 1 #[(0, .agg #[.int .u64 (l.id : Int), .string (str l.name)])]).run Try.prog w = .ok (.slice (some ⟨w.heap.size, 0, none⟩) 1 1) (w.alloc (.cells #[.int .u64 (l.id : Int), .string (str l.name)] 49)) := by
 obtain ⟨i0, hi, hz0, hz1, hz2⟩ := info_parts Try.infoLi9
 exact run_buildSlice_one w 22 49 #[.int .u64 (l.id : Int), .string (str l.name)] i0 _ Try.underlying22 hi hz0 hz1 (by show 0 < 2; omega) (by show 2 ≤ _; omega)
theorem buildSlK9 (m : MTk) (w : World) : (Instr.buildSlice 23 1 #[(0, .agg (encK m).toArray)]).run Try.prog w = .ok (.slice (some ⟨w.heap.size, 0, none⟩) 1 1) (w.alloc (.cells (encK m).toArray 32)) := by
 obtain ⟨i0, hi, hz0, hz1, hz2⟩ := info_parts Try.infoTk9
 exact run_buildSlice_one w 23 32 (encK m).toArray i0 _ Try.underlying23 hi hz0 hz1 (by show 0 < 7; omega) (by show 7 ≤ _; omega)
theorem shr_li (s : Option (List UInt8)) : St.Shr s (T9.rdLi s).2 := (shr_full s).trans (St.shr_B 60 _)
theorem shr_lis : ∀ (n : Nat) (s : Option (List UInt8)), St.Shr s (T9.many T9.rdLi n s).2
 | 0, _ => fun t ht => ⟨t, ht, Nat.le_refl _⟩
 | n + 1, s => (shr_li s).trans (shr_lis n _)
theorem shr_tk (s : Option (List UInt8)) : St.Shr s (T9.rdTk s).2 := ((((((shr_full s).trans (shr_full _)).trans (St.shr_B 60 _)).trans (St.shr_G _)).trans (shr_F9 _)).trans (shr_F9 _)).trans ((St.shr_N 60 _).trans (shr_many9 _ _))
theorem shr_tks : ∀ (n : Nat) (s : Option (List UInt8)), St.Shr s (T9.many T9.rdTk n s).2
 | 0, _ => fun t ht => ⟨t, ht, Nat.le_refl _⟩
 | n + 1, s => (shr_tk s).trans (shr_tks n _)
theorem rdB_le (m : Nat) (s : Option (List UInt8)) : (Cd.rdB m s).1.length ≤ m := by
 unfold Cd.rdB
 cases (Cd.rdN m s).2 with
 | none => exact Nat.zero_le _
 | some t =>
  dsimp only
  split
  ·rw [List.length_take]
   have := (Cd.rdN_lt m s).2
   omega
  ·exact Nat.zero_le _
theorem many_all {α : Type} {f : Option (List UInt8) → α × Option (List UInt8)} {P : α → Prop} (h : ∀ s, P (f s).1) : ∀ (n : Nat) (s : Option (List UInt8)), ∀ x ∈ (T9.many f n s).1, P x
 | 0, _, _, hx => by cases hx
 | n + 1, s, x, hx => by
  rcases List.mem_cons.1 hx with rfl | q
  ·exact h s
  ·exact many_all h n _ x q
theorem rd_short {n1 n2 : Nat} {s1 s2 : Option (List UInt8)} (h1 : n1 ≤ 60) (h2 : n2 ≤ 60) : (⟨(T9.many T9.rdLi n1 s1).1, (T9.many T9.rdTk n2 s2).1⟩ : T9.St).short := by
 have q1 : ∀ s, (T9.rdLi s).1.name.length ≤ 1000000 := fun s => by show (Cd.rdB 60 _).1.length ≤ 1000000; have := rdB_le 60 (Cd.rdN Cd.full s).2; omega
 have q2 : ∀ s, (T9.rdTk s).1.short := fun s => by
  refine ⟨by show (Cd.rdB 60 _).1.length ≤ 1000000; have := rdB_le 60 (T9.s2 s); omega, many_all (fun s => by have := rdB_le 60 s; omega) _ _, ?_⟩
  show (T9.many (Cd.rdB 60) (T9.tagsN s) (T9.s7 s)).1.length ≤ 1000000
  rw [T9.many_len]
  have := (Cd.rdN_lt 60 (T9.s6 s)).2
  unfold T9.tagsN
  omega
 refine ⟨many_all q1 _ _, many_all q2 _ _, ?_, ?_⟩
 ·show (T9.many T9.rdLi n1 s1).1.length ≤ 1000000
  rw [T9.many_len]; omega
 ·show (T9.many T9.rdTk n2 s2).1.length ≤ 1000000
  rw [T9.many_len]; omega

def OfOk9 (b : List UInt8) (w : World) (e : Ending) (w' : World) : Prop :=
 ∃ m : MSt, e = .returned (.tuple #[m.val, .int .i64 (T9.of b).2]) ∧ SM m w' ∧ m.st = (T9.of b).1 ∧ Below w.heap.size w w'
end

section
open Go.RowKit Go.Lib Go.Sort

section
variable {P : Program} {ops : Array Oper} {Q : Exit → Act → World → Prop} {md : Region.Mode} {S S' : World → Prop}
theorem held_imp (hi : ∀ u, S' u → S u) : ∀ (f : Nat) (ls : Array Bool) (a : Act) (w : World), wpAnyH P md ops Q S' f ls a w → wpAnyH P md ops Q S f ls a w
 | 0, _, _, _, h => h
 | f + 1, _, _, _, h => ⟨h.1, fun i hx => wpOp_mono (fun a' w' q => ⟨hi _ q.1, held_imp hi f _ a' w' q.2⟩) (h.2 i hx)⟩
theorem anyH_one9 {i : Nat} {oi : Oper} {f : Nat} {ls : Array Bool} {a : Act} {w : World} (hr : Region.ready md ops ls = [i]) (hi : ops[i]? = some oi)
  (h : ∀ K : Act → World → Prop, (∀ b u, S u → wpAnyH P md ops Q S f (ls.setIfInBounds i true) b u → K b u) → if Region.wanted oi (yielded ops a.tmps) = true then Oper.wp P oi a w K Q else K (a.put oi.dst undef) w) : wpAnyH P md ops Q S (f + 1) ls a w := by
 refine ⟨fun e => absurd e (by rw [hr]; simp), fun j hj => ?_⟩
 rw [hr, List.mem_singleton] at hj
 subst hj
 exact wpOp_step hi (fun K hK => h K (fun b u q1 q2 => hK b u ⟨q1, q2⟩))
end
theorem beq_dec9 (l o : List UInt8) : (l == o) = decide (l = o) := by
 rw [Bool.eq_iff_iff]
 simp
theorem str_beq9 (l o : List UInt8) : (str l == str o) = decide (l = o) := by
 by_cases h : l = o
 ·subst h
  rw [decide_eq_true rfl]
  exact (Go.MapKept.bytes_beq _ _).2 rfl
 ·rw [decide_eq_false h]
  cases q : str l == str o with
  | false => rfl
  | true => exact absurd (by have z := (Go.MapKept.bytes_beq _ _).1 q; have z2 := congrArg (fun b => b.data.toList) z; simpa [str] using z2) h
theorem T9.bts_le {s : T9.St} (h : s.light) : (T9.bts s).length ≤ 100000 := by
 have a := T9.flat_le (f := T9.encLi) (c := 118) (l := s.lists) fun l hl => T9.encLi_le (h.name l hl)
 have b := T9.flat_le (f := T9.encTk) (c := 1100) (l := s.tasks) fun t ht => T9.encTk_le (h.title t ht) (h.few t ht) (h.tag t ht)
 have c := num_len s.lists.length
 have d := num_len s.tasks.length
 have e := h.nl
 have f := h.nt
 unfold T9.bts
 simp only [List.length_append]
 omega

end
end Go.Proofs.Ytnhpkcphgdkdiaa
