/- Stage 9: what bytes are, in plain words; there and back. -/
import Derived.Test.YtbgdmmemahfpbaaTaa
namespace Go.Proofs.Ytbgdmmemahfpbaa
set_option maxRecDepth 100000

namespace T9
/-- So many things, one behind the other. -/
def many {α : Type} (f : Option (List UInt8) → α × Option (List UInt8)) : Nat → Option (List UInt8) → List α × Option (List UInt8)
  | 0, s => ([], s)
  | n + 1, s => ((f s).1 :: (many f n (f s).2).1, (many f n (f s).2).2)
theorem many_snoc {α : Type} (f : Option (List UInt8) → α × Option (List UInt8)) : ∀ (n : Nat) (s : Option (List UInt8)), many f (n + 1) s = ((many f n s).1 ++ [(f (many f n s).2).1], (f (many f n s).2).2)
  | 0, s => rfl
  | n + 1, s => by
    show ((f s).1 :: (many f (n + 1) (f s).2).1, (many f (n + 1) (f s).2).2) = _
    rw [many_snoc f n (f s).2]
    rfl
theorem many_len {α : Type} (f : Option (List UInt8) → α × Option (List UInt8)) : ∀ (n : Nat) (s : Option (List UInt8)), (many f n s).1.length = n
  | 0, _ => rfl
  | n + 1, s => by show ((many f n (f s).2).1.length + 1) = _; rw [many_len f n]
theorem many_read {α : Type} {f : Option (List UInt8) → α × Option (List UInt8)} {enc : α → List UInt8} {g : α → α} : ∀ {l : List α}, (∀ x ∈ l, ∀ t, f (some (enc x ++ t)) = (g x, some t)) → ∀ t, many f l.length (some (l.flatMap enc ++ t)) = (l.map g, some t)
  | [], _, t => rfl
  | x :: l, h, t => by
    rw [List.flatMap_cons, List.append_assoc, List.length_cons]
    unfold many
    rw [h x (List.mem_cons_self ..), many_read (fun y hy => h y (List.mem_cons_of_mem _ hy)) t]
    rfl
def rdLi (s : Option (List UInt8)) : Li × Option (List UInt8) :=
  (⟨(Cd.rdN Cd.full s).1, (Cd.rdB 60 (Cd.rdN Cd.full s).2).1⟩, (Cd.rdB 60 (Cd.rdN Cd.full s).2).2)
def s1 (s : Option (List UInt8)) := (Cd.rdN Cd.full s).2
def s2 (s : Option (List UInt8)) := (Cd.rdN Cd.full (s1 s)).2
def s3 (s : Option (List UInt8)) := (Cd.rdB 60 (s2 s)).2
def s4 (s : Option (List UInt8)) := (Cd.rdG (s3 s)).2
def s5 (s : Option (List UInt8)) := (Cd.rdF (s4 s)).2
def s6 (s : Option (List UInt8)) := (Cd.rdF (s5 s)).2
def s7 (s : Option (List UInt8)) := (Cd.rdN 60 (s6 s)).2
def tagsN (s : Option (List UInt8)) := (Cd.rdN 60 (s6 s)).1
/-- A task that is read. -/
def rdTk (s : Option (List UInt8)) : Tk × Option (List UInt8) :=
  (⟨(Cd.rdN Cd.full s).1, (Cd.rdN Cd.full (s1 s)).1, (Cd.rdB 60 (s2 s)).1, (Cd.rdG (s3 s)).1, (Cd.rdF (s4 s)).1, (Cd.rdF (s5 s)).1, (many (Cd.rdB 60) (tagsN s) (s7 s)).1⟩, (many (Cd.rdB 60) (tagsN s) (s7 s)).2)
/-- What is read of a state, and what is left. -/
def rdSt (s : Option (List UInt8)) : St × Option (List UInt8) :=
  let a := Cd.rdN 60 s
  let ls := many rdLi a.1 a.2
  let b := Cd.rdN 60 ls.2
  let ts := many rdTk b.1 b.2
  (⟨ls.1, ts.1⟩, ts.2)
/-- The state that bytes are. -/
def of (b : List UInt8) : St × Int := if (rdSt (some b)).2 = some [] ∧ rightE (rdSt (some b)).1 = 0 then ((rdSt (some b)).1, 0) else (⟨[], []⟩, 90)

theorem rdF_key {a : Nat} (h : a < 18446744073709551616) (t : List UInt8) : Cd.rdF (some (Cd.fix (Fl.key a).toNat 8 ++ t)) = (Fl.canon a, some t) := by
  have q := Fl.fit_key h
  unfold Cd.rdF
  rw [Cd.rdW_fix (by omega) (Cd.key_pow a)]
  simp only [Cd.key_nat, q.1, q.2, if_true]
theorem rdLi_enc {l : Li} (h : l.ok) (hn : l.name.length ≤ 60) (t : List UInt8) : rdLi (some (encLi l ++ t)) = (l, some t) := by
  have e : Cd.rdN Cd.full (some (encLi l ++ t)) = (l.id, some (St.wb l.name ++ t)) := by
    unfold encLi
    rw [List.append_assoc]
    exact Cd.num_read h (by have : l.id < 18446744073709551616 := h; unfold Cd.full; omega) _
  unfold rdLi
  rw [e, St.rdB_wb _ _ hn (by omega)]
theorem rdTk_enc {k : Tk} (h : k.ok) (hn : k.title.length ≤ 60) (hf : k.tags.length ≤ 60) (ht : ∀ x ∈ k.tags, x.length ≤ 60) (t : List UInt8) : rdTk (some (encTk k ++ t)) = ({ k with rank := Fl.canon k.rank, est := Fl.canon k.est }, some t) := by
  obtain ⟨h1, h2, h3, h4⟩ := h
  have e1 : Cd.rdN Cd.full (some (encTk k ++ t)) = (k.id, some (Cd.num k.list ++ (St.wb k.title ++ (St.fl k.done ++ (Cd.fix (Fl.key k.rank).toNat 8 ++ (Cd.fix (Fl.key k.est).toNat 8 ++ (Cd.num k.tags.length ++ (k.tags.flatMap St.wb ++ t)))))))) := by
    unfold encTk
    simp only [List.append_assoc]
    exact Cd.num_read h1 (by unfold Cd.full; omega) _
  have f1 : s1 (some (encTk k ++ t)) = some (Cd.num k.list ++ (St.wb k.title ++ (St.fl k.done ++ (Cd.fix (Fl.key k.rank).toNat 8 ++ (Cd.fix (Fl.key k.est).toNat 8 ++ (Cd.num k.tags.length ++ (k.tags.flatMap St.wb ++ t))))))) := by unfold s1; rw [e1]
  have e2 := Cd.num_read h2 (most := Cd.full) (by unfold Cd.full; omega) (St.wb k.title ++ (St.fl k.done ++ (Cd.fix (Fl.key k.rank).toNat 8 ++ (Cd.fix (Fl.key k.est).toNat 8 ++ (Cd.num k.tags.length ++ (k.tags.flatMap St.wb ++ t))))))
  have f2 : s2 (some (encTk k ++ t)) = some (St.wb k.title ++ (St.fl k.done ++ (Cd.fix (Fl.key k.rank).toNat 8 ++ (Cd.fix (Fl.key k.est).toNat 8 ++ (Cd.num k.tags.length ++ (k.tags.flatMap St.wb ++ t)))))) := by unfold s2; rw [f1, e2]
  have e3 := St.rdB_wb (m := 60) k.title (St.fl k.done ++ (Cd.fix (Fl.key k.rank).toNat 8 ++ (Cd.fix (Fl.key k.est).toNat 8 ++ (Cd.num k.tags.length ++ (k.tags.flatMap St.wb ++ t))))) hn (by omega)
  have f3 : s3 (some (encTk k ++ t)) = some (St.fl k.done ++ (Cd.fix (Fl.key k.rank).toNat 8 ++ (Cd.fix (Fl.key k.est).toNat 8 ++ (Cd.num k.tags.length ++ (k.tags.flatMap St.wb ++ t))))) := by unfold s3; rw [f2, e3]
  have e4 := St.rdG_fl k.done (Cd.fix (Fl.key k.rank).toNat 8 ++ (Cd.fix (Fl.key k.est).toNat 8 ++ (Cd.num k.tags.length ++ (k.tags.flatMap St.wb ++ t))))
  have f4 : s4 (some (encTk k ++ t)) = some (Cd.fix (Fl.key k.rank).toNat 8 ++ (Cd.fix (Fl.key k.est).toNat 8 ++ (Cd.num k.tags.length ++ (k.tags.flatMap St.wb ++ t)))) := by unfold s4; rw [f3, e4]
  have e5 := rdF_key h3 (Cd.fix (Fl.key k.est).toNat 8 ++ (Cd.num k.tags.length ++ (k.tags.flatMap St.wb ++ t)))
  have f5 : s5 (some (encTk k ++ t)) = some (Cd.fix (Fl.key k.est).toNat 8 ++ (Cd.num k.tags.length ++ (k.tags.flatMap St.wb ++ t))) := by unfold s5; rw [f4, e5]
  have e6 := rdF_key h4 (Cd.num k.tags.length ++ (k.tags.flatMap St.wb ++ t))
  have f6 : s6 (some (encTk k ++ t)) = some (Cd.num k.tags.length ++ (k.tags.flatMap St.wb ++ t)) := by unfold s6; rw [f5, e6]
  have e7 := Cd.num_read (n := k.tags.length) (most := 60) (by omega) hf (k.tags.flatMap St.wb ++ t)
  have f7 : s7 (some (encTk k ++ t)) = some (k.tags.flatMap St.wb ++ t) := by unfold s7; rw [f6, e7]
  have fn : tagsN (some (encTk k ++ t)) = k.tags.length := by unfold tagsN; rw [f6, e7]
  have e8 := many_read (f := Cd.rdB 60) (enc := St.wb) (g := fun x => x) (l := k.tags) (fun x hx t => St.rdB_wb x t (ht x hx) (by have := ht x hx; omega)) t
  unfold rdTk
  rw [e1, f1, e2, f2, e3, f3, e4, f4, e5, f5, e6, f7, fn, e8]
  simp
/-- A state that is read of what was written of it. -/
theorem rdSt_bts {s : St} (h : s.ok) (hl : s.lists.length ≤ 60) (ht : s.tasks.length ≤ 60) (hn : ∀ l ∈ s.lists, l.name.length ≤ 60) (hk : ∀ t ∈ s.tasks, t.title.length ≤ 60 ∧ t.tags.length ≤ 60 ∧ ∀ x ∈ t.tags, x.length ≤ 60) :
    rdSt (some (bts s)) = (⟨s.lists, s.tasks.map fun t => { t with rank := Fl.canon t.rank, est := Fl.canon t.est }⟩, some []) := by
  have e1 : Cd.rdN 60 (some (bts s)) = (s.lists.length, some (s.lists.flatMap encLi ++ (Cd.num s.tasks.length ++ (s.tasks.flatMap encTk ++ [])))) := by
    unfold bts
    rw [List.append_nil]
    simp only [List.append_assoc]
    exact Cd.num_read (by omega) hl _
  have e2 := many_read (f := rdLi) (enc := encLi) (g := fun x => x) (l := s.lists) (fun x hx t => rdLi_enc (h.1 x hx) (hn x hx) t) (Cd.num s.tasks.length ++ (s.tasks.flatMap encTk ++ []))
  have e3 := Cd.num_read (n := s.tasks.length) (most := 60) (by omega) ht (s.tasks.flatMap encTk ++ [])
  have e4 := many_read (f := rdTk) (enc := encTk) (g := fun t => { t with rank := Fl.canon t.rank, est := Fl.canon t.est }) (l := s.tasks) (fun x hx t => rdTk_enc (h.2 x hx) (hk x hx).1 (hk x hx).2.1 (hk x hx).2.2 t) []
  unfold rdSt
  rw [e1]
  dsimp only
  rw [e2]
  dsimp only
  rw [e3]
  dsimp only
  rw [e4]
  simp
end T9
end Go.Proofs.Ytbgdmmemahfpbaa
