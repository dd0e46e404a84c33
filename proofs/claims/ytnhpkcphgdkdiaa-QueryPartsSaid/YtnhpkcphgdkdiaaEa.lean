/- Stage 8, of plain lists: puts, their records as bytes, what they make of keys with values. Nothing of the program. -/
import Derived.Test.YtnhpkcphgdkdiaaCd
import Derived.Sort.KeysCollected
namespace Go.Proofs.Ytnhpkcphgdkdiaa
set_option maxRecDepth 100000

namespace St
/-- A put. -/
structure Pu where
  k : List UInt8
  v : List UInt8
  g : Bool
/-- What is written as its value. -/
def Pu.w (p : Pu) : List UInt8 := if p.g = true then [] else p.v
/-- What is read of what is written of it. -/
def Pu.own (p : Pu) : Pu := ⟨p.k, p.w, p.g⟩
def fl (b : Bool) : List UInt8 := [if b = true then 1 else 0]
def wb (b : List UInt8) : List UInt8 := Cd.num b.length ++ b
def encP (p : Pu) : List UInt8 := wb p.k ++ fl p.g ++ wb p.w
def encL (l : List Pu) : List UInt8 := l.flatMap encP
/-- The record. -/
def bts (all : Bool) (l : List Pu) : List UInt8 := fl all ++ Cd.num l.length ++ encL l

def rdP1 (s : Option (List UInt8)) : Pu × Option (List UInt8) :=
  (⟨(Cd.rdB 60000 s).1, (Cd.rdB 60000 (Cd.rdG (Cd.rdB 60000 s).2).2).1, (Cd.rdG (Cd.rdB 60000 s).2).1⟩, (Cd.rdB 60000 (Cd.rdG (Cd.rdB 60000 s).2).2).2)
def rdL : Nat → Option (List UInt8) → List Pu × Option (List UInt8)
  | 0, s => ([], s)
  | n + 1, s => ((rdP1 s).1 :: (rdL n (rdP1 s).2).1, (rdL n (rdP1 s).2).2)
/-- No put: it is gone and has a value. -/
def bad (p : Pu) : Bool := p.g && decide (0 < p.v.length)
def nOf (b : List UInt8) : Nat := (Cd.rdN 4096 (Cd.rdG (some b)).2).1
def lOf (b : List UInt8) (n : Nat) : List Pu × Option (List UInt8) := rdL n (Cd.rdN 4096 (Cd.rdG (some b)).2).2
/-- What bytes are a record of: the error's number, all, the puts. -/
def of (b : List UInt8) : Int × Bool × List Pu :=
  if (lOf b (nOf b)).1.any bad = false ∧ (lOf b (nOf b)).2 = some [] then (0, (Cd.rdG (some b)).1, (lOf b (nOf b)).1) else (80, false, [])

theorem encL_snoc (l : List Pu) (p : Pu) : encL (l ++ [p]) = encL l ++ encP p := by simp [encL]
theorem rdL_snoc (n : Nat) : ∀ (s : Option (List UInt8)), rdL (n + 1) s = ((rdL n s).1 ++ [(rdP1 (rdL n s).2).1], (rdP1 (rdL n s).2).2) := by
  induction n with
  | zero => intro s; rfl
  | succ n ih =>
    intro s
    rw [rdL, ih]
    rfl
theorem rdL_len (n : Nat) : ∀ (s : Option (List UInt8)), (rdL n s).1.length = n := by
  induction n with
  | zero => intro s; rfl
  | succ n ih => intro s; rw [rdL]; simp [ih]
theorem rdB_none (m : Nat) : Cd.rdB m none = ([], none) := rfl
theorem rdP1_none : rdP1 none = (⟨[], [], false⟩, none) := rfl
theorem rdL_none (n : Nat) : (rdL n none).2 = none := by
  induction n with
  | zero => rfl
  | succ n ih => rw [rdL, rdP1_none]; exact ih
theorem rdL_add (n m : Nat) : ∀ (s : Option (List UInt8)), rdL (n + m) s = ((rdL n s).1 ++ (rdL m (rdL n s).2).1, (rdL m (rdL n s).2).2) := by
  induction n with
  | zero => intro s; rw [Nat.zero_add]; rfl
  | succ n ih => intro s; rw [Nat.add_right_comm, rdL, ih, rdL]; rfl
theorem rdL_fail {n k : Nat} {s : Option (List UInt8)} (hk : k ≤ n) (h : (rdL k s).2 = none) : (rdL n s).2 = none := by
  obtain ⟨m, rfl⟩ : ∃ m, n = k + m := ⟨n - k, by omega⟩
  rw [rdL_add, h]
  exact rdL_none m
theorem rdL_bad {n k : Nat} {s : Option (List UInt8)} (hk : k < n) (h : bad (rdP1 (rdL k s).2).1 = true) : (rdL n s).1.any bad = true := by
  obtain ⟨m, rfl⟩ : ∃ m, n = (k + 1) + m := ⟨n - (k + 1), by omega⟩
  rw [rdL_add, rdL_snoc]
  simp [h]

/-- What is left is no longer than what was there. -/
def Shr (s s' : Option (List UInt8)) : Prop := ∀ t, s' = some t → ∃ l, s = some l ∧ t.length ≤ l.length
theorem Shr.trans {a b c : Option (List UInt8)} (h : Shr a b) (k : Shr b c) : Shr a c := fun t ht => by
  obtain ⟨l, h1, h2⟩ := k t ht
  obtain ⟨m, h3, h4⟩ := h l h1
  exact ⟨m, h3, by omega⟩
theorem Shr.bound {s s' : Option (List UInt8)} (h : Shr s s') {n : Nat} (hs : ∀ l, s = some l → l.length ≤ n) : ∀ l, s' = some l → l.length ≤ n := fun t ht => by
  obtain ⟨l, h1, h2⟩ := h t ht
  have := hs l h1
  omega
theorem shr_N (m : Nat) (s : Option (List UInt8)) : Shr s (Cd.rdN m s).2 := fun t ht => by
  match s, ht with
  | some l, ht =>
    have q := (Cd.read_num (Cd.pair_of ht)).1
    exact ⟨l, rfl, by rw [q, List.length_append]; omega⟩
theorem shr_B (m : Nat) (s : Option (List UInt8)) : Shr s (Cd.rdB m s).2 := fun t ht => by
  match s, ht with
  | some l, ht =>
    have q := (Cd.enc_readB ht).1
    exact ⟨l, rfl, by rw [q, List.length_append, List.length_append]; omega⟩
theorem shr_G (s : Option (List UInt8)) : Shr s (Cd.rdG s).2 := fun t ht => by
  match s, ht with
  | some l, ht =>
    have q := Cd.enc_readG ht
    exact ⟨l, rfl, by rw [q]; simp⟩
theorem shr_P (s : Option (List UInt8)) : Shr s (rdP1 s).2 := ((shr_B _ _).trans (shr_G _)).trans (shr_B _ _)
theorem shr_L (n : Nat) : ∀ (s : Option (List UInt8)), Shr s (rdL n s).2 := by
  induction n with
  | zero => exact fun s t ht => ⟨t, ht, Nat.le_refl _⟩
  | succ n ih => exact fun s => (shr_P s).trans (ih _)

/-- What is read is what was written. -/
theorem rdB_wb {m : Nat} (b t : List UInt8) (h : b.length ≤ m) (h2 : b.length < 18446744073709551616) : Cd.rdB m (some (wb b ++ t)) = (b, some t) := by
  unfold Cd.rdB wb
  rw [List.append_assoc, Cd.num_read h2 h]
  simp
theorem rdG_fl (g : Bool) (t : List UInt8) : Cd.rdG (some (fl g ++ t)) = (g, some t) := by
  cases g <;> rfl
theorem rdP1_enc (p : Pu) (t : List UInt8) (hk : p.k.length ≤ 60000) (hv : p.v.length ≤ 60000) : rdP1 (some (encP p ++ t)) = (p.own, some t) := by
  have hw : p.w.length ≤ 60000 := by unfold Pu.w; split; exact Nat.zero_le _; exact hv
  unfold rdP1 encP
  rw [List.append_assoc, List.append_assoc, rdB_wb _ _ hk (by omega)]
  dsimp only
  rw [rdG_fl]
  dsimp only
  rw [rdB_wb _ _ hw (by omega)]
  rfl
theorem rdL_enc (l : List Pu) (hl : ∀ p ∈ l, p.k.length ≤ 60000 ∧ p.v.length ≤ 60000) (t : List UInt8) : rdL l.length (some (encL l ++ t)) = (l.map Pu.own, some t) := by
  induction l with
  | nil => rfl
  | cons p l ih =>
    have e : encL (p :: l) ++ t = encP p ++ (encL l ++ t) := by simp [encL]
    rw [List.length_cons, rdL, e, rdP1_enc p _ (hl p (by simp)).1 (hl p (by simp)).2]
    dsimp only
    rw [ih (fun q hq => hl q (by simp [hq]))]
    rfl
theorem own_bad (l : List Pu) : (l.map Pu.own).any bad = false := by
  rw [List.any_eq_false]
  intro q hq
  obtain ⟨p, _, rfl⟩ := List.mem_map.1 hq
  unfold bad Pu.own Pu.w
  cases p.g <;> simp
theorem of_bts (all : Bool) (l : List Pu) (hn : l.length ≤ 4096) (hl : ∀ p ∈ l, p.k.length ≤ 60000 ∧ p.v.length ≤ 60000) : of (bts all l) = (0, all, l.map Pu.own) := by
  have e1 : Cd.rdG (some (bts all l)) = (all, some (Cd.num l.length ++ encL l)) := by unfold bts; rw [List.append_assoc]; exact rdG_fl _ _
  have e2 : Cd.rdN 4096 (some (Cd.num l.length ++ encL l)) = (l.length, some (encL l)) := Cd.num_read (by omega) hn _
  have e3 : rdL l.length (some (encL l)) = (l.map Pu.own, some []) := by have := rdL_enc l hl []; rwa [List.append_nil] at this
  have n1 : nOf (bts all l) = l.length := by unfold nOf; rw [e1]; dsimp only; rw [e2]
  have l1 : lOf (bts all l) l.length = (l.map Pu.own, some []) := by unfold lOf; rw [e1]; dsimp only; rw [e2]; exact e3
  unfold of
  rw [n1, l1, e1]
  exact if_pos ⟨own_bad l, rfl⟩

/-! How long. -/
theorem num_le {n : Nat} (h : n < 65536) : (Cd.num n).length ≤ 3 := by
  unfold Cd.num
  split
  · simp
  · have : Cd.wid n ≤ 2 := by
      rcases Cd.wid_cases n with q | q | q | q | q | q | q | q <;> omega
    simp [Cd.fix_len]
    omega
theorem encP_len {p : Pu} {a b : Nat} (hk : p.k.length ≤ a) (hv : p.v.length ≤ b) (ha : a < 65536) (hb : b < 65536) : (encP p).length ≤ a + b + 7 := by
  have hw : p.w.length ≤ p.v.length := by unfold Pu.w; split <;> simp
  have h1 := num_le (n := p.k.length) (by omega)
  have h2 := num_le (n := p.w.length) (by omega)
  unfold encP wb fl
  simp only [List.length_append, List.length_cons, List.length_nil]
  omega
theorem encL_len {l : List Pu} {a b : Nat} (hl : ∀ p ∈ l, p.k.length ≤ a ∧ p.v.length ≤ b) (ha : a < 65536) (hb : b < 65536) : (encL l).length ≤ (a + b + 7) * l.length := by
  induction l with
  | nil => simp [encL]
  | cons p l ih =>
    have q := ih (fun q hq => hl q (by simp [hq]))
    have r := encP_len (hl p (by simp)).1 (hl p (by simp)).2 ha hb
    have e : encL (p :: l) = encP p ++ encL l := by simp [encL]
    rw [e, List.length_append, List.length_cons, Nat.mul_add]
    omega
theorem bts_len {all : Bool} {l : List Pu} {a b : Nat} (hl : ∀ p ∈ l, p.k.length ≤ a ∧ p.v.length ≤ b) (hn : l.length < 65536) (ha : a < 65536) (hb : b < 65536) : (bts all l).length ≤ (a + b + 7) * l.length + 4 := by
  have q := encL_len hl ha hb
  have r := num_le hn
  unfold bts fl
  simp only [List.length_append, List.length_cons, List.length_nil]
  omega

/-! Keys with values: a list, the keys rising. -/
abbrev KV := List UInt8 × List UInt8
def ins (k v : List UInt8) : List KV → List KV
  | [] => [(k, v)]
  | x :: t => if k < x.1 then (k, v) :: x :: t else if x.1 = k then (k, v) :: t else x :: ins k v t
def del (k : List UInt8) (L : List KV) : List KV := L.filter fun x => decide (x.1 ≠ k)
def hap1 (L : List KV) (p : Pu) : List KV := if p.g = true then del p.k L else ins p.k p.v L
def hap (L : List KV) (l : List Pu) : List KV := l.foldl hap1 L
def Srt (L : List KV) : Prop := L.Pairwise fun x y => x.1 < y.1
def puts (L : List KV) : List Pu := L.map fun x => ⟨x.1, x.2, false⟩

theorem lt_tri {a b : List UInt8} (h1 : ¬ a < b) (h2 : ¬ b = a) : b < a := by
  have q := List.not_lt.1 h1
  rcases Classical.em (b < a) with r | r
  · exact r
  · exact absurd (List.le_antisymm q (List.not_lt.1 r)) h2
theorem mem_del {k : List UInt8} {L : List KV} {x : KV} : x ∈ del k L ↔ x.1 ≠ k ∧ x ∈ L := by
  unfold del
  rw [List.mem_filter]
  simp [and_comm]
theorem srt_del {L : List KV} (h : Srt L) (k : List UInt8) : Srt (del k L) := h.filter _
theorem mem_ins {k v : List UInt8} {x : KV} : ∀ {L : List KV}, Srt L → (x ∈ ins k v L ↔ x = (k, v) ∨ (x.1 ≠ k ∧ x ∈ L))
  | [], _ => by simp [ins]
  | y :: t, h => by
    obtain ⟨hy, ht⟩ := List.pairwise_cons.1 h
    unfold ins
    split
    · rename_i hlt
      rw [List.mem_cons]
      constructor
      · rintro (q | q)
        · exact .inl q
        · refine .inr ⟨fun e => ?_, q⟩
          rcases List.mem_cons.1 q with r | r
          · rw [r] at e; rw [e] at hlt; exact List.lt_irrefl _ hlt
          · have := hy x r; rw [e] at this; exact List.lt_irrefl _ (List.lt_trans hlt this)
      · rintro (q | q)
        · exact .inl q
        · exact .inr q.2
    · split
      · rename_i hn he
        rw [List.mem_cons]
        constructor
        · rintro (q | q)
          · exact .inl q
          · exact .inr ⟨fun e => by have := hy x q; rw [e, he] at this; exact List.lt_irrefl _ this, List.mem_cons_of_mem _ q⟩
        · rintro (q | ⟨q1, q2⟩)
          · exact .inl q
          · rcases List.mem_cons.1 q2 with r | r
            · exact absurd (by rw [r]; exact he) q1
            · exact .inr r
      · rename_i hn he
        rw [List.mem_cons, mem_ins ht, List.mem_cons]
        constructor
        · rintro (q | q | q)
          · exact .inr ⟨by rw [q]; exact he, .inl q⟩
          · exact .inl q
          · exact .inr ⟨q.1, .inr q.2⟩
        · rintro (q | ⟨q1, q | q⟩)
          · exact .inr (.inl q)
          · exact .inl q
          · exact .inr (.inr ⟨q1, q⟩)
theorem srt_ins {k v : List UInt8} : ∀ {L : List KV}, Srt L → Srt (ins k v L)
  | [], _ => by simp [ins, Srt]
  | y :: t, h => by
    obtain ⟨hy, ht⟩ := List.pairwise_cons.1 h
    unfold ins
    split
    · rename_i hlt
      refine List.pairwise_cons.2 ⟨fun z hz => ?_, h⟩
      rcases List.mem_cons.1 hz with r | r
      · rw [r]; exact hlt
      · exact List.lt_trans hlt (hy z r)
    · split
      · rename_i hn he
        exact List.pairwise_cons.2 ⟨fun z hz => by have := hy z hz; rw [he] at this; exact this, ht⟩
      · rename_i hn he
        refine List.pairwise_cons.2 ⟨fun z hz => ?_, srt_ins ht⟩
        rcases (mem_ins ht).1 hz with r | r
        · rw [r]; exact lt_tri hn he
        · exact hy z r.2
theorem srt_hap1 {L : List KV} (h : Srt L) (p : Pu) : Srt (hap1 L p) := by
  unfold hap1
  split
  · exact srt_del h _
  · exact srt_ins h
theorem srt_hap {l : List Pu} : ∀ {L : List KV}, Srt L → Srt (hap L l) := by
  induction l with
  | nil => exact fun h => h
  | cons p l ih => exact fun h => ih (srt_hap1 h p)
theorem hap_snoc (L : List KV) (l : List Pu) (p : Pu) : hap L (l ++ [p]) = hap1 (hap L l) p := by simp [hap]
theorem hap_own (l : List Pu) : ∀ (L : List KV), hap L (l.map Pu.own) = hap L l := by
  induction l with
  | nil => exact fun _ => rfl
  | cons p l ih =>
    intro L
    show hap (hap1 L p.own) (l.map Pu.own) = hap (hap1 L p) l
    rw [ih]
    congr 1
    unfold hap1 Pu.own Pu.w
    cases p.g <;> rfl
theorem ins_last {k v : List UInt8} : ∀ {L : List KV}, (∀ x ∈ L, x.1 < k) → ins k v L = L ++ [(k, v)]
  | [], _ => rfl
  | y :: t, h => by
    have hy := h y (by simp)
    unfold ins
    rw [if_neg (fun q => List.lt_irrefl _ (List.lt_trans hy q)), if_neg (fun q => by rw [q] at hy; exact List.lt_irrefl _ hy), ins_last (fun x hx => h x (by simp [hx]))]
    rfl
theorem hap_puts {M : List KV} : ∀ {A : List KV}, Srt (A ++ M) → hap A (puts M) = A ++ M := by
  induction M with
  | nil => intro A _; simp [puts, hap]
  | cons x M ih =>
    intro A h
    have e : hap A (puts (x :: M)) = hap (ins x.1 x.2 A) (puts M) := rfl
    have hx : ∀ y ∈ A, y.1 < x.1 := fun y hy => (List.pairwise_append.1 h).2.2 y hy x (by simp)
    rw [e, ins_last hx, ih (by rw [List.append_assoc]; exact h), List.append_assoc]
    rfl
theorem hap_all {L : List KV} (h : Srt L) : hap [] (puts L) = L := hap_puts (A := []) h
theorem hap1_len (L : List KV) (p : Pu) : (hap1 L p).length ≤ L.length + 1 := by
  unfold hap1
  split
  · have := List.length_filter_le (fun x : KV => decide (x.1 ≠ p.k)) L
    unfold del
    omega
  · induction L with
    | nil => simp [ins]
    | cons y t ih =>
      unfold ins
      split
      · simp
      · split
        · simp
        · simp; exact ih
theorem hap_len {l : List Pu} : ∀ {L : List KV}, (hap L l).length ≤ L.length + l.length := by
  induction l with
  | nil => exact fun {L} => by simp [hap]
  | cons p l ih =>
    intro L
    have q := hap1_len L p
    have r := ih (L := hap1 L p)
    show (hap (hap1 L p) l).length ≤ _
    rw [List.length_cons]
    omega
/-- Keys and values stay small. -/
def Sml (a b : Nat) (L : List KV) : Prop := ∀ x ∈ L, x.1.length ≤ a ∧ x.2.length ≤ b
theorem ins_mem {k v : List UInt8} {x : KV} : ∀ {L : List KV}, x ∈ ins k v L → x = (k, v) ∨ x ∈ L
  | [], h => by simpa [ins] using h
  | y :: t, h => by
    unfold ins at h
    split at h
    · rcases List.mem_cons.1 h with r | r
      · exact .inl r
      · exact .inr r
    · split at h
      · rcases List.mem_cons.1 h with r | r
        · exact .inl r
        · exact .inr (by simp [r])
      · rcases List.mem_cons.1 h with r | r
        · exact .inr (by simp [r])
        · rcases ins_mem r with q | q
          · exact .inl q
          · exact .inr (by simp [q])
theorem sml_hap {a b : Nat} {l : List Pu} (hl : ∀ p ∈ l, p.k.length ≤ a ∧ p.v.length ≤ b) : ∀ {L : List KV}, Sml a b L → Sml a b (hap L l) := by
  induction l with
  | nil => exact fun h => h
  | cons p l ih =>
    intro L h
    refine ih (fun q hq => hl q (by simp [hq])) (L := hap1 L p) fun x hx => ?_
    unfold hap1 at hx
    split at hx
    · exact h x (mem_del.1 hx).2
    · rcases ins_mem hx with r | r
      · rw [r]; exact hl p (by simp)
      · exact h x r
theorem puts_len (L : List KV) : (puts L).length = L.length := by simp [puts]
theorem sml_puts {a b : Nat} {L : List KV} (h : Sml a b L) : ∀ p ∈ puts L, p.k.length ≤ a ∧ p.v.length ≤ b := fun p hp => by
  obtain ⟨x, hx, rfl⟩ := List.mem_map.1 hp
  exact h x hx

/-! Records one behind the other. -/
def opn : List KV → List (List UInt8) → Option (List KV)
  | L, [] => some L
  | L, b :: t => if (of b).1 = 0 then opn (hap (if (of b).2.1 = true then [] else L) (of b).2.2) t else none
theorem opn_snoc (t : List (List UInt8)) (b : List UInt8) : ∀ {L M : List KV}, opn L t = some M → (of b).1 = 0 → opn L (t ++ [b]) = some (hap (if (of b).2.1 = true then [] else M) (of b).2.2) := by
  induction t with
  | nil => intro L M h hb; obtain rfl : L = M := Option.some.inj h; show opn L [b] = _; rw [opn, if_pos hb]; rfl
  | cons c t ih =>
    intro L M h hb
    rw [opn] at h
    split at h
    · rename_i hc
      rw [List.cons_append, opn, if_pos hc]
      exact ih h hb
    · cases h
/-- Behind a commit. -/
theorem opn_add {t : List (List UInt8)} {L M : List KV} (h : opn L t = some M) {l : List Pu} (hn : l.length ≤ 4096) (hl : ∀ p ∈ l, p.k.length ≤ 60000 ∧ p.v.length ≤ 60000) : opn L (t ++ [bts false l]) = some (hap M l) := by
  have e := of_bts false l hn hl
  have q := opn_snoc t (bts false l) h (by rw [e])
  rw [e] at q
  rw [q]
  dsimp only
  rw [if_neg (by decide), hap_own]
/-- Behind a compaction. -/
theorem opn_all {M : List KV} (hs : Srt M) (hn : M.length ≤ 4096) (hl : Sml 60000 60000 M) : opn [] [bts true (puts M)] = some M := by
  have e := of_bts true (puts M) (by rw [puts_len]; exact hn) (sml_puts hl)
  rw [opn, if_pos (by rw [e]), e]
  dsimp only
  rw [if_pos rfl, hap_own, hap_all hs]
  rfl

/-! The document's way of putting. -/
def rstep (p : Pu) (s : List KV × Bool) (x : KV) : List KV × Bool :=
  if s.2 = false ∧ p.k < x.1 then (s.1 ++ [(p.k, p.v)] ++ (if x.1 = p.k then [] else [x]), true) else (s.1 ++ (if x.1 = p.k then [] else [x]), s.2)
def rhap1 (L : List KV) (p : Pu) : List KV :=
  if (L.foldl (rstep p) ([], p.g)).2 = true then (L.foldl (rstep p) ([], p.g)).1 else (L.foldl (rstep p) ([], p.g)).1 ++ [(p.k, p.v)]
theorem rstep_done (p : Pu) (L : List KV) : ∀ (A : List KV), L.foldl (rstep p) (A, true) = (A ++ del p.k L, true) := by
  induction L with
  | nil => intro A; simp [del]
  | cons x t ih =>
    intro A
    rw [List.foldl_cons]
    have e : rstep p (A, true) x = (A ++ (if x.1 = p.k then [] else [x]), true) := by unfold rstep; rw [if_neg (by simp)]
    rw [e, ih]
    unfold del
    by_cases h : x.1 = p.k
    · simp [h]
    · simp [h]
theorem rstep_ins (p : Pu) : ∀ (L A : List KV), Srt L → (if (L.foldl (rstep p) (A, false)).2 = true then (L.foldl (rstep p) (A, false)).1 else (L.foldl (rstep p) (A, false)).1 ++ [(p.k, p.v)]) = A ++ ins p.k p.v L
  | [], A, _ => rfl
  | x :: t, A, h => by
    obtain ⟨hx, ht⟩ := List.pairwise_cons.1 h
    rw [List.foldl_cons]
    by_cases h1 : p.k < x.1
    · have ne : ¬ x.1 = p.k := fun e => by rw [e] at h1; exact List.lt_irrefl _ h1
      have e : rstep p (A, false) x = (A ++ [(p.k, p.v)] ++ [x], true) := by unfold rstep; rw [if_pos ⟨rfl, h1⟩, if_neg ne]
      have e2 : del p.k t = t := List.filter_eq_self.2 (fun y hy => decide_eq_true (fun e => by have := hx y hy; rw [e] at this; exact List.lt_irrefl _ (List.lt_trans h1 this)))
      rw [e, rstep_done, if_pos rfl, e2]
      unfold ins
      rw [if_pos h1]
      simp
    · by_cases h2 : x.1 = p.k
      · have e : rstep p (A, false) x = (A, false) := by unfold rstep; rw [if_neg (fun q => h1 q.2), if_pos h2, List.append_nil]
        rw [e, rstep_ins p t A ht]
        have e3 : ins p.k p.v (x :: t) = (p.k, p.v) :: t := by conv => lhs; unfold ins; rw [if_neg h1, if_pos h2]
        rw [e3]
        congr 1
        match t, hx with
        | [], _ => rfl
        | y :: u, hx =>
          unfold ins
          rw [if_pos (by have := hx y (by simp); rw [h2] at this; exact this)]
      · have e : rstep p (A, false) x = (A ++ [x], false) := by unfold rstep; rw [if_neg (fun q => h1 q.2), if_neg h2]
        have e3 : ins p.k p.v (x :: t) = x :: ins p.k p.v t := by conv => lhs; unfold ins; rw [if_neg h1, if_neg h2]
        rw [e, rstep_ins p t _ ht, e3]
        simp
theorem rhap1_eq {L : List KV} (h : Srt L) (p : Pu) : rhap1 L p = hap1 L p := by
  unfold rhap1 hap1
  cases hg : p.g with
  | true => rw [rstep_done]; simp
  | false => have := rstep_ins p L [] h; rw [List.nil_append] at this; rw [this]; simp
end St
end Go.Proofs.Ytnhpkcphgdkdiaa
